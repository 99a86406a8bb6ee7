/- Longest of package free. -/
import Derived.Test.YtljgnmbjidkjnaaFree8
import Derived.Deep.MidRow
namespace Go.Proofs.Ytljgnmbjidkjnaa.Fr
open Go.Proofs.Ytljgnmbjidkjnaa.Gen Go.Proofs.Ytljgnmbjidkjnaa.Base Go.Proofs.Ytljgnmbjidkjnaa.Bt Go.ChangeShapes Go.WideShapes Go.ChangeAt Go.RowKit
set_option linter.unusedVariables false
/-- The longest of the runs that are listed in the first k kinds, at least m. -/
def mostL (lng : List Int) (l : List Int) (m : Int) : Int := l.foldl (fun m x => max m (lg lng x)) m
def mostK (lng : List Int) (ls : Nat → List Int) : Nat → Int
  | 0 => 0
  | k + 1 => mostL lng (ls k) (mostK lng ls k)
theorem mostL_step {lng : List Int} {l : List Int} {m : Int} {i : Nat} (h : i < l.length) : mostL lng (l.take (i + 1)) m = max (mostL lng (l.take i) m) (lg lng (l[i]?.getD 0)) := by
  unfold mostL
  rw [List.take_add_one, List.getElem?_eq_getElem h, Option.toList_some, List.foldl_append]
  rfl
def vsl (B : FB) : List Value := (List.range 18).map B.vs
theorem range_lists (w : World) (B : FB) (F : FS) (h : Fr w B F) : w.rangeAt B.r 3 (vsl B) := by
  intro j v hj
  have hj18 : j < 18 := by
    have := (List.getElem?_eq_some_iff.1 hj).1
    simpa [vsl] using this
  rw [h.cl j hj18]
  simpa [vsl, hj18] using hj
theorem size_lists (B : FB) : (Try.prog.info? 82).map (·.size) = some (vsl B).length := by simp only [vsl, List.length_map, List.length_range]; kernel_rfl
theorem lists_index (B : FB) (k : Nat) (h : k < 18) (w : World) : (Instr.index 82 (.agg (vsl B).toArray) (.int .i64 k)).run Try.prog w = .ok (B.vs k) w := by
  have hk : k = 0 ∨ k = 1 ∨ k = 2 ∨ k = 3 ∨ k = 4 ∨ k = 5 ∨ k = 6 ∨ k = 7 ∨ k = 8 ∨ k = 9 ∨ k = 10 ∨ k = 11 ∨ k = 12 ∨ k = 13 ∨ k = 14 ∨ k = 15 ∨ k = 16 ∨ k = 17 := by omega
  rcases hk with rfl | rfl | rfl | rfl | rfl | rfl | rfl | rfl | rfl | rfl | rfl | rfl | rfl | rfl | rfl | rfl | rfl | rfl <;> rfl
end Go.Proofs.Ytljgnmbjidkjnaa.Fr
