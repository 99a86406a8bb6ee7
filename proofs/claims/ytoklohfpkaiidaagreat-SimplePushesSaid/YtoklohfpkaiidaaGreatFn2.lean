/- Frames: a new frame, without arguments. -/
import Derived.Test.YtoklohfpkaiidaaGreatFn1
namespace Go.Proofs.YtoklohfpkaiidaaGreat.Obj
open Go.Proofs.YtoklohfpkaiidaaGreat.Gen Go.Proofs.YtoklohfpkaiidaaGreat.Base Go.ChangeShapes Go.WideShapes Go.ChangeAt Go.RowKit
set_option linter.unusedVariables false
/-- What a new frame begins with. -/
def hdL (sender pc temps method : Int) (self : V) (block : Int) : List V := [(true, sender), (false, pc), (false, temps), (true, method), self, (true, block)]
def hdF (L : List V) (k : Nat) : List V := L.take k ++ nilF (22 - k)
theorem hdF_len {L : List V} (hL : L.length = 6) {k : Nat} (h : k ≤ 6) : (hdF L k).length = 22 := by simp [hdF, nilF_len, hL]; omega
theorem hdF_set {L : List V} (hL : L.length = 6) {k : Nat} (h : k < 6) : (hdF L k).set k (L.getD k (false, 0)) = hdF L (k + 1) := by
  have e : nilF (22 - k) = (true, 0) :: nilF (22 - (k + 1)) := by unfold nilF; rw [show 22 - k = (22 - (k + 1)) + 1 by omega, List.replicate_succ]
  have hkl : k < L.length := by omega
  have e3 : L.take (k + 1) = L.take k ++ [L[k]] := by rw [List.take_add_one, List.getElem?_eq_getElem hkl]; rfl
  have e4 : L.getD k (false, 0) = L[k] := by simp [List.getD, List.getElem?_eq_getElem hkl]
  unfold hdF
  rw [List.set_append_right _ _ (by rw [List.length_take]; omega), show k - (L.take k).length = 0 by rw [List.length_take]; omega, e, List.set_cons_zero, e3, List.append_assoc, e4]
  rfl
section
variable {w u u' : World} {m li : Nat} {lv dv fv : Value} {M : MS} {sb : Bool} {sn sender pc temps method block : Int} {b : Nat}
structure Hs (w u : World) (sb : Bool) (sn : Int) : Prop where
  bel : Below w.heap.size w u
  box : u.heap[w.heap.size]? = some (.cells #[.bool sb, .int .i64 sn] 54 (0, 0))
theorem Hs.more (h : Hs w u sb sn) (hb : Below u.heap.size u u') : Hs w u' sb sn := ⟨h.bel.trans (hb.mono h.bel.size), (hb.block _ (Array.getElem?_eq_some_iff.1 h.box).1).trans h.box⟩
theorem Hs.cells (h : Hs w u sb sn) : u.cell? ⟨w.heap.size, 0, none⟩ = some (.bool sb) ∧ u.cell? ⟨w.heap.size, 1, none⟩ = some (.int .i64 sn) := ⟨by rw [cell_row _ _ _ _ _ _ h.box]; rfl, by rw [cell_row _ _ _ _ _ _ h.box]; rfl⟩
end
end Go.Proofs.YtoklohfpkaiidaaGreat.Obj
