/- Values; the first world. -/
import Derived.Test.YtoklohfpkaiidaaGreatB1
import Derived.Great.BuildSlice
namespace Go.Proofs.YtoklohfpkaiidaaGreat.Obj
open Go.Proofs.YtoklohfpkaiidaaGreat.Gen Go.Proofs.YtoklohfpkaiidaaGreat.Base Go.ChangeShapes Go.WideShapes Go.ChangeAt Go.RowKit
set_option linter.unusedVariables false
theorem info2 : (Tryz.prog.info? 54).map (·.size) = some 2 := by kernel_rfl
set_option maxRecDepth 100000 in
theorem nl_Num (v : Int) (w : World) : Calls Tryz.prog 19 #[.int .i64 v] w fun e w' => e = .returned (.agg #[.bool false, .int .i64 v]) ∧ Below w.heap.size w w' := by
  have hz := zV
  go_enter Tryz.func19, Tryz.ntmps19
  go_wp2_with (refine wpList_store_row rfl 54 (Operand.tmp 2) (Operand.tmp 4) rfl w.heap.size _ rfl rfl _ _ (heap_alloc_new w _) info2 rfl rfl ?_; rw [World.setRow_alloc_new])
  refine bodyPost_ret (v := .agg #[.bool false, .int .i64 v]) ?_ rfl ⟨rfl, (Below.refl _ _).alloc (Nat.le_refl _) _⟩
  exact results_cell_row rfl _ _ w.heap.size _ #[.bool false, .int .i64 v] _ _ (by rfl) (heap_alloc_new w _) Tryz.underlying54 rfl info2
set_option maxRecDepth 100000 in
theorem nl_Obj (v : Int) (w : World) : Calls Tryz.prog 22 #[.int .i64 v] w fun e w' => e = .returned (.agg #[.bool true, .int .i64 v]) ∧ Below w.heap.size w w' := by
  have hz := zV
  go_enter Tryz.func22, Tryz.ntmps22
  go_wp2_with (refine wpList_store_row rfl 54 (Operand.tmp 2) (Operand.tmp 4) rfl w.heap.size _ rfl rfl _ _ (heap_alloc_new w _) info2 rfl rfl ?_; rw [World.setRow_alloc_new])
  refine bodyPost_ret (v := .agg #[.bool true, .int .i64 v]) ?_ rfl ⟨rfl, (Below.refl _ _).alloc (Nat.le_refl _) _⟩
  exact results_cell_row rfl _ _ w.heap.size _ #[.bool true, .int .i64 v] _ _ (by rfl) (heap_alloc_new w _) Tryz.underlying54 rfl info2

def szL : List Int := [0, 0, 0, 0, 0, 0, 0, 5, 0, 22, 4, 2, 1, 0, 2, 2]
def fmL : List Int := [1, 1, 1, 1, 1, 3, 3, 1, 1, 1, 1, 1, 1, 2, 1, 1]
def nmL : List ByteArray := [⟨#[108, 111, 115, 116]⟩, ⟨#[98, 111, 111, 108]⟩, ⟨#[98, 97, 99, 107]⟩]
/-- The things of the first world, but for where their rows lie. -/
def firstT (i : Nat) : Th :=
  if i < 3 then ⟨3 + (i : Int), 1, (i : Int) + 1, false, .slice none 0 0, [], ByteArray.empty⟩
  else if i < 19 then ⟨10, 1, (i : Int) + 1, false, .slice none 0 0, [(true, 0), (true, 0), (true, 0), (false, szL.getD (i - 3) 0), (false, fmL.getD (i - 3) 0)], ByteArray.empty⟩
  else if i < 22 then ⟨9, 3, (i : Int) + 1, false, .slice none 0 0, [], nmL.getD (i - 19) ByteArray.empty⟩
  else ⟨15, 1, (i : Int) + 1, false, .slice none 0 0, [(false, 0)], ByteArray.empty⟩
def Th.pl (t : Th) : Th := { t with fv := .slice none 0 0 }
def szA : Array Value := (szL.map (Value.int .i64)).toArray
def fmA : Array Value := (fmL.map (Value.int .i64)).toArray
theorem szA_at {j : Nat} (h : j < 16) : szA[j]? = some (.int .i64 (szL.getD j 0)) := by
  have hl : szL.length = 16 := rfl
  simp [szA, List.getD, hl, h]
theorem fmA_at {j : Nat} (h : j < 16) : fmA[j]? = some (.int .i64 (fmL.getD j 0)) := by
  have hl : fmL.length = 16 := rfl
  simp [fmA, List.getD, hl, h]
theorem info16 (t : Nat) : (Tryz.prog.info? 87).map (·.size) = some 16 := by kernel_rfl
end Go.Proofs.YtoklohfpkaiidaaGreat.Obj
