/- Registers in new memory, a grey stack. -/
import Derived.Test.YtoklohfpkaiidaaGreatWo6
import Derived.Test.YtoklohfpkaiidaaGreatGrey
namespace Go.Proofs.YtoklohfpkaiidaaGreat.Obj
open Go.Proofs.YtoklohfpkaiidaaGreat.Gen Go.Proofs.YtoklohfpkaiidaaGreat.Base Go.ChangeShapes Go.WideShapes Go.ChangeAt Go.RowKit
set_option linter.unusedVariables false

theorem nil_a (u : World) : Sem.run Tryz.prog (binOp .eql 24 (.slice none 0 0) (.slice none 0 0)) u = .ok (.bool true) u := by kernel_rfl
set_option maxRecDepth 100000 in
theorem cln_a (w : World) : Calls Tryz.prog 100 #[.slice none 0 0] w fun e w' => e = .returned (.slice none 0 0) ∧ w' = w := by
  have hnn := nil_a
  go_enter Tryz.func100, Tryz.ntmps100
  go_wp2_with fail
  go_ret
  exact ⟨rfl, rfl⟩

theorem nil_b (u : World) : Sem.run Tryz.prog (binOp .eql 25 (.slice none 0 0) (.slice none 0 0)) u = .ok (.bool true) u := by kernel_rfl
set_option maxRecDepth 100000 in
theorem cln_b (w : World) : Calls Tryz.prog 101 #[.slice none 0 0] w fun e w' => e = .returned (.slice none 0 0) ∧ w' = w := by
  have hnn := nil_b
  go_enter Tryz.func101, Tryz.ntmps101
  go_wp2_with fail
  go_ret
  exact ⟨rfl, rfl⟩

theorem nil_c (u : World) : Sem.run Tryz.prog (binOp .eql 26 (.slice none 0 0) (.slice none 0 0)) u = .ok (.bool true) u := by kernel_rfl
set_option maxRecDepth 100000 in
theorem cln_c (w : World) : Calls Tryz.prog 102 #[.slice none 0 0] w fun e w' => e = .returned (.slice none 0 0) ∧ w' = w := by
  have hnn := nil_c
  go_enter Tryz.func102, Tryz.ntmps102
  go_wp2_with fail
  go_ret
  exact ⟨rfl, rfl⟩

theorem info10 : (Tryz.prog.info? 28).map (·.size) = some 10 := by kernel_rfl
theorem load10 (w : World) (b : Nat) (cs : Array Value) (hr : w.heap[b]? = some (.cells cs 28)) (hs : cs.size = 10) : Sem.run Tryz.prog (loadVar 28 ⟨b, 0, none⟩) w = .ok (.agg cs) w :=
  run_loadVar_row _ _ _ _ _ _ _ hr Tryz.underlying28 rfl (by rw [info10, hs])
set_option maxRecDepth 100000 in
set_option maxHeartbeats 2000000 in
theorem rg_Copy (w : World) : Calls Tryz.prog 59 #[.agg #[.int .i64 0, .int .i64 0, .slice none 0 0, .slice none 0 0, .slice none 0 0, .string ByteArray.empty, .string ByteArray.empty, .int .i64 0, .int .i64 0, .slice none 0 0]] w fun e w' => e = .returned (.agg #[.int .i64 0, .int .i64 0, .slice none 0 0, .slice none 0 0, .slice none 0 0, .string ByteArray.empty, .string ByteArray.empty, .int .i64 0, .int .i64 0, .slice none 0 0]) ∧ Below w.heap.size w w' := by
  have hc1 := cln_a; have hc2 := cln_b; have hc3 := cln_c
  go_enter Tryz.func59, Tryz.ntmps59
  go_wp2_with (first
    | (go_at_call 100; (with_reducible refine (hc1 _).mono ?_); rintro e u ⟨rfl, rfl⟩; dsimp only)
    | (go_at_call 101; (with_reducible refine (hc2 _).mono ?_); rintro e u ⟨rfl, rfl⟩; dsimp only)
    | (go_at_call 102; (with_reducible refine (hc3 _).mono ?_); rintro e u ⟨rfl, rfl⟩; dsimp only))
  refine bodyPost_ret (v := .agg #[.int .i64 0, .int .i64 0, .slice none 0 0, .slice none 0 0, .slice none 0 0, .string ByteArray.empty, .string ByteArray.empty, .int .i64 0, .int .i64 0, .slice none 0 0]) ?_ rfl ⟨rfl, ((Below.refl _ _).alloc (Nat.le_refl _) _).alloc (by simp) _⟩
  exact results_cell_row rfl _ _ (w.heap.size + 1) _ #[.int .i64 0, .int .i64 0, .slice none 0 0, .slice none 0 0, .slice none 0 0, .string ByteArray.empty, .string ByteArray.empty, .int .i64 0, .int .i64 0, .slice none 0 0] _ _ (by rfl) (heap_alloc2_new w _ _) Tryz.underlying28 rfl info10
end Go.Proofs.YtoklohfpkaiidaaGreat.Obj
