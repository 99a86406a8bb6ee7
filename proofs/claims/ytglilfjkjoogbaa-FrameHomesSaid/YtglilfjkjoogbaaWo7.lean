/- Registers in new memory, a grey stack. -/
import Derived.Test.YtglilfjkjoogbaaWo6
import Derived.Test.YtglilfjkjoogbaaGrey
namespace Go.Proofs.Ytglilfjkjoogbaa.Obj
open Go.Proofs.Ytglilfjkjoogbaa.Gen Go.Proofs.Ytglilfjkjoogbaa.Base Go.ChangeShapes Go.WideShapes Go.ChangeAt Go.RowKit
set_option linter.unusedVariables false

theorem nil_a (u : World) : Sem.run Try.prog (binOp .eql 22 (.slice none 0 0) (.slice none 0 0)) u = .ok (.bool true) u := by kernel_rfl
set_option maxRecDepth 100000 in
theorem cln_a (w : World) : Calls Try.prog 67 #[.slice none 0 0] w fun e w' => e = .returned (.slice none 0 0) ∧ w' = w := by
  have hnn := nil_a
  go_enter Try.func67, Try.ntmps67
  go_wp2_with fail
  go_ret
  exact ⟨rfl, rfl⟩

theorem nil_b (u : World) : Sem.run Try.prog (binOp .eql 26 (.slice none 0 0) (.slice none 0 0)) u = .ok (.bool true) u := by kernel_rfl
set_option maxRecDepth 100000 in
theorem cln_b (w : World) : Calls Try.prog 68 #[.slice none 0 0] w fun e w' => e = .returned (.slice none 0 0) ∧ w' = w := by
  have hnn := nil_b
  go_enter Try.func68, Try.ntmps68
  go_wp2_with fail
  go_ret
  exact ⟨rfl, rfl⟩

theorem nil_c (u : World) : Sem.run Try.prog (binOp .eql 27 (.slice none 0 0) (.slice none 0 0)) u = .ok (.bool true) u := by kernel_rfl
set_option maxRecDepth 100000 in
theorem cln_c (w : World) : Calls Try.prog 69 #[.slice none 0 0] w fun e w' => e = .returned (.slice none 0 0) ∧ w' = w := by
  have hnn := nil_c
  go_enter Try.func69, Try.ntmps69
  go_wp2_with fail
  go_ret
  exact ⟨rfl, rfl⟩

theorem info10 : (Try.prog.info? 29).map (·.size) = some 10 := by kernel_rfl
theorem load10 (w : World) (b : Nat) (cs : Array Value) (hr : w.heap[b]? = some (.cells cs 29)) (hs : cs.size = 10) : Sem.run Try.prog (loadVar 29 ⟨b, 0, none⟩) w = .ok (.agg cs) w :=
  run_loadVar_row _ _ _ _ _ _ _ hr Try.underlying29 rfl (by rw [info10, hs])
set_option maxRecDepth 100000 in
set_option maxHeartbeats 2000000 in
theorem rg_Copy (w : World) : Calls Try.prog 53 #[.agg #[.int .i64 0, .int .i64 0, .slice none 0 0, .slice none 0 0, .slice none 0 0, .string ByteArray.empty, .string ByteArray.empty, .int .i64 0, .int .i64 0, .slice none 0 0]] w fun e w' => e = .returned (.agg #[.int .i64 0, .int .i64 0, .slice none 0 0, .slice none 0 0, .slice none 0 0, .string ByteArray.empty, .string ByteArray.empty, .int .i64 0, .int .i64 0, .slice none 0 0]) ∧ Below w.heap.size w w' := by
  have hc1 := cln_a; have hc2 := cln_b; have hc3 := cln_c
  go_enter Try.func53, Try.ntmps53
  go_wp2_with (first
    | (go_at_call 67; (with_reducible refine (hc1 _).mono ?_); rintro e u ⟨rfl, rfl⟩; dsimp only)
    | (go_at_call 68; (with_reducible refine (hc2 _).mono ?_); rintro e u ⟨rfl, rfl⟩; dsimp only)
    | (go_at_call 69; (with_reducible refine (hc3 _).mono ?_); rintro e u ⟨rfl, rfl⟩; dsimp only))
  refine bodyPost_ret (v := .agg #[.int .i64 0, .int .i64 0, .slice none 0 0, .slice none 0 0, .slice none 0 0, .string ByteArray.empty, .string ByteArray.empty, .int .i64 0, .int .i64 0, .slice none 0 0]) ?_ rfl ⟨rfl, ((Below.refl _ _).alloc (Nat.le_refl _) _).alloc (by simp) _⟩
  exact results_cell_row rfl _ _ (w.heap.size + 1) _ #[.int .i64 0, .int .i64 0, .slice none 0 0, .slice none 0 0, .slice none 0 0, .string ByteArray.empty, .string ByteArray.empty, .int .i64 0, .int .i64 0, .slice none 0 0] _ _ (by rfl) (heap_alloc2_new w _ _) Try.underlying29 rfl info10
end Go.Proofs.Ytglilfjkjoogbaa.Obj
