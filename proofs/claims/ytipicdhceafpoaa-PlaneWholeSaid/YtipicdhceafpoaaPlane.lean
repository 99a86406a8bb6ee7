/- The calls of package plane, at numbers that are near enough. -/
import Derived.Test.YtipicdhceafpoaaFlo
import Derived.Test.YtipicdhceafpoaaBase2
import Derived.Laws.FloatArith
import Derived.Laws.ComplexArith
import Derived.Laws.Externs
import Derived.Deep.DeepCutAuto
namespace Go.Proofs.Ytipicdhceafpoaa.Pl
open Go.Proofs.Ytipicdhceafpoaa.Gen Go.Proofs.Ytipicdhceafpoaa.Base Go.Proofs.Ytipicdhceafpoaa.Flo Go.ChangeShapes Go.WideShapes Go.ChangeAt Go.RowKit
set_option linter.unusedVariables false
theorem f64 : FloatKind.f64.format = Ieee.double := rfl
theorem pl_point (x y : Int) (hx : -1048576 ≤ x ∧ x ≤ 1048576) (hy : -1048576 ≤ y ∧ y ≤ 1048576) (w : World) :
    Calls Try.prog 12 #[.int .i64 x, .int .i64 y] w fun e w' => e = .returned (.tuple #[.complex .f64 (floatOfInt .f64 x) (floatOfInt .f64 y), .bool true]) ∧ w = w' := by
  go_enter Try.func12, Try.ntmps12
  go_wp2
  go_ret2
  exact ⟨rfl, rfl⟩
theorem pl_point_no (x y : Int) (h : ¬ (-1048576 ≤ x ∧ x ≤ 1048576) ∨ ¬ (-1048576 ≤ y ∧ y ≤ 1048576)) (w : World) :
    Calls Try.prog 12 #[.int .i64 x, .int .i64 y] w fun e w' => e = .returned (.tuple #[.complex .f64 0 0, .bool false]) ∧ w = w' := by
  have h' : x < -1048576 ∨ (-1048576 ≤ x ∧ 1048576 < x) ∨ ((-1048576 ≤ x ∧ x ≤ 1048576) ∧ y < -1048576) ∨ ((-1048576 ≤ x ∧ x ≤ 1048576) ∧ -1048576 ≤ y ∧ 1048576 < y) := by omega
  rcases h' with h | h | h | h
  all_goals
    go_enter Try.func12, Try.ntmps12
    go_wp2
    go_ret2
    exact ⟨rfl, rfl⟩
/-- The word of a number made whole. -/
def tru (x : Nat) : Nat := Ieee.double.write ((Ieee.double.read x).integral .zero)
theorem arch_run (x : Nat) (N : Int) (h : Rep 0 x N) (w : World) : (callFunc 16 #[.float .f64 x]).run Try.prog w = .ok (.value (.float .f64 (tru x))) w := by
  rw [run_callFunc_extern (e := Extern.MathFloor.toIntegral "math.archTrunc" .zero) Try.func16 (by kernel_rfl) (by kernel_rfl) (by kernel_rfl) (by kernel_rfl)]
  obtain ⟨s, b, ex, _⟩ := h
  have ex' : FloatKind.f64.decode x = .number s (N.natAbs * 2 ^ b) (-((b + 0 : Nat) : Int)) := ex
  have e : (Extern.MathFloor.toIntegral "math.archTrunc" .zero #[.float .f64 x]).run Try.prog w = .ok (.float .f64 (tru x)) w := by
    unfold tru; rw [ex]
    unfold Extern.MathFloor.toIntegral
    generalize FloatKind.decode FloatKind.f64 = D at *
    conv => lhs; arg 2; whnf
    rw [ex']
    rfl
  rw [e]; rfl
theorem pl_Trunc (x : Nat) (N : Int) (h : Rep 0 x N) (w : World) :
    Calls Try.prog 15 #[.float .f64 x] w fun e w' => e = .returned (.float .f64 (tru x)) ∧ w = w' := by
  have hr := arch_run x N h
  go_enter Try.func15, Try.ntmps15
  go_wp2
  go_ret
  exact ⟨rfl, rfl⟩
theorem far_rep : Rep 0 4697254411347427328 1048576 := by
  have := rep_int 1048576 (by decide)
  have e : floatOfInt .f64 1048576 = 4697254411347427328 := by decide
  rwa [e] at this
theorem nfar_rep : Rep 0 13920626448202203136 (-1048576) := by
  have := rep_int (-1048576) (by decide)
  have e : floatOfInt .f64 (-1048576) = 13920626448202203136 := by decide
  rwa [e] at this
theorem one_rep : Rep 0 4607182418800017408 1 := by
  have := rep_int 1 (by decide)
  have e : floatOfInt .f64 1 = 4607182418800017408 := by decide
  rwa [e] at this
theorem zero_rep : Rep 0 0 0 := by
  have := rep_int 0 (by decide)
  have e : floatOfInt .f64 0 = 0 := by decide
  rwa [e] at this
theorem pl_whole (x : Nat) (N : Int) (h : Rep 0 x N) (hN : -1048576 ≤ N ∧ N ≤ 1048576) (w : World) :
    Calls Try.prog 14 #[.float .f64 x] w fun e w' => e = .returned (.bool true) ∧ w = w' := by
  have o1 : FloatKind.f64.format.order x 13920626448202203136 = some (compare N (-1048576)) := rep_order h nfar_rep
  have o2 : FloatKind.f64.format.order x 4697254411347427328 = some (compare N 1048576) := rep_order h far_rep
  have o3 : FloatKind.f64.format.order (tru x) x = some .eq := by
    have := rep_order (rep_wr_trunc h (by omega)) h
    rw [show compare N N = .eq from by simp [compare, compareOfLessAndEq]] at this; exact this
  have c1 : compare N (-1048576) = .gt ∨ compare N (-1048576) = .eq := by
    simp only [compare, compareOfLessAndEq]; split
    · omega
    · split <;> simp
  have c2 : compare N 1048576 = .lt ∨ compare N 1048576 = .eq := by
    simp only [compare, compareOfLessAndEq]; split
    · simp
    · rw [if_pos (by omega)]; simp
  rcases c1 with c1 | c1 <;> rcases c2 with c2 | c2
  all_goals
    rw [c1] at o1; rw [c2] at o2
    clear c1 c2
    go_enter Try.func14, Try.ntmps14
    go_wp2_with (go_at_call 15; refine (pl_Trunc x N h _).mono ?_; rintro e w' ⟨rfl, rfl⟩)
    go_ret
    exact ⟨rfl, rfl⟩
theorem pl_Of (x y : Nat) (M N : Int) (hx : Rep 0 x M) (hy : Rep 0 y N) (hM : -1048576 ≤ M ∧ M ≤ 1048576) (hN : -1048576 ≤ N ∧ N ≤ 1048576) (w : World) :
    Calls Try.prog 11 #[.complex .f64 x y] w fun e w' => e = .returned (.tuple #[.int .i64 M, .int .i64 N, .bool true]) ∧ w = w' := by
  have v1 : floatToIntVal .f64 x .i64 = some M := by
    have h1 : (FloatKind.f64.decode x).toInt .zero = some M := rep_toInt hx
    unfold floatToIntVal; rw [h1]; simp only; rw [if_pos ⟨by simp [IntKind.min, IntKind.bits, IntKind.signed]; omega, by simp [IntKind.max, IntKind.bits, IntKind.signed]; omega⟩]
  have v2 : floatToIntVal .f64 y .i64 = some N := by
    have h1 : (FloatKind.f64.decode y).toInt .zero = some N := rep_toInt hy
    unfold floatToIntVal; rw [h1]; simp only; rw [if_pos ⟨by simp [IntKind.min, IntKind.bits, IntKind.signed]; omega, by simp [IntKind.max, IntKind.bits, IntKind.signed]; omega⟩]
  have r1 := fun w => run_convert_float_int (P := Try.prog) w 32 3 .f64 .i64 x M (by kernel_rfl) (by kernel_rfl) v1
  have r2 := fun w => run_convert_float_int (P := Try.prog) w 32 3 .f64 .i64 y N (by kernel_rfl) (by kernel_rfl) v2
  clear v1 v2
  go_enter Try.func11, Try.ntmps11
  go_wp2_with (go_at_call 14; first | (with_reducible refine (pl_whole x M hx hM _).mono ?_; rintro e w' ⟨rfl, rfl⟩) | (with_reducible refine (pl_whole y N hy hN _).mono ?_; rintro e w' ⟨rfl, rfl⟩))
  go_ret3
  exact ⟨rfl, rfl⟩
end Go.Proofs.Ytipicdhceafpoaa.Pl
