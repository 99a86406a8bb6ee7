/- Parts that are no whole numbers, none, or beyond all. -/
import Derived.Test.YtipicdhceafpoaaFlo2
namespace Go.Proofs.Ytipicdhceafpoaa.Pl
open Go.Proofs.Ytipicdhceafpoaa.Gen Go.Proofs.Ytipicdhceafpoaa.Base Go.Proofs.Ytipicdhceafpoaa.Flo Go.ChangeShapes Go.WideShapes Go.ChangeAt Go.RowKit
set_option linter.unusedVariables false
theorem arch_run2 (x : Nat) (h : ∃ s m e, Ieee.double.read x = .number s m e) (w : World) : (callFunc 16 #[.float .f64 x]).run Try.prog w = .ok (.value (.float .f64 (tru x))) w := by
  rw [run_callFunc_extern (e := Extern.MathFloor.toIntegral "math.archTrunc" .zero) Try.func16 (by kernel_rfl) (by kernel_rfl) (by kernel_rfl) (by kernel_rfl)]
  obtain ⟨s, m, i, ex⟩ := h
  have ex' : FloatKind.f64.decode x = .number s m i := ex
  have e : (Extern.MathFloor.toIntegral "math.archTrunc" .zero #[.float .f64 x]).run Try.prog w = .ok (.float .f64 (tru x)) w := by
    unfold tru; rw [ex]
    unfold Extern.MathFloor.toIntegral
    generalize FloatKind.decode FloatKind.f64 = D at *
    conv => lhs; arg 2; whnf
    rw [ex']
    rfl
  rw [e]; rfl
theorem pl_Trunc2 (x : Nat) (h : ∃ s m e, Ieee.double.read x = .number s m e) (w : World) :
    Calls Try.prog 15 #[.float .f64 x] w fun e w' => e = .returned (.float .f64 (tru x)) ∧ w = w' := by
  have hr := arch_run2 x h
  clear h
  go_enter Try.func15, Try.ntmps15
  go_wp2
  go_ret
  exact ⟨rfl, rfl⟩
theorem pl_whole_nan (x : Nat) (h : ∀ y, Ieee.double.order x y = none) (w : World) :
    Calls Try.prog 14 #[.float .f64 x] w fun e w' => e = .returned (.bool false) ∧ w = w' := by
  have o1 : FloatKind.f64.format.order x 13920626448202203136 = none := h _
  clear h
  go_enter Try.func14, Try.ntmps14
  go_wp2
  go_ret
  exact ⟨rfl, rfl⟩
theorem pl_whole_inf (x : Nat) (h : Ieee.double.read x = .infinity false) (w : World) :
    Calls Try.prog 14 #[.float .f64 x] w fun e w' => e = .returned (.bool false) ∧ w = w' := by
  have o1 : FloatKind.f64.format.order x 13920626448202203136 = some .gt := order_inf h nfar_rep
  have o2 : FloatKind.f64.format.order x 4697254411347427328 = some .gt := order_inf h far_rep
  clear h
  go_enter Try.func14, Try.ntmps14
  go_wp2
  go_ret
  exact ⟨rfl, rfl⟩
theorem far_k (k : Nat) (hk : k ≤ 2) : Rep k 4697254411347427328 (1048576 * 2 ^ k) := by
  have := rep_int_k k hk 1048576 (by decide)
  have e : floatOfInt .f64 1048576 = 4697254411347427328 := by decide
  rwa [e] at this
theorem nfar_k (k : Nat) (hk : k ≤ 2) : Rep k 13920626448202203136 (-1048576 * 2 ^ k) := by
  have := rep_int_k k hk (-1048576) (by decide)
  have e : floatOfInt .f64 (-1048576) = 13920626448202203136 := by decide
  rwa [e] at this
theorem pl_whole_part (k : Nat) (hk : k ≤ 2) (x : Nat) (N : Int) (h : Rep k x N) (hN : ¬ (2 : Int) ^ k ∣ N) (hb : N.natAbs < 1125899906842624) (w : World) :
    Calls Try.prog 14 #[.float .f64 x] w fun e w' => e = .returned (.bool false) ∧ w = w' := by
  obtain ⟨c1, o1⟩ : ∃ c1, FloatKind.f64.format.order x 13920626448202203136 = some c1 := ⟨_, rep_order h (nfar_k k hk)⟩
  obtain ⟨c2, o2⟩ : ∃ c2, FloatKind.f64.format.order x 4697254411347427328 = some c2 := ⟨_, rep_order h (far_k k hk)⟩
  have o3 : (FloatKind.f64.format.order (tru x) x == some .eq) = false := part_order hk h hN hb
  have hd : ∃ s m e, Ieee.double.read x = .number s m e := by obtain ⟨s, b, e, _⟩ := h; exact ⟨_, _, _, e⟩
  have HD := Lib.hid hd
  clear h hN hb hd
  cases c1 <;> cases c2
  all_goals
    go_enter Try.func14, Try.ntmps14
    go_wp2_with (go_at_call 15; refine (pl_Trunc2 x HD.out _).mono ?_; rintro e w' ⟨rfl, rfl⟩)
    go_ret
    exact ⟨rfl, rfl⟩
/-- A part that is no whole number. -/
def NoW (x : Nat) : Prop := ∀ w : World, Calls Try.prog 14 #[.float .f64 x] w fun e w' => e = .returned (.bool false) ∧ w = w'
theorem pl_Of_re (x y : Nat) (h : NoW x) (w : World) :
    Calls Try.prog 11 #[.complex .f64 x y] w fun e w' => e = .returned (.tuple #[.int .i64 0, .int .i64 0, .bool false]) ∧ w = w' := by
  have H := Lib.hid h; clear h
  go_enter Try.func11, Try.ntmps11
  go_wp2_with fail
  refine (H.out _).mono ?_; rintro e w' ⟨rfl, rfl⟩
  go_wp2_with fail
  go_ret3
  exact ⟨rfl, rfl⟩
theorem pl_Of_im (x y : Nat) (M : Int) (hx : Rep 0 x M) (hM : -1048576 ≤ M ∧ M ≤ 1048576) (h : NoW y) (w : World) :
    Calls Try.prog 11 #[.complex .f64 x y] w fun e w' => e = .returned (.tuple #[.int .i64 0, .int .i64 0, .bool false]) ∧ w = w' := by
  have H := Lib.hid h; clear h
  go_enter Try.func11, Try.ntmps11
  go_wp2_with fail
  refine (pl_whole x M hx hM _).mono ?_; rintro e w' ⟨rfl, rfl⟩
  go_wp2_with fail
  refine (H.out _).mono ?_; rintro e w' ⟨rfl, rfl⟩
  go_wp2_with fail
  go_ret3
  exact ⟨rfl, rfl⟩
end Go.Proofs.Ytipicdhceafpoaa.Pl
