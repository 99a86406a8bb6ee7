/- The calls of package plane, continued: sums, products, norms, turns. -/
import Derived.Test.YtipicdhceafpoaaPlane
namespace Go.Proofs.Ytipicdhceafpoaa.Pl
open Go.Proofs.Ytipicdhceafpoaa.Gen Go.Proofs.Ytipicdhceafpoaa.Base Go.Proofs.Ytipicdhceafpoaa.Flo Go.ChangeShapes Go.WideShapes Go.ChangeAt Go.RowKit
set_option linter.unusedVariables false
def ng (y : Nat) : Nat := y ^^^ 9223372036854775808
theorem ng_run (y : Nat) (w : World) : (Op.unary .neg (.float .f64 y)).run Try.prog w = .ok (.float .f64 (ng y)) w := rfl
theorem ng_read (y : Nat) : Ieee.double.read (ng y) = (Ieee.double.read y).opposite := by
  have hs : (9223372036854775808 : Nat) = 2 ^ 63 := by decide
  have h1 : ng y % 9223372036854775808 = y % 9223372036854775808 := by
    unfold ng; rw [hs, Nat.xor_mod_two_pow, Nat.mod_self, Nat.xor_zero]
  have h2 : ng y / 9223372036854775808 % 2 = (y / 9223372036854775808 + 1) % 2 := by
    unfold ng; rw [hs, Nat.xor_div_two_pow, Nat.div_self (by decide)]
    have e := Nat.xor_mod_two_pow (a := y / 2 ^ 63) (b := 1) (n := 1)
    rw [Nat.pow_one] at e; rw [e]
    have : y / 2 ^ 63 % 2 = 0 ∨ y / 2 ^ 63 % 2 = 1 := by omega
    rcases this with h | h <;> rw [h, Nat.add_mod, h] <;> decide
  have h3 : (ng y / 9223372036854775808 % 2 == 1) = !(y / 9223372036854775808 % 2 == 1) := by
    rw [h2]
    have : y / 9223372036854775808 % 2 = 0 ∨ y / 9223372036854775808 % 2 = 1 := by omega
    rcases this with h | h
    · rw [h, show (y / 9223372036854775808 + 1) % 2 = 1 by omega]; rfl
    · rw [h, show (y / 9223372036854775808 + 1) % 2 = 0 by omega]; rfl
  unfold Ieee.Format.read
  simp only [sw, h1, h3]
  split
  · rfl
  · split
    · rfl
    · split <;> rfl
theorem ng_rep {k y : Nat} {N : Int} (h : Rep k y N) : Rep k (ng y) (-N) := by
  obtain ⟨t, c, e, ht, hc⟩ := read_opp h
  exact ⟨t, c, by rw [ng_read, e], ht, hc⟩
theorem pl_over (x y : Nat) (w : World) :
    Calls Try.prog 13 #[.complex .f64 x y] w fun e w' => e = .returned (.complex .f64 x (ng y)) ∧ w = w' := by
  have hn := ng_run y
  go_enter Try.func13, Try.ntmps13
  go_wp2
  go_ret
  exact ⟨rfl, rfl⟩
theorem fa {x y r : Nat} (h : Ieee.double.add x y = some r) : floatBits .add .f64 x y = some r := h
theorem fs {x y r : Nat} (h : Ieee.double.sub x y = some r) : floatBits .sub .f64 x y = some r := h
theorem fm {x y r : Nat} (h : Ieee.double.mul x y = some r) : floatBits .mul .f64 x y = some r := h
/-- The sum of two complex numbers. -/
theorem c_add {a b c d : Nat} {A B C D : Int} (ha : Rep 0 a A) (hb : Rep 0 b B) (hc : Rep 0 c C) (hd : Rep 0 d D) (h1 : (A + C).natAbs < 9007199254740992) (h2 : (B + D).natAbs < 9007199254740992) :
    ∃ p q, cSumBits .add .f64 a b c d = some (p, q) ∧ Rep 0 p (A + C) ∧ Rep 0 q (B + D) := by
  obtain ⟨p, hp, rp⟩ := rep_add (by decide) ha hc h1
  obtain ⟨q, hq, rq⟩ := rep_add (by decide) hb hd h2
  exact ⟨p, q, by unfold cSumBits; rw [fa hp, fa hq]; rfl, rp, rq⟩
theorem c_sub {a b c d : Nat} {A B C D : Int} (ha : Rep 0 a A) (hb : Rep 0 b B) (hc : Rep 0 c C) (hd : Rep 0 d D) (h1 : (A - C).natAbs < 9007199254740992) (h2 : (B - D).natAbs < 9007199254740992) :
    ∃ p q, cSumBits .sub .f64 a b c d = some (p, q) ∧ Rep 0 p (A - C) ∧ Rep 0 q (B - D) := by
  obtain ⟨p, hp, rp⟩ := rep_sub (by decide) ha hc h1
  obtain ⟨q, hq, rq⟩ := rep_sub (by decide) hb hd h2
  exact ⟨p, q, by unfold cSumBits; rw [fs hp, fs hq]; rfl, rp, rq⟩
theorem c_mul {a b c d : Nat} {A B C D : Int} (ha : Rep 0 a A) (hb : Rep 0 b B) (hc : Rep 0 c C) (hd : Rep 0 d D)
    (h1 : (A * C).natAbs < 9007199254740992) (h2 : (B * D).natAbs < 9007199254740992) (h3 : (A * D).natAbs < 9007199254740992) (h4 : (B * C).natAbs < 9007199254740992)
    (h5 : (A * C - B * D).natAbs < 9007199254740992) (h6 : (A * D + B * C).natAbs < 9007199254740992) :
    ∃ p q, cMulBits a b c d = some (p, q) ∧ Rep 0 p (A * C - B * D) ∧ Rep 0 q (A * D + B * C) := by
  obtain ⟨p1, e1, r1⟩ := rep_mul ha hc h1
  obtain ⟨p2, e2, r2⟩ := rep_mul hb hd h2
  obtain ⟨p3, e3, r3⟩ := rep_mul ha hd h3
  obtain ⟨p4, e4, r4⟩ := rep_mul hb hc h4
  obtain ⟨p, hp, rp⟩ := rep_sub (by decide) r1 r2 h5
  obtain ⟨q, hq, rq⟩ := rep_add (by decide) r3 r4 h6
  refine ⟨p, q, ?_, rp, rq⟩
  unfold cMulBits
  rw [fm e1, fm e2, fm e3, fm e4]
  simp only [Option.bind_some]
  rw [fs hp, fa hq]; rfl
theorem mul_bd {a b : Int} (ha : -1048576 ≤ a ∧ a ≤ 1048576) (hb : -1048576 ≤ b ∧ b ≤ 1048576) : -1099511627776 ≤ a * b ∧ a * b ≤ 1099511627776 := by
  have h : (a * b).natAbs ≤ 1048576 * 1048576 := by rw [Int.natAbs_mul]; exact Nat.mul_le_mul (by omega) (by omega)
  omega
theorem pl_Op_no (n a b c d : Int) (h : ¬ (-1048576 ≤ a ∧ a ≤ 1048576) ∨ ¬ (-1048576 ≤ b ∧ b ≤ 1048576) ∨ ((-1048576 ≤ a ∧ a ≤ 1048576) ∧ (-1048576 ≤ b ∧ b ≤ 1048576) ∧ (¬ (-1048576 ≤ c ∧ c ≤ 1048576) ∨ ¬ (-1048576 ≤ d ∧ d ≤ 1048576)))) (w : World) :
    Calls Try.prog 7 #[.int .i64 n, .int .i64 a, .int .i64 b, .int .i64 c, .int .i64 d] w fun e w' => e = .returned (.tuple #[.int .i64 0, .int .i64 0, .bool false]) ∧ w = w' := by
  by_cases h1 : (-1048576 ≤ a ∧ a ≤ 1048576) ∧ (-1048576 ≤ b ∧ b ≤ 1048576)
  · have h2 : ¬ (-1048576 ≤ c ∧ c ≤ 1048576) ∨ ¬ (-1048576 ≤ d ∧ d ≤ 1048576) := by omega
    go_enter Try.func7, Try.ntmps7
    go_wp2_with fail
    refine (pl_point a b h1.1 h1.2 _).mono ?_; rintro e w' ⟨rfl, rfl⟩
    go_wp2_with fail
    refine (pl_point_no c d h2 _).mono ?_; rintro e w' ⟨rfl, rfl⟩
    go_wp2_with fail
    go_ret3
    exact ⟨rfl, rfl⟩
  · by_cases h3 : (-1048576 ≤ c ∧ c ≤ 1048576) ∧ (-1048576 ≤ d ∧ d ≤ 1048576)
    · go_enter Try.func7, Try.ntmps7
      go_wp2_with fail
      refine (pl_point_no a b (by omega) _).mono ?_; rintro e w' ⟨rfl, rfl⟩
      go_wp2_with fail
      refine (pl_point c d h3.1 h3.2 _).mono ?_; rintro e w' ⟨rfl, rfl⟩
      go_wp2_with fail
      go_ret3
      exact ⟨rfl, rfl⟩
    · go_enter Try.func7, Try.ntmps7
      go_wp2_with fail
      refine (pl_point_no a b (by omega) _).mono ?_; rintro e w' ⟨rfl, rfl⟩
      go_wp2_with fail
      refine (pl_point_no c d (by omega) _).mono ?_; rintro e w' ⟨rfl, rfl⟩
      go_wp2_with fail
      go_ret3
      exact ⟨rfl, rfl⟩
theorem ri {n : Int} (h : -1048576 ≤ n ∧ n ≤ 1048576) : Rep 0 (floatOfInt .f64 n) n := rep_int n (by omega)
theorem pl_sum (a b c d : Int) (ha : -1048576 ≤ a ∧ a ≤ 1048576) (hb : -1048576 ≤ b ∧ b ≤ 1048576) (hc : -1048576 ≤ c ∧ c ≤ 1048576) (hd : -1048576 ≤ d ∧ d ≤ 1048576) (h1 : -1048576 ≤ a + c ∧ a + c ≤ 1048576) (h2 : -1048576 ≤ b + d ∧ b + d ≤ 1048576) (w : World) :
    Calls Try.prog 7 #[.int .i64 1, .int .i64 a, .int .i64 b, .int .i64 c, .int .i64 d] w fun e w' => e = .returned (.tuple #[.int .i64 (a + c), .int .i64 (b + d), .bool true]) ∧ w = w' := by
  obtain ⟨p, q, hs, hp, hq⟩ := c_add (ri ha) (ri hb) (ri hc) (ri hd) (by omega) (by omega)
  have hr := fun w => run_complex_sum (P := Try.prog) w .add (Or.inl rfl) 31 .f64 _ _ _ _ p q hs
  clear hs
  go_enter Try.func7, Try.ntmps7
  go_wp2_with fail
  refine (pl_point a b ha hb _).mono ?_; rintro e w' ⟨rfl, rfl⟩
  go_wp2_with fail
  refine (pl_point c d hc hd _).mono ?_; rintro e w' ⟨rfl, rfl⟩
  go_wp2_with fail
  refine (pl_Of p q _ _ hp hq h1 h2 _).mono ?_; rintro e w' ⟨rfl, rfl⟩
  go_wp2_with fail
  go_ret3
  exact ⟨rfl, rfl⟩
theorem pl_dif (a b c d : Int) (ha : -1048576 ≤ a ∧ a ≤ 1048576) (hb : -1048576 ≤ b ∧ b ≤ 1048576) (hc : -1048576 ≤ c ∧ c ≤ 1048576) (hd : -1048576 ≤ d ∧ d ≤ 1048576) (h1 : -1048576 ≤ a - c ∧ a - c ≤ 1048576) (h2 : -1048576 ≤ b - d ∧ b - d ≤ 1048576) (w : World) :
    Calls Try.prog 7 #[.int .i64 2, .int .i64 a, .int .i64 b, .int .i64 c, .int .i64 d] w fun e w' => e = .returned (.tuple #[.int .i64 (a - c), .int .i64 (b - d), .bool true]) ∧ w = w' := by
  obtain ⟨p, q, hs, hp, hq⟩ := c_sub (ri ha) (ri hb) (ri hc) (ri hd) (by omega) (by omega)
  have hr := fun w => run_complex_sum (P := Try.prog) w .sub (Or.inr rfl) 31 .f64 _ _ _ _ p q hs
  clear hs
  go_enter Try.func7, Try.ntmps7
  go_wp2_with fail
  refine (pl_point a b ha hb _).mono ?_; rintro e w' ⟨rfl, rfl⟩
  go_wp2_with fail
  refine (pl_point c d hc hd _).mono ?_; rintro e w' ⟨rfl, rfl⟩
  go_wp2_with fail
  refine (pl_Of p q _ _ hp hq h1 h2 _).mono ?_; rintro e w' ⟨rfl, rfl⟩
  go_wp2_with fail
  go_ret3
  exact ⟨rfl, rfl⟩
theorem pl_mul (a b c d : Int) (ha : -1048576 ≤ a ∧ a ≤ 1048576) (hb : -1048576 ≤ b ∧ b ≤ 1048576) (hc : -1048576 ≤ c ∧ c ≤ 1048576) (hd : -1048576 ≤ d ∧ d ≤ 1048576) (h1 : -1048576 ≤ a * c - b * d ∧ a * c - b * d ≤ 1048576) (h2 : -1048576 ≤ a * d + b * c ∧ a * d + b * c ≤ 1048576) (w : World) :
    Calls Try.prog 7 #[.int .i64 3, .int .i64 a, .int .i64 b, .int .i64 c, .int .i64 d] w fun e w' => e = .returned (.tuple #[.int .i64 (a * c - b * d), .int .i64 (a * d + b * c), .bool true]) ∧ w = w' := by
  have m1 := mul_bd ha hc; have m2 := mul_bd hb hd; have m3 := mul_bd ha hd; have m4 := mul_bd hb hc
  obtain ⟨p, q, hs, hp, hq⟩ := c_mul (ri ha) (ri hb) (ri hc) (ri hd) (by omega) (by omega) (by omega) (by omega) (by omega) (by omega)
  have hr := fun w => run_complex_mul (P := Try.prog) w 31 _ _ _ _ p q hs
  clear hs
  go_enter Try.func7, Try.ntmps7
  go_wp2_with fail
  refine (pl_point a b ha hb _).mono ?_; rintro e w' ⟨rfl, rfl⟩
  go_wp2_with fail
  refine (pl_point c d hc hd _).mono ?_; rintro e w' ⟨rfl, rfl⟩
  go_wp2_with fail
  refine (pl_Of p q _ _ hp hq h1 h2 _).mono ?_; rintro e w' ⟨rfl, rfl⟩
  go_wp2_with fail
  go_ret3
  exact ⟨rfl, rfl⟩
theorem c_over {a b c d : Nat} {A B C D : Int} (ha : Rep 0 a A) (hb : Rep 0 b B) (hc : Rep 0 c C) (hd : Rep 0 d D) (hA : -1048576 ≤ A ∧ A ≤ 1048576) (hB : -1048576 ≤ B ∧ B ≤ 1048576) (hC : -1048576 ≤ C ∧ C ≤ 1048576) (hD : -1048576 ≤ D ∧ D ≤ 1048576) :
    ∃ p q, cMulBits a b c (ng d) = some (p, q) ∧ Rep 0 p (A * C + B * D) ∧ Rep 0 q (B * C - A * D) := by
  have m1 := mul_bd hA hC; have m2 := mul_bd hB hD; have m3 := mul_bd hA hD; have m4 := mul_bd hB hC
  have e1 : B * -D = -(B * D) := Int.mul_neg _ _
  have e2 : A * -D = -(A * D) := Int.mul_neg _ _
  obtain ⟨p, q, hs, hp, hq⟩ := c_mul ha hb hc (ng_rep hd) (by omega) (by omega) (by omega) (by omega) (by omega) (by omega)
  refine ⟨p, q, hs, ?_, ?_⟩
  · rw [show A * C - B * -D = A * C + B * D by omega] at hp; exact hp
  · rw [show A * -D + B * C = B * C - A * D by omega] at hq; exact hq
theorem pl_mulover (a b c d : Int) (ha : -1048576 ≤ a ∧ a ≤ 1048576) (hb : -1048576 ≤ b ∧ b ≤ 1048576) (hc : -1048576 ≤ c ∧ c ≤ 1048576) (hd : -1048576 ≤ d ∧ d ≤ 1048576) (h1 : -1048576 ≤ a * c + b * d ∧ a * c + b * d ≤ 1048576) (h2 : -1048576 ≤ b * c - a * d ∧ b * c - a * d ≤ 1048576) (w : World) :
    Calls Try.prog 7 #[.int .i64 4, .int .i64 a, .int .i64 b, .int .i64 c, .int .i64 d] w fun e w' => e = .returned (.tuple #[.int .i64 (a * c + b * d), .int .i64 (b * c - a * d), .bool true]) ∧ w = w' := by
  obtain ⟨p, q, hs, hp, hq⟩ := c_over (ri ha) (ri hb) (ri hc) (ri hd) ha hb hc hd
  have hr := fun w => run_complex_mul (P := Try.prog) w 31 _ _ _ _ p q hs
  clear hs
  go_enter Try.func7, Try.ntmps7
  go_wp2_with fail
  refine (pl_point a b ha hb _).mono ?_; rintro e w' ⟨rfl, rfl⟩
  go_wp2_with fail
  refine (pl_point c d hc hd _).mono ?_; rintro e w' ⟨rfl, rfl⟩
  go_wp2_with fail
  refine (pl_over _ _ _).mono ?_; rintro e w' ⟨rfl, rfl⟩
  go_wp2_with fail
  refine (pl_Of p q _ _ hp hq h1 h2 _).mono ?_; rintro e w' ⟨rfl, rfl⟩
  go_wp2_with fail
  go_ret3
  exact ⟨rfl, rfl⟩
theorem pl_Norm_no (a b : Int) (h : ¬ (-1048576 ≤ a ∧ a ≤ 1048576) ∨ ¬ (-1048576 ≤ b ∧ b ≤ 1048576)) (w : World) :
    Calls Try.prog 8 #[.int .i64 a, .int .i64 b] w fun e w' => e = .returned (.tuple #[.int .i64 0, .bool false]) ∧ w = w' := by
  go_enter Try.func8, Try.ntmps8
  go_wp2_with fail
  refine (pl_point_no a b h _).mono ?_; rintro e w' ⟨rfl, rfl⟩
  go_wp2_with fail
  go_ret2
  exact ⟨rfl, rfl⟩
theorem pl_Norm (a b : Int) (ha : -1048576 ≤ a ∧ a ≤ 1048576) (hb : -1048576 ≤ b ∧ b ≤ 1048576) (w : World) :
    Calls Try.prog 8 #[.int .i64 a, .int .i64 b] w fun e w' => e = .returned (.tuple #[.int .i64 (a * a + b * b), .bool true]) ∧ w = w' := by
  have m1 := mul_bd ha ha; have m2 := mul_bd hb hb
  obtain ⟨p, q, hs, hp, hq⟩ := c_over (ri ha) (ri hb) (ri ha) (ri hb) ha hb ha hb
  have hr := fun w => run_complex_mul (P := Try.prog) w 31 _ _ _ _ p q hs
  have v1 : floatToIntVal .f64 p .i64 = some (a * a + b * b) := by
    have h1 : (FloatKind.f64.decode p).toInt .zero = some (a * a + b * b) := rep_toInt hp
    unfold floatToIntVal; rw [h1]; simp only; rw [if_pos ⟨by simp [IntKind.min, IntKind.bits, IntKind.signed]; omega, by simp [IntKind.max, IntKind.bits, IntKind.signed]; omega⟩]
  have r1 := fun w => run_convert_float_int (P := Try.prog) w 32 3 .f64 .i64 p _ (by kernel_rfl) (by kernel_rfl) v1
  clear hs v1
  go_enter Try.func8, Try.ntmps8
  go_wp2_with fail
  refine (pl_point a b ha hb _).mono ?_; rintro e w' ⟨rfl, rfl⟩
  go_wp2_with fail
  refine (pl_over _ _ _).mono ?_; rintro e w' ⟨rfl, rfl⟩
  go_wp2_with fail
  go_ret2
  exact ⟨rfl, rfl⟩
end Go.Proofs.Ytipicdhceafpoaa.Pl
