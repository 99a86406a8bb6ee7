/- Points that are turned, and the document's example. -/
import Derived.Test.YtipicdhceafpoaaPlane2
namespace Go.Proofs.Ytipicdhceafpoaa.Pl
open Go.Proofs.Ytipicdhceafpoaa.Gen Go.Proofs.Ytipicdhceafpoaa.Base Go.Proofs.Ytipicdhceafpoaa.Flo Go.ChangeShapes Go.WideShapes Go.ChangeAt Go.RowKit
set_option linter.unusedVariables false
def rt (x y : Int) : Nat → Int × Int
  | 0 => (x, y)
  | k + 1 => (-(rt x y k).2, (rt x y k).1)
theorem rt_bd {x y : Int} (hx : -1048576 ≤ x ∧ x ≤ 1048576) (hy : -1048576 ≤ y ∧ y ≤ 1048576) : ∀ k, (-1048576 ≤ (rt x y k).1 ∧ (rt x y k).1 ≤ 1048576) ∧ (-1048576 ≤ (rt x y k).2 ∧ (rt x y k).2 ≤ 1048576)
  | 0 => ⟨hx, hy⟩
  | k + 1 => by have := rt_bd hx hy k; unfold rt; simp only; omega
theorem pl_Turn (x y n : Int) (hx : -1048576 ≤ x ∧ x ≤ 1048576) (hy : -1048576 ≤ y ∧ y ≤ 1048576) (w : World) :
    Calls Try.prog 9 #[.int .i64 x, .int .i64 y, .int .i64 n] w fun e w' => e = .returned (.tuple #[.int .i64 (rt x y (n % 4).toNat).1, .int .i64 (rt x y (n % 4).toNat).2, .bool true]) ∧ w = w' := by
  have hm : bits .and .i64 n 3 = n % 4 := by have := i64_mask 2 n (by decide); simpa using this
  obtain ⟨m, hm4⟩ : ∃ m : Nat, n % 4 = (m : Int) := ⟨(n % 4).toNat, by omega⟩
  have m1 : m ≤ 3 := by omega
  rw [hm4] at hm ⊢
  rw [Int.toNat_natCast]
  clear hm4
  have bd := Lib.hid (rt_bd hx hy)
  go_enter Try.func9, Try.ntmps9
  go_wp2_with fail
  refine (pl_point x y hx hy _).mono ?_; rintro e w' ⟨rfl, rfl⟩
  go_wp2_with fail
  go_loop [9, 21] (fun v9 v21 => ∃ (k p q : Nat), k ≤ m ∧ v21 = .int .i64 k ∧ v9 = .complex .f64 p q ∧ Rep 0 p (rt x y k).1 ∧ Rep 0 q (rt x y k).2) (fun _ v21 => m - (intOf v21).toNat)
  case atStart => exact ⟨0, _, _, by omega, rfl, rfl, ri hx, ri hy⟩
  case round =>
    obtain ⟨k, p, q, k0, rfl, rfl, hp, hq⟩ := hrel
    have bk := bd.out k
    by_cases hlt : k < m
    · have m1 := mul_bd bk.1 (show -1048576 ≤ (0 : Int) ∧ (0 : Int) ≤ 1048576 by decide)
      obtain ⟨p', q', hs, hp', hq'⟩ := c_mul hp hq zero_rep one_rep (by omega) (by omega) (by omega) (by omega) (by omega) (by omega)
      have hr := fun w => run_complex_mul (P := Try.prog) w 31 _ _ _ _ p' q' hs
      have HP := Lib.hid (show Rep 0 p' (rt x y (k + 1)).1 by rw [show (rt x y k).1 * 0 - (rt x y k).2 * 1 = -(rt x y k).2 by omega] at hp'; exact hp')
      have HQ := Lib.hid (show Rep 0 q' (rt x y (k + 1)).2 by rw [show (rt x y k).1 * 1 + (rt x y k).2 * 0 = (rt x y k).1 by omega] at hq'; exact hq')
      clear hs hp' hq' m1 bk
      go_wp2
      go_round
      case rel => exact ⟨k + 1, p', q', by omega, by go_num, rfl, HP.out, HQ.out⟩
      case measure => simp [intOf]; omega
    · obtain rfl : k = m := by omega
      go_wp2_with fail
      refine (pl_Of p q _ _ hp hq bk.1 bk.2 _).mono ?_; rintro e w' ⟨rfl, rfl⟩
      go_wp2_with fail
      go_ret3
      exact ⟨rfl, rfl⟩
theorem awake_any (w : World) : Calls Try.prog 10 #[] w fun e w' => e = .returned (.bool true) ∧ Gr w w' := by
  go_enter Try.func10, Try.ntmps10
  go_wp2_with fail
  refine (pl_mul 0 1 0 1 (by decide) (by decide) (by decide) (by decide) (by decide) (by decide) _).mono ?_; rintro e w' ⟨rfl, rfl⟩
  go_wp2_with fail
  go_ret
  exact ⟨rfl, Gr.refl _⟩
theorem pl_whole_no (x : Nat) (N : Int) (h : Rep 0 x N) (hN : N < -1048576 ∨ 1048576 < N) (hb : N.natAbs < 9007199254740992) (w : World) :
    Calls Try.prog 14 #[.float .f64 x] w fun e w' => e = .returned (.bool false) ∧ w = w' := by
  have o1 : FloatKind.f64.format.order x 13920626448202203136 = some (compare N (-1048576)) := rep_order h nfar_rep
  have o2 : FloatKind.f64.format.order x 4697254411347427328 = some (compare N 1048576) := rep_order h far_rep
  rcases hN with hN | hN
  · rw [show compare N (-1048576) = .lt by simp only [compare, compareOfLessAndEq]; rw [if_pos hN]] at o1
    go_enter Try.func14, Try.ntmps14
    go_wp2
    go_ret
    exact ⟨rfl, rfl⟩
  · rw [show compare N (-1048576) = .gt by simp only [compare, compareOfLessAndEq]; rw [if_neg (by omega), if_neg (by omega)]] at o1
    rw [show compare N 1048576 = .gt by simp only [compare, compareOfLessAndEq]; rw [if_neg (by omega), if_neg (by omega)]] at o2
    go_enter Try.func14, Try.ntmps14
    go_wp2
    go_ret
    exact ⟨rfl, rfl⟩
theorem pl_Of_no (x y : Nat) (M : Int) (hx : Rep 0 x M) (hM : M < -1048576 ∨ 1048576 < M) (hb : M.natAbs < 9007199254740992) (w : World) :
    Calls Try.prog 11 #[.complex .f64 x y] w fun e w' => e = .returned (.tuple #[.int .i64 0, .int .i64 0, .bool false]) ∧ w = w' := by
  go_enter Try.func11, Try.ntmps11
  go_wp2_with fail
  refine (pl_whole_no x M hx hM hb _).mono ?_; rintro e w' ⟨rfl, rfl⟩
  go_wp2_with fail
  go_ret3
  exact ⟨rfl, rfl⟩
theorem pl_sum_no (a c : Int) (ha : -1048576 ≤ a ∧ a ≤ 1048576) (hc : -1048576 ≤ c ∧ c ≤ 1048576) (h1 : a + c < -1048576 ∨ 1048576 < a + c) (w : World) :
    Calls Try.prog 7 #[.int .i64 1, .int .i64 a, .int .i64 0, .int .i64 c, .int .i64 0] w fun e w' => e = .returned (.tuple #[.int .i64 0, .int .i64 0, .bool false]) ∧ w = w' := by
  have z : -1048576 ≤ (0 : Int) ∧ (0 : Int) ≤ 1048576 := by decide
  obtain ⟨p, q, hs, hp, hq⟩ := c_add (ri ha) (ri z) (ri hc) (ri z) (by omega) (by omega)
  have hr := fun w => run_complex_sum (P := Try.prog) w .add (Or.inl rfl) 31 .f64 _ _ _ _ p q hs
  clear hs
  go_enter Try.func7, Try.ntmps7
  go_wp2_with fail
  refine (pl_point a 0 ha z _).mono ?_; rintro e w' ⟨rfl, rfl⟩
  go_wp2_with fail
  refine (pl_point c 0 hc z _).mono ?_; rintro e w' ⟨rfl, rfl⟩
  go_wp2_with fail
  refine (pl_Of_no p q _ hp h1 (by omega) _).mono ?_; rintro e w' ⟨rfl, rfl⟩
  go_wp2_with fail
  go_ret3
  exact ⟨rfl, rfl⟩
theorem pl_dif_no (a c : Int) (ha : -1048576 ≤ a ∧ a ≤ 1048576) (hc : -1048576 ≤ c ∧ c ≤ 1048576) (h1 : a - c < -1048576 ∨ 1048576 < a - c) (w : World) :
    Calls Try.prog 7 #[.int .i64 2, .int .i64 a, .int .i64 0, .int .i64 c, .int .i64 0] w fun e w' => e = .returned (.tuple #[.int .i64 0, .int .i64 0, .bool false]) ∧ w = w' := by
  have z : -1048576 ≤ (0 : Int) ∧ (0 : Int) ≤ 1048576 := by decide
  obtain ⟨p, q, hs, hp, hq⟩ := c_sub (ri ha) (ri z) (ri hc) (ri z) (by omega) (by omega)
  have hr := fun w => run_complex_sum (P := Try.prog) w .sub (Or.inr rfl) 31 .f64 _ _ _ _ p q hs
  clear hs
  go_enter Try.func7, Try.ntmps7
  go_wp2_with fail
  refine (pl_point a 0 ha z _).mono ?_; rintro e w' ⟨rfl, rfl⟩
  go_wp2_with fail
  refine (pl_point c 0 hc z _).mono ?_; rintro e w' ⟨rfl, rfl⟩
  go_wp2_with fail
  refine (pl_Of_no p q _ hp h1 (by omega) _).mono ?_; rintro e w' ⟨rfl, rfl⟩
  go_wp2_with fail
  go_ret3
  exact ⟨rfl, rfl⟩
theorem pl_sum_off (a c : Int) (ha : -1048576 ≤ a ∧ a ≤ 1048576) (hc : 0 ≤ c ∧ c ≤ 1048577) (h1 : 1048576 < a + c) (w : World) :
    Calls Try.prog 7 #[.int .i64 1, .int .i64 a, .int .i64 0, .int .i64 c, .int .i64 0] w fun e w' => e = .returned (.tuple #[.int .i64 0, .int .i64 0, .bool false]) ∧ w = w' := by
  by_cases h : c ≤ 1048576
  · exact pl_sum_no a c ha (by omega) (by omega) w
  · exact pl_Op_no 1 a 0 c 0 (by omega) w
theorem pl_dif_off (a c : Int) (ha : -1048576 ≤ a ∧ a ≤ 1048576) (hc : 0 ≤ c ∧ c ≤ 1048577) (h1 : a - c < -1048576) (w : World) :
    Calls Try.prog 7 #[.int .i64 2, .int .i64 a, .int .i64 0, .int .i64 c, .int .i64 0] w fun e w' => e = .returned (.tuple #[.int .i64 0, .int .i64 0, .bool false]) ∧ w = w' := by
  by_cases h : c ≤ 1048576
  · exact pl_dif_no a c ha (by omega) (by omega) w
  · exact pl_Op_no 2 a 0 c 0 (by omega) w
end Go.Proofs.Ytipicdhceafpoaa.Pl
