/- The law PlaneLaws returns true at every input, and leaves its arguments as they were. No condition. -/
import Derived.Test.YtipicdhceafpoaaRows
import Derived.WalkKit
import Derived.ProofKit
import Derived.OpenShut
import Derived.Test.YtipicdhceafpoaaPlane3
namespace Go.Proofs.Ytipicdhceafpoaa.planeLaws
open Go.ChangeShapes Go.WideShapes Go.ChangeAt Go.RowKit
open Go.Proofs.Ytipicdhceafpoaa.Gen
open Go.Proofs.Ytipicdhceafpoaa.Base
open Go.Proofs.Ytipicdhceafpoaa.Pl
set_option linter.unusedVariables false      -- a walk need not use every 'w<i>' (that an integer argument fits its kind)

theorem own : ownKnob Try.prog.godebug = none := by kernel_rfl

theorem mulE (a b c d X Y : Int) (ha : -300 ≤ a ∧ a ≤ 300) (hb : -300 ≤ b ∧ b ≤ 300) (hc : -600 ≤ c ∧ c ≤ 600) (hd : -600 ≤ d ∧ d ≤ 600) (hX : a * c - b * d = X) (hY : a * d + b * c = Y) (bX : -400000 ≤ X ∧ X ≤ 400000) (bY : -400000 ≤ Y ∧ Y ≤ 400000) (w : World) :
    Calls Try.prog 7 #[.int .i64 3, .int .i64 a, .int .i64 b, .int .i64 c, .int .i64 d] w fun e w' => e = .returned (.tuple #[.int .i64 X, .int .i64 Y, .bool true]) ∧ w = w' := by
  subst hX; subst hY
  exact pl_mul a b c d (by omega) (by omega) (by omega) (by omega) (by omega) (by omega) w
theorem sumE (a b c d X Y : Int) (hX : a + c = X) (hY : b + d = Y) (ha : -1048576 ≤ a ∧ a ≤ 1048576) (hb : -1048576 ≤ b ∧ b ≤ 1048576) (hc : -1048576 ≤ c ∧ c ≤ 1048576) (hd : -1048576 ≤ d ∧ d ≤ 1048576) (bX : -1048576 ≤ X ∧ X ≤ 1048576) (bY : -1048576 ≤ Y ∧ Y ≤ 1048576) (w : World) :
    Calls Try.prog 7 #[.int .i64 1, .int .i64 a, .int .i64 b, .int .i64 c, .int .i64 d] w fun e w' => e = .returned (.tuple #[.int .i64 X, .int .i64 Y, .bool true]) ∧ w = w' := by
  subst hX; subst hY
  exact pl_sum a b c d ha hb hc hd bX bY w
theorem normE (a b X : Int) (hX : a * a + b * b = X) (ha : -1048576 ≤ a ∧ a ≤ 1048576) (hb : -1048576 ≤ b ∧ b ≤ 1048576) (w : World) :
    Calls Try.prog 8 #[.int .i64 a, .int .i64 b] w fun e w' => e = .returned (.tuple #[.int .i64 X, .bool true]) ∧ w = w' := by
  subst hX
  exact pl_Norm a b ha hb w
theorem overE (a b X : Int) (hX : a * a + b * b = X) (ha : -300 ≤ a ∧ a ≤ 300) (hb : -300 ≤ b ∧ b ≤ 300) (bX : 0 ≤ X ∧ X ≤ 200000) (w : World) :
    Calls Try.prog 7 #[.int .i64 4, .int .i64 a, .int .i64 b, .int .i64 a, .int .i64 b] w fun e w' => e = .returned (.tuple #[.int .i64 X, .int .i64 0, .bool true]) ∧ w = w' := by
  have h := pl_mulover a b a b (by omega) (by omega) (by omega) (by omega) (by omega) (by rw [Int.mul_comm b a]; omega) w
  rw [hX, show b * a - a * b = 0 by rw [Int.mul_comm b a]; omega] at h
  exact h
theorem mb {a b : Int} (ha : -300 ≤ a ∧ a ≤ 300) (hb : -600 ≤ b ∧ b ≤ 600) : -180000 ≤ a * b ∧ a * b ≤ 180000 := by
  have h : (a * b).natAbs ≤ 300 * 600 := by rw [Int.natAbs_mul]; exact Nat.mul_le_mul (by omega) (by omega)
  omega
theorem mb3 {a b : Int} (ha : -300 ≤ a ∧ a ≤ 300) (hb : -300 ≤ b ∧ b ≤ 300) : -90000 ≤ a * b ∧ a * b ≤ 90000 := by
  have h : (a * b).natAbs ≤ 300 * 300 := by rw [Int.natAbs_mul]; exact Nat.mul_le_mul (by omega) (by omega)
  omega
theorem sq {a : Int} (ha : -300 ≤ a ∧ a ≤ 300) : 0 ≤ a * a ∧ a * a ≤ 90000 := by
  have h := mb3 ha ha
  have h2 : (0 : Int) ≤ a * a := by rcases Int.le_total 0 a with h | h; exact Int.mul_nonneg h h; exact Int.mul_nonneg_of_nonpos_of_nonpos h h
  omega
theorem norms (A B C D : Int) : (A * C - B * D) * (A * C - B * D) + (A * D + B * C) * (A * D + B * C) = (A * A + B * B) * (C * C + D * D) := by
  simp only [Int.sub_mul, Int.mul_sub, Int.add_mul, Int.mul_add]
  have e1 : A * C * (A * C) = A * A * (C * C) := by simp only [Int.mul_assoc, Int.mul_left_comm, Int.mul_comm]
  have e2 : B * D * (B * D) = B * B * (D * D) := by simp only [Int.mul_assoc, Int.mul_left_comm, Int.mul_comm]
  have e3 : A * D * (A * D) = A * A * (D * D) := by simp only [Int.mul_assoc, Int.mul_left_comm, Int.mul_comm]
  have e4 : B * C * (B * C) = B * B * (C * C) := by simp only [Int.mul_assoc, Int.mul_left_comm, Int.mul_comm]
  have e5 : A * C * (B * D) = A * B * (C * D) := by simp only [Int.mul_assoc, Int.mul_left_comm, Int.mul_comm]
  have e6 : B * D * (A * C) = A * B * (C * D) := by simp only [Int.mul_assoc, Int.mul_left_comm, Int.mul_comm]
  have e7 : A * D * (B * C) = A * B * (C * D) := by simp only [Int.mul_assoc, Int.mul_left_comm, Int.mul_comm]
  have e8 : B * C * (A * D) = A * B * (C * D) := by simp only [Int.mul_assoc, Int.mul_left_comm, Int.mul_comm]
  rw [e1, e2, e3, e4, e5, e6, e7, e8]; omega
/-! ### STEP 1: THE WALK: the Go text returns true. 'Grown w w'': the world has at most new blocks (Derived/RowKit3.lean). Part the cases AHEAD of 'go_enter' where a test parts the walk; take each callee by a contract of your own. -/
set_option maxRecDepth 100000 in
set_option maxHeartbeats 16000000 in
theorem walk (a0 : Int) (a1 : Int) (a2 : Int) (a3 : Int) (a4 : Int) (a5 : Int) (w0 : (Lit.int .i64 a0).wf = true) (w1 : (Lit.int .i64 a1).wf = true) (w2 : (Lit.int .i64 a2).wf = true) (w3 : (Lit.int .i64 a3).wf = true) (w4 : (Lit.int .i64 a4).wf = true) (w5 : (Lit.int .i64 a5).wf = true) (w : World) :
    Calls Try.prog 3 #[.int .i64 a0, .int .i64 a1, .int .i64 a2, .int .i64 a3, .int .i64 a4, .int .i64 a5] w fun e w' => e = .returned (.bool true) ∧ Grown w w' := by
  go_enter Try.func3, Try.ntmps3
  go_wp2_with fail
  refine (place_any _ _ (by omega) (by omega) w0 _).mono ?_; rintro e w' ⟨rfl, rfl⟩
  go_wp2_with fail
  refine (place_any _ _ (by omega) (by omega) w1 _).mono ?_; rintro e w' ⟨rfl, rfl⟩
  go_wp2_with fail
  refine (place_any _ _ (by omega) (by omega) w2 _).mono ?_; rintro e w' ⟨rfl, rfl⟩
  go_wp2_with fail
  refine (place_any _ _ (by omega) (by omega) w3 _).mono ?_; rintro e w' ⟨rfl, rfl⟩
  go_wp2_with fail
  refine (place_any _ _ (by omega) (by omega) w4 _).mono ?_; rintro e w' ⟨rfl, rfl⟩
  go_wp2_with fail
  refine (place_any _ _ (by omega) (by omega) w5 _).mono ?_; rintro e w' ⟨rfl, rfl⟩
  have bA : -300 ≤ a0 % 601 - 300 ∧ a0 % 601 - 300 ≤ 300 := by omega
  have bB : -300 ≤ a1 % 601 - 300 ∧ a1 % 601 - 300 ≤ 300 := by omega
  have bC : -300 ≤ a2 % 601 - 300 ∧ a2 % 601 - 300 ≤ 300 := by omega
  have bD : -300 ≤ a3 % 601 - 300 ∧ a3 % 601 - 300 ≤ 300 := by omega
  have bE : -300 ≤ a4 % 601 - 300 ∧ a4 % 601 - 300 ≤ 300 := by omega
  have bF : -300 ≤ a5 % 601 - 300 ∧ a5 % 601 - 300 ≤ 300 := by omega
  go_upto_region 2 with fail
  generalize a0 % 601 - 300 = A at *
  generalize a1 % 601 - 300 = B at *
  generalize a2 % 601 - 300 = C at *
  generalize a3 % 601 - 300 = D at *
  generalize a4 % 601 - 300 = E at *
  generalize a5 % 601 - 300 = F at *
  have hS : (w.alloc (.cells #[.int .i64 A, .int .i64 B, .int .i64 C, .int .i64 D, .int .i64 E, .int .i64 F] 23)).cell? ⟨w.heap.size, 0, none⟩ = some (.int .i64 A) ∧ (w.alloc (.cells #[.int .i64 A, .int .i64 B, .int .i64 C, .int .i64 D, .int .i64 E, .int .i64 F] 23)).cell? ⟨w.heap.size, 1, none⟩ = some (.int .i64 B) ∧ (w.alloc (.cells #[.int .i64 A, .int .i64 B, .int .i64 C, .int .i64 D, .int .i64 E, .int .i64 F] 23)).cell? ⟨w.heap.size, 2, none⟩ = some (.int .i64 C) ∧ (w.alloc (.cells #[.int .i64 A, .int .i64 B, .int .i64 C, .int .i64 D, .int .i64 E, .int .i64 F] 23)).cell? ⟨w.heap.size, 3, none⟩ = some (.int .i64 D) ∧ (w.alloc (.cells #[.int .i64 A, .int .i64 B, .int .i64 C, .int .i64 D, .int .i64 E, .int .i64 F] 23)).cell? ⟨w.heap.size, 4, none⟩ = some (.int .i64 E) ∧ (w.alloc (.cells #[.int .i64 A, .int .i64 B, .int .i64 C, .int .i64 D, .int .i64 E, .int .i64 F] 23)).cell? ⟨w.heap.size, 5, none⟩ = some (.int .i64 F) := ⟨by simp, by simp, by simp, by simp, by simp, by simp⟩
  have hG : Gr w (w.alloc (.cells #[.int .i64 A, .int .i64 B, .int .i64 C, .int .i64 D, .int .i64 E, .int .i64 F] 23)) := Gr.alloc (Gr.refl _) _ _
  generalize (w.alloc (.cells #[.int .i64 A, .int .i64 B, .int .i64 C, .int .i64 D, .int .i64 E, .int .i64 F] 23)) = u at hS hG ⊢
  obtain ⟨q0, q1, q2, q3, q4, q5⟩ := hS
  have AC := mb3 bA bC; have BD := mb3 bB bD; have AD := mb3 bA bD; have BC := mb3 bB bC
  have AE := mb3 bA bE; have BF := mb3 bB bF; have AF := mb3 bA bF; have BE := mb3 bB bE
  have AA := sq bA; have BB := sq bB; have CC := sq bC; have DD := sq bD
  obtain ⟨X, hX⟩ : ∃ X, A * C - B * D = X := ⟨_, rfl⟩
  obtain ⟨Y, hY⟩ : ∃ Y, A * D + B * C = Y := ⟨_, rfl⟩
  obtain ⟨m, hm⟩ : ∃ m, A * A + B * B = m := ⟨_, rfl⟩
  obtain ⟨k, hk⟩ : ∃ k, C * C + D * D = k := ⟨_, rfl⟩
  obtain ⟨T, hT⟩ : ∃ T, A * E - B * F = T := ⟨_, rfl⟩
  obtain ⟨U, hU⟩ : ∃ U, A * F + B * E = U := ⟨_, rfl⟩
  have bX : -400000 ≤ X ∧ X ≤ 400000 := by omega
  have bY : -400000 ≤ Y ∧ Y ≤ 400000 := by omega
  have bT : -400000 ≤ T ∧ T ≤ 400000 := by omega
  have bU : -400000 ≤ U ∧ U ≤ 400000 := by omega
  have bm : 0 ≤ m ∧ m ≤ 200000 := by omega
  have bk : 0 ≤ k ∧ k ≤ 200000 := by omega
  have hn := norms A B C D
  rw [hX, hY, hm, hk] at hn
  have bmk : 0 ≤ m * k ∧ m * k ≤ 40000000000 := by
    constructor
    · exact Int.mul_nonneg bm.1 bk.1
    · have := Int.mul_le_mul bm.2 bk.2 bk.1 (by omega : (0 : Int) ≤ 200000); omega
  have f1 : C * A - D * B = X := by rw [Int.mul_comm C A, Int.mul_comm D B]; exact hX
  have f2 : C * B + D * A = Y := by rw [Int.mul_comm C B, Int.mul_comm D A]; omega
  have f3 : A * (C + E) - B * (D + F) = X + T := by rw [Int.mul_add, Int.mul_add]; omega
  have f4 : A * (D + F) + B * (C + E) = Y + U := by rw [Int.mul_add, Int.mul_add]; omega
  have f5 : A * 0 - B * 1 = -B := by omega
  have f6 : A * 1 + B * 0 = A := by omega
  have bXT : -400000 ≤ X + T ∧ X + T ≤ 400000 := by omega
  have bYU : -400000 ≤ Y + U ∧ Y + U ≤ 400000 := by omega
  have HX := Lib.hid hX; have HY := Lib.hid hY; have HM := Lib.hid hm; have HK := Lib.hid hk; have HT := Lib.hid hT; have HU := Lib.hid hU
  have HN := Lib.hid hn; have F1 := Lib.hid f1; have F2 := Lib.hid f2; have F3 := Lib.hid f3; have F4 := Lib.hid f4; have F5 := Lib.hid f5; have F6 := Lib.hid f6
  clear hX hY hm hk hT hU hn f1 f2 f3 f4 f5 f6 AC BD AD BC AE BF AF BE AA BB CC DD
  go_wp2_with fail
  refine (mulE A B C D X Y bA bB (by omega) (by omega) HX.out HY.out bX bY _).mono ?_; rintro e w' ⟨rfl, rfl⟩
  go_wp2_with fail
  refine (mulE C D A B X Y bC bD (by omega) (by omega) F1.out F2.out bX bY _).mono ?_; rintro e w' ⟨rfl, rfl⟩
  go_wp2_with fail
  refine (normE A B m HM.out (by omega) (by omega) _).mono ?_; rintro e w' ⟨rfl, rfl⟩
  go_wp2_with fail
  refine (normE C D k HK.out (by omega) (by omega) _).mono ?_; rintro e w' ⟨rfl, rfl⟩
  go_wp2_with fail
  refine (normE X Y (m * k) HN.out (by omega) (by omega) _).mono ?_; rintro e w' ⟨rfl, rfl⟩
  go_wp2_with fail
  refine (sumE C D E F (C + E) (D + F) rfl rfl (by omega) (by omega) (by omega) (by omega) (by omega) (by omega) _).mono ?_; rintro e w' ⟨rfl, rfl⟩
  go_wp2_with fail
  refine (mulE A B (C + E) (D + F) (X + T) (Y + U) bA bB (by omega) (by omega) F3.out F4.out bXT bYU _).mono ?_; rintro e w' ⟨rfl, rfl⟩
  go_wp2_with fail
  refine (mulE A B E F T U bA bB (by omega) (by omega) HT.out HU.out bT bU _).mono ?_; rintro e w' ⟨rfl, rfl⟩
  go_wp2_with fail
  refine (sumE X Y T U (X + T) (Y + U) rfl rfl (by omega) (by omega) (by omega) (by omega) (by omega) (by omega) _).mono ?_; rintro e w' ⟨rfl, rfl⟩
  go_wp2_with fail
  refine (pl_Turn A B 1 (by omega) (by omega) _).mono ?_; rintro e w' ⟨rfl, rfl⟩
  rw [show rt A B (1 % 4 : Int).toNat = (-B, A) from rfl]
  go_wp2_with fail
  refine (mulE A B 0 1 (-B) A bA bB (by omega) (by omega) F5.out F6.out (by omega) (by omega) _).mono ?_; rintro e w' ⟨rfl, rfl⟩
  go_wp2_with fail
  refine (pl_Turn A B 4 (by omega) (by omega) _).mono ?_; rintro e w' ⟨rfl, rfl⟩
  rw [show rt A B (4 % 4 : Int).toNat = (A, B) from rfl]
  go_wp2_with fail
  refine (overE A B m HM.out bA bB bm _).mono ?_; rintro e w' ⟨rfl, rfl⟩
  go_wp2_with fail
  refine (awake_any _).mono ?_; rintro e u3 ⟨rfl, g3⟩
  go_wp2_with fail
  go_ret
  exact ⟨rfl, (hG.trans g3).toGrown⟩

/-! ### THE ROW's STEP: WRITTEN OUT: LEAVE IT -/
set_option maxRecDepth 100000 in
theorem lifted (os : Os) (started : os.Started) (H : Type) (enc : TypeId × Value → H) :
    ReturnsInHanded {} Try.checked os 3 .any (Rows.planeLawsSpec.pre6 enc Try.prog Try.f3 Rows.planeLawsRow.domain false) (Rows.planeLawsSpec.post enc Try.prog Try.f3 false true false false) := by
  refine returnsInHanded_of_change (C := Try.checked) own started (by kernel_rfl) Try.func3
    (ChangeSpec.witness6 (enc := enc) (C := Try.checked) false ⟨#[], #[.int .i64 0, .int .i64 0, .int .i64 0, .int .i64 0, .int .i64 0, .int .i64 0], []⟩ 8 (by kernel_rfl) (by kernel_rfl) (by kernel_rfl) (by kernel_rfl)) ?_
  intro W base args ds gs before hval0 hW hcnd _
  have hval : ∀ (j : Nat) t v, Try.f3.params[j]? = some t → args[j]? = some v → Value.okWide Try.prog W .any base t v := hval0
  have hW' := hW
  obtain ⟨p, q, hA0, hV, rfl, hfz, hnd⟩ := hW
  have hA : DataW.TrodAll enc Try.prog W 0 (fun _ => true) true Try.f3.params.toList args.toList ds p := hA0
  rw [Try.params3] at hA hval
  obtain ⟨v0, vs0, d0, ds0, p0, q0, hargs, rfl, rfl, h0, r0⟩ := trodAll_cons hA
  obtain ⟨v1, vs1, d1, ds1, p1, q1, rfl, rfl, rfl, h1, r1⟩ := trodAll_cons r0
  obtain ⟨v2, vs2, d2, ds2, p2, q2, rfl, rfl, rfl, h2, r2⟩ := trodAll_cons r1
  obtain ⟨v3, vs3, d3, ds3, p3, q3, rfl, rfl, rfl, h3, r3⟩ := trodAll_cons r2
  obtain ⟨v4, vs4, d4, ds4, p4, q4, rfl, rfl, rfl, h4, r4⟩ := trodAll_cons r3
  obtain ⟨v5, vs5, d5, ds5, p5, q5, rfl, rfl, rfl, h5, r5⟩ := trodAll_cons r4
  obtain ⟨rfl, rfl, rfl⟩ := trodAll_nil r5
  obtain rfl : args = #[v0, v1, v2, v3, v4, v5] := by cases args; simp_all
  obtain ⟨rfl, rfl⟩ := trodVars_none hV
  obtain ⟨a0, rfl, rfl, rfl, w0⟩ := open_int Try.underlying3 (hval 0 3 v0 rfl rfl) h0
  obtain ⟨a1, rfl, rfl, rfl, w1⟩ := open_int Try.underlying3 (hval 1 3 v1 rfl rfl) h1
  obtain ⟨a2, rfl, rfl, rfl, w2⟩ := open_int Try.underlying3 (hval 2 3 v2 rfl rfl) h2
  obtain ⟨a3, rfl, rfl, rfl, w3⟩ := open_int Try.underlying3 (hval 3 3 v3 rfl rfl) h3
  obtain ⟨a4, rfl, rfl, rfl, w4⟩ := open_int Try.underlying3 (hval 4 3 v4 rfl rfl) h4
  obtain ⟨a5, rfl, rfl, rfl, w5⟩ := open_int Try.underlying3 (hval 5 3 v5 rfl rfl) h5
  clear hA0 hval0
  simp only [List.append_nil] at hW'
  refine (walk a0 a1 a2 a3 a4 a5 w0 w1 w2 w3 w4 w5 W).mono fun e W' ⟨he, hg⟩ => ?_
  subst he
  exact ⟨_, rfl, post_of_same (pa := []) (pv := []) hW' (fun _ _ _ => (trodAll_cons_mk (shut_bool Try.underlying4 _) trodAll_mk0)) (fun sp _ => (trodAll_cons_mk (shut_int Try.underlying3 w0) (trodAll_cons_mk (shut_int Try.underlying3 w1) (trodAll_cons_mk (shut_int Try.underlying3 w2) (trodAll_cons_mk (shut_int Try.underlying3 w3) (trodAll_cons_mk (shut_int Try.underlying3 w4) (trodAll_cons_mk (shut_int Try.underlying3 w5) trodAll_mk0))))))) (fun _ _ => rfl) rfl
    (hg.frame _) hg.2.1 (ok_one (by kernel_rfl) rfl (okWide_bool_mk Try.underlying4 _))⟩

theorem over : Rows.planeLawsRow.holds Try.pinned (OpenSpec.ofChange Rows.planeLawsSpec) :=
  OpenClaim.holds_of_wide 3 Try.f3 rfl rfl rfl rfl rfl rfl rfl ⟨rfl, rfl, rfl, rfl, rfl⟩ rfl rfl rfl rfl rfl (by kernel_rfl) Try.func3 (by kernel_rfl)
    (of_decide_eq_true (by kernel_rfl)) (by unfold Func.isWrapper; first | (rw [if_pos (by decide +kernel)]; kernel_rfl) | (rw [if_neg (by decide +kernel)]; exact ⟨rfl, rfl⟩))
    (fun os started H enc _ => lifted os started H enc)

/-- THE STATEMENT -/
theorem proved : Rows.PlaneLawsSaid :=
  over
#print axioms proved
end Go.Proofs.Ytipicdhceafpoaa.planeLaws
