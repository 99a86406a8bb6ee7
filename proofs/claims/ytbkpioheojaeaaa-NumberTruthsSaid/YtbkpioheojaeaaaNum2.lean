/- The calls of package number, continued: the numbers that come of two, and the primitives. -/
import Derived.Test.YtbkpioheojaeaaaNum
namespace Go.Proofs.Ytbkpioheojaeaaa.Nu
open Go.Proofs.Ytbkpioheojaeaaa.Gen Go.Proofs.Ytbkpioheojaeaaa.Base Go.ChangeShapes Go.WideShapes Go.ChangeAt Go.RowKit
set_option linter.unusedVariables false
theorem ret_ib' {v v' : Int} {b b' : Bool} (h : v = v') (h2 : b = b') : Ending.returned (.tuple #[.int .i64 v, .bool b]) = .returned (.tuple #[.int .i64 v', .bool b']) := by rw [h, h2]
def RkPost (n a b : Int) (w : World) (e : Ending) (w' : World) : Prop := ∃ v : Int, e = .returned (.tuple #[.int .i64 v, .bool (rkO n b)]) ∧ (rkO n b = true → v = rkV n a b) ∧ w = w'
set_option maxHeartbeats 4000000 in
theorem nu_reckon (n a b : Int) (ha : -536870912 ≤ a ∧ a < 536870912) (hb : -536870912 ≤ b ∧ b < 536870912) (w : World) :
    Calls Try.prog 22 #[.int .i64 n, .int .i64 a, .int .i64 b] w (RkPost n a b w) := by
  by_cases hk : n = 1 ∨ n = 2 ∨ n = 3 ∨ n = 12 ∨ n = 13 ∨ n = 14
  · rcases hk with rfl | rfl | rfl | rfl | rfl | rfl
    all_goals
      go_enter Try.func22, Try.ntmps22
      go_wp2_with fail
      go_ret2
      exact ⟨_, ret_ib' rfl rfl, fun _ => rfl, rfl⟩
  · by_cases hd : n = 4 ∨ n = 5
    · by_cases h0 : b = 0
      · subst h0
        have e1 : dvV a 0 = 0 := by simp [dvV]
        have e2 : dvO 0 = false := by simp [dvO]
        rcases hd with rfl | rfl
        all_goals
          go_enter Try.func22, Try.ntmps22
          go_wp2_with (first | (go_at_call 26; refine (nu_divide a 0 ha _).mono ?_; rintro e w' ⟨rfl, rfl⟩))
          go_ret2
          exact ⟨_, ret_ib' rfl rfl, fun h => by simp [rkO, dvO] at h, rfl⟩
      · have e1 : dvV a b = qf a b := by simp [dvV, h0]
        have e2 : dvO b = true := by simp [dvO, h0]
        have hb0 : (b == 0) = false := by simp [h0]
        have q1 := qf_bd a b ha
        have q2 := qf_mul a b ha hb h0
        have E2 := Lib.hid e2
        rcases hd with rfl | rfl
        all_goals
          go_enter Try.func22, Try.ntmps22
          go_wp2_with (first | (go_at_call 26; refine (nu_divide a b ha _).mono ?_; rintro e w' ⟨rfl, rfl⟩) | (go_at_call 27; refine (nu_move a b ha hb _).mono ?_; rintro e w' ⟨rfl, rfl⟩))
          go_ret2
          exact ⟨_, ret_ib' rfl (by simp [rkO, E2.out]), fun _ => rfl, rfl⟩
    · by_cases h15 : n = 15
      · subst h15
        go_enter Try.func22, Try.ntmps22
        go_wp2_with (first | (go_at_call 26; refine (nu_divide a b ha _).mono ?_; rintro e w' ⟨rfl, rfl⟩) | (go_at_call 27; refine (nu_move a b ha hb _).mono ?_; rintro e w' ⟨rfl, rfl⟩))
        go_ret2
        refine ⟨_, ret_ib' rfl (by simp [rkO]), fun h => ?_, rfl⟩
        have h' : shO b = true := by simpa [rkO] using h
        simp [rkV, shW, h']
      · have hf : rkO n b = false := by unfold rkO; rw [if_neg hk, if_neg hd, if_neg h15]
        have n1 : (n == 1) = false := by simp; omega
        have n2 : (n == 2) = false := by simp; omega
        have n3 : (n == 3) = false := by simp; omega
        have n4 : (n == 4) = false := by simp; omega
        have n5 : (n == 5) = false := by simp; omega
        have n12 : (n == 12) = false := by simp; omega
        have n13 : (n == 13) = false := by simp; omega
        have n14 : (n == 14) = false := by simp; omega
        have n15 : (n == 15) = false := by simp; omega
        have HF := Lib.hid hf
        clear hf hk hd h15
        go_enter Try.func22, Try.ntmps22
        go_wp2_with fail
        go_ret2
        exact ⟨_, ret_ib' rfl (by rw [HF.out]), fun h => by rw [HF.out] at h; simp at h, rfl⟩
set_option maxHeartbeats 4000000 in
theorem rf_whole (n a b : Int) (ha : -536870912 ≤ a ∧ a < 536870912) (hb : -536870912 ≤ b ∧ b < 536870912) (w : World) :
    Calls Try.prog 25 #[.int .i64 n, .int .i64 a, .int .i64 b] w (RkPost n a b w) := by
  by_cases hk : n = 1 ∨ n = 2 ∨ n = 3 ∨ n = 12 ∨ n = 13 ∨ n = 14
  · rcases hk with rfl | rfl | rfl | rfl | rfl | rfl
    all_goals
      go_enter Try.func25, Try.ntmps25
      go_wp2_with fail
      go_ret2
      exact ⟨_, ret_ib' rfl rfl, fun _ => rfl, rfl⟩
  · by_cases hd : n = 4 ∨ n = 5
    · by_cases h0 : b = 0
      · subst h0
        have e1 : dvV a 0 = 0 := by simp [dvV]
        have e2 : dvO 0 = false := by simp [dvO]
        rcases hd with rfl | rfl
        all_goals
          go_enter Try.func25, Try.ntmps25
          go_wp2_with fail
          go_ret2
          exact ⟨_, ret_ib' rfl rfl, fun h => by simp [rkO, dvO] at h, rfl⟩
      · have e1 : dvV a b = qf a b := by simp [dvV, h0]
        have e2 : dvO b = true := by simp [dvO, h0]
        have hb0 : (b == 0) = false := by simp [h0]
        have q1 := qf_bd a b ha
        have q2 := qf_mul a b ha hb h0
        have E2 := Lib.hid e2
        rcases hd with rfl | rfl
        all_goals
          go_enter Try.func25, Try.ntmps25
          go_wp2_with (go_at_call 28; refine (rf_down a b ha hb h0 _).mono ?_; rintro e w' ⟨rfl, rfl⟩)
          go_ret2
          exact ⟨_, ret_ib' rfl (by simp [rkO, E2.out]), fun _ => rfl, rfl⟩
    · by_cases h15 : n = 15
      · subst h15
        have hO : rkO 15 b = shO b := by simp [rkO]
        have hV : rkV 15 a b = shV a b := by simp [rkV]
        have HO := Lib.hid hO
        have HV := Lib.hid hV
        clear hO hV
        by_cases h1 : -30 ≤ b
        · by_cases h2 : b ≤ 30
          · by_cases h3 : b < 0
            all_goals
              go_enter Try.func25, Try.ntmps25
              go_wp2_with fail
              go_ret2
              exact ⟨_, ret_ib' rfl (by rw [HO.out]; simp [shO, h1, h2]), fun _ => by rw [HV.out]; unfold shV; first | rw [if_pos h3] | rw [if_neg (by omega)], rfl⟩
          · have hf : shO b = false := by simp [shO]; omega
            go_enter Try.func25, Try.ntmps25
            go_wp2_with fail
            go_ret2
            exact ⟨_, ret_ib' rfl (by rw [HO.out, hf]), fun h => by rw [HO.out, hf] at h; simp at h, rfl⟩
        · have hf : shO b = false := by simp [shO]; omega
          go_enter Try.func25, Try.ntmps25
          go_wp2_with fail
          go_ret2
          exact ⟨_, ret_ib' rfl (by rw [HO.out, hf]), fun h => by rw [HO.out, hf] at h; simp at h, rfl⟩
      · have hf : rkO n b = false := by unfold rkO; rw [if_neg hk, if_neg hd, if_neg h15]
        have n1 : (n == 1) = false := by simp; omega
        have n2 : (n == 2) = false := by simp; omega
        have n3 : (n == 3) = false := by simp; omega
        have n4 : (n == 4) = false := by simp; omega
        have n5 : (n == 5) = false := by simp; omega
        have n12 : (n == 12) = false := by simp; omega
        have n13 : (n == 13) = false := by simp; omega
        have n14 : (n == 14) = false := by simp; omega
        have n15 : (n == 15) = false := by simp; omega
        have HF := Lib.hid hf
        clear hf hk hd h15
        go_enter Try.func25, Try.ntmps25
        go_wp2_with fail
        go_ret2
        exact ⟨_, ret_ib' rfl (by rw [HF.out]), fun h => by rw [HF.out] at h; simp at h, rfl⟩
end Go.Proofs.Ytbkpioheojaeaaa.Nu
