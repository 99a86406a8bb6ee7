/- The calls of package number, and of the document's own answers to it, return what plain functions on integers say. -/
import Derived.Test.YtbkpioheojaeaaaBase
namespace Go.Proofs.Ytbkpioheojaeaaa.Nu
open Go.Proofs.Ytbkpioheojaeaaa.Gen Go.Proofs.Ytbkpioheojaeaaa.Base Go.ChangeShapes Go.WideShapes Go.ChangeAt Go.RowKit
set_option linter.unusedVariables false

def fit (v : Int) : Bool := decide (-536870912 ≤ v) && decide (v < 536870912)
def qf (a b : Int) : Int := if a.tmod b ≠ 0 ∧ ¬ (a < 0 ↔ b < 0) then a.tdiv b - 1 else a.tdiv b
def dvV (a b : Int) : Int := if b = 0 then 0 else qf a b
def dvO (b : Int) : Bool := !(b == 0)
def cmpB (n a b : Int) : Bool := if n = 6 then decide (a < b) else if n = 7 then decide (b < a) else if n = 8 then decide (a ≤ b) else if n = 9 then decide (b ≤ a) else if n = 10 then (a == b) else !(a == b)
def shO (b : Int) : Bool := decide (-30 ≤ b) && decide (b ≤ 30)
def shV (a b : Int) : Int := if b < 0 then a / 2 ^ (-b).toNat else wrap64 (a * 2 ^ b.toNat)
def shW (a b : Int) : Int := if shO b then shV a b else 0
def rkO (n b : Int) : Bool := if n = 1 ∨ n = 2 ∨ n = 3 ∨ n = 12 ∨ n = 13 ∨ n = 14 then true else if n = 4 ∨ n = 5 then dvO b else if n = 15 then shO b else false
def rkV (n a b : Int) : Int := if n = 1 then a + b else if n = 2 then a - b else if n = 3 then wrap64 (a * b) else if n = 4 then qf a b else if n = 5 then a - qf a b * b else if n = 12 then bits .and .i64 a b else if n = 13 then bits .or .i64 a b else if n = 14 then bits .xor .i64 a b else shV a b
def opC (n : Int) : Bool := decide (6 ≤ n) && decide (n ≤ 11)
def opO (n a b : Int) : Bool := fit a && fit b && opC n
def opK (n a b : Int) : Bool := fit a && fit b && (opC n || (rkO n b && fit (rkV n a b)))
def tv (b : Bool) : Int := if b then 1 else 2
def opN (n a b : Int) : Int := if fit a && fit b then (if opC n then tv (cmpB n a b) else if rkO n b && fit (rkV n a b) then rkV n a b else 0) else 0

theorem fit_iff {v : Int} : fit v = true ↔ -536870912 ≤ v ∧ v < 536870912 := by simp [fit]
theorem fit_f {v : Int} (h : ¬ (-536870912 ≤ v ∧ v < 536870912)) : fit v = false := by simp [fit]; omega
theorem tdiv_bd {a : Int} (b : Int) (ha : -536870912 ≤ a ∧ a < 536870912) : -536870912 ≤ a.tdiv b ∧ a.tdiv b ≤ 536870912 := by
  have h1 : (a.tdiv b).natAbs ≤ a.natAbs := by rw [Int.natAbs_tdiv]; exact Nat.div_le_self _ _
  omega
theorem tmul {a b : Int} : a.tdiv b * b + a.tmod b = a := by rw [Int.mul_comm]; exact Int.mul_tdiv_add_tmod a b
theorem tmod_bd {a b : Int} (hb : ¬ b = 0) : (0 ≤ a → 0 ≤ a.tmod b) ∧ (a ≤ 0 → a.tmod b ≤ 0) ∧ (0 < b → -b < a.tmod b ∧ a.tmod b < b) ∧ (b < 0 → b < a.tmod b ∧ a.tmod b < -b) := by
  refine ⟨fun h => Int.tmod_nonneg b h, fun h => ?_, fun h => ⟨?_, Int.tmod_lt_of_pos a h⟩, fun h => ?_⟩
  · have := Int.tmod_nonneg b (show 0 ≤ -a by omega); rw [Int.neg_tmod] at this; omega
  · have := Int.lt_tmod_of_pos a h; omega
  · have h1 := Int.tmod_lt_of_pos a (show 0 < -b by omega)
    have h2 := Int.lt_tmod_of_pos a (show 0 < -b by omega)
    rw [Int.tmod_neg] at h1 h2; omega
theorem qf_mul (a b : Int) (ha : -536870912 ≤ a ∧ a < 536870912) (hb : -536870912 ≤ b ∧ b < 536870912) (h0 : ¬ b = 0) : -2147483648 ≤ qf a b * b ∧ qf a b * b ≤ 2147483648 := by
  have h := tmul (a := a) (b := b)
  obtain ⟨p, q, r, s⟩ := tmod_bd (a := a) h0
  unfold qf; split
  · rw [Int.sub_mul]; omega
  · omega
theorem qf_bd (a b : Int) (ha : -536870912 ≤ a ∧ a < 536870912) : -536870913 ≤ qf a b ∧ qf a b ≤ 536870912 := by
  have := tdiv_bd b ha; unfold qf; split <;> omega

theorem wd_Fits (v : Int) (w : World) :
    Calls Try.prog 19 #[.int .i64 v] w fun e w' => e = .returned (.bool (fit v)) ∧ w = w' := by
  by_cases h : -536870912 ≤ v
  · have e1 : fit v = decide (v < 536870912) := by simp [fit, h]
    rw [e1]; clear e1
    go_enter Try.func19, Try.ntmps19
    go_wp2
    go_ret
    exact ⟨rfl, rfl⟩
  · have e1 : fit v = false := fit_f (by omega)
    rw [e1]; clear e1
    go_enter Try.func19, Try.ntmps19
    go_wp2
    go_ret
    exact ⟨rfl, rfl⟩
theorem rf_Fits (v : Int) (w : World) :
    Calls Try.prog 23 #[.int .i64 v] w fun e w' => e = .returned (.bool (fit v)) ∧ w = w' := by
  by_cases h : -536870912 ≤ v
  · have e1 : fit v = decide (v < 536870912) := by simp [fit, h]
    rw [e1]; clear e1
    go_enter Try.func23, Try.ntmps23
    go_wp2
    go_ret
    exact ⟨rfl, rfl⟩
  · have e1 : fit v = false := fit_f (by omega)
    rw [e1]; clear e1
    go_enter Try.func23, Try.ntmps23
    go_wp2
    go_ret
    exact ⟨rfl, rfl⟩
set_option maxHeartbeats 1000000 in
theorem nu_divide (a b : Int) (ha : -536870912 ≤ a ∧ a < 536870912) (w : World) :
    Calls Try.prog 26 #[.int .i64 a, .int .i64 b] w fun e w' => e = .returned (.tuple #[.int .i64 (dvV a b), .bool (dvO b)]) ∧ w = w' := by
  by_cases h0 : b = 0
  · subst h0
    rw [show dvV a 0 = 0 by simp [dvV], show dvO 0 = false by simp [dvO]]
    go_enter Try.func26, Try.ntmps26
    go_wp2
    go_ret2
    exact ⟨rfl, rfl⟩
  · have H1 : dvV a b = qf a b := by simp [dvV, h0]
    have H2 : dvO b = true := by simp [dvO, h0]
    rw [H1, H2]; clear H1 H2
    have hb0 : (b == 0) = false := by simp [h0]
    have hd := tdiv_bd b ha
    have W : wrap64 (a.tdiv b) = a.tdiv b := IntWalk.wrap64_in _ ⟨by omega, by omega⟩
    by_cases hm : a.tmod b = 0
    · have E := Lib.hid (show qf a b = a.tdiv b by simp [qf, hm])
      go_enter Try.func26, Try.ntmps26
      go_wp2
      go_ret2
      exact ⟨ret_ib E.out.symm rfl, rfl⟩
    · have hm0 : (a.tmod b == 0) = false := by simp [hm]
      by_cases sa : a < 0
      · by_cases sb : b < 0
        all_goals
          have E := Lib.hid (show qf a b = if (a < 0 ↔ b < 0) then a.tdiv b else a.tdiv b - 1 by simp only [qf]; split <;> split <;> simp_all)
          go_enter Try.func26, Try.ntmps26
          go_wp2
          go_ret2
          exact ⟨ret_ib (by rw [E.out]; split <;> (try rfl) <;> omega) rfl, rfl⟩
      · have hm2 : ¬ a % b = 0 := by rwa [Int.tmod_eq_emod_of_nonneg (by omega)] at hm
        have hm3 : (a % b == 0) = false := by simp [hm2]
        by_cases sb : b < 0
        all_goals
          have E := Lib.hid (show qf a b = if (a < 0 ↔ b < 0) then a.tdiv b else a.tdiv b - 1 by simp only [qf]; split <;> split <;> simp_all)
          go_enter Try.func26, Try.ntmps26
          go_wp2
          go_ret2
          exact ⟨ret_ib (by rw [E.out]; split <;> (try rfl) <;> omega) rfl, rfl⟩
set_option maxHeartbeats 1000000 in
theorem rf_down (a b : Int) (ha : -536870912 ≤ a ∧ a < 536870912) (hb : -536870912 ≤ b ∧ b < 536870912) (h0 : ¬ b = 0) (w : World) :
    Calls Try.prog 28 #[.int .i64 a, .int .i64 b] w fun e w' => e = .returned (.int .i64 (qf a b)) ∧ w = w' := by
  have hb0 : (b == 0) = false := by simp [h0]
  have hd := tdiv_bd b ha
  have hmul := tmul (a := a) (b := b)
  obtain ⟨p, q, r, s⟩ := tmod_bd (a := a) h0
  have W : wrap64 (a.tdiv b) = a.tdiv b := IntWalk.wrap64_in _ ⟨by omega, by omega⟩
  have W2 : wrap64 (a.tdiv b * b) = a.tdiv b * b := IntWalk.wrap64_in _ ⟨by omega, by omega⟩
  by_cases hm : a.tmod b = 0
  · have E := Lib.hid (show qf a b = a.tdiv b by simp [qf, hm])
    have hx : a.tdiv b * b = a := by omega
    have hx2 : (a.tdiv b * b == a) = true := by simp [hx]
    clear hmul p q r s
    go_enter Try.func28, Try.ntmps28
    go_wp2
    go_ret
    exact ⟨ret_i64 E.out.symm, rfl⟩
  · have hx : ¬ a.tdiv b * b = a := by omega
    have hx2 : (a.tdiv b * b == a) = false := by simp [hx]
    clear hmul p q r s
    by_cases sa : a < 0 <;> by_cases sb : b < 0
    all_goals
      have E := Lib.hid (show qf a b = if (a < 0 ↔ b < 0) then a.tdiv b else a.tdiv b - 1 by simp only [qf]; split <;> split <;> simp_all)
      go_enter Try.func28, Try.ntmps28
      go_wp2
      go_ret
      exact ⟨ret_i64 (by rw [E.out]; split <;> (try rfl) <;> omega), rfl⟩
theorem nu_move (a b : Int) (ha : -536870912 ≤ a ∧ a < 536870912) (hb : -536870912 ≤ b ∧ b < 536870912) (w : World) :
    Calls Try.prog 27 #[.int .i64 a, .int .i64 b] w fun e w' => e = .returned (.tuple #[.int .i64 (shW a b), .bool (shO b)]) ∧ w = w' := by
  by_cases h1 : -30 ≤ b
  · by_cases h2 : b ≤ 30
    · have E1 := Lib.hid (show shO b = true by simp [shO, h1, h2])
      by_cases h3 : b < 0
      · have E := Lib.hid (show shW a b = a / 2 ^ (-b).toNat by simp [shW, shV, h3, E1.out])
        rw [E.out, E1.out]
        go_enter Try.func27, Try.ntmps27
        go_wp2
        go_ret2
        exact ⟨rfl, rfl⟩
      · have E := Lib.hid (show shW a b = wrap64 (a * 2 ^ b.toNat) by simp [shW, shV, h3, E1.out])
        rw [E.out, E1.out]
        go_enter Try.func27, Try.ntmps27
        go_wp2
        go_ret2
        exact ⟨rfl, rfl⟩
    · have hf : shO b = false := by simp [shO]; omega
      rw [show shW a b = 0 by simp [shW, hf], hf]
      clear hf
      go_enter Try.func27, Try.ntmps27
      go_wp2
      go_ret2
      exact ⟨rfl, rfl⟩
  · have hf : shO b = false := by simp [shO]; omega
    rw [show shW a b = 0 by simp [shW, hf], hf]
    clear hf
    go_enter Try.func27, Try.ntmps27
    go_wp2
    go_ret2
    exact ⟨rfl, rfl⟩
theorem nu_compare (n a b : Int) (hn : 6 ≤ n ∧ n ≤ 11) (w : World) :
    Calls Try.prog 21 #[.int .i64 n, .int .i64 a, .int .i64 b] w fun e w' => e = .returned (.bool (cmpB n a b)) ∧ w = w' := by
  have h : n = 6 ∨ n = 7 ∨ n = 8 ∨ n = 9 ∨ n = 10 ∨ n = 11 := by omega
  rcases h with rfl | rfl | rfl | rfl | rfl | rfl
  all_goals
    go_enter Try.func21, Try.ntmps21
    go_wp2
    go_ret
    exact ⟨ret_bool (by simp [cmpB]; try (first | done | rfl)), rfl⟩
theorem nu_truth (b : Bool) (w : World) :
    Calls Try.prog 20 #[.bool b] w fun e w' => e = .returned (.agg #[.bool true, .int .i64 (tv b)]) ∧ Gr w w' := by
  cases b
  all_goals
    go_enter Try.func20, Try.ntmps20
    go_wp2
    go_returns
    exact ⟨rfl, by repeat' (first | with_reducible exact Gr.refl _ | with_reducible refine Gr.drewN ?_ _ | with_reducible refine Gr.drew ?_ | with_reducible refine Gr.alloc ?_ _ _)⟩
theorem rf_truth (b : Bool) (w : World) :
    Calls Try.prog 24 #[.bool b] w fun e w' => e = .returned (.tuple #[.agg #[.bool true, .int .i64 (tv b)], .bool true]) ∧ Gr w w' := by
  cases b
  all_goals
    go_enter Try.func24, Try.ntmps24
    go_wp2
    go_returns
    exact ⟨rfl, by repeat' (first | with_reducible exact Gr.refl _ | with_reducible refine Gr.drewN ?_ _ | with_reducible refine Gr.drew ?_ | with_reducible refine Gr.alloc ?_ _ _)⟩
end Go.Proofs.Ytbkpioheojaeaaa.Nu
