/- What the laws of numbers need of the primitives: when there is none, and what there is. -/
import Derived.Test.YtbkpioheojaeaaaNum4
namespace Go.Proofs.Ytbkpioheojaeaaa.Nu
open Go.Proofs.Ytbkpioheojaeaaa.Gen Go.Proofs.Ytbkpioheojaeaaa.Base Go.ChangeShapes Go.WideShapes Go.ChangeAt Go.RowKit
set_option linter.unusedVariables false
theorem fit_t {v : Int} (h : -536870912 ≤ v ∧ v < 536870912) : fit v = true := fit_iff.2 h
theorem nu_none (n a b : Int) (h : opK n a b = false) (w : World) :
    Calls Try.prog 8 #[.int .i64 n, .int .i64 a, .int .i64 b] w fun e w' => e = .returned (.tuple #[.agg #[.bool false, .int .i64 0], .bool false]) ∧ Gr w w' := by
  have h1 : opO n a b = false := by
    unfold opK at h; unfold opO
    cases ea : fit a <;> cases eb : fit b <;> cases ec : opC n <;> simp_all
  have h2 : opN n a b = 0 := by
    unfold opK at h; unfold opN
    cases ea : fit a <;> cases eb : fit b <;> cases ec : opC n <;> simp_all
  have c := nu_Op n a b w
  rw [h, h1, h2] at c; exact c
theorem nu_num (n a b v : Int) (ha : -536870912 ≤ a ∧ a < 536870912) (hb : -536870912 ≤ b ∧ b < 536870912) (hc : opC n = false) (ho : rkO n b = true) (hv : rkV n a b = v) (hf : -536870912 ≤ v ∧ v < 536870912) (w : World) :
    Calls Try.prog 8 #[.int .i64 n, .int .i64 a, .int .i64 b] w fun e w' => e = .returned (.tuple #[.agg #[.bool false, .int .i64 v], .bool true]) ∧ Gr w w' := by
  have c := nu_Op n a b w
  rw [show opO n a b = false by simp [opO, hc], show opN n a b = v by simp [opN, hc, fit_t ha, fit_t hb, ho, hv, fit_t hf], show opK n a b = true by simp [opK, fit_t ha, fit_t hb, ho, hv, fit_t hf]] at c
  exact c
theorem nu_cmp (n a b : Int) (ha : -536870912 ≤ a ∧ a < 536870912) (hb : -536870912 ≤ b ∧ b < 536870912) (hc : opC n = true) (w : World) :
    Calls Try.prog 8 #[.int .i64 n, .int .i64 a, .int .i64 b] w fun e w' => e = .returned (.tuple #[.agg #[.bool true, .int .i64 (tv (cmpB n a b))], .bool true]) ∧ Gr w w' := by
  have c := nu_Op n a b w
  rw [show opO n a b = true by simp [opO, hc, fit_t ha, fit_t hb], show opN n a b = tv (cmpB n a b) by simp [opN, hc, fit_t ha, fit_t hb], show opK n a b = true by simp [opK, fit_t ha, fit_t hb, hc]] at c
  exact c
theorem k_fa {n a b : Int} (h : ¬ (-536870912 ≤ a ∧ a < 536870912)) : opK n a b = false := by simp [opK, fit_f h]
theorem k_fb {n a b : Int} (h : ¬ (-536870912 ≤ b ∧ b < 536870912)) : opK n a b = false := by simp [opK, fit_f h]
theorem k_n {n a b : Int} (h : n < 1 ∨ 15 < n) : opK n a b = false := by
  have h1 : opC n = false := by simp [opC]; omega
  have h2 : rkO n b = false := by unfold rkO; rw [if_neg (by omega), if_neg (by omega), if_neg (by omega)]
  simp [opK, h1, h2]
theorem k_v {n a b : Int} (hc : opC n = false) (h : ¬ (-536870912 ≤ rkV n a b ∧ rkV n a b < 536870912)) : opK n a b = false := by simp [opK, hc, fit_f h]
theorem k_o {n a b : Int} (hc : opC n = false) (h : rkO n b = false) : opK n a b = false := by simp [opK, hc, h]
theorem k_sum {a b : Int} (h : ¬ (-536870912 ≤ a + b ∧ a + b < 536870912)) : opK 1 a b = false := k_v rfl (by simpa [rkV] using h)
theorem k_dif {a b : Int} (h : ¬ (-536870912 ≤ a - b ∧ a - b < 536870912)) : opK 2 a b = false := k_v rfl (by simpa [rkV] using h)
theorem pow_bd {n : Int} (h0 : 0 ≤ n) (h1 : n ≤ 30) : 1 ≤ (2 : Int) ^ n.toNat ∧ (2 : Int) ^ n.toNat ≤ 1073741824 := by
  have hp : (2 : Nat) ^ n.toNat ≤ 2 ^ 30 := Nat.pow_le_pow_right (by decide) (by omega)
  have hq : 0 < (2 : Nat) ^ n.toNat := Nat.two_pow_pos _
  have e : (2 : Int) ^ n.toNat = ((2 ^ n.toNat : Nat) : Int) := by rw [Int.natCast_pow]; rfl
  rw [e]; omega
theorem shl_bd {x n : Int} (x0 : 0 ≤ x) (x1 : x < 1000) (h0 : 0 ≤ n) (h1 : n ≤ 30) : 0 ≤ x * 2 ^ n.toNat ∧ x * 2 ^ n.toNat ≤ 1073741824000 := by
  obtain ⟨p0, p1⟩ := pow_bd h0 h1
  generalize (2 : Int) ^ n.toNat = p at *
  constructor
  · exact Int.mul_nonneg x0 (by omega)
  · have := Int.mul_le_mul (show x ≤ 1000 by omega) p1 (by omega) (by omega : (0 : Int) ≤ 1000); omega
theorem shV_up {x n : Int} (x0 : 0 ≤ x) (x1 : x < 1000) (h0 : 0 ≤ n) (h1 : n ≤ 30) : shV x n = x * 2 ^ n.toNat := by
  have := shl_bd x0 x1 h0 h1
  unfold shV; rw [if_neg (by omega), IntWalk.wrap64_in _ ⟨by omega, by omega⟩]
theorem shV_back {x n : Int} (x0 : 0 ≤ x) (x1 : x < 1000) (h0 : 0 ≤ n) (h1 : n ≤ 30) : shV (x * 2 ^ n.toNat) (-n) = x := by
  obtain ⟨p0, p1⟩ := pow_bd h0 h1
  by_cases hn : n = 0
  · subst hn; unfold shV; rw [if_neg (by omega)]
    simp [wrap64]; omega
  · unfold shV; rw [if_pos (by omega), Int.neg_neg]
    exact Int.mul_ediv_cancel _ (by omega)
end Go.Proofs.Ytbkpioheojaeaaa.Nu
