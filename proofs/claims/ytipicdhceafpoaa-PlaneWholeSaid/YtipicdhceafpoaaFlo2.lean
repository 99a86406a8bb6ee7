/- Floating point: halves and quarters, what is none, infinity. -/
import Derived.Test.YtipicdhceafpoaaPlane3
namespace Go.Proofs.Ytipicdhceafpoaa.Flo
open Ieee
set_option linter.unusedVariables false
theorem rep_scale (k : Nat) (hk : k ≤ 2) (s : Bool) (M : Int) (hs : M ≠ 0 → s = decide (M < 0)) (h : M.natAbs < 1125899906842624) : Rep k (double.write (.number s M.natAbs 0)) (M * 2 ^ k) := by
  show Rep k (double.nearest s M.natAbs 0) _
  by_cases h0 : M = 0
  · subst h0
    have hz : double.nearest s (0 : Int).natAbs 0 = double.word s 0 := by simp [Format.nearest]
    refine ⟨s, 1074 - k, ?_, fun hh => absurd (by simp) hh, by omega⟩
    rw [hz, read_zero, show (1074 - k + k : Nat) = 1074 by omega]; simp
  · have hlog : M.natAbs.log2 < 50 := (Nat.log2_lt (by omega)).2 (by simpa using h)
    have hr := read_nearest s M.natAbs 0 0 (by omega) (by omega) (by omega) (by omega)
    rw [Nat.pow_zero, Nat.mul_one] at hr
    refine ⟨s, 52 - M.natAbs.log2 - k, ?_, fun hh => ?_, by omega⟩
    · rw [hr]
      congr 1
      · rw [natAbs_mul_pow, Nat.mul_assoc, ← Nat.pow_add, show k + (52 - M.natAbs.log2 - k) = 52 - M.natAbs.log2 by omega]
      · omega
    · rw [hs h0]; exact decide_eq_decide.2 mul_pow_neg.symm
theorem rep_int_k (k : Nat) (hk : k ≤ 2) (n : Int) (h : n.natAbs < 1125899906842624) : Rep k (floatOfInt .f64 n) (n * 2 ^ k) :=
  rep_scale k hk (decide (n < 0)) n (fun _ => rfl) h
theorem half_rep : Rep 1 4602678819172646912 1 := ⟨false, 52, by decide, fun _ => rfl, by decide⟩
theorem quarter_rep : Rep 2 4598175219545276416 1 := ⟨false, 52, by decide, fun _ => rfl, by decide⟩
theorem cut_part (neg : Bool) (v b k : Nat) (hv : v ≠ 0) (hk : k ≤ 2) : Toward.zero.cut neg (v * 2 ^ b) (b + k) = v / 2 ^ k := by
  have hl := log2_mul_pow v b hv
  have hg : 1 <<< min (b + k) ((v * 2 ^ b).log2 + 2) = 2 ^ (b + k) := by rw [hl, Nat.min_eq_left (by omega), Nat.one_shiftLeft]
  unfold Toward.cut
  simp only [hg, Bool.toNat_false, Nat.add_zero]
  rw [Nat.add_comm b k, Nat.pow_add]
  exact Nat.mul_div_mul_right _ _ (Nat.two_pow_pos b)
/-- The whole part of a number that is none: another one. -/
theorem part_order {k x : Nat} {N : Int} (hk : k ≤ 2) (h : Rep k x N) (hN : ¬ (2 : Int) ^ k ∣ N) (hb : N.natAbs < 1125899906842624) : (double.order (double.write ((double.read x).integral .zero)) x == some .eq) = false := by
  have h' := h
  obtain ⟨s, b, ex, hs, hb'⟩ := h
  have h0 : N ≠ 0 := fun e => hN (by rw [e]; exact Int.dvd_zero _)
  have e1 : (-((b + k : Nat) : Int)).toNat = 0 := by omega
  have e2 : (- -((b + k : Nat) : Int)).toNat = b + k := by omega
  have ei : (double.read x).integral .zero = .number s (N.natAbs / 2 ^ k) 0 := by
    rw [ex]; simp only [Datum.integral, e1, e2, Nat.shiftLeft_zero]
    rw [cut_part _ _ _ _ (by omega) hk]
  have hq : N.natAbs / 2 ^ k ≤ N.natAbs := Nat.div_le_self _ _
  generalize N.natAbs / 2 ^ k = Q at *
  obtain ⟨M, hM, hMs⟩ : ∃ M : Int, M.natAbs = Q ∧ (M ≠ 0 → s = decide (M < 0)) := by
    rw [hs h0]
    by_cases hn : N < 0
    · exact ⟨-(Q : Int), by omega, fun hh => by simp [hn]; omega⟩
    · exact ⟨(Q : Int), by omega, fun hh => by simp [hn]⟩
  have hlt : M.natAbs < 1125899906842624 := by omega
  have hr := rep_scale k hk s M hMs hlt
  rw [hM] at hr
  rw [ei, rep_order hr h', beq_eq_false_iff_ne]
  intro e
  have e : compare (M * 2 ^ k) N = .eq := by simpa using e
  have : M * 2 ^ k = N := by
    simp only [compare, compareOfLessAndEq] at e
    split at e
    · cases e
    · split at e
      · assumption
      · cases e
  exact hN ⟨M, by rw [← this, Int.mul_comm]⟩
theorem order_nan {x : Nat} {s : Bool} {f : Nat} (h : double.read x = .nan s f) (y : Nat) : double.order x y = none := by
  unfold Format.order; rw [h]; rfl
theorem order_inf {x y : Nat} (h : double.read x = .infinity false) {k : Nat} {N : Int} (hy : Rep k y N) : double.order x y = some .gt := by
  obtain ⟨s, b, ey, _⟩ := hy
  unfold Format.order; rw [h, ey]; rfl
/-- The bits that an operation with no answer leaves: of what is no number. -/
def nanB (w : World) (x y : Nat) : Nat := (Question.nanBits .f64 x y).cut (w.tape w.drawn (.nanBits .f64 x y))
theorem nan_read (w : World) (x y : Nat) : ∃ s f, double.read (nanB w x y) = .nan s f := by
  unfold nanB
  generalize w.tape w.drawn (.nanBits .f64 x y) = t
  have e : (Question.nanBits .f64 x y).cut t = (t % 2) * 9223372036854775808 + 9218868437227405312 + 1 + (t / 2) % 4503599627370495 := rfl
  rw [e]
  have h1 := Nat.mod_lt (t / 2) (show 0 < 4503599627370495 by decide)
  have h2 := Nat.mod_lt t (show 0 < 2 by decide)
  generalize t / 2 % 4503599627370495 = r at *
  generalize t % 2 = q at *
  unfold Format.read
  simp only [sw, bn, ir]
  have hm : (q * 9223372036854775808 + 9218868437227405312 + 1 + r) % 9223372036854775808 = 9218868437227405312 + 1 + r := by omega
  rw [hm, if_neg (by omega), if_neg (by omega), if_neg (by omega)]
  exact ⟨_, _, rfl⟩
theorem run_nan {P : Program} (w : World) (op : BinOp) (x y : Nat) (hop : op = .add ∨ op = .quo) (h : floatBits op .f64 x y = none) : (Op.floatArith op .f64 x y).run P w = .ok (.float .f64 (nanB w x y)) w.drew := by
  have hf : (Question.nanBits .f64 x y).forced = false := rfl
  unfold floatBits at h
  rcases hop with rfl | rfl <;> simp only at h <;> simp [Op.floatArith, h, hf, nanB]
end Go.Proofs.Ytipicdhceafpoaa.Flo
