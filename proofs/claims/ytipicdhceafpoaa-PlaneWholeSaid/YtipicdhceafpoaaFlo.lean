/- Floating point numbers that are whole, or quarters: what their words say, and that sums, differences and products of small ones are exact. -/
import Derived.Test.YtipicdhceafpoaaRows
import Derived.WalkKit
import Derived.WalkLawsBesides
namespace Go.Proofs.Ytipicdhceafpoaa.Flo
open Ieee
set_option linter.unusedVariables false

theorem lp : double.leastPlace = -1074 := by decide
theorem bn : double.binade = 4503599627370496 := by decide
theorem ir : double.infRung = 9218868437227405312 := by decide
theorem sw : double.signWeight = 9223372036854775808 := by decide

theorem log2_mul_pow (v t : Nat) (h : v ≠ 0) : (v * 2 ^ t).log2 = v.log2 + t := by
  rw [Nat.log2_eq_iff (by have := Nat.two_pow_pos t; exact Nat.mul_ne_zero h (by omega))]
  have h1 := Nat.log2_self_le h
  have h2 := Nat.lt_log2_self (n := v)
  have hp := Nat.two_pow_pos t
  constructor
  · rw [Nat.pow_add]; exact Nat.mul_le_mul_right _ h1
  · rw [show v.log2 + t + 1 = v.log2 + 1 + t by omega, Nat.pow_add]; exact Nat.mul_lt_mul_of_pos_right h2 hp

theorem cut_exact (neg : Bool) (way : Toward) (q d : Nat) (h : q ≠ 0) : way.cut neg (q * 2 ^ d) d = q := by
  have hl := log2_mul_pow q d h
  have hp := Nat.two_pow_pos d
  have hg : 1 <<< min d ((q * 2 ^ d).log2 + 2) = 2 ^ d := by rw [hl, Nat.min_eq_left (by omega), Nat.one_shiftLeft]
  have h1 : q * 2 ^ d / 2 ^ d = q := Nat.mul_div_cancel _ hp
  have h2 : q * 2 ^ d % 2 ^ d = 0 := Nat.mul_mod_left _ _
  unfold Toward.cut
  simp only [hg, h1, h2]
  cases way <;> simp <;> omega

/-- The word nearest to v * 2^t * 2^place, v having at most 53 digits. -/
theorem read_nearest (neg : Bool) (v t : Nat) (place : Int) (h0 : v ≠ 0) (h1 : v < 9007199254740992) (hl : -1022 ≤ place + t) (hh : place + t ≤ 900) :
    double.read (double.nearest neg (v * 2 ^ t) place) = .number neg (v * 2 ^ (52 - v.log2)) (place + t - ((52 - v.log2 : Nat) : Int)) := by
  have hlog : v.log2 ≤ 52 := by
    have := (Nat.log2_lt h0 (k := 53)).2 (by simpa using h1); omega
  have hL := log2_mul_pow v t h0
  have hp := Nat.two_pow_pos t
  have hne : ¬ v * 2 ^ t = 0 := Nat.mul_ne_zero h0 (by omega)
  have hs := Nat.log2_self_le h0
  have hs2 := Nat.lt_log2_self (n := v)
  have k1 : 4503599627370496 ≤ v * 2 ^ (52 - v.log2) := by
    have : 2 ^ v.log2 * 2 ^ (52 - v.log2) ≤ v * 2 ^ (52 - v.log2) := Nat.mul_le_mul_right _ hs
    rw [← Nat.pow_add, show v.log2 + (52 - v.log2) = 52 by omega] at this; simpa using this
  have k2 : v * 2 ^ (52 - v.log2) < 9007199254740992 := by
    have : v * 2 ^ (52 - v.log2) < 2 ^ (v.log2 + 1) * 2 ^ (52 - v.log2) := Nat.mul_lt_mul_of_pos_right hs2 (Nat.two_pow_pos _)
    rw [← Nat.pow_add, show v.log2 + 1 + (52 - v.log2) = 53 by omega] at this; simpa using this
  have hlast : max (place + ((v * 2 ^ t).log2 : Nat) - (double.fractionBits : Nat)) double.leastPlace = place + t - ((52 - v.log2 : Nat) : Int) := by
    rw [hL, lp]; show max (place + ((v.log2 + t : Nat) : Int) - 52) (-1074) = _
    omega
  have hkept : Toward.even.cut neg ((v * 2 ^ t) <<< (place - (place + t - ((52 - v.log2 : Nat) : Int))).toNat) ((place + t - ((52 - v.log2 : Nat) : Int)) - place).toNat = v * 2 ^ (52 - v.log2) := by
    by_cases hc : t ≤ 52 - v.log2
    · rw [show ((place + t - ((52 - v.log2 : Nat) : Int)) - place).toNat = 0 by omega, show (place - (place + t - ((52 - v.log2 : Nat) : Int))).toNat = 52 - v.log2 - t by omega, Nat.shiftLeft_eq, Nat.mul_assoc, ← Nat.pow_add, show t + (52 - v.log2 - t) = 52 - v.log2 by omega]
      have := cut_exact neg .even (v * 2 ^ (52 - v.log2)) 0 (by omega)
      simpa using this
    · rw [show ((place + t - ((52 - v.log2 : Nat) : Int)) - place).toNat = t - (52 - v.log2) by omega, show (place - (place + t - ((52 - v.log2 : Nat) : Int))).toNat = 0 by omega, Nat.shiftLeft_zero]
      have := cut_exact neg .even (v * 2 ^ (52 - v.log2)) (t - (52 - v.log2)) (by omega)
      rw [Nat.mul_assoc, ← Nat.pow_add, show 52 - v.log2 + (t - (52 - v.log2)) = t by omega] at this
      exact this
  have hnear : double.nearest neg (v * 2 ^ t) place = double.word neg (((place + t - ((52 - v.log2 : Nat) : Int)) + 1074).toNat * 4503599627370496 + v * 2 ^ (52 - v.log2)) := by
    unfold Format.nearest
    rw [if_neg hne]
    dsimp only
    rw [hlast, hkept, lp, bn, ir]
    rw [Nat.min_eq_left (by omega)]
    congr 3
  rw [hnear]
  generalize hK : v * 2 ^ (52 - v.log2) = K at *
  generalize hP : (52 - v.log2 : Nat) = P at *
  have hR : ((place + t - (P : Int)) + 1074).toNat ≤ 2000 := by omega
  have hR0 : 0 ≤ (place + t - (P : Int)) + 1074 := by omega
  generalize hr : ((place + t - (P : Int)) + 1074).toNat = R at *
  have hw : double.word neg (R * 4503599627370496 + K) % 9223372036854775808 = R * 4503599627370496 + K := by
    unfold Format.word; rw [sw]; split <;> omega
  have hn : (double.word neg (R * 4503599627370496 + K) / 9223372036854775808 % 2 == 1) = neg := by
    unfold Format.word; rw [sw]; cases neg <;> simp <;> omega
  unfold Format.read
  simp only [sw, bn, ir, lp, hw, hn]
  rw [if_neg (by omega), if_pos (by omega)]
  congr 1 <;> omega
theorem read_zero (neg : Bool) : double.read (double.word neg 0) = .number neg 0 (-1074) := by cases neg <;> decide

/-- A word that is the number N in units of 2^-k. -/
def Rep (k : Nat) (x : Nat) (N : Int) : Prop := ∃ (s : Bool) (b : Nat), double.read x = .number s (N.natAbs * 2 ^ b) (-((b + k : Nat) : Int)) ∧ (N ≠ 0 → s = decide (N < 0)) ∧ b ≤ 1074

theorem rep_write (k : Nat) (hk : k ≤ 900) (s : Bool) (N : Int) (T : Nat) (hT : T ≤ 10000) (hs : N ≠ 0 → s = decide (N < 0)) (hN : N.natAbs < 9007199254740992) :
    Rep k (double.write (.number s (N.natAbs * 2 ^ T) (-((T + k : Nat) : Int)))) N := by
  unfold Format.write
  by_cases h0 : N = 0
  · subst h0
    have hz : double.nearest s ((0 : Int).natAbs * 2 ^ T) (-((T + k : Nat) : Int)) = double.word s 0 := by simp [Format.nearest]
    refine ⟨s, 1074 - k, ?_, fun h => absurd rfl h, by omega⟩
    show double.read (double.nearest s ((0 : Int).natAbs * 2 ^ T) _) = _
    rw [hz, read_zero, Int.natAbs_zero, Nat.zero_mul, show (1074 - k + k : Nat) = 1074 by omega]; rfl
  · refine ⟨s, 52 - N.natAbs.log2, ?_, hs, by omega⟩
    show double.read (double.nearest s _ _) = _
    rw [read_nearest s N.natAbs T _ (by omega) hN (by omega) (by omega)]
    congr 1; omega

theorem rep_int (n : Int) (h : n.natAbs < 9007199254740992) : Rep 0 (floatOfInt .f64 n) n := by
  have := rep_write 0 (by decide) (decide (n < 0)) n 0 (by decide) (fun _ => rfl) h
  have e : floatOfInt .f64 n = double.write (.number (decide (n < 0)) n.natAbs 0) := rfl
  rw [e]; simpa using this

theorem signed_eq {s : Bool} {N : Int} (hs : N ≠ 0 → s = decide (N < 0)) (b u : Nat) : signed s (N.natAbs * 2 ^ b) u = N * 2 ^ (b + u) := by
  unfold signed
  rw [Nat.shiftLeft_eq, Nat.mul_assoc, ← Nat.pow_add]
  by_cases h0 : N = 0
  · subst h0; simp
  · rw [hs h0]
    by_cases hn : N < 0
    · simp only [hn, decide_true, if_true]
      rw [Int.natCast_mul, Int.natCast_pow, show ((N.natAbs : Nat) : Int) = -N by omega, Int.neg_mul, Int.neg_neg]; rfl
    · simp only [hn, decide_false, Bool.false_eq_true, if_false]
      rw [Int.natCast_mul, Int.natCast_pow, show ((N.natAbs : Nat) : Int) = N by omega]; rfl

theorem pow_pos' (n : Nat) : (0 : Int) < 2 ^ n := Int.pow_pos (by decide)
theorem natAbs_mul_pow (N : Int) (n : Nat) : (N * 2 ^ n).natAbs = N.natAbs * 2 ^ n := by
  rw [Int.natAbs_mul, Int.natAbs_pow]; rfl
theorem mul_pow_neg {N : Int} {n : Nat} : N * 2 ^ n < 0 ↔ N < 0 := by
  have := pow_pos' n
  constructor
  · intro h
    rcases Int.lt_or_le N 0 with h1 | h1
    · exact h1
    · have := Int.mul_nonneg h1 (Int.le_of_lt this); omega
  · intro h; exact Int.mul_neg_of_neg_of_pos h this
theorem mul_pow_zero {N : Int} {n : Nat} : N * 2 ^ n = 0 ↔ N = 0 := by
  have := pow_pos' n
  constructor
  · intro h; rcases Int.mul_eq_zero.1 h with h | h <;> omega
  · rintro rfl; simp

theorem rep_add {k x y : Nat} {M N : Int} (hk : k ≤ 900) (hx : Rep k x M) (hy : Rep k y N) (h : (M + N).natAbs < 9007199254740992) : ∃ r, double.add x y = some r ∧ Rep k r (M + N) := by
  obtain ⟨s, b, ex, hs, hb⟩ := hx
  obtain ⟨t, c, ey, ht, hc⟩ := hy
  have hbase : min (-((b + k : Nat) : Int)) (-((c + k : Nat) : Int)) = -((max b c + k : Nat) : Int) := by omega
  have e1 : (-((b + k : Nat) : Int) - -((max b c + k : Nat) : Int)).toNat = max b c - b := by omega
  have e2 : (-((c + k : Nat) : Int) - -((max b c + k : Nat) : Int)).toNat = max b c - c := by omega
  have et : M * 2 ^ (b + (max b c - b)) + N * 2 ^ (c + (max b c - c)) = (M + N) * 2 ^ (max b c) := by
    rw [show b + (max b c - b) = max b c by omega, show c + (max b c - c) = max b c by omega, Int.add_mul]
  have hr : double.add x y = some (double.write (.number (if (M + N) * 2 ^ (max b c) = 0 then s && t else decide ((M + N) * 2 ^ (max b c) < 0)) ((M + N).natAbs * 2 ^ (max b c)) (-((max b c + k : Nat) : Int)))) := by
    unfold Format.add
    rw [ex, ey]
    simp only [Datum.sum, hbase, e1, e2, signed_eq hs, signed_eq ht, et, natAbs_mul_pow, Option.map_some]
  refine ⟨_, hr, rep_write k hk _ (M + N) _ (by omega) (fun h0 => ?_) h⟩
  rw [if_neg (by rw [mul_pow_zero]; exact h0)]
  exact decide_eq_decide.2 mul_pow_neg

theorem read_opp {k y : Nat} {N : Int} (hy : Rep k y N) : ∃ (s : Bool) (b : Nat), (double.read y).opposite = .number s ((-N).natAbs * 2 ^ b) (-((b + k : Nat) : Int)) ∧ (-N ≠ 0 → s = decide (-N < 0)) ∧ b ≤ 1074 := by
  obtain ⟨t, c, ey, ht, hc⟩ := hy
  refine ⟨!t, c, by rw [ey]; simp [Datum.opposite], fun h => ?_, hc⟩
  rw [ht (by omega)]
  by_cases hn : N < 0
  · simp [hn]; omega
  · simp [hn]; omega

theorem rep_sub {k x y : Nat} {M N : Int} (hk : k ≤ 900) (hx : Rep k x M) (hy : Rep k y N) (h : (M - N).natAbs < 9007199254740992) : ∃ r, double.sub x y = some r ∧ Rep k r (M - N) := by
  obtain ⟨s, b, ex, hs, hb⟩ := hx
  obtain ⟨t, c, ey, ht, hc⟩ := read_opp hy
  have hbase : min (-((b + k : Nat) : Int)) (-((c + k : Nat) : Int)) = -((max b c + k : Nat) : Int) := by omega
  have e1 : (-((b + k : Nat) : Int) - -((max b c + k : Nat) : Int)).toNat = max b c - b := by omega
  have e2 : (-((c + k : Nat) : Int) - -((max b c + k : Nat) : Int)).toNat = max b c - c := by omega
  have et : M * 2 ^ (b + (max b c - b)) + -N * 2 ^ (c + (max b c - c)) = (M - N) * 2 ^ (max b c) := by
    rw [show b + (max b c - b) = max b c by omega, show c + (max b c - c) = max b c by omega, ← Int.add_mul, Int.sub_eq_add_neg]
  have hr : double.sub x y = some (double.write (.number (if (M - N) * 2 ^ (max b c) = 0 then s && t else decide ((M - N) * 2 ^ (max b c) < 0)) ((M - N).natAbs * 2 ^ (max b c)) (-((max b c + k : Nat) : Int)))) := by
    unfold Format.sub
    rw [ex, ey]
    simp only [Datum.sum, hbase, e1, e2, signed_eq hs, signed_eq ht, et, natAbs_mul_pow, Option.map_some]
  refine ⟨_, hr, rep_write k hk _ (M - N) _ (by omega) (fun h0 => ?_) h⟩
  rw [if_neg (by rw [mul_pow_zero]; exact h0)]
  exact decide_eq_decide.2 mul_pow_neg

theorem rep_mul {x y : Nat} {M N : Int} (hx : Rep 0 x M) (hy : Rep 0 y N) (h : (M * N).natAbs < 9007199254740992) : ∃ r, double.mul x y = some r ∧ Rep 0 r (M * N) := by
  obtain ⟨s, b, ex, hs, hb⟩ := hx
  obtain ⟨t, c, ey, ht, hc⟩ := hy
  have hr : double.mul x y = some (double.write (.number (s ^^ t) ((M * N).natAbs * 2 ^ (b + c)) (-((b + c + 0 : Nat) : Int)))) := by
    unfold Format.mul
    rw [ex, ey]
    simp only [Datum.product, Option.map_some]
    congr 3
    · rw [Int.natAbs_mul, Nat.pow_add]; simp only [Nat.mul_assoc, Nat.mul_left_comm]
    · omega
  refine ⟨_, hr, rep_write 0 (by decide) _ (M * N) _ (by omega) (fun h0 => ?_) h⟩
  have hM : M ≠ 0 := fun e => h0 (by rw [e, Int.zero_mul])
  have hN : N ≠ 0 := fun e => h0 (by rw [e, Int.mul_zero])
  rw [hs hM, ht hN]
  by_cases a : M < 0 <;> by_cases c : N < 0
  · have := Int.mul_pos_of_neg_of_neg a c; simp [a, c]; omega
  · have := Int.mul_neg_of_neg_of_pos a (by omega : 0 < N); simp [a, c, this]
  · have := Int.mul_neg_of_pos_of_neg (by omega : 0 < M) c; simp [a, c, this]
  · have := Int.mul_pos (by omega : 0 < M) (by omega : 0 < N); simp [a, c]; omega

theorem cmp_mul_pow (M N : Int) (n : Nat) : compare (M * 2 ^ n) (N * 2 ^ n) = compare M N := by
  have hp := pow_pos' n
  simp only [compare, compareOfLessAndEq, Int.mul_lt_mul_right hp]
  split
  · rfl
  · have : (M * 2 ^ n = N * 2 ^ n) ↔ M = N := Int.mul_eq_mul_right_iff (by omega)
    simp only [this]
theorem rep_order {k x y : Nat} {M N : Int} (hx : Rep k x M) (hy : Rep k y N) : double.order x y = some (compare M N) := by
  obtain ⟨s, b, ex, hs, hb⟩ := hx
  obtain ⟨t, c, ey, ht, hc⟩ := hy
  have hbase : min (-((b + k : Nat) : Int)) (-((c + k : Nat) : Int)) = -((max b c + k : Nat) : Int) := by omega
  have e1 : (-((b + k : Nat) : Int) - -((max b c + k : Nat) : Int)).toNat = max b c - b := by omega
  have e2 : (-((c + k : Nat) : Int) - -((max b c + k : Nat) : Int)).toNat = max b c - c := by omega
  unfold Format.order
  rw [ex, ey]
  simp only [Datum.order, hbase, e1, e2, signed_eq hs, signed_eq ht]
  rw [show b + (max b c - b) = max b c by omega, show c + (max b c - c) = max b c by omega, cmp_mul_pow]

theorem rep_trunc {x : Nat} {N : Int} (hx : Rep 0 x N) : ∃ s, (double.read x).integral .zero = .number s N.natAbs 0 ∧ (N ≠ 0 → s = decide (N < 0)) := by
  obtain ⟨s, b, ex, hs, hb⟩ := hx
  refine ⟨s, ?_, hs⟩
  rw [ex]
  have e1 : (-((b + 0 : Nat) : Int)).toNat = 0 := by omega
  have e2 : (- -((b + 0 : Nat) : Int)).toNat = b := by omega
  simp only [Datum.integral, e1, e2, Nat.shiftLeft_zero]
  by_cases h0 : N = 0
  · subst h0; simp [Toward.cut]
  · rw [cut_exact _ _ _ _ (by omega)]
theorem rep_toInt {x : Nat} {N : Int} (hx : Rep 0 x N) : (double.read x).toInt .zero = some N := by
  obtain ⟨s, e, hs⟩ := rep_trunc hx
  unfold Datum.toInt
  rw [e]
  have := signed_eq hs 0 0
  simpa using this
theorem rep_wr_trunc {x : Nat} {N : Int} (hx : Rep 0 x N) (h : N.natAbs < 9007199254740992) : Rep 0 (double.write ((double.read x).integral .zero)) N := by
  obtain ⟨s, e, hs⟩ := rep_trunc hx
  rw [e]
  have := rep_write 0 (by decide) s N 0 (by decide) hs h
  simpa using this
end Go.Proofs.Ytipicdhceafpoaa.Flo
