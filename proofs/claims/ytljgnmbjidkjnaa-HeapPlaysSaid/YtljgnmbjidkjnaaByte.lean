/- Bytes of an object, fields that it has none of, its hash, and that it goes: package heap. -/
import Derived.Test.YtljgnmbjidkjnaaWalk05
namespace Go.Proofs.Ytljgnmbjidkjnaa.Hp
open Go.Proofs.Ytljgnmbjidkjnaa.Gen Go.Proofs.Ytljgnmbjidkjnaa.Base Go.Proofs.Ytljgnmbjidkjnaa.Fr Go.ChangeShapes Go.WideShapes Go.ChangeAt Go.RowKit
set_option linter.unusedVariables false
/-- A byte of a word. -/
def byt (c : Nat) (x : Int) : Int := x / (256 ^ c : Nat) % 256
/-- A word in which a byte is another one. -/
def setb (c : Nat) (x v : Int) : Int := x / (256 ^ (c + 1) : Nat) * (256 ^ (c + 1) : Nat) + v % 256 * (256 ^ c : Nat) + x % (256 ^ c : Nat)
theorem setb_bd (c : Nat) (hc : c < 4) (x v : Int) (h0 : 0 ≤ x) (h1 : x ≤ 4294967295) : 0 ≤ setb c x v ∧ setb c x v ≤ 4294967295 := by
  have hc' : c = 0 ∨ c = 1 ∨ c = 2 ∨ c = 3 := by omega
  rcases hc' with rfl | rfl | rfl | rfl <;> simp only [setb, Nat.reduceAdd, Nat.reducePow] <;> omega
theorem byt_setb (c d : Nat) (hc : c < 4) (hd : d < 4) (x v : Int) (h0 : 0 ≤ x) (h1 : x ≤ 4294967295) : byt d (setb c x v) = if d = c then v % 256 else byt d x := by
  have hc' : c = 0 ∨ c = 1 ∨ c = 2 ∨ c = 3 := by omega
  have hd' : d = 0 ∨ d = 1 ∨ d = 2 ∨ d = 3 := by omega
  rcases hc' with rfl | rfl | rfl | rfl <;> rcases hd' with rfl | rfl | rfl | rfl <;> simp only [setb, byt, Nat.reduceAdd, Nat.reducePow, Nat.reduceEqDiff, if_true, if_false, reduceIte] <;> omega
theorem or_mid (s h b lo : Nat) (hl : lo < 2 ^ s) (hb : b < 256) : (h * 2 ^ (s + 8) + lo) ||| (b * 2 ^ s) = h * 2 ^ (s + 8) + b * 2 ^ s + lo := by
  have e8 : (2 : Nat) ^ (s + 8) = 2 ^ s * 256 := by rw [Nat.pow_add]
  have hlt : b * 2 ^ s + lo < 2 ^ (s + 8) := by
    rw [e8]
    have : b * 2 ^ s ≤ 255 * 2 ^ s := Nat.mul_le_mul_right _ (by omega)
    omega
  have hlt2 : lo < 2 ^ (s + 8) := by omega
  have e1 : (h * 2 ^ (s + 8)) ||| lo = h * 2 ^ (s + 8) + lo := nat_join (s + 8) _ _ (by simp) hlt2
  have e2 : (b * 2 ^ s) ||| lo = b * 2 ^ s + lo := nat_join s _ _ (by simp) hl
  have e3 : (h * 2 ^ (s + 8)) ||| (b * 2 ^ s + lo) = h * 2 ^ (s + 8) + (b * 2 ^ s + lo) := nat_join (s + 8) _ _ (by simp) hlt
  rw [← e1, Nat.or_assoc, Nat.or_comm lo, e2, e3]; omega
theorem cut_byte (c : Nat) (hc : c < 4) (x : Int) (h0 : 0 ≤ x) (h1 : x ≤ 4294967295) : bits .andNot .u32 x ((255 * 256 ^ c : Nat) : Int) = x / (256 ^ (c + 1) : Nat) * (256 ^ (c + 1) : Nat) + x % (256 ^ c : Nat) := by
  have hc' : c = 0 ∨ c = 1 ∨ c = 2 ∨ c = 3 := by omega
  obtain ⟨n, rfl⟩ := Int.eq_ofNat_of_zero_le h0
  rcases hc' with rfl | rfl | rfl | rfl
  · rw [Hd.cut_u32 0 8 24 _ _ (by decide) (by decide) (by decide) h0 (by omega) (by simp; omega)]; simp only [Nat.reduceAdd, Nat.reducePow]; omega
  · rw [Hd.cut_u32 8 8 16 _ _ (by decide) (by decide) (by decide) h0 (by omega) (by simp; omega)]; simp only [Nat.reduceAdd, Nat.reducePow]; omega
  · rw [Hd.cut_u32 16 8 8 _ _ (by decide) (by decide) (by decide) h0 (by omega) (by simp; omega)]; simp only [Nat.reduceAdd, Nat.reducePow]; omega
  · rw [Hd.cut_u32 24 8 0 _ _ (by decide) (by decide) (by decide) h0 (by omega) (by simp; omega)]; simp only [Nat.reduceAdd, Nat.reducePow]; omega
theorem or_byte (c : Nat) (hc : c < 4) (x v : Int) (h0 : 0 ≤ x) (h1 : x ≤ 4294967295) : bits .or .u32 (x / (256 ^ (c + 1) : Nat) * (256 ^ (c + 1) : Nat) + x % (256 ^ c : Nat)) (v % 256 * (256 ^ c : Nat)) = setb c x v := by
  obtain ⟨n, rfl⟩ := Int.eq_ofNat_of_zero_le h0
  obtain ⟨b, hb⟩ := Int.eq_ofNat_of_zero_le (show 0 ≤ v % 256 by omega)
  have hb2 : b < 256 := by omega
  unfold setb
  rw [hb]
  have hc' : c = 0 ∨ c = 1 ∨ c = 2 ∨ c = 3 := by omega
  rcases hc' with rfl | rfl | rfl | rfl <;> simp only [Nat.reduceAdd, Nat.reducePow] <;>
  · rw [u32_or _ _ (by omega) (by omega) (by omega) (by omega)]
    first
      | (have := or_mid 0 (n / 256) b 0 (by omega) hb2; simp only [Nat.reduceAdd, Nat.reducePow] at this; rw [show ((n : Int) / ((256 : Nat) : Int) * ((256 : Nat) : Int) + (n : Int) % ((1 : Nat) : Int)).toNat = n / 256 * 256 + 0 by omega, show ((b : Int) * ((1 : Nat) : Int)).toNat = b * 1 by omega, this]; omega)
      | (have := or_mid 8 (n / 65536) b (n % 256) (by omega) hb2; simp only [Nat.reduceAdd, Nat.reducePow] at this; rw [show ((n : Int) / ((65536 : Nat) : Int) * ((65536 : Nat) : Int) + (n : Int) % ((256 : Nat) : Int)).toNat = n / 65536 * 65536 + n % 256 by omega, show ((b : Int) * ((256 : Nat) : Int)).toNat = b * 256 by omega, this]; omega)
      | (have := or_mid 16 (n / 16777216) b (n % 65536) (by omega) hb2; simp only [Nat.reduceAdd, Nat.reducePow] at this; rw [show ((n : Int) / ((16777216 : Nat) : Int) * ((16777216 : Nat) : Int) + (n : Int) % ((65536 : Nat) : Int)).toNat = n / 16777216 * 16777216 + n % 65536 by omega, show ((b : Int) * ((65536 : Nat) : Int)).toNat = b * 65536 by omega, this]; omega)
      | (have := or_mid 24 (n / 4294967296) b (n % 16777216) (by omega) hb2; simp only [Nat.reduceAdd, Nat.reducePow] at this; rw [show ((n : Int) / ((4294967296 : Nat) : Int) * ((4294967296 : Nat) : Int) + (n : Int) % ((16777216 : Nat) : Int)).toNat = n / 4294967296 * 4294967296 + n % 16777216 by omega, show ((b : Int) * ((16777216 : Nat) : Int)).toNat = b * 16777216 by omega, this]; omega)
end Go.Proofs.Ytljgnmbjidkjnaa.Hp
