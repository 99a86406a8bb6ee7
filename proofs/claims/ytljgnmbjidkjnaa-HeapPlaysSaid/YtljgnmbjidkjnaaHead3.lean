/- A first word without one of its fields: plain arithmetic. -/
import Derived.Test.YtljgnmbjidkjnaaHead2
namespace Go.Proofs.Ytljgnmbjidkjnaa.Hd
open Go.Proofs.Ytljgnmbjidkjnaa.Gen Go.Proofs.Ytljgnmbjidkjnaa.Base
set_option linter.unusedVariables false
theorem and_split (k x y : Nat) : x &&& y = 2 ^ k * ((x / 2 ^ k) &&& (y / 2 ^ k)) + ((x % 2 ^ k) &&& (y % 2 ^ k)) := by
  have h := Nat.div_add_mod (x &&& y) (2 ^ k)
  rw [Nat.and_div_two_pow, Nat.and_mod_two_pow] at h
  exact h.symm
theorem cut_nat (i j r x : Nat) (hx : x / 2 ^ i / 2 ^ j < 2 ^ r) : x &&& (2 ^ i * (2 ^ j * (2 ^ r - 1)) + (2 ^ i - 1)) = 2 ^ i * (2 ^ j * (x / 2 ^ i / 2 ^ j)) + x % 2 ^ i := by
  have pi : 0 < 2 ^ i := Nat.two_pow_pos i
  have pj : 0 < 2 ^ j := Nat.two_pow_pos j
  have e1 : (2 ^ i * (2 ^ j * (2 ^ r - 1)) + (2 ^ i - 1)) / 2 ^ i = 2 ^ j * (2 ^ r - 1) := by
    rw [Nat.mul_add_div pi, Nat.div_eq_of_lt (by omega)]; simp
  have e2 : (2 ^ i * (2 ^ j * (2 ^ r - 1)) + (2 ^ i - 1)) % 2 ^ i = 2 ^ i - 1 := by
    rw [Nat.mul_add_mod, Nat.mod_eq_of_lt (by omega)]
  have e3 : (2 ^ j * (2 ^ r - 1)) / 2 ^ j = 2 ^ r - 1 := Nat.mul_div_cancel_left _ pj
  have e4 : (2 ^ j * (2 ^ r - 1)) % 2 ^ j = 0 := Nat.mul_mod_right _ _
  rw [and_split i, e1, e2, Nat.and_two_pow_sub_one_eq_mod, and_split j, e3, e4, Nat.and_two_pow_sub_one_eq_mod, Nat.mod_eq_of_lt hx, Nat.and_zero, Nat.mod_mod]
  simp
theorem cut_u32 (i j r : Nat) (m x : Int) (hm : 0 ≤ m) (hm2 : m ≤ 4294967295) (e : 4294967295 - m.toNat = 2 ^ i * (2 ^ j * (2 ^ r - 1)) + (2 ^ i - 1)) (h0 : 0 ≤ x) (h1 : x < 4294967296) (hx : x.toNat / 2 ^ i / 2 ^ j < 2 ^ r) :
    bits .andNot .u32 x m = ((2 ^ i * (2 ^ j * (x.toNat / 2 ^ i / 2 ^ j)) + x.toNat % 2 ^ i : Nat) : Int) := by
  rw [u32_andNot x m h0 h1 hm (by omega), e, cut_nat i j r _ hx]
theorem cut0 (x : Int) (h0 : 0 ≤ x) (h1 : x < 4294967296) : bits .andNot .u32 x 65535 = x / 65536 * 65536 := by
  rw [cut_u32 0 16 16 65535 x (by decide) (by decide) (by decide) h0 h1 (by simp; omega)]; simp; omega
theorem cut1 (x : Int) (h0 : 0 ≤ x) (h1 : x < 4294967296) : bits .andNot .u32 x 196608 = x / 262144 * 262144 + x % 65536 := by
  rw [cut_u32 16 2 14 196608 x (by decide) (by decide) (by decide) h0 h1 (by simp; omega)]; simp; omega
theorem cut2 (x : Int) (h0 : 0 ≤ x) (h1 : x < 4294967296) : bits .andNot .u32 x 786432 = x / 1048576 * 1048576 + x % 262144 := by
  rw [cut_u32 18 2 12 786432 x (by decide) (by decide) (by decide) h0 h1 (by simp; omega)]; simp; omega
theorem cut3 (x : Int) (h0 : 0 ≤ x) (h1 : x < 4294967296) : bits .andNot .u32 x 3145728 = x / 4194304 * 4194304 + x % 1048576 := by
  rw [cut_u32 20 2 10 3145728 x (by decide) (by decide) (by decide) h0 h1 (by simp; omega)]; simp; omega
theorem cut4 (x : Int) (h0 : 0 ≤ x) (h1 : x < 4294967296) : bits .andNot .u32 x 4194304 = x / 8388608 * 8388608 + x % 4194304 := by
  rw [cut_u32 22 1 9 4194304 x (by decide) (by decide) (by decide) h0 h1 (by simp; omega)]; simp; omega
theorem cut5 (x : Int) (h0 : 0 ≤ x) (h1 : x < 4294967296) : bits .andNot .u32 x 8388608 = x / 16777216 * 16777216 + x % 8388608 := by
  rw [cut_u32 23 1 8 8388608 x (by decide) (by decide) (by decide) h0 h1 (by simp; omega)]; simp; omega
theorem ap0 (s s' f o c : Int) (p q : Bool) : bits .andNot .u32 (hput s f o c p q) 65535 = bits .andNot .u32 (hput s' f o c p q) 65535 := by
  have a := hput_bd s f o c p q; have b := hput_bd s' f o c p q; have := b2_bd p; have := b2_bd q
  rw [cut0 _ a.1 (by omega), cut0 _ b.1 (by omega)]; unfold hput; omega
theorem ap1 (s f f' o c : Int) (p q : Bool) : bits .andNot .u32 (hput s f o c p q) 196608 = bits .andNot .u32 (hput s f' o c p q) 196608 := by
  have a := hput_bd s f o c p q; have b := hput_bd s f' o c p q; have := b2_bd p; have := b2_bd q
  rw [cut1 _ a.1 (by omega), cut1 _ b.1 (by omega)]; unfold hput; omega
theorem ap2 (s f o o' c : Int) (p q : Bool) : bits .andNot .u32 (hput s f o c p q) 786432 = bits .andNot .u32 (hput s f o' c p q) 786432 := by
  have a := hput_bd s f o c p q; have b := hput_bd s f o' c p q; have := b2_bd p; have := b2_bd q
  rw [cut2 _ a.1 (by omega), cut2 _ b.1 (by omega)]; unfold hput; omega
theorem ap3 (s f o c c' : Int) (p q : Bool) : bits .andNot .u32 (hput s f o c p q) 3145728 = bits .andNot .u32 (hput s f o c' p q) 3145728 := by
  have a := hput_bd s f o c p q; have b := hput_bd s f o c' p q; have := b2_bd p; have := b2_bd q
  rw [cut3 _ a.1 (by omega), cut3 _ b.1 (by omega)]; unfold hput; omega
theorem ap4 (s f o c : Int) (p p' q : Bool) : bits .andNot .u32 (hput s f o c p q) 4194304 = bits .andNot .u32 (hput s f o c p' q) 4194304 := by
  have a := hput_bd s f o c p q; have b := hput_bd s f o c p' q; have := b2_bd p; have := b2_bd p'; have := b2_bd q
  rw [cut4 _ a.1 (by omega), cut4 _ b.1 (by omega)]; unfold hput; omega
theorem ap5 (s f o c : Int) (p q q' : Bool) : bits .andNot .u32 (hput s f o c p q) 8388608 = bits .andNot .u32 (hput s f o c p q') 8388608 := by
  have a := hput_bd s f o c p q; have b := hput_bd s f o c p q'; have := b2_bd p; have := b2_bd q; have := b2_bd q'
  rw [cut5 _ a.1 (by omega), cut5 _ b.1 (by omega)]; unfold hput; omega
end Go.Proofs.Ytljgnmbjidkjnaa.Hd
