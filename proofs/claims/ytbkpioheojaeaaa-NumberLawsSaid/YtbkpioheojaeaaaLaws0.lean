/- And, or, exclusive or of numbers that fit: plain facts. -/
import Derived.Test.YtbkpioheojaeaaaNum5
namespace Go.Proofs.Ytbkpioheojaeaaa.Nl
open Go.ChangeShapes Go.WideShapes Go.ChangeAt Go.RowKit
set_option linter.unusedVariables false
theorem wrap_toInt (x : BitVec 64) : IntKind.i64.wrap (x.toNat : Int) = x.toInt := by
  have h : x.toNat < 18446744073709551616 := x.isLt
  have e : ((x.toNat : Int) % 18446744073709551616) = x.toNat := Int.emod_eq_of_lt (by omega) (by omega)
  rw [BitVec.toInt_eq_toNat_cond]
  simp only [IntKind.wrap, IntKind.bits, IntKind.signed, Int.reducePow, e]
  split <;> split <;> simp_all <;> omega
theorem sx {a : Int} (h : -134217728 ≤ a ∧ a < 134217728) : BitVec.ofInt 64 a = (BitVec.ofInt 28 a).signExtend 64 := by
  apply BitVec.eq_of_toInt_eq
  rw [BitVec.toInt_signExtend_of_le (by decide), BitVec.toInt_ofInt_eq_self (by decide) (by simpa using by omega) (by simpa using by omega), BitVec.toInt_ofInt_eq_self (by decide) (by simpa using by omega) (by simpa using by omega)]
theorem lo28 (x : BitVec 28) : -134217728 ≤ (x.signExtend 64).toInt ∧ (x.signExtend 64).toInt < 134217728 := by
  rw [BitVec.toInt_signExtend_of_le (by decide)]
  have h1 := BitVec.toInt_lt (x := x)
  have h2 := BitVec.le_toInt x
  simp only [Nat.reduceSub, Int.reducePow] at h1 h2
  exact ⟨h2, h1⟩
theorem and_i (a b : Int) : bits .and .i64 a b = (BitVec.ofInt 64 a &&& BitVec.ofInt 64 b).toInt := wrap_toInt _
theorem or_i (a b : Int) : bits .or .i64 a b = (BitVec.ofInt 64 a ||| BitVec.ofInt 64 b).toInt := wrap_toInt _
theorem xor_i (a b : Int) : bits .xor .i64 a b = (BitVec.ofInt 64 a ^^^ BitVec.ofInt 64 b).toInt := wrap_toInt _
theorem bit_bd {a b : Int} (ha : -134217728 ≤ a ∧ a < 134217728) (hb : -134217728 ≤ b ∧ b < 134217728) :
    (-134217728 ≤ bits .and .i64 a b ∧ bits .and .i64 a b < 134217728) ∧ (-134217728 ≤ bits .or .i64 a b ∧ bits .or .i64 a b < 134217728) ∧ (-134217728 ≤ bits .xor .i64 a b ∧ bits .xor .i64 a b < 134217728) := by
  rw [and_i, or_i, xor_i, sx ha, sx hb, ← BitVec.signExtend_and, ← BitVec.signExtend_or, ← BitVec.signExtend_xor]
  exact ⟨lo28 _, lo28 _, lo28 _⟩
theorem bv_ao (x y : BitVec 64) : (x &&& y) + (x ||| y) = x + y := by
  have h1 : (x &&& y) + (x &&& ~~~y) = x := by
    rw [BitVec.add_eq_or_of_and_eq_zero] <;> ext i hi <;> simp <;> cases x[i] <;> cases y[i] <;> decide
  have h2 : (x &&& ~~~y) + y = x ||| y := by
    rw [BitVec.add_eq_or_of_and_eq_zero] <;> ext i hi <;> simp <;> cases x[i] <;> cases y[i] <;> decide
  rw [← h2, ← BitVec.add_assoc, h1]
theorem bv_ox (x y : BitVec 64) : (x ^^^ y) + (x &&& y) = x ||| y := by
  rw [BitVec.add_eq_or_of_and_eq_zero] <;> ext i hi <;> simp <;> cases x[i] <;> cases y[i] <;> decide
theorem add_i {x y : BitVec 64} (h : -4611686018427387904 ≤ x.toInt + y.toInt ∧ x.toInt + y.toInt < 4611686018427387904) : (x + y).toInt = x.toInt + y.toInt := by
  rw [BitVec.toInt_add]
  exact Int.bmod_eq_of_le (by simp; omega) (by simp; omega)
theorem self_i {a : Int} (ha : -134217728 ≤ a ∧ a < 134217728) : (BitVec.ofInt 64 a).toInt = a := BitVec.toInt_ofInt_eq_self (by decide) (by simpa using by omega) (by simpa using by omega)
theorem ao {a b : Int} (ha : -134217728 ≤ a ∧ a < 134217728) (hb : -134217728 ≤ b ∧ b < 134217728) : bits .and .i64 a b + bits .or .i64 a b = a + b := by
  have h := bit_bd ha hb
  have e := congrArg BitVec.toInt (bv_ao (BitVec.ofInt 64 a) (BitVec.ofInt 64 b))
  rw [and_i, or_i] at *
  rw [add_i (by omega), add_i (by rw [self_i ha, self_i hb]; omega), self_i ha, self_i hb] at e
  exact e
theorem ox {a b : Int} (ha : -134217728 ≤ a ∧ a < 134217728) (hb : -134217728 ≤ b ∧ b < 134217728) : bits .or .i64 a b - bits .and .i64 a b = bits .xor .i64 a b := by
  have h := bit_bd ha hb
  have e := congrArg BitVec.toInt (bv_ox (BitVec.ofInt 64 a) (BitVec.ofInt 64 b))
  rw [and_i, or_i, xor_i] at *
  rw [add_i (by omega)] at e
  omega
end Go.Proofs.Ytbkpioheojaeaaa.Nl
