/- Once a number: bits.Mul, bits.Mul64. -/
import Derived.Test.YtoklohfpkaiidaaGreatFr9
import Derived.Laws.Bits64b
import Derived.Laws.CopyOwn
namespace Go.Proofs.YtoklohfpkaiidaaGreat.Obj
open Go.Proofs.YtoklohfpkaiidaaGreat.Gen Go.Proofs.YtoklohfpkaiidaaGreat.Base Go.ChangeShapes Go.WideShapes Go.ChangeAt Go.RowKit
set_option linter.unusedVariables false
theorem mask_u64 (n : Nat) (h : n ≤ 100000) : bits .and .u64 (n : Int) 4294967295 = (n : Int) := by
  have h2 := bits_and_u64_nat n 4294967295 (by omega) (by omega)
  have e : n &&& 4294967295 = n % 4294967296 := Nat.and_two_pow_sub_one_eq_mod n 32
  rw [e, Nat.mod_eq_of_lt (by omega)] at h2
  exact h2
theorem wrap_u64 (n : Nat) (h : n ≤ 100000) : IntKind.u64.wrap (n : Int) = (n : Int) := by rw [IntKind.wrap_u64]; omega
theorem one_u64 : bits .and .u64 1 4294967295 = 1 := by decide +kernel
theorem zero_u64 : bits .and .u64 0 4294967295 = 0 := by decide +kernel
theorem bi_Mul64 (n : Nat) (h : n ≤ 100000) (w : World) : Calls Tryz.prog 178 #[.int .u64 1, .int .u64 (n : Int)] w fun e w' => e = .returned (.tuple #[.int .u64 0, .int .u64 (n : Int)]) ∧ w = w' := by
  have e0 : (n : Int) / 4294967296 = 0 := by omega
  have hm := mask_u64 n h
  have hw := wrap_u64 n h
  have w0 : IntKind.u64.wrap 0 = 0 := by decide +kernel
  go_enter Tryz.func178, Tryz.ntmps178
  go_wp2
  simp only [one_u64, hm, Int.one_mul, Int.zero_mul, hw, e0, w0, show (1 : Int) / 4294967296 = 0 by decide, Int.mul_zero, Int.add_zero, zero_u64, show (0 : Int) / 4294967296 = 0 by decide]
  go_ret2
  exact ⟨rfl, rfl⟩
theorem bi_Mul (n : Nat) (h : n ≤ 100000) (w : World) : Calls Tryz.prog 176 #[.int .u64 1, .int .u64 (n : Int)] w fun e w' => e = .returned (.tuple #[.int .u64 0, .int .u64 (n : Int)]) ∧ w = w' := by
  have hc := bi_Mul64 n h w
  go_enter Tryz.func176, Tryz.ntmps176
  go_wp2_with (go_at_call 178; (with_reducible refine hc.mono ?_); rintro e w2 ⟨rfl, rfl⟩; dsimp only)
  go_ret2
  exact ⟨rfl, rfl⟩
end Go.Proofs.YtoklohfpkaiidaaGreat.Obj
