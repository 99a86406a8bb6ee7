/- math/bits.Len at this program: the library's contract, at this program's numbers. -/
import Derived.Test.YtljgnmbjidkjnaaBase2
import Derived.Shelf.Small.Bits
namespace Go.Proofs.Ytljgnmbjidkjnaa.Bt
open Go.Shelf
set_option linter.unusedVariables false
def ren : Ren := ⟨fun n => if n = 125 then 78 else if n = 128 then 81 else if n = 129 then 82 else n, fun n => if n = 3 then 3 else if n = 4 then 4 else if n = 5 then 5 else if n = 9 then 9 else if n = 46 then 87 else if n = 51 then 28 else if n = 53 then 96 else n, fun n => n⟩
theorem lays : Lays.n125 Try.prog ren where
  mixed := by kernel_rfl
  f125 := by kernel_rfl
  f128 := by kernel_rfl
  f129 := by kernel_rfl
  t3 := by kernel_rfl
  a3 := fun _ => by kernel_rfl
  z3 := fun _ => by kernel_rfl
  v3 := fun _ => by kernel_rfl
  t4 := by kernel_rfl
  a4 := fun _ => by kernel_rfl
  z4 := fun _ => by kernel_rfl
  v4 := fun _ => by kernel_rfl
  t5 := by kernel_rfl
  a5 := fun _ => by kernel_rfl
  z5 := fun _ => by kernel_rfl
  v5 := fun _ => by kernel_rfl
  t9 := by kernel_rfl
  a9 := fun _ => by kernel_rfl
  z9 := fun _ => by kernel_rfl
  v9 := fun _ => by kernel_rfl
  t46 := by kernel_rfl
  a46 := fun _ => by kernel_rfl
  z46 := fun _ => by kernel_rfl
  v46 := fun _ => by kernel_rfl
  t51 := by kernel_rfl
  a51 := fun _ => by kernel_rfl
  z51 := fun _ => by kernel_rfl
  v51 := fun _ => by kernel_rfl
  t53 := by kernel_rfl
  a53 := fun _ => by kernel_rfl
  z53 := fun _ => by kernel_rfl
  v53 := fun _ => by kernel_rfl
/-- How many bits a length has. -/
def kindOf (n : Nat) : Nat := Lib.bitLen n
theorem kind_le {n : Nat} (h : n ≤ 65536) : kindOf n ≤ 17 := Lib.bitLen_le n 17 (by omega) (by omega)
theorem bits_len (n : Nat) (w : World) (h : n ≤ 65536) :
    Calls Try.prog 78 #[.int .u64 (n : Int)] w fun e w' => e = .returned (.int .i64 (kindOf n : Int)) ∧ w' = w :=
  (Any.bits_Len lays (n : Int) w (by omega) (by omega)).mono fun e w' h => ⟨by rw [h.1]; rfl, h.2⟩
end Go.Proofs.Ytljgnmbjidkjnaa.Bt
