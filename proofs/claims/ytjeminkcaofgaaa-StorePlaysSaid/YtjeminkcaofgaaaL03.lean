/- What the statements on package store share. -/
import Derived.Test.YtjeminkcaofgaaaStore
namespace Go.Proofs.Ytjeminkcaofgaaa.L03
open Go.Proofs.Ytjeminkcaofgaaa.Gen Go.Proofs.Ytjeminkcaofgaaa.Base Go.Proofs.Ytjeminkcaofgaaa.Sr Go.ChangeShapes Go.WideShapes Go.ChangeAt Go.RowKit
set_option linter.unusedVariables false
theorem awake_any (w : World) : Calls Try.prog 16 #[] w fun e w' => e = .returned (.bool true) ∧ Below w.heap.size w w' := by
  have e1 : lenOf 2 = 2 := by decide
  have E1 := Lib.hid (show putS [0, 0] 2 1 = [0, 0] by decide)
  have E2 := Lib.hid (show putS [0, 0] 1 5 = [0, 5] by decide)
  have E3 := Lib.hid (show getS [0, 5] 1 = 5 by decide)
  go_enter Try.func16, Try.ntmps16
  go_wp2_with fail
  refine (new_any 2 _).mono ?_; rintro e u1 ⟨rfl, hS, g1, hb⟩
  rw [e1] at hS
  have hS1 : Sto u1 (w.heap.size + 1) w.heap.size [0, 0] := hS
  clear e1 hS
  go_wp2_with fail
  refine (len_any _ _ _ _ hS1).mono ?_; rintro e u2 ⟨rfl, rfl⟩
  go_wp2_with fail
  refine (put_any _ _ _ _ 2 1 hS1).mono ?_; rintro e u2 ⟨rfl, hS2, k2⟩; rw [E1.out] at hS2
  go_wp2_with fail
  refine (put_any _ _ _ _ 1 5 hS2).mono ?_; rintro e u3 ⟨rfl, hS3, k3⟩; rw [E2.out] at hS3
  go_wp2_with fail
  refine (get_any _ _ _ _ 1 hS3).mono ?_; rintro e u4 ⟨rfl, rfl⟩; rw [E3.out]
  go_wp2_with fail
  go_ret
  exact ⟨rfl, g1.2.trans ((k2.trans k3).below (Nat.le_refl _) (by omega))⟩
end Go.Proofs.Ytjeminkcaofgaaa.L03
