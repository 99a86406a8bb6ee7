/- What the statements on package grey share. -/
import Derived.Test.YtlancbacdjiciaaGrey
import Derived.Deep.DeepCutAuto
namespace Go.Proofs.Ytlancbacdjiciaa.L09
open Go.Proofs.Ytlancbacdjiciaa.Gen Go.Proofs.Ytlancbacdjiciaa.Base Go.Proofs.Ytlancbacdjiciaa.Gy Go.ChangeShapes Go.WideShapes Go.ChangeAt Go.RowKit
theorem awake_any (w : World) : Calls Try.prog 16 #[] w fun e w' => e = .returned (.bool true) ∧ Below w.heap.size w w' := by
  have e1 := Lib.hid (show mostOf 1 = 1 by decide)
  go_enter Try.func16, Try.ntmps16
  go_wp2_with fail
  refine (new_any 1 _).mono ?_; rintro e u1 ⟨rfl, hS, g1, hb⟩
  rw [e1.out] at hS
  go_wp2_with fail
  refine (push_ok _ _ _ _ _ 5 hS (by decide)).mono ?_; rintro e u2 ⟨rfl, hS2, k2⟩
  go_wp2_with fail
  refine (push_full _ _ _ _ _ 6 hS2 (by decide)).mono ?_; rintro e u3 ⟨rfl, hS3, k3⟩
  go_wp2_with fail
  refine (over_any _ _ _ _ _ hS3).mono ?_; rintro e u4 ⟨rfl, rfl⟩
  go_wp2_with fail
  refine (len_any _ _ _ _ _ hS3).mono ?_; rintro e u4 ⟨rfl, rfl⟩
  go_wp2_with fail
  go_ret
  exact ⟨rfl, g1.2.trans ((k2.trans k3).below (Nat.le_refl _) (by omega))⟩
end Go.Proofs.Ytlancbacdjiciaa.L09
