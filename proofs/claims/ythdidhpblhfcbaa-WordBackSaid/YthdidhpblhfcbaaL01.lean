/- What the statements on package word share: the document's examples hold. -/
import Derived.Test.YthdidhpblhfcbaaWord
import Derived.WalkLawsBesides
import Derived.Lib.Hide
namespace Go.Proofs.Ythdidhpblhfcbaa.L01
open Go.Proofs.Ythdidhpblhfcbaa.Gen Go.Proofs.Ythdidhpblhfcbaa.Wd Go.ChangeShapes Go.WideShapes Go.ChangeAt Go.RowKit
theorem awake_any (w : World) : Calls Try.prog 21 #[] w fun e w' => e = .returned (.bool true) ∧ w = w' := by
  have e1 : wi (-1) = 4294967295 := by decide
  have e2 : wr 5 = 10 := by decide
  have e3 : fit 0 = true := by decide
  have H1 := Lib.hid e1; have H2 := Lib.hid e2; have H3 := Lib.hid e3; clear e1 e2 e3
  go_enter Try.func21, Try.ntmps21
  go_wp2_with (first
    | (go_at_call 9; refine (word_Int _ (by decide) _).mono ?_; rintro e w' ⟨rfl, rfl⟩; rw [H1.out])
    | (go_at_call 11; refine (word_Ref _ (by decide) _).mono ?_; rintro e w' ⟨rfl, rfl⟩; rw [H2.out])
    | (go_at_call 19; refine (word_Fits _ _).mono ?_; rintro e w' ⟨rfl, rfl⟩; rw [H3.out]))
  go_ret
  exact ⟨rfl, rfl⟩
end Go.Proofs.Ythdidhpblhfcbaa.L01
