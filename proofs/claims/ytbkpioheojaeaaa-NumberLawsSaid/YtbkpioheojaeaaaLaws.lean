/- What the laws of numbers need: their two closures. -/
import Derived.Test.YtbkpioheojaeaaaLaws0
import Derived.Test.YtbkpioheojaeaaaBase2
import Derived.Deep.RegionHeld3
import Derived.Deep.DrawnRows
import Derived.Deep.DeepCutAuto
namespace Go.Proofs.Ytbkpioheojaeaaa.Nl
open Go.Proofs.Ytbkpioheojaeaaa.Gen Go.Proofs.Ytbkpioheojaeaaa.Base Go.Proofs.Ytbkpioheojaeaaa.Nu Go.ChangeShapes Go.WideShapes Go.ChangeAt Go.RowKit
set_option linter.unusedVariables false
theorem op_any (n a b : Int) (w : World) :
    Calls Try.prog 15 #[.int .i64 n, .int .i64 a, .int .i64 b] w fun e w' => e = .returned (.int .i64 (opN n a b)) ∧ Gr w w' := by
  go_enter Try.func15, Try.ntmps15
  go_wp2_with (refine (nu_Op n a b _).mono ?_; rintro e u1 ⟨rfl, g1⟩)
  go_ret
  exact ⟨rfl, by repeat' (first | with_reducible exact Gr.refl _ | with_reducible assumption | with_reducible refine Gr.drewN ?_ _ | with_reducible refine Gr.drew ?_ | with_reducible refine Gr.alloc ?_ _ _ | with_reducible refine Gr.setCell ?_ ?_ _ | with_reducible refine Gr.trans ?_ (by with_reducible assumption) | (simp; done) | (simp; omega))⟩
theorem op_num (n a b v : Int) (ha : -536870912 ≤ a ∧ a < 536870912) (hb : -536870912 ≤ b ∧ b < 536870912) (hc : opC n = false) (ho : rkO n b = true) (hv : rkV n a b = v) (hf : -536870912 ≤ v ∧ v < 536870912) (w : World) :
    Calls Try.prog 15 #[.int .i64 n, .int .i64 a, .int .i64 b] w fun e w' => e = .returned (.int .i64 v) ∧ Gr w w' := by
  have c := op_any n a b w
  rw [show opN n a b = v by simp [opN, hc, fit_t ha, fit_t hb, ho, hv, fit_t hf]] at c
  exact c
theorem truth_any (n a b : Int) (ha : -536870912 ≤ a ∧ a < 536870912) (hb : -536870912 ≤ b ∧ b < 536870912) (hc : opC n = true) (p q : Nat) (w : World) (hp : w.cell? ⟨p, 0, none⟩ = some (.int .i64 a)) (hq : w.cell? ⟨q, 0, none⟩ = some (.int .i64 b)) :
    Calls Try.prog 16 #[.int .i64 n, .pointer (some ⟨p, 0, none⟩), .pointer (some ⟨q, 0, none⟩)] w fun e w' => e = .returned (.bool (cmpB n a b)) ∧ Gr w w' := by
  cases hb' : cmpB n a b
  all_goals
    have HB := Lib.hid hb'; clear hb'
    go_enter Try.func16, Try.ntmps16
    go_wp2_with (refine (nu_cmp n a b ha hb hc _).mono ?_; rintro e u1 ⟨rfl, g1⟩; rw [HB.out]; simp only [tv, if_true, Bool.false_eq_true, if_false])
    go_ret
    exact ⟨rfl, by repeat' (first | with_reducible exact Gr.refl _ | with_reducible assumption | with_reducible refine Gr.drewN ?_ _ | with_reducible refine Gr.drew ?_ | with_reducible refine Gr.alloc ?_ _ _ | with_reducible refine Gr.setCell ?_ ?_ _ | with_reducible refine Gr.trans ?_ (by with_reducible assumption) | (simp; done) | (simp; omega))⟩
end Go.Proofs.Ytbkpioheojaeaaa.Nl
