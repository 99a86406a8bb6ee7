/- What the law of an order needs: the two closures, and what the comparisons say. -/
import Derived.Test.YtbkpioheojaeaaaNum5
import Derived.Test.YtbkpioheojaeaaaBase2
import Derived.Deep.RegionHeld3
import Derived.Deep.DrawnRows
import Derived.Deep.DeepCutAuto
namespace Go.Proofs.Ytbkpioheojaeaaa.Nt
open Go.Proofs.Ytbkpioheojaeaaa.Gen Go.Proofs.Ytbkpioheojaeaaa.Base Go.Proofs.Ytbkpioheojaeaaa.Nu Go.ChangeShapes Go.WideShapes Go.ChangeAt Go.RowKit
set_option linter.unusedVariables false
theorem tr_is (n x y : Int) (hx : -536870912 ≤ x ∧ x < 536870912) (hy : -536870912 ≤ y ∧ y < 536870912) (hn : 6 ≤ n ∧ n ≤ 11) (w : World) :
    Calls Try.prog 17 #[.int .i64 n, .int .i64 x, .int .i64 y] w fun e w' => e = .returned (.bool (cmpB n x y)) ∧ Gr w w' := by
  have hc : opC n = true := by simp [opC]; omega
  cases hb : cmpB n x y
  all_goals
    have HB := Lib.hid hb; clear hb
    go_enter Try.func17, Try.ntmps17
    go_wp2_with (refine (nu_cmp n x y hx hy hc _).mono ?_; rintro e u1 ⟨rfl, g1⟩; rw [HB.out]; simp only [tv, if_true, Bool.false_eq_true, if_false])
    go_ret
    exact ⟨rfl, by repeat' (first | with_reducible exact Gr.refl _ | with_reducible assumption | with_reducible refine Gr.drewN ?_ _ | with_reducible refine Gr.drew ?_ | with_reducible refine Gr.alloc ?_ _ _ | with_reducible refine Gr.setCell ?_ ?_ _ | with_reducible refine Gr.trans ?_ (by with_reducible assumption) | (simp; done) | (simp; omega))⟩
theorem tr_no (n x y : Int) (hx : -536870912 ≤ x ∧ x < 536870912) (hy : -536870912 ≤ y ∧ y < 536870912) (hn : 6 ≤ n ∧ n ≤ 11) (w : World) :
    Calls Try.prog 18 #[.int .i64 n, .int .i64 x, .int .i64 y] w fun e w' => e = .returned (.bool (!cmpB n x y)) ∧ Gr w w' := by
  have hc : opC n = true := by simp [opC]; omega
  cases hb : cmpB n x y
  all_goals
    have HB := Lib.hid hb; clear hb
    go_enter Try.func18, Try.ntmps18
    go_wp2_with (refine (nu_cmp n x y hx hy hc _).mono ?_; rintro e u1 ⟨rfl, g1⟩; rw [HB.out]; simp only [tv, if_true, Bool.false_eq_true, if_false])
    go_ret
    exact ⟨rfl, by repeat' (first | with_reducible exact Gr.refl _ | with_reducible assumption | with_reducible refine Gr.drewN ?_ _ | with_reducible refine Gr.drew ?_ | with_reducible refine Gr.alloc ?_ _ _ | with_reducible refine Gr.setCell ?_ ?_ _ | with_reducible refine Gr.trans ?_ (by with_reducible assumption) | (simp; done) | (simp; omega))⟩
theorem keep3 {W wa wb : World} {p : Nat} {x0 x1 x2 : Value} (h : Gr W wa ∧ p < wa.heap.size ∧ wa.cell? ⟨p, 0, none⟩ = some x0 ∧ wa.cell? ⟨p, 1, none⟩ = some x1 ∧ wa.cell? ⟨p, 2, none⟩ = some x2) (hg : Gr wa wb) :
    Gr W wb ∧ p < wb.heap.size ∧ wb.cell? ⟨p, 0, none⟩ = some x0 ∧ wb.cell? ⟨p, 1, none⟩ = some x1 ∧ wb.cell? ⟨p, 2, none⟩ = some x2 :=
  ⟨h.1.trans hg, Nat.lt_of_lt_of_le h.2.1 hg.size, hg.keep h.2.2.1, hg.keep h.2.2.2.1, hg.keep h.2.2.2.2⟩
theorem c7 (x y : Int) : cmpB 7 y x = cmpB 6 x y := by simp [cmpB]
theorem c9 (x y : Int) : cmpB 9 y x = cmpB 8 x y := by simp [cmpB]
theorem c10 (x : Int) : cmpB 10 x x = true := by simp [cmpB]
theorem c11 (x : Int) : cmpB 11 x x = false := by simp [cmpB]
theorem c8 (x : Int) : cmpB 8 x x = true := by simp [cmpB]
theorem c6 {x y z : Int} (h1 : cmpB 6 x y = true) (h2 : cmpB 6 y z = true) : cmpB 6 x z = true := by simp [cmpB] at *; omega
end Go.Proofs.Ytbkpioheojaeaaa.Nt
