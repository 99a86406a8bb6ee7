/- The document's examples of instructions. -/
import Derived.Test.YtpeniffnghkdcaaCode3
namespace Go.Proofs.Ytpeniffnghkdcaa.Cd
open Go.Proofs.Ytpeniffnghkdcaa.Gen Go.Proofs.Ytpeniffnghkdcaa.Base Go.ChangeShapes Go.WideShapes Go.ChangeAt Go.RowKit
set_option linter.unusedVariables false
theorem keep13 {W wa wb : World} {p : Nat} {x0 x1 x2 : Value} (h : Gr W wa ∧ p < wa.heap.size ∧ wa.cell? ⟨p, 0, none⟩ = some x0 ∧ wa.cell? ⟨p, 1, none⟩ = some x1 ∧ wa.cell? ⟨p, 2, none⟩ = some x2) (hg : Gr wa wb) :
    Gr W wb ∧ p < wb.heap.size ∧ wb.cell? ⟨p, 0, none⟩ = some x0 ∧ wb.cell? ⟨p, 1, none⟩ = some x1 ∧ wb.cell? ⟨p, 2, none⟩ = some x2 :=
  ⟨h.1.trans hg, Nat.lt_of_lt_of_le h.2.1 hg.size, hg.keep h.2.2.1, hg.keep h.2.2.2.1, hg.keep h.2.2.2.2⟩
theorem awake_any (w : World) : Calls Try.prog 7 #[] w fun e w' => e = .returned (.bool true) ∧ Gr w w' := by
  go_enter Try.func7, Try.ntmps7
  go_wp2_with fail
  refine (cd_Get ⟨#[9, 129, 0]⟩ 0 _ (by decide) (by decide)).mono ?_; rintro e u1 ⟨rfl, g1⟩
  rw [show byt ⟨#[9, 129, 0]⟩ (3 * 0) = 9 from rfl, show byt ⟨#[9, 129, 0]⟩ (3 * 0 + 1) = 129 from rfl, show byt ⟨#[9, 129, 0]⟩ (3 * 0 + 2) = 0 from rfl]
  go_wp2_with fail
  refine (cd_Name 9 (by decide) _).mono ?_; rintro e u2 ⟨rfl, g2⟩
  rw [show cnm 9 = ⟨#[105, 110, 116]⟩ from rfl]
  go_wp2_with fail
  refine (cd_Op _ _).mono ?_; rintro e u3 ⟨rfl, g3⟩
  rw [show opOf ⟨#[115, 101, 110, 100]⟩ = 11 from by decide]
  go_wp2_with fail
  go_ret
  exact ⟨rfl, by repeat' (first | with_reducible exact Gr.refl _ | with_reducible assumption | with_reducible refine Gr.drewN ?_ _ | with_reducible refine Gr.drew ?_ | with_reducible refine Gr.alloc ?_ _ _ | with_reducible refine Gr.setCell ?_ ?_ _ | with_reducible refine Gr.trans ?_ (by with_reducible assumption) | (simp; done) | (simp; omega))⟩
theorem cn_op : ∀ j : Fin 23, 1 ≤ j.val → opOf (cn j.val) = (j.val : Int) := by decide
theorem cn_full : ∀ j : Fin 23, 1 ≤ j.val → (cn j.val).data.toList.isEmpty = false := by decide
theorem cn_ne (j : Nat) (h1 : 1 ≤ j) (h2 : j < 23) : (cn j).toList.isEmpty = false ∧ ((cn j).toList == []) = false ∧ ¬ (cn j).toList = [] := by
  have h := cn_full ⟨j, h2⟩ h1
  rw [ByteArray.toList_eq]
  refine ⟨h, ?_, fun e => by simp [e] at h⟩
  cases e : (cn j).data.toList
  · simp [e] at h
  · rfl
end Go.Proofs.Ytpeniffnghkdcaa.Cd
