/- The names of the primitives on numbers. -/
import Derived.Test.YtbkpioheojaeaaaNum3
namespace Go.Proofs.Ytbkpioheojaeaaa.Nu
open Go.Proofs.Ytbkpioheojaeaaa.Gen Go.Proofs.Ytbkpioheojaeaaa.Base Go.ChangeShapes Go.WideShapes Go.ChangeAt Go.RowKit
set_option linter.unusedVariables false
def nms : Array ByteArray := #[⟨#[]⟩, ⟨#[43]⟩, ⟨#[45]⟩, ⟨#[42]⟩, ⟨#[47, 47]⟩, ⟨#[92, 92]⟩, ⟨#[60]⟩, ⟨#[62]⟩, ⟨#[60, 61]⟩, ⟨#[62, 61]⟩, ⟨#[61]⟩, ⟨#[126, 61]⟩, ⟨#[98, 105, 116, 65, 110, 100, 58]⟩, ⟨#[98, 105, 116, 79, 114, 58]⟩, ⟨#[98, 105, 116, 88, 111, 114, 58]⟩, ⟨#[98, 105, 116, 83, 104, 105, 102, 116, 58]⟩]
def nm (n : Int) : ByteArray := if 1 ≤ n ∧ n ≤ 15 then nms.getD n.toNat ⟨#[]⟩ else ⟨#[]⟩
theorem ret_str {a b : ByteArray} (h : a = b) : Ending.returned (.string a) = .returned (.string b) := by rw [h]
set_option maxHeartbeats 1000000 in
theorem nu_Name (n : Int) (hw : (Lit.int .i64 n).wf = true) (w : World) :
    Calls Try.prog 11 #[.int .i64 n] w fun e w' => e = .returned (.string (nm n)) ∧ Gr w w' := by
  have hb := bounds_i64 hw
  by_cases h1 : 1 ≤ n
  · by_cases h2 : n ≤ 15
    · obtain ⟨k, rfl⟩ := Int.eq_ofNat_of_zero_le (show 0 ≤ n by omega)
      have hk1 : 1 ≤ k := by omega
      have hk2 : k ≤ 15 := by omega
      have hc : (w.alloc (.cells #[.string ⟨#[]⟩, .string ⟨#[43]⟩, .string ⟨#[45]⟩, .string ⟨#[42]⟩, .string ⟨#[47, 47]⟩, .string ⟨#[92, 92]⟩, .string ⟨#[60]⟩, .string ⟨#[62]⟩, .string ⟨#[60, 61]⟩, .string ⟨#[62, 61]⟩, .string ⟨#[61]⟩, .string ⟨#[126, 61]⟩, .string ⟨#[98, 105, 116, 65, 110, 100, 58]⟩, .string ⟨#[98, 105, 116, 79, 114, 58]⟩, .string ⟨#[98, 105, 116, 88, 111, 114, 58]⟩, .string ⟨#[98, 105, 116, 83, 104, 105, 102, 116, 58]⟩] 40)).cell? ⟨w.heap.size, k, none⟩ = some (.string (nm (k : Int))) := by
        have e : nm (k : Int) = nms.getD k ⟨#[]⟩ := by unfold nm; rw [if_pos ⟨h1, h2⟩]; simp
        rw [e, World.cell?_alloc_new]
        have hk : k = 1 ∨ k = 2 ∨ k = 3 ∨ k = 4 ∨ k = 5 ∨ k = 6 ∨ k = 7 ∨ k = 8 ∨ k = 9 ∨ k = 10 ∨ k = 11 ∨ k = 12 ∨ k = 13 ∨ k = 14 ∨ k = 15 := by omega
        rcases hk with rfl | rfl | rfl | rfl | rfl | rfl | rfl | rfl | rfl | rfl | rfl | rfl | rfl | rfl | rfl <;> rfl
      have hlt : (k : Int) < 16 := by omega
      have h0 : (0 : Int) ≤ (k : Int) := by omega
      go_enter Try.func11, Try.ntmps11
      go_wp2
      go_ret
      exact ⟨rfl, by repeat' (first | with_reducible exact Gr.refl _ | with_reducible assumption | with_reducible refine Gr.drewN ?_ _ | with_reducible refine Gr.drew ?_ | with_reducible refine Gr.alloc ?_ _ _ | with_reducible refine Gr.setCell ?_ ?_ _ | with_reducible refine Gr.trans ?_ (by with_reducible assumption) | (simp; done) | (simp; omega))⟩
    · have e := Lib.hid (show nm n = ⟨#[]⟩ by unfold nm; rw [if_neg (by omega)])
      go_enter Try.func11, Try.ntmps11
      go_wp2
      go_ret
      exact ⟨ret_str e.out.symm, by repeat' (first | with_reducible exact Gr.refl _ | with_reducible assumption | with_reducible refine Gr.drewN ?_ _ | with_reducible refine Gr.drew ?_ | with_reducible refine Gr.alloc ?_ _ _ | with_reducible refine Gr.setCell ?_ ?_ _ | with_reducible refine Gr.trans ?_ (by with_reducible assumption) | (simp; done) | (simp; omega))⟩
  · have e := Lib.hid (show nm n = ⟨#[]⟩ by unfold nm; rw [if_neg (by omega)])
    go_enter Try.func11, Try.ntmps11
    go_wp2
    go_ret
    exact ⟨ret_str e.out.symm, by repeat' (first | with_reducible exact Gr.refl _ | with_reducible assumption | with_reducible refine Gr.drewN ?_ _ | with_reducible refine Gr.drew ?_ | with_reducible refine Gr.alloc ?_ _ _ | with_reducible refine Gr.setCell ?_ ?_ _ | with_reducible refine Gr.trans ?_ (by with_reducible assumption) | (simp; done) | (simp; omega))⟩
set_option maxHeartbeats 1000000 in
theorem rf_Name (n : Int) (hw : (Lit.int .i64 n).wf = true) (w : World) :
    Calls Try.prog 12 #[.int .i64 n] w fun e w' => e = .returned (.string (nm n)) ∧ Gr w w' := by
  have hb := bounds_i64 hw
  by_cases h1 : 1 ≤ n
  · by_cases h2 : n ≤ 15
    · obtain ⟨k, rfl⟩ := Int.eq_ofNat_of_zero_le (show 0 ≤ n by omega)
      have hk1 : 1 ≤ k := by omega
      have hk2 : k ≤ 15 := by omega
      have hc : (w.alloc (.cells #[.string ⟨#[]⟩, .string ⟨#[43]⟩, .string ⟨#[45]⟩, .string ⟨#[42]⟩, .string ⟨#[47, 47]⟩, .string ⟨#[92, 92]⟩, .string ⟨#[60]⟩, .string ⟨#[62]⟩, .string ⟨#[60, 61]⟩, .string ⟨#[62, 61]⟩, .string ⟨#[61]⟩, .string ⟨#[126, 61]⟩, .string ⟨#[98, 105, 116, 65, 110, 100, 58]⟩, .string ⟨#[98, 105, 116, 79, 114, 58]⟩, .string ⟨#[98, 105, 116, 88, 111, 114, 58]⟩, .string ⟨#[98, 105, 116, 83, 104, 105, 102, 116, 58]⟩] 40)).cell? ⟨w.heap.size, k, none⟩ = some (.string (nm (k : Int))) := by
        have e : nm (k : Int) = nms.getD k ⟨#[]⟩ := by unfold nm; rw [if_pos ⟨h1, h2⟩]; simp
        rw [e, World.cell?_alloc_new]
        have hk : k = 1 ∨ k = 2 ∨ k = 3 ∨ k = 4 ∨ k = 5 ∨ k = 6 ∨ k = 7 ∨ k = 8 ∨ k = 9 ∨ k = 10 ∨ k = 11 ∨ k = 12 ∨ k = 13 ∨ k = 14 ∨ k = 15 := by omega
        rcases hk with rfl | rfl | rfl | rfl | rfl | rfl | rfl | rfl | rfl | rfl | rfl | rfl | rfl | rfl | rfl <;> rfl
      have hlt : (k : Int) < 16 := by omega
      have h0 : (0 : Int) ≤ (k : Int) := by omega
      go_enter Try.func12, Try.ntmps12
      go_wp2
      go_ret
      exact ⟨rfl, by repeat' (first | with_reducible exact Gr.refl _ | with_reducible assumption | with_reducible refine Gr.drewN ?_ _ | with_reducible refine Gr.drew ?_ | with_reducible refine Gr.alloc ?_ _ _ | with_reducible refine Gr.setCell ?_ ?_ _ | with_reducible refine Gr.trans ?_ (by with_reducible assumption) | (simp; done) | (simp; omega))⟩
    · have e := Lib.hid (show nm n = ⟨#[]⟩ by unfold nm; rw [if_neg (by omega)])
      go_enter Try.func12, Try.ntmps12
      go_wp2
      go_ret
      exact ⟨ret_str e.out.symm, by repeat' (first | with_reducible exact Gr.refl _ | with_reducible assumption | with_reducible refine Gr.drewN ?_ _ | with_reducible refine Gr.drew ?_ | with_reducible refine Gr.alloc ?_ _ _ | with_reducible refine Gr.setCell ?_ ?_ _ | with_reducible refine Gr.trans ?_ (by with_reducible assumption) | (simp; done) | (simp; omega))⟩
  · have e := Lib.hid (show nm n = ⟨#[]⟩ by unfold nm; rw [if_neg (by omega)])
    go_enter Try.func12, Try.ntmps12
    go_wp2
    go_ret
    exact ⟨ret_str e.out.symm, by repeat' (first | with_reducible exact Gr.refl _ | with_reducible assumption | with_reducible refine Gr.drewN ?_ _ | with_reducible refine Gr.drew ?_ | with_reducible refine Gr.alloc ?_ _ _ | with_reducible refine Gr.setCell ?_ ?_ _ | with_reducible refine Gr.trans ?_ (by with_reducible assumption) | (simp; done) | (simp; omega))⟩
set_option maxHeartbeats 1000000 in
theorem awake_any (w : World) : Calls Try.prog 13 #[] w fun e w' => e = .returned (.bool true) ∧ Gr w w' := by
  have E1 := Lib.hid (show opO 4 (-7) 2 = false by decide)
  have E2 := Lib.hid (show opN 4 (-7) 2 = -4 by decide)
  have E3 := Lib.hid (show opK 4 (-7) 2 = true by decide)
  have E4 := Lib.hid (show opO 5 (-7) 2 = false by decide)
  have E5 := Lib.hid (show opN 5 (-7) 2 = 1 by decide)
  have E6 := Lib.hid (show opK 5 (-7) 2 = true by decide)
  have E7 := Lib.hid (show nm 5 = ⟨#[92, 92]⟩ by decide)
  go_enter Try.func13, Try.ntmps13
  go_wp2_with fail
  refine (nu_Op _ _ _ _).mono ?_; rintro e u1 ⟨rfl, g1⟩; rw [E1.out, E2.out, E3.out]
  go_wp2_with fail
  refine (nu_Op _ _ _ _).mono ?_; rintro e u2 ⟨rfl, g2⟩; rw [E4.out, E5.out, E6.out]
  have d0 : u2.cell? ⟨u1.heap.size, 0, none⟩ = some (.bool false) := by rw [g2.cell _ _ (by simp)]; simp [go_sem]
  have d1 : u2.cell? ⟨u1.heap.size, 1, none⟩ = some (.int .i64 (-4)) := by rw [g2.cell _ _ (by simp)]; simp [go_sem]
  have s2 : u1.heap.size < u2.heap.size := by have := g2.size; simp at this; omega
  go_wp2_with (go_at_call 11; refine (nu_Name _ (by decide) _).mono ?_; rintro e u3 ⟨rfl, g3⟩; rw [E7.out])
  go_ret
  exact ⟨rfl, by repeat' (first | with_reducible exact Gr.refl _ | with_reducible assumption | with_reducible refine Gr.drewN ?_ _ | with_reducible refine Gr.drew ?_ | with_reducible refine Gr.alloc ?_ _ _ | with_reducible refine Gr.setCell ?_ ?_ _ | with_reducible refine Gr.trans ?_ (by with_reducible assumption) | (simp; done) | (simp; omega))⟩
end Go.Proofs.Ytbkpioheojaeaaa.Nu
