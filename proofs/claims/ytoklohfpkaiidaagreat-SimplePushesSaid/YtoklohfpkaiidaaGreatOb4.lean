/- Classes, values that may be: package object. -/
import Derived.Test.YtoklohfpkaiidaaGreatOb3
namespace Go.Proofs.YtoklohfpkaiidaaGreat.Obj
open Go.Proofs.YtoklohfpkaiidaaGreat.Gen Go.Proofs.YtoklohfpkaiidaaGreat.Base Go.ChangeShapes Go.WideShapes Go.ChangeAt Go.RowKit
set_option linter.unusedVariables false
section
variable {w w' : World} {m li : Nat} {lv dv : Value} {M : MS}
set_option maxHeartbeats 1000000 in
theorem im_Shapes (s f : V) (w : World) : Calls Tryz.prog 128 #[.agg (vcells s).toArray, .agg (vcells f).toArray] w fun e w' => e = .returned (.bool (shapes s f)) ∧ Below w.heap.size w w' := by
  obtain ⟨sb, sn⟩ := s
  obtain ⟨fb, fn⟩ := f
  have hb2 : ∀ x y, Below w.heap.size w ((w.alloc x).alloc y) := fun x y => ((Below.refl _ _).alloc (Nat.le_refl _) _).alloc (by simp) _
  unfold shapes vcells
  cases sb
  · cases fb
    · dsimp only
      by_cases c1 : 0 ≤ sn
      · by_cases c2 : sn ≤ 60
        · by_cases c3 : 1 ≤ fn
          · by_cases c4 : fn ≤ 3
            · rw [show decide (0 ≤ sn ∧ sn ≤ 60 ∧ 1 ≤ fn ∧ fn ≤ 3) = true by simp; omega]
              have d4 : decide (fn ≤ 3) = true := by simpa using c4
              go_enter Tryz.func128, Tryz.ntmps128
              go_wp2_with fail
              go_ret
              exact ⟨rfl, hb2 _ _⟩
            · rw [show decide (0 ≤ sn ∧ sn ≤ 60 ∧ 1 ≤ fn ∧ fn ≤ 3) = false by simp; omega]
              have d4 : decide (fn ≤ 3) = false := by simpa using c4
              go_enter Tryz.func128, Tryz.ntmps128
              go_wp2_with fail
              go_ret
              exact ⟨rfl, hb2 _ _⟩
          · rw [show decide (0 ≤ sn ∧ sn ≤ 60 ∧ 1 ≤ fn ∧ fn ≤ 3) = false by simp; omega]
            go_enter Tryz.func128, Tryz.ntmps128
            go_wp2_with fail
            go_ret
            exact ⟨rfl, hb2 _ _⟩
        · rw [show decide (0 ≤ sn ∧ sn ≤ 60 ∧ 1 ≤ fn ∧ fn ≤ 3) = false by simp; omega]
          go_enter Tryz.func128, Tryz.ntmps128
          go_wp2_with fail
          go_ret
          exact ⟨rfl, hb2 _ _⟩
      · rw [show decide (0 ≤ sn ∧ sn ≤ 60 ∧ 1 ≤ fn ∧ fn ≤ 3) = false by simp; omega]
        go_enter Tryz.func128, Tryz.ntmps128
        go_wp2_with fail
        go_ret
        exact ⟨rfl, hb2 _ _⟩
    · dsimp only
      go_enter Tryz.func128, Tryz.ntmps128
      go_wp2_with fail
      go_ret
      exact ⟨rfl, hb2 _ _⟩
  · dsimp only
    go_enter Tryz.func128, Tryz.ntmps128
    go_wp2_with fail
    go_ret
    exact ⟨rfl, hb2 _ _⟩
theorem wd_Fits (v : Int) (w : World) : Calls Tryz.prog 126 #[.int .i64 v] w fun e w' => e = .returned (.bool (fits v)) ∧ w = w' := by
  unfold fits
  by_cases c1 : -536870912 ≤ v
  · by_cases c2 : v < 536870912
    · rw [show decide (-536870912 ≤ v ∧ v < 536870912) = true by simp; omega]
      have d2 : decide (v < 536870912) = true := by simpa using c2
      go_enter Tryz.func126, Tryz.ntmps126
      go_wp2_with fail
      go_ret
      exact ⟨rfl, rfl⟩
    · rw [show decide (-536870912 ≤ v ∧ v < 536870912) = false by simp; omega]
      have d2 : decide (v < 536870912) = false := by simpa using c2
      go_enter Tryz.func126, Tryz.ntmps126
      go_wp2_with fail
      go_ret
      exact ⟨rfl, rfl⟩
  · rw [show decide (-536870912 ≤ v ∧ v < 536870912) = false by simp; omega]
    go_enter Tryz.func126, Tryz.ntmps126
    go_wp2_with fail
    go_ret
    exact ⟨rfl, rfl⟩
theorem me_IsClass (h : MemAt w m li lv dv M) (id : Int) : Calls Tryz.prog 125 #[.pointer (some ⟨m, 0, none⟩), .int .i64 id] w fun e w' => e = .returned (.bool (M.isClass id)) ∧ Below w.heap.size w w' := by
  have hf := me_Fmt h id
  have hs := me_Size h id
  have H := Lib.hid h
  clear h
  unfold MS.isClass
  by_cases c1 : M.fmt id = 1
  · have d1 : (M.fmt id != 1) = false := by simp [c1]
    by_cases c2 : 5 ≤ M.size id
    · rw [show decide (M.fmt id = 1 ∧ 5 ≤ M.size id) = true by simp [c1, c2]]
      have c2' : ¬ M.size id < 5 := by omega
      clear c1
      go_enter Tryz.func125, Tryz.ntmps125
      go_wp2_with (first | (go_at_call 86; (with_reducible refine hf.mono ?_); rintro e w2 ⟨rfl, rfl⟩; dsimp only) | (go_at_call 87; (with_reducible refine hs.mono ?_); rintro e u1 ⟨rfl, hb1⟩; dsimp only))
      refine (me_Get (H.out.below hb1) id 3).mono ?_
      rintro e u2 ⟨rfl, hb2⟩
      have hb2' := hb1.trans (hb2.mono hb1.size)
      dsimp only
      go_wp2_with fail
      refine (me_Get (H.out.below hb2') id 4).mono ?_
      rintro e u3 ⟨rfl, hb3⟩
      have hb3' := hb2'.trans (hb3.mono hb2'.size)
      dsimp only
      go_wp2_with fail
      refine (im_Shapes _ _ u3).mono ?_
      rintro e u4 ⟨rfl, hb4⟩
      have HB := Lib.hid (hb3'.trans (hb4.mono hb3'.size))
      clear hb1 hb2 hb3 hb4 hb2' hb3'
      dsimp only
      go_wp2_with fail
      go_ret
      exact ⟨rfl, HB.out⟩
    · rw [show decide (M.fmt id = 1 ∧ 5 ≤ M.size id) = false by simp; omega]
      have c2' : M.size id < 5 := by omega
      clear c1
      go_enter Tryz.func125, Tryz.ntmps125
      go_wp2_with (first | (go_at_call 86; (with_reducible refine hf.mono ?_); rintro e w2 ⟨rfl, rfl⟩; dsimp only) | (go_at_call 87; (with_reducible refine hs.mono ?_); rintro e u1 ⟨rfl, hb1⟩; dsimp only))
      go_ret
      exact ⟨rfl, hb1⟩
  · rw [show decide (M.fmt id = 1 ∧ 5 ≤ M.size id) = false by simp; omega]
    have d1 : (M.fmt id != 1) = true := by simpa using c1
    clear c1
    go_enter Tryz.func125, Tryz.ntmps125
    go_wp2_with (go_at_call 86; (with_reducible refine hf.mono ?_); rintro e w2 ⟨rfl, rfl⟩; dsimp only)
    go_ret
    exact ⟨rfl, Below.refl _ _⟩
theorem me_Get2 (h : MemAt w m li lv dv M) (id i : Int) : Calls Tryz.prog 24 #[.pointer (some ⟨m, 0, none⟩), .int .i64 id, .int .i64 i] w fun e w' => e = .returned (.agg #[.bool (M.get id i).1, .int .i64 (M.get id i).2]) ∧ Below w.heap.size w w' := me_Get h id i
theorem val_N (b : Bool) (n : Int) (u : World) : Sem.run Tryz.prog (Instr.field 54 (.agg #[.bool b, .int .i64 n]) 1) u = .ok (.int .i64 n) u := by kernel_rfl
def MS.shape (M : MS) (id : Int) : Int × Int := if M.isClass id then ((M.get id 3).2, (M.get id 4).2) else (0, 0)
set_option maxRecDepth 100000 in
theorem me_Shape (h : MemAt w m li lv dv M) (id : Int) : Calls Tryz.prog 122 #[.pointer (some ⟨m, 0, none⟩), .int .i64 id] w fun e w' => e = .returned (.tuple #[.int .i64 (M.shape id).1, .int .i64 (M.shape id).2]) ∧ Below w.heap.size w w' := by
  have hc := me_IsClass h id
  have hfd := val_N
  have H := Lib.hid h
  clear h
  unfold MS.shape
  cases hb : M.isClass id
  · rw [hb] at hc
    clear hb
    go_enter Tryz.func122, Tryz.ntmps122
    go_wp2_with (go_at_call 125; (with_reducible refine hc.mono ?_); rintro e u1 ⟨rfl, hb1⟩; dsimp only)
    go_ret2
    exact ⟨rfl, hb1⟩
  · rw [hb] at hc
    simp only [if_true]
    have g3 := fun u hb => me_Get2 (H.out.below (w' := u) hb) id 3
    have g4 := fun u hb => me_Get2 (H.out.below (w' := u) hb) id 4
    generalize (M.get id 3).1 = pb at *
    generalize (M.get id 3).2 = pn at *
    generalize (M.get id 4).1 = qb at *
    generalize (M.get id 4).2 = qn at *
    have G3 := Lib.hid g3; have G4 := Lib.hid g4
    clear hb g3 g4
    go_enter Tryz.func122, Tryz.ntmps122
    go_wp2_with fail
    refine hc.mono ?_
    rintro e u1 ⟨rfl, hb1⟩
    try dsimp only
    go_wp2_with fail
    refine (G3.out u1 hb1).mono ?_
    rintro e u2 ⟨rfl, hb2⟩
    have hb2' := hb1.trans (hb2.mono hb1.size)
    try dsimp only
    go_wp2_with fail
    refine (G4.out u2 hb2').mono ?_
    rintro e u3 ⟨rfl, hb3⟩
    have HB := Lib.hid (hb2'.trans (hb3.mono hb2'.size))
    clear hb1 hb2 hb3 hb2'
    try dsimp only
    go_wp2_with fail
    go_ret2
    exact ⟨rfl, HB.out⟩
theorem me_May (h : MemAt w m li lv dv M) (v : V) : Calls Tryz.prog 94 #[.pointer (some ⟨m, 0, none⟩), .agg (vcells v).toArray] w fun e w' => e = .returned (.bool (M.may v)) ∧ Below w.heap.size w w' := by
  have hb0 : ∀ x, Below w.heap.size w (w.alloc x) := fun x => (Below.refl _ _).alloc (Nat.le_refl _) _
  obtain ⟨vb, vn⟩ := v
  have hh := fun x => me_Has (h.below (hb0 x)) vn
  have hf := fun x => wd_Fits vn (w.alloc x)
  unfold MS.may vcells
  clear h
  cases vb
  all_goals
    try dsimp only
    go_enter Tryz.func94, Tryz.ntmps94
    go_wp2_with (first | (go_at_call 39; (with_reducible refine (hh _).mono ?_); rintro e w2 ⟨rfl, rfl⟩; dsimp only) | (go_at_call 126; (with_reducible refine (hf _).mono ?_); rintro e w2 ⟨rfl, rfl⟩; dsimp only))
    go_ret
    exact ⟨rfl, hb0 _⟩
end
end Go.Proofs.YtoklohfpkaiidaaGreat.Obj
