/- Frames: methods and blocks. -/
import Derived.Test.YtoklohfpkaiidaaGreatFr1
namespace Go.Proofs.YtoklohfpkaiidaaGreat.Obj
open Go.Proofs.YtoklohfpkaiidaaGreat.Gen Go.Proofs.YtoklohfpkaiidaaGreat.Base Go.ChangeShapes Go.WideShapes Go.ChangeAt Go.RowKit
set_option linter.unusedVariables false
section
variable {w : World} {m li : Nat} {lv dv : Value} {M : MS}
/-- How many args and temps there are. -/
def MS.cnt (M : MS) (id a t : Int) : Bool := num (M.get id a) 0 8 && num (M.get id t) (M.get id a).2 8
theorem fr_counts (h : MemAt w m li lv dv M) (id a t : Int) : Calls Tryz.prog 121 #[.pointer (some ⟨m, 0, none⟩), .int .i64 id, .int .i64 a, .int .i64 t] w fun e w' => e = .returned (.bool (M.cnt id a t)) ∧ Below w.heap.size w w' := by
  have HB : Hid (Below w.heap.size w w) := Lib.hid (Below.refl _ _)
  have HG := Lib.hid fun u (hb : Below w.heap.size w u) => me_Get2 (h.below hb) id a
  have HN1 := Lib.hid fun u (hb : Below w.heap.size w u) => fr_number (h.below hb) id a 0 8
  have HN2 := Lib.hid fun u (hb : Below w.heap.size w u) => fr_number (h.below hb) id t (M.get id a).2 8
  have hvn := val_N
  clear h
  unfold MS.cnt
  generalize num (M.get id t) (M.get id a).2 8 = n2 at *
  generalize num (M.get id a) 0 8 = n1 at *
  generalize M.get id a = g at *
  obtain ⟨gb, gn⟩ := g
  dsimp only at HG HN2
  cases n1
  · go_enter Tryz.func121, Tryz.ntmps121
    go_wp2_with (go_at_call 82; (with_reducible refine (HN1.out _ (by first | exact HB.out | exact HB.out.alloc HB.out.size _)).mono ?_); rintro e u1 ⟨rfl, hb1⟩; have HB := Lib.hid ((show Below w.heap.size w _ from (by first | exact HB.out | exact HB.out.alloc HB.out.size _)).trans (hb1.mono (show Below w.heap.size w _ from (by first | exact HB.out | exact HB.out.alloc HB.out.size _)).size)); clear hb1; dsimp only)
    go_ret
    exact ⟨rfl, HB.out⟩
  · go_enter Tryz.func121, Tryz.ntmps121
    go_wp2_with (first | (go_at_call 82; (with_reducible refine (HN1.out _ (by first | exact HB.out | exact HB.out.alloc HB.out.size _)).mono ?_); rintro e u1 ⟨rfl, hb1⟩; have HB := Lib.hid ((show Below w.heap.size w _ from (by first | exact HB.out | exact HB.out.alloc HB.out.size _)).trans (hb1.mono (show Below w.heap.size w _ from (by first | exact HB.out | exact HB.out.alloc HB.out.size _)).size)); clear hb1; dsimp only) | (go_at_call 24; (with_reducible refine (HG.out _ (by first | exact HB.out | exact HB.out.alloc HB.out.size _)).mono ?_); rintro e u2 ⟨rfl, hb2⟩; have HB := Lib.hid ((show Below w.heap.size w _ from (by first | exact HB.out | exact HB.out.alloc HB.out.size _)).trans (hb2.mono (show Below w.heap.size w _ from (by first | exact HB.out | exact HB.out.alloc HB.out.size _)).size)); clear hb2; dsimp only) | (go_at_call 82; (with_reducible refine (HN2.out _ (by first | exact HB.out | exact HB.out.alloc HB.out.size _)).mono ?_); rintro e u3 ⟨rfl, hb3⟩; have HB := Lib.hid ((show Below w.heap.size w _ from (by first | exact HB.out | exact HB.out.alloc HB.out.size _)).trans (hb3.mono (show Below w.heap.size w _ from (by first | exact HB.out | exact HB.out.alloc HB.out.size _)).size)); clear hb3; dsimp only))
    go_ret
    exact ⟨by simp, HB.out⟩
/-- A method. -/
def MS.isM (M : MS) (id : Int) : Bool := decide (M.fmt id = 1) && (decide (4 ≤ M.size id) && (M.cnt id 0 1 && (num (M.get id 2) 0 200 && ((M.get id 3).1 && decide (M.fmt (M.get id 3).2 = 3)))))
theorem fr_IsMethod (h : MemAt w m li lv dv M) (id : Int) : Calls Tryz.prog 84 #[.pointer (some ⟨m, 0, none⟩), .int .i64 id] w fun e w' => e = .returned (.bool (M.isM id)) ∧ Below w.heap.size w w' := by
  have HB : Hid (Below w.heap.size w w) := Lib.hid (Below.refl _ _)
  have HF := Lib.hid fun u (hb : Below w.heap.size w u) => me_Fmt (h.below hb) id
  have HF3 := Lib.hid fun u (hb : Below w.heap.size w u) => me_Fmt (h.below hb) (M.get id 3).2
  have HS := Lib.hid fun u (hb : Below w.heap.size w u) => me_Size (h.below hb) id
  have HG := Lib.hid fun u (hb : Below w.heap.size w u) => me_Get2 (h.below hb) id 3
  have HC := Lib.hid fun u (hb : Below w.heap.size w u) => fr_counts (h.below hb) id 0 1
  have HN := Lib.hid fun u (hb : Below w.heap.size w u) => fr_number (h.below hb) id 2 0 200
  clear h
  unfold MS.isM
  generalize num (M.get id 2) 0 200 = n2 at *
  generalize M.cnt id 0 1 = n1 at *
  generalize M.fmt (M.get id 3).2 = f3 at *
  generalize M.get id 3 = g at *
  generalize M.fmt id = f at *
  generalize M.size id = s at *
  obtain ⟨gb, gn⟩ := g
  dsimp only at HG HF3
  by_cases c1 : f = 1
  · subst c1
    by_cases c2 : 4 ≤ s
    · have c2' : ¬ s < 4 := by omega
      have e2 : decide (4 ≤ s) = true := by simpa using c2
      rw [e2]
      clear e2
      cases n1
      · go_enter Tryz.func84, Tryz.ntmps84
        go_wp2_with (first | (go_at_call 86; (with_reducible refine (HF.out _ (by first | exact HB.out | exact HB.out.alloc HB.out.size _)).mono ?_); rintro e w2 ⟨rfl, rfl⟩; dsimp only) | (go_at_call 87; (with_reducible refine (HS.out _ (by first | exact HB.out | exact HB.out.alloc HB.out.size _)).mono ?_); rintro e u1 ⟨rfl, hb1⟩; have HB := Lib.hid ((show Below w.heap.size w _ from (by first | exact HB.out | exact HB.out.alloc HB.out.size _)).trans (hb1.mono (show Below w.heap.size w _ from (by first | exact HB.out | exact HB.out.alloc HB.out.size _)).size)); clear hb1; dsimp only) | (go_at_call 24; (with_reducible refine (HG.out _ (by first | exact HB.out | exact HB.out.alloc HB.out.size _)).mono ?_); rintro e u2 ⟨rfl, hb2⟩; have HB := Lib.hid ((show Below w.heap.size w _ from (by first | exact HB.out | exact HB.out.alloc HB.out.size _)).trans (hb2.mono (show Below w.heap.size w _ from (by first | exact HB.out | exact HB.out.alloc HB.out.size _)).size)); clear hb2; dsimp only) | (go_at_call 121; (with_reducible refine (HC.out _ (by first | exact HB.out | exact HB.out.alloc HB.out.size _)).mono ?_); rintro e u3 ⟨rfl, hb3⟩; have HB := Lib.hid ((show Below w.heap.size w _ from (by first | exact HB.out | exact HB.out.alloc HB.out.size _)).trans (hb3.mono (show Below w.heap.size w _ from (by first | exact HB.out | exact HB.out.alloc HB.out.size _)).size)); have y0 := (hb3.cell (p := ⟨u2.heap.size, 0, none⟩) (by simp)).trans (new_cell u2 #[.bool gb, .int .i64 gn] 54 (i := 0) rfl); have y1 := (hb3.cell (p := ⟨u2.heap.size, 1, none⟩) (by simp)).trans (new_cell u2 #[.bool gb, .int .i64 gn] 54 (i := 1) rfl); clear hb3; dsimp only))
        go_ret
        exact ⟨by simp, by first | exact HB.out | exact HB.out.alloc HB.out.size _⟩
      · cases n2
        · go_enter Tryz.func84, Tryz.ntmps84
          go_wp2_with (first | (go_at_call 86; (with_reducible refine (HF.out _ (by first | exact HB.out | exact HB.out.alloc HB.out.size _)).mono ?_); rintro e w2 ⟨rfl, rfl⟩; dsimp only) | (go_at_call 87; (with_reducible refine (HS.out _ (by first | exact HB.out | exact HB.out.alloc HB.out.size _)).mono ?_); rintro e u1 ⟨rfl, hb1⟩; have HB := Lib.hid ((show Below w.heap.size w _ from (by first | exact HB.out | exact HB.out.alloc HB.out.size _)).trans (hb1.mono (show Below w.heap.size w _ from (by first | exact HB.out | exact HB.out.alloc HB.out.size _)).size)); clear hb1; dsimp only) | (go_at_call 24; (with_reducible refine (HG.out _ (by first | exact HB.out | exact HB.out.alloc HB.out.size _)).mono ?_); rintro e u2 ⟨rfl, hb2⟩; have HB := Lib.hid ((show Below w.heap.size w _ from (by first | exact HB.out | exact HB.out.alloc HB.out.size _)).trans (hb2.mono (show Below w.heap.size w _ from (by first | exact HB.out | exact HB.out.alloc HB.out.size _)).size)); clear hb2; dsimp only) | (go_at_call 121; (with_reducible refine (HC.out _ (by first | exact HB.out | exact HB.out.alloc HB.out.size _)).mono ?_); rintro e u3 ⟨rfl, hb3⟩; have HB := Lib.hid ((show Below w.heap.size w _ from (by first | exact HB.out | exact HB.out.alloc HB.out.size _)).trans (hb3.mono (show Below w.heap.size w _ from (by first | exact HB.out | exact HB.out.alloc HB.out.size _)).size)); have y0 := (hb3.cell (p := ⟨u2.heap.size, 0, none⟩) (by simp)).trans (new_cell u2 #[.bool gb, .int .i64 gn] 54 (i := 0) rfl); have y1 := (hb3.cell (p := ⟨u2.heap.size, 1, none⟩) (by simp)).trans (new_cell u2 #[.bool gb, .int .i64 gn] 54 (i := 1) rfl); clear hb3; dsimp only) | (go_at_call 82; (with_reducible refine (HN.out _ (by first | exact HB.out | exact HB.out.alloc HB.out.size _)).mono ?_); rintro e u4 ⟨rfl, hb4⟩; have HB := Lib.hid ((show Below w.heap.size w _ from (by first | exact HB.out | exact HB.out.alloc HB.out.size _)).trans (hb4.mono (show Below w.heap.size w _ from (by first | exact HB.out | exact HB.out.alloc HB.out.size _)).size)); have z0 := (hb4.cell (p := ⟨u2.heap.size, 0, none⟩) (World.block_lt_of_cell? _ _ y0)).trans y0; have z1 := (hb4.cell (p := ⟨u2.heap.size, 1, none⟩) (World.block_lt_of_cell? _ _ y1)).trans y1; clear hb4; dsimp only))
          go_ret
          exact ⟨by simp, by first | exact HB.out | exact HB.out.alloc HB.out.size _⟩
        · cases gb
          · go_enter Tryz.func84, Tryz.ntmps84
            go_wp2_with (first | (go_at_call 86; (with_reducible refine (HF.out _ (by first | exact HB.out | exact HB.out.alloc HB.out.size _)).mono ?_); rintro e w2 ⟨rfl, rfl⟩; dsimp only) | (go_at_call 87; (with_reducible refine (HS.out _ (by first | exact HB.out | exact HB.out.alloc HB.out.size _)).mono ?_); rintro e u1 ⟨rfl, hb1⟩; have HB := Lib.hid ((show Below w.heap.size w _ from (by first | exact HB.out | exact HB.out.alloc HB.out.size _)).trans (hb1.mono (show Below w.heap.size w _ from (by first | exact HB.out | exact HB.out.alloc HB.out.size _)).size)); clear hb1; dsimp only) | (go_at_call 24; (with_reducible refine (HG.out _ (by first | exact HB.out | exact HB.out.alloc HB.out.size _)).mono ?_); rintro e u2 ⟨rfl, hb2⟩; have HB := Lib.hid ((show Below w.heap.size w _ from (by first | exact HB.out | exact HB.out.alloc HB.out.size _)).trans (hb2.mono (show Below w.heap.size w _ from (by first | exact HB.out | exact HB.out.alloc HB.out.size _)).size)); clear hb2; dsimp only) | (go_at_call 121; (with_reducible refine (HC.out _ (by first | exact HB.out | exact HB.out.alloc HB.out.size _)).mono ?_); rintro e u3 ⟨rfl, hb3⟩; have HB := Lib.hid ((show Below w.heap.size w _ from (by first | exact HB.out | exact HB.out.alloc HB.out.size _)).trans (hb3.mono (show Below w.heap.size w _ from (by first | exact HB.out | exact HB.out.alloc HB.out.size _)).size)); have y0 := (hb3.cell (p := ⟨u2.heap.size, 0, none⟩) (by simp)).trans (new_cell u2 #[.bool false, .int .i64 gn] 54 (i := 0) rfl); have y1 := (hb3.cell (p := ⟨u2.heap.size, 1, none⟩) (by simp)).trans (new_cell u2 #[.bool false, .int .i64 gn] 54 (i := 1) rfl); clear hb3; dsimp only) | (go_at_call 82; (with_reducible refine (HN.out _ (by first | exact HB.out | exact HB.out.alloc HB.out.size _)).mono ?_); rintro e u4 ⟨rfl, hb4⟩; have HB := Lib.hid ((show Below w.heap.size w _ from (by first | exact HB.out | exact HB.out.alloc HB.out.size _)).trans (hb4.mono (show Below w.heap.size w _ from (by first | exact HB.out | exact HB.out.alloc HB.out.size _)).size)); have z0 := (hb4.cell (p := ⟨u2.heap.size, 0, none⟩) (World.block_lt_of_cell? _ _ y0)).trans y0; have z1 := (hb4.cell (p := ⟨u2.heap.size, 1, none⟩) (World.block_lt_of_cell? _ _ y1)).trans y1; clear hb4; dsimp only))
            go_ret
            exact ⟨by simp, by first | exact HB.out | exact HB.out.alloc HB.out.size _⟩
          · by_cases c3 : f3 = 3
            · subst c3
              go_enter Tryz.func84, Tryz.ntmps84
              go_wp2_with (first | (go_at_call 86; (with_reducible refine (HF.out _ (by first | exact HB.out | exact HB.out.alloc HB.out.size _)).mono ?_); rintro e w2 ⟨rfl, rfl⟩; dsimp only) | (go_at_call 87; (with_reducible refine (HS.out _ (by first | exact HB.out | exact HB.out.alloc HB.out.size _)).mono ?_); rintro e u1 ⟨rfl, hb1⟩; have HB := Lib.hid ((show Below w.heap.size w _ from (by first | exact HB.out | exact HB.out.alloc HB.out.size _)).trans (hb1.mono (show Below w.heap.size w _ from (by first | exact HB.out | exact HB.out.alloc HB.out.size _)).size)); clear hb1; dsimp only) | (go_at_call 24; (with_reducible refine (HG.out _ (by first | exact HB.out | exact HB.out.alloc HB.out.size _)).mono ?_); rintro e u2 ⟨rfl, hb2⟩; have HB := Lib.hid ((show Below w.heap.size w _ from (by first | exact HB.out | exact HB.out.alloc HB.out.size _)).trans (hb2.mono (show Below w.heap.size w _ from (by first | exact HB.out | exact HB.out.alloc HB.out.size _)).size)); clear hb2; dsimp only) | (go_at_call 121; (with_reducible refine (HC.out _ (by first | exact HB.out | exact HB.out.alloc HB.out.size _)).mono ?_); rintro e u3 ⟨rfl, hb3⟩; have HB := Lib.hid ((show Below w.heap.size w _ from (by first | exact HB.out | exact HB.out.alloc HB.out.size _)).trans (hb3.mono (show Below w.heap.size w _ from (by first | exact HB.out | exact HB.out.alloc HB.out.size _)).size)); have y0 := (hb3.cell (p := ⟨u2.heap.size, 0, none⟩) (by simp)).trans (new_cell u2 #[.bool true, .int .i64 gn] 54 (i := 0) rfl); have y1 := (hb3.cell (p := ⟨u2.heap.size, 1, none⟩) (by simp)).trans (new_cell u2 #[.bool true, .int .i64 gn] 54 (i := 1) rfl); clear hb3; dsimp only) | (go_at_call 82; (with_reducible refine (HN.out _ (by first | exact HB.out | exact HB.out.alloc HB.out.size _)).mono ?_); rintro e u4 ⟨rfl, hb4⟩; have HB := Lib.hid ((show Below w.heap.size w _ from (by first | exact HB.out | exact HB.out.alloc HB.out.size _)).trans (hb4.mono (show Below w.heap.size w _ from (by first | exact HB.out | exact HB.out.alloc HB.out.size _)).size)); have z0 := (hb4.cell (p := ⟨u2.heap.size, 0, none⟩) (World.block_lt_of_cell? _ _ y0)).trans y0; have z1 := (hb4.cell (p := ⟨u2.heap.size, 1, none⟩) (World.block_lt_of_cell? _ _ y1)).trans y1; clear hb4; dsimp only) | (go_at_call 86; (with_reducible refine (HF3.out _ (by first | exact HB.out | exact HB.out.alloc HB.out.size _)).mono ?_); rintro e w2 ⟨rfl, rfl⟩; dsimp only))
              go_ret
              exact ⟨by simp, by first | exact HB.out | exact HB.out.alloc HB.out.size _⟩
            · have d3 : decide (f3 = 3) = false := by simpa using c3
              have d4 : (f3 == 3) = false := by simpa using c3
              rw [d3]
              go_enter Tryz.func84, Tryz.ntmps84
              go_wp2_with (first | (go_at_call 86; (with_reducible refine (HF.out _ (by first | exact HB.out | exact HB.out.alloc HB.out.size _)).mono ?_); rintro e w2 ⟨rfl, rfl⟩; dsimp only) | (go_at_call 87; (with_reducible refine (HS.out _ (by first | exact HB.out | exact HB.out.alloc HB.out.size _)).mono ?_); rintro e u1 ⟨rfl, hb1⟩; have HB := Lib.hid ((show Below w.heap.size w _ from (by first | exact HB.out | exact HB.out.alloc HB.out.size _)).trans (hb1.mono (show Below w.heap.size w _ from (by first | exact HB.out | exact HB.out.alloc HB.out.size _)).size)); clear hb1; dsimp only) | (go_at_call 24; (with_reducible refine (HG.out _ (by first | exact HB.out | exact HB.out.alloc HB.out.size _)).mono ?_); rintro e u2 ⟨rfl, hb2⟩; have HB := Lib.hid ((show Below w.heap.size w _ from (by first | exact HB.out | exact HB.out.alloc HB.out.size _)).trans (hb2.mono (show Below w.heap.size w _ from (by first | exact HB.out | exact HB.out.alloc HB.out.size _)).size)); clear hb2; dsimp only) | (go_at_call 121; (with_reducible refine (HC.out _ (by first | exact HB.out | exact HB.out.alloc HB.out.size _)).mono ?_); rintro e u3 ⟨rfl, hb3⟩; have HB := Lib.hid ((show Below w.heap.size w _ from (by first | exact HB.out | exact HB.out.alloc HB.out.size _)).trans (hb3.mono (show Below w.heap.size w _ from (by first | exact HB.out | exact HB.out.alloc HB.out.size _)).size)); have y0 := (hb3.cell (p := ⟨u2.heap.size, 0, none⟩) (by simp)).trans (new_cell u2 #[.bool true, .int .i64 gn] 54 (i := 0) rfl); have y1 := (hb3.cell (p := ⟨u2.heap.size, 1, none⟩) (by simp)).trans (new_cell u2 #[.bool true, .int .i64 gn] 54 (i := 1) rfl); clear hb3; dsimp only) | (go_at_call 82; (with_reducible refine (HN.out _ (by first | exact HB.out | exact HB.out.alloc HB.out.size _)).mono ?_); rintro e u4 ⟨rfl, hb4⟩; have HB := Lib.hid ((show Below w.heap.size w _ from (by first | exact HB.out | exact HB.out.alloc HB.out.size _)).trans (hb4.mono (show Below w.heap.size w _ from (by first | exact HB.out | exact HB.out.alloc HB.out.size _)).size)); have z0 := (hb4.cell (p := ⟨u2.heap.size, 0, none⟩) (World.block_lt_of_cell? _ _ y0)).trans y0; have z1 := (hb4.cell (p := ⟨u2.heap.size, 1, none⟩) (World.block_lt_of_cell? _ _ y1)).trans y1; clear hb4; dsimp only) | (go_at_call 86; (with_reducible refine (HF3.out _ (by first | exact HB.out | exact HB.out.alloc HB.out.size _)).mono ?_); rintro e w2 ⟨rfl, rfl⟩; dsimp only))
              go_ret
              exact ⟨by simp, by first | exact HB.out | exact HB.out.alloc HB.out.size _⟩
    · have c2' : s < 4 := by omega
      have e2 : decide (4 ≤ s) = false := by simpa using c2
      rw [e2]
      clear e2
      go_enter Tryz.func84, Tryz.ntmps84
      go_wp2_with (first | (go_at_call 86; (with_reducible refine (HF.out _ (by first | exact HB.out | exact HB.out.alloc HB.out.size _)).mono ?_); rintro e w2 ⟨rfl, rfl⟩; dsimp only) | (go_at_call 87; (with_reducible refine (HS.out _ (by first | exact HB.out | exact HB.out.alloc HB.out.size _)).mono ?_); rintro e u1 ⟨rfl, hb1⟩; have HB := Lib.hid ((show Below w.heap.size w _ from (by first | exact HB.out | exact HB.out.alloc HB.out.size _)).trans (hb1.mono (show Below w.heap.size w _ from (by first | exact HB.out | exact HB.out.alloc HB.out.size _)).size)); clear hb1; dsimp only))
      go_ret
      exact ⟨by simp, by first | exact HB.out | exact HB.out.alloc HB.out.size _⟩
  · have d1 : decide (f = 1) = false := by simpa using c1
    have d2 : (f == 1) = false := by simpa using c1
    have d3 : (f != 1) = true := by simpa using c1
    rw [d1]
    go_enter Tryz.func84, Tryz.ntmps84
    go_wp2_with (go_at_call 86; (with_reducible refine (HF.out _ (by first | exact HB.out | exact HB.out.alloc HB.out.size _)).mono ?_); rintro e w2 ⟨rfl, rfl⟩; dsimp only)
    go_ret
    exact ⟨by simp, by first | exact HB.out | exact HB.out.alloc HB.out.size _⟩
end
end Go.Proofs.YtoklohfpkaiidaaGreat.Obj
