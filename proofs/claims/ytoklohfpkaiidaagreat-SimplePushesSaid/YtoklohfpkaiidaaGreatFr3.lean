/- Frames: blocks. -/
import Derived.Test.YtoklohfpkaiidaaGreatFr2
namespace Go.Proofs.YtoklohfpkaiidaaGreat.Obj
open Go.Proofs.YtoklohfpkaiidaaGreat.Gen Go.Proofs.YtoklohfpkaiidaaGreat.Base Go.ChangeShapes Go.WideShapes Go.ChangeAt Go.RowKit
set_option linter.unusedVariables false
section
variable {w : World} {m li : Nat} {lv dv : Value} {M : MS}
theorem val_B (b : Bool) (n : Int) (u : World) : Sem.run Tryz.prog (Instr.field 54 (.agg #[.bool b, .int .i64 n]) 0) u = .ok (.bool b) u := by kernel_rfl
/-- A block. -/
def MS.isB (M : MS) (id : Int) : Bool := decide (M.fmt id = 1) && (decide (4 ≤ M.size id) && ((M.get id 0).1 && (M.like (M.get id 0).2 && (M.cnt id 1 2 && !(M.get id 3).1))))
theorem fr_IsBlock (h : MemAt w m li lv dv M) (id : Int) : Calls Tryz.prog 83 #[.pointer (some ⟨m, 0, none⟩), .int .i64 id] w fun e w' => e = .returned (.bool (M.isB id)) ∧ Below w.heap.size w w' := by
  have HB : Hid (Below w.heap.size w w) := Lib.hid (Below.refl _ _)
  have HF := Lib.hid fun u (hb : Below w.heap.size w u) => me_Fmt (h.below hb) id
  have HS := Lib.hid fun u (hb : Below w.heap.size w u) => me_Size (h.below hb) id
  have HG := Lib.hid fun u (hb : Below w.heap.size w u) => me_Get2 (h.below hb) id 0
  have HL := Lib.hid fun u (hb : Below w.heap.size w u) => fr_Like (h.below hb) (M.get id 0).2
  have HC := Lib.hid fun u (hb : Below w.heap.size w u) => fr_counts (h.below hb) id 1 2
  have HP := Lib.hid fun u (hb : Below w.heap.size w u) => me_Get2 (h.below hb) id 3
  have hvb := val_B
  clear h
  unfold MS.isB
  generalize M.cnt id 1 2 = n1 at *
  generalize M.like (M.get id 0).2 = lk at *
  generalize M.get id 0 = g at *
  generalize M.get id 3 = p at *
  generalize M.fmt id = f at *
  generalize M.size id = s at *
  obtain ⟨gb, gn⟩ := g
  obtain ⟨pb, pn⟩ := p
  dsimp only at HG HL HP
  by_cases c1 : f = 1
  · subst c1
    by_cases c2 : 4 ≤ s
    · have c2' : ¬ s < 4 := by omega
      have e2 : decide (4 ≤ s) = true := by simpa using c2
      rw [e2]
      clear e2
      cases gb
      · go_enter Tryz.func83, Tryz.ntmps83
        go_wp2_with (first | (go_at_call 86; (with_reducible refine (HF.out _ (by first | exact HB.out | exact HB.out.alloc HB.out.size _)).mono ?_); rintro e w2 ⟨rfl, rfl⟩; dsimp only) | (go_at_call 87; (with_reducible refine (HS.out _ (by first | exact HB.out | exact HB.out.alloc HB.out.size _)).mono ?_); rintro e u1 ⟨rfl, hb1⟩; have HB := Lib.hid ((show Below w.heap.size w _ from (by first | exact HB.out | exact HB.out.alloc HB.out.size _)).trans (hb1.mono (show Below w.heap.size w _ from (by first | exact HB.out | exact HB.out.alloc HB.out.size _)).size)); clear hb1; dsimp only) | (go_at_call 24; (with_reducible refine (HG.out _ (by first | exact HB.out | exact HB.out.alloc HB.out.size _)).mono ?_); rintro e u2 ⟨rfl, hb2⟩; have HB := Lib.hid ((show Below w.heap.size w _ from (by first | exact HB.out | exact HB.out.alloc HB.out.size _)).trans (hb2.mono (show Below w.heap.size w _ from (by first | exact HB.out | exact HB.out.alloc HB.out.size _)).size)); clear hb2; dsimp only))
        go_ret
        exact ⟨by simp, by first | exact HB.out | exact HB.out.alloc HB.out.size _⟩
      · cases lk
        · go_enter Tryz.func83, Tryz.ntmps83
          go_wp2_with (first | (go_at_call 86; (with_reducible refine (HF.out _ (by first | exact HB.out | exact HB.out.alloc HB.out.size _)).mono ?_); rintro e w2 ⟨rfl, rfl⟩; dsimp only) | (go_at_call 87; (with_reducible refine (HS.out _ (by first | exact HB.out | exact HB.out.alloc HB.out.size _)).mono ?_); rintro e u1 ⟨rfl, hb1⟩; have HB := Lib.hid ((show Below w.heap.size w _ from (by first | exact HB.out | exact HB.out.alloc HB.out.size _)).trans (hb1.mono (show Below w.heap.size w _ from (by first | exact HB.out | exact HB.out.alloc HB.out.size _)).size)); clear hb1; dsimp only) | (go_at_call 24; (with_reducible refine (HG.out _ (by first | exact HB.out | exact HB.out.alloc HB.out.size _)).mono ?_); rintro e u2 ⟨rfl, hb2⟩; have HB := Lib.hid ((show Below w.heap.size w _ from (by first | exact HB.out | exact HB.out.alloc HB.out.size _)).trans (hb2.mono (show Below w.heap.size w _ from (by first | exact HB.out | exact HB.out.alloc HB.out.size _)).size)); clear hb2; dsimp only) | (go_at_call 81; (with_reducible refine (HL.out _ (by first | exact HB.out | exact HB.out.alloc HB.out.size _)).mono ?_); rintro e u3 ⟨rfl, hb3⟩; have HB := Lib.hid ((show Below w.heap.size w _ from (by first | exact HB.out | exact HB.out.alloc HB.out.size _)).trans (hb3.mono (show Below w.heap.size w _ from (by first | exact HB.out | exact HB.out.alloc HB.out.size _)).size)); clear hb3; dsimp only))
          go_ret
          exact ⟨by simp, by first | exact HB.out | exact HB.out.alloc HB.out.size _⟩
        · cases n1
          · go_enter Tryz.func83, Tryz.ntmps83
            go_wp2_with (first | (go_at_call 86; (with_reducible refine (HF.out _ (by first | exact HB.out | exact HB.out.alloc HB.out.size _)).mono ?_); rintro e w2 ⟨rfl, rfl⟩; dsimp only) | (go_at_call 87; (with_reducible refine (HS.out _ (by first | exact HB.out | exact HB.out.alloc HB.out.size _)).mono ?_); rintro e u1 ⟨rfl, hb1⟩; have HB := Lib.hid ((show Below w.heap.size w _ from (by first | exact HB.out | exact HB.out.alloc HB.out.size _)).trans (hb1.mono (show Below w.heap.size w _ from (by first | exact HB.out | exact HB.out.alloc HB.out.size _)).size)); clear hb1; dsimp only) | (go_at_call 24; (with_reducible refine (HG.out _ (by first | exact HB.out | exact HB.out.alloc HB.out.size _)).mono ?_); rintro e u2 ⟨rfl, hb2⟩; have HB := Lib.hid ((show Below w.heap.size w _ from (by first | exact HB.out | exact HB.out.alloc HB.out.size _)).trans (hb2.mono (show Below w.heap.size w _ from (by first | exact HB.out | exact HB.out.alloc HB.out.size _)).size)); clear hb2; dsimp only) | (go_at_call 81; (with_reducible refine (HL.out _ (by first | exact HB.out | exact HB.out.alloc HB.out.size _)).mono ?_); rintro e u3 ⟨rfl, hb3⟩; have HB := Lib.hid ((show Below w.heap.size w _ from (by first | exact HB.out | exact HB.out.alloc HB.out.size _)).trans (hb3.mono (show Below w.heap.size w _ from (by first | exact HB.out | exact HB.out.alloc HB.out.size _)).size)); clear hb3; dsimp only) | (go_at_call 121; (with_reducible refine (HC.out _ (by first | exact HB.out | exact HB.out.alloc HB.out.size _)).mono ?_); rintro e u4 ⟨rfl, hb4⟩; have HB := Lib.hid ((show Below w.heap.size w _ from (by first | exact HB.out | exact HB.out.alloc HB.out.size _)).trans (hb4.mono (show Below w.heap.size w _ from (by first | exact HB.out | exact HB.out.alloc HB.out.size _)).size)); clear hb4; dsimp only))
            go_ret
            exact ⟨by simp, by first | exact HB.out | exact HB.out.alloc HB.out.size _⟩
          · go_enter Tryz.func83, Tryz.ntmps83
            go_wp2_with (first | (go_at_call 86; (with_reducible refine (HF.out _ (by first | exact HB.out | exact HB.out.alloc HB.out.size _)).mono ?_); rintro e w2 ⟨rfl, rfl⟩; dsimp only) | (go_at_call 87; (with_reducible refine (HS.out _ (by first | exact HB.out | exact HB.out.alloc HB.out.size _)).mono ?_); rintro e u1 ⟨rfl, hb1⟩; have HB := Lib.hid ((show Below w.heap.size w _ from (by first | exact HB.out | exact HB.out.alloc HB.out.size _)).trans (hb1.mono (show Below w.heap.size w _ from (by first | exact HB.out | exact HB.out.alloc HB.out.size _)).size)); clear hb1; dsimp only) | (go_at_call 24; (with_reducible refine (HG.out _ (by first | exact HB.out | exact HB.out.alloc HB.out.size _)).mono ?_); rintro e u2 ⟨rfl, hb2⟩; have HB := Lib.hid ((show Below w.heap.size w _ from (by first | exact HB.out | exact HB.out.alloc HB.out.size _)).trans (hb2.mono (show Below w.heap.size w _ from (by first | exact HB.out | exact HB.out.alloc HB.out.size _)).size)); clear hb2; dsimp only) | (go_at_call 81; (with_reducible refine (HL.out _ (by first | exact HB.out | exact HB.out.alloc HB.out.size _)).mono ?_); rintro e u3 ⟨rfl, hb3⟩; have HB := Lib.hid ((show Below w.heap.size w _ from (by first | exact HB.out | exact HB.out.alloc HB.out.size _)).trans (hb3.mono (show Below w.heap.size w _ from (by first | exact HB.out | exact HB.out.alloc HB.out.size _)).size)); clear hb3; dsimp only) | (go_at_call 121; (with_reducible refine (HC.out _ (by first | exact HB.out | exact HB.out.alloc HB.out.size _)).mono ?_); rintro e u4 ⟨rfl, hb4⟩; have HB := Lib.hid ((show Below w.heap.size w _ from (by first | exact HB.out | exact HB.out.alloc HB.out.size _)).trans (hb4.mono (show Below w.heap.size w _ from (by first | exact HB.out | exact HB.out.alloc HB.out.size _)).size)); clear hb4; dsimp only) | (go_at_call 24; (with_reducible refine (HP.out _ (by first | exact HB.out | exact HB.out.alloc HB.out.size _)).mono ?_); rintro e u5 ⟨rfl, hb5⟩; have HB := Lib.hid ((show Below w.heap.size w _ from (by first | exact HB.out | exact HB.out.alloc HB.out.size _)).trans (hb5.mono (show Below w.heap.size w _ from (by first | exact HB.out | exact HB.out.alloc HB.out.size _)).size)); clear hb5; dsimp only))
            go_ret
            exact ⟨by simp, by first | exact HB.out | exact HB.out.alloc HB.out.size _⟩
    · have c2' : s < 4 := by omega
      have e2 : decide (4 ≤ s) = false := by simpa using c2
      rw [e2]
      clear e2
      go_enter Tryz.func83, Tryz.ntmps83
      go_wp2_with (first | (go_at_call 86; (with_reducible refine (HF.out _ (by first | exact HB.out | exact HB.out.alloc HB.out.size _)).mono ?_); rintro e w2 ⟨rfl, rfl⟩; dsimp only) | (go_at_call 87; (with_reducible refine (HS.out _ (by first | exact HB.out | exact HB.out.alloc HB.out.size _)).mono ?_); rintro e u1 ⟨rfl, hb1⟩; have HB := Lib.hid ((show Below w.heap.size w _ from (by first | exact HB.out | exact HB.out.alloc HB.out.size _)).trans (hb1.mono (show Below w.heap.size w _ from (by first | exact HB.out | exact HB.out.alloc HB.out.size _)).size)); clear hb1; dsimp only))
      go_ret
      exact ⟨by simp, by first | exact HB.out | exact HB.out.alloc HB.out.size _⟩
  · have d1 : decide (f = 1) = false := by simpa using c1
    have d2 : (f == 1) = false := by simpa using c1
    have d3 : (f != 1) = true := by simpa using c1
    rw [d1]
    go_enter Tryz.func83, Tryz.ntmps83
    go_wp2_with (go_at_call 86; (with_reducible refine (HF.out _ (by first | exact HB.out | exact HB.out.alloc HB.out.size _)).mono ?_); rintro e w2 ⟨rfl, rfl⟩; dsimp only)
    go_ret
    exact ⟨by simp, by first | exact HB.out | exact HB.out.alloc HB.out.size _⟩
end
end Go.Proofs.YtoklohfpkaiidaaGreat.Obj
