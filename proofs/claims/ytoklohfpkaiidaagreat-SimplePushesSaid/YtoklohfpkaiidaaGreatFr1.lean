/- Frames: what is read of them: package frame. -/
import Derived.Test.YtoklohfpkaiidaaGreatB3
namespace Go.Proofs.YtoklohfpkaiidaaGreat.Obj
open Go.Proofs.YtoklohfpkaiidaaGreat.Gen Go.Proofs.YtoklohfpkaiidaaGreat.Base Go.ChangeShapes Go.WideShapes Go.ChangeAt Go.RowKit
set_option linter.unusedVariables false
section
variable {w : World} {m li : Nat} {lv dv : Value} {M : MS}
set_option maxRecDepth 100000 in
theorem fr_thing (v : Int) (w : World) : Calls Tryz.prog 91 #[.int .i64 v] w fun e w' => e = .returned (.agg #[.bool true, .int .i64 v]) ∧ Below w.heap.size w w' := by
  have hz := zV
  go_enter Tryz.func91, Tryz.ntmps91
  go_wp2_with (refine wpList_store_row rfl 54 (Operand.tmp 2) (Operand.tmp 4) rfl w.heap.size _ rfl rfl _ _ (heap_alloc_new w _) info2 rfl rfl ?_; rw [World.setRow_alloc_new])
  refine bodyPost_ret (v := .agg #[.bool true, .int .i64 v]) ?_ rfl ⟨rfl, (Below.refl _ _).alloc (Nat.le_refl _) _⟩
  exact results_cell_row rfl _ _ w.heap.size _ #[.bool true, .int .i64 v] _ _ (by rfl) (heap_alloc_new w _) Tryz.underlying54 rfl info2
/-- A number between two others. -/
def num (v : V) (low high : Int) : Bool := !v.1 && decide (low ≤ v.2 ∧ v.2 ≤ high)
theorem fr_number (h : MemAt w m li lv dv M) (id i low high : Int) : Calls Tryz.prog 82 #[.pointer (some ⟨m, 0, none⟩), .int .i64 id, .int .i64 i, .int .i64 low, .int .i64 high] w fun e w' => e = .returned (.bool (num (M.get id i) low high)) ∧ Below w.heap.size w w' := by
  have hg := me_Get2 h id i
  have hz := zV
  clear h
  revert hg
  generalize M.get id i = v
  obtain ⟨vb, vn⟩ := v
  intro hg
  dsimp only at hg
  cases vb
  · by_cases c1 : low ≤ vn
    · by_cases c2 : vn ≤ high
      · rw [show num (false, vn) low high = true by unfold num; simp; omega]
        have d1 : decide (low ≤ vn) = true := by simpa using c1
        have d2 : decide (vn ≤ high) = true := by simpa using c2
        go_enter Tryz.func82, Tryz.ntmps82
        go_wp2_with (go_at_call 24; (with_reducible refine hg.mono ?_); rintro e u1 ⟨rfl, hb1⟩; dsimp only)
        go_ret
        exact ⟨rfl, hb1.alloc hb1.size _⟩
      · rw [show num (false, vn) low high = false by unfold num; simp; omega]
        have d1 : decide (low ≤ vn) = true := by simpa using c1
        have d2 : decide (vn ≤ high) = false := by simpa using c2
        go_enter Tryz.func82, Tryz.ntmps82
        go_wp2_with (go_at_call 24; (with_reducible refine hg.mono ?_); rintro e u1 ⟨rfl, hb1⟩; dsimp only)
        go_ret
        exact ⟨rfl, hb1.alloc hb1.size _⟩
    · rw [show num (false, vn) low high = false by unfold num; simp; omega]
      have d1 : decide (low ≤ vn) = false := by simpa using c1
      go_enter Tryz.func82, Tryz.ntmps82
      go_wp2_with (go_at_call 24; (with_reducible refine hg.mono ?_); rintro e u1 ⟨rfl, hb1⟩; dsimp only)
      go_ret
      exact ⟨rfl, hb1.alloc hb1.size _⟩
  · rw [show num (true, vn) low high = false by unfold num; simp]
    go_enter Tryz.func82, Tryz.ntmps82
    go_wp2_with (go_at_call 24; (with_reducible refine hg.mono ?_); rintro e u1 ⟨rfl, hb1⟩; dsimp only)
    go_ret
    exact ⟨rfl, hb1.alloc hb1.size _⟩
/-- As a frame: its format, its size. -/
def MS.like (M : MS) (id : Int) : Bool := decide (M.fmt id = 1) && decide (M.size id = 22)
theorem fr_Like (h : MemAt w m li lv dv M) (id : Int) : Calls Tryz.prog 81 #[.pointer (some ⟨m, 0, none⟩), .int .i64 id] w fun e w' => e = .returned (.bool (M.like id)) ∧ Below w.heap.size w w' := by
  have hf := me_Fmt h id
  have hs := me_Size h id
  clear h
  unfold MS.like
  revert hf hs
  generalize M.fmt id = f
  generalize M.size id = s
  intro hf hs
  by_cases c1 : f = 1
  · by_cases c2 : s = 22
    · subst c1; subst c2
      go_enter Tryz.func81, Tryz.ntmps81
      go_wp2_with (first | (go_at_call 86; (with_reducible refine hf.mono ?_); rintro e w2 ⟨rfl, rfl⟩; dsimp only) | (go_at_call 87; (with_reducible refine hs.mono ?_); rintro e u1 ⟨rfl, hb1⟩; dsimp only))
      go_ret
      exact ⟨rfl, hb1⟩
    · subst c1
      have d2 : decide (s = 22) = false := by simpa using c2
      have d3 : (s == 22) = false := by simpa using c2
      rw [show (decide ((1 : Int) = 1) && decide (s = 22)) = false by rw [d2]; rfl]
      go_enter Tryz.func81, Tryz.ntmps81
      go_wp2_with (first | (go_at_call 86; (with_reducible refine hf.mono ?_); rintro e w2 ⟨rfl, rfl⟩; dsimp only) | (go_at_call 87; (with_reducible refine hs.mono ?_); rintro e u1 ⟨rfl, hb1⟩; dsimp only))
      go_ret
      exact ⟨rfl, hb1⟩
  · have d2 : decide (f = 1) = false := by simpa using c1
    have d3 : (f == 1) = false := by simpa using c1
    rw [show (decide (f = 1) && decide (s = 22)) = false by rw [d2]; rfl]
    go_enter Tryz.func81, Tryz.ntmps81
    go_wp2_with (go_at_call 86; (with_reducible refine hf.mono ?_); rintro e w2 ⟨rfl, rfl⟩; dsimp only)
    go_ret
    exact ⟨rfl, Below.refl _ _⟩
end
end Go.Proofs.YtoklohfpkaiidaaGreat.Obj
