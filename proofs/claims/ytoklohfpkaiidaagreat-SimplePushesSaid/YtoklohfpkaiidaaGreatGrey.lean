/- The calls of package grey: a stack in a block of its own is a list, the greatest length and a mark. -/
import Derived.Test.YtoklohfpkaiidaaGreatBase
import Derived.Test.YtoklohfpkaiidaaGreatBase2
import Derived.RegionTactic
import Derived.Laws.Rows
namespace Go.Proofs.YtoklohfpkaiidaaGreat.Gy
open Go.Proofs.YtoklohfpkaiidaaGreat.Gen Go.Proofs.YtoklohfpkaiidaaGreat.Base Go.ChangeShapes Go.WideShapes Go.ChangeAt Go.RowKit
set_option linter.unusedVariables false

/-- Only block b may have changed. -/
def Chg (b : Nat) (w w' : World) : Prop := w.heap.size ≤ w'.heap.size ∧ (∀ k, k < w.heap.size → k ≠ b → w'.heap[k]? = w.heap[k]?) ∧ w'.os = w.os ∧ w'.tape = w.tape ∧ w'.output = w.output
theorem Chg.refl (b : Nat) (w : World) : Chg b w w := ⟨Nat.le_refl _, fun _ _ _ => rfl, rfl, rfl, rfl⟩
theorem Chg.trans {b : Nat} {u v w : World} (h : Chg b u v) (k : Chg b v w) : Chg b u w :=
  ⟨Nat.le_trans h.1 k.1, fun i hi hb => (k.2.1 i (Nat.lt_of_lt_of_le hi h.1) hb).trans (h.2.1 i hi hb), k.2.2.1.trans h.2.2.1, k.2.2.2.1.trans h.2.2.2.1, k.2.2.2.2.trans h.2.2.2.2⟩
theorem Chg.setCell {b : Nat} {u w : World} (h : Chg b u w) (i : Nat) (v : Value) : Chg b u (w.setCell ⟨b, i, none⟩ v) :=
  ⟨by simpa using h.1, fun k hk hb => by rw [heap_setCell_other _ _ _ _ (by simpa using hb)]; exact h.2.1 k hk hb, h.2.2.1, h.2.2.2.1, h.2.2.2.2⟩
theorem Chg.drewN {b : Nat} {u w : World} (h : Chg b u w) (n : Nat) : Chg b u (w.drewN n) := h
theorem Chg.drew {b : Nat} {u w : World} (h : Chg b u w) : Chg b u w.drew := h
theorem Chg.below {b B : Nat} {u w : World} (h : Chg b u w) (hb : B ≤ b) (hB : B ≤ u.heap.size) : Below B u w :=
  ⟨h.2.2.1, h.2.2.2.1, h.2.2.2.2, h.1, fun k hk => h.2.1 k (by omega) (by omega)⟩
theorem Chg.block {b k : Nat} {u w : World} (h : Chg b u w) {o : Obj} (hk : k ≠ b) (ho : u.heap[k]? = some o) : w.heap[k]? = some o := by
  rw [h.2.1 k (by rcases Nat.lt_or_ge k u.heap.size with h' | h'; exact h'; simp [Array.getElem?_eq_none h'] at ho) hk]; exact ho
theorem Gr.chg {b : Nat} {u w : World} (h : Gr u w) : Chg b u w := ⟨h.2.size, fun k hk _ => h.2.block k hk, h.2.os, h.2.tape, h.2.output⟩

def Stk (w : World) (b : Nat) (l : List Int) (most : Nat) (over : Bool) : Prop :=
  ∃ cs : Array Value, w.heap[b]? = some (.cells cs 145 (0, 0)) ∧ cs.size = 103 ∧ (∀ i, i < 100 → ∃ v : Int, cs[i]? = some (.int .i64 v)) ∧ (∀ i, i < l.length → cs[i]? = some (.int .i64 (l.getD i 0))) ∧
    cs[100]? = some (.int .i64 l.length) ∧ cs[101]? = some (.int .i64 most) ∧ cs[102]? = some (.bool over) ∧ l.length ≤ most ∧ 1 ≤ most ∧ most ≤ 100
theorem Stk.of_block {w w' : World} {b : Nat} {l : List Int} {most : Nat} {over : Bool} (h : Stk w b l most over) (hb : w'.heap[b]? = w.heap[b]?) : Stk w' b l most over := by
  obtain ⟨cs, h1, h2⟩ := h; exact ⟨cs, by rw [hb]; exact h1, h2⟩
theorem set_ne {cs : Array Value} {i j : Nat} {v : Value} (h : i ≠ j) : (cs.setIfInBounds i v)[j]? = cs[j]? := by simp [Array.getElem?_setIfInBounds, h]
theorem set_eq {cs : Array Value} {i : Nat} {v : Value} (h : i < cs.size) : (cs.setIfInBounds i v)[i]? = some v := by simp [Array.getElem?_setIfInBounds, h]
theorem Stk.over {w : World} {b : Nat} {l : List Int} {most : Nat} {over : Bool} (h : Stk w b l most over) (x : Bool) : Stk (w.setCell ⟨b, 102, none⟩ (.bool x)) b l most x := by
  obtain ⟨cs, h1, h2, h3, h4, h5, h6, h7, h8⟩ := h
  refine ⟨cs.setIfInBounds 102 (.bool x), heap_setCell_same w b 102 cs _ _ h1, by simpa using h2, fun i hi => ?_, fun i hi => ?_, ?_, ?_, set_eq (by omega), h8⟩
  · rw [set_ne (by omega)]; exact h3 i hi
  · rw [set_ne (by omega)]; exact h4 i hi
  · rw [set_ne (by omega)]; exact h5
  · rw [set_ne (by omega)]; exact h6
theorem Stk.push {w : World} {b : Nat} {l : List Int} {most : Nat} {over : Bool} (h : Stk w b l most over) (hl : l.length < most) (v : Int) : Stk ((w.setCell ⟨b, l.length, none⟩ (.int .i64 v)).setCell ⟨b, 100, none⟩ (.int .i64 ((l.length : Int) + 1))) b (l ++ [v]) most over := by
  obtain ⟨cs, h1, h2, h3, h4, h5, h6, h7, h8⟩ := h
  refine ⟨(cs.setIfInBounds l.length (.int .i64 v)).setIfInBounds 100 (.int .i64 ((l.length : Int) + 1)), heap_setCell_same _ b 100 _ _ _ (heap_setCell_same w b l.length cs _ _ h1), by simpa using h2, fun i hi => ?_, fun i hi => ?_, ?_, ?_, ?_, ?_⟩
  · rw [set_ne (by omega)]
    by_cases e : i = l.length
    · subst e; exact ⟨v, set_eq (by omega)⟩
    · rw [set_ne (Ne.symm e)]; exact h3 i hi
  · simp at hi
    rw [set_ne (by omega)]
    by_cases e : i = l.length
    · subst e; rw [set_eq (by omega)]; simp [List.getD]
    · rw [set_ne (Ne.symm e), h4 i (by omega)]; simp [List.getD, List.getElem?_append_left (show i < l.length by omega)]
  · rw [set_eq (by simp; omega)]; simp
  · rw [set_ne (by omega), set_ne (by omega)]; exact h6
  · rw [set_ne (by omega), set_ne (by omega)]; exact h7
  · refine ⟨by simp; omega, h8.2⟩
theorem Stk.pop {w : World} {b : Nat} {l : List Int} {v : Int} {most : Nat} {over : Bool} (h : Stk w b (l ++ [v]) most over) : Stk (w.setCell ⟨b, 100, none⟩ (.int .i64 (l.length : Int))) b l most over := by
  obtain ⟨cs, h1, h2, h3, h4, h5, h6, h7, h8⟩ := h
  have hl : (l ++ [v]).length = l.length + 1 := by simp
  refine ⟨cs.setIfInBounds 100 (.int .i64 (l.length : Int)), heap_setCell_same w b 100 cs _ _ h1, by simpa using h2, fun i hi => ?_, fun i hi => ?_, set_eq (by omega), ?_, ?_, by omega, h8.2⟩
  · rw [set_ne (by omega)]; exact h3 i hi
  · rw [set_ne (by omega), h4 i (by omega)]; simp [List.getD, List.getElem?_append_left hi]
  · rw [set_ne (by omega)]; exact h6
  · rw [set_ne (by omega)]; exact h7
theorem Stk.cell {w : World} {b : Nat} {l : List Int} {most : Nat} {over : Bool} (h : Stk w b l most over) :
    w.cell? ⟨b, 100, none⟩ = some (.int .i64 l.length) ∧ w.cell? ⟨b, 101, none⟩ = some (.int .i64 most) ∧ w.cell? ⟨b, 102, none⟩ = some (.bool over) ∧ (∀ i, i < 100 → ∃ v : Int, w.cell? ⟨b, i, none⟩ = some (.int .i64 v)) ∧ (∀ i, i < l.length → w.cell? ⟨b, i, none⟩ = some (.int .i64 (l.getD i 0))) ∧ (∀ i, w.frozen? ⟨b, i, none⟩ = false) ∧ l.length ≤ most ∧ 1 ≤ most ∧ most ≤ 100 := by
  obtain ⟨cs, h1, h2, h3, h4, h5, h6, h7, h8⟩ := h
  refine ⟨?_, ?_, ?_, fun i hi => ?_, fun i hi => ?_, fun i => frozen_of_row w b i cs _ h1, h8⟩
  · rw [cell_of_row w b 100 cs _ _ h1]; exact h5
  · rw [cell_of_row w b 101 cs _ _ h1]; exact h6
  · rw [cell_of_row w b 102 cs _ _ h1]; exact h7
  · obtain ⟨v, hv⟩ := h3 i hi; exact ⟨v, by rw [cell_of_row w b i cs _ _ h1]; exact hv⟩
  · rw [cell_of_row w b i cs _ _ h1]; exact h4 i hi

theorem push_full (w : World) (b : Nat) (l : List Int) (most : Nat) (over : Bool) (v : Int) (h : Stk w b l most over) (hl : l.length = most) :
    Calls Tryz.prog 138 #[.pointer (some ⟨b, 0, none⟩), .int .i64 v] w fun e w' => e = .returned (.bool false) ∧ Stk w' b l most true ∧ Chg b w w' := by
  obtain ⟨c0, c1, c2, c3, c4, cz, b0, b1, b2⟩ := h.cell
  have z2 := cz 102
  have ht : ((l.length : Int) == (most : Int)) = true := by simp [hl]
  clear c3 c4 cz
  subst hl
  go_enter Tryz.func138, Tryz.ntmps138
  go_wp2_with fail
  go_quiet (fail)
  go_wp2
  go_ret
  exact ⟨rfl, (h.over true).of_block rfl, ((Chg.refl b w).setCell 102 _).drewN _⟩
def mostOf (v : Int) : Nat := (max 1 (min v 100)).toNat
def zstk : Array Value := Array.replicate 100 (.int .i64 0) ++ #[.int .i64 0, .int .i64 0, .bool false]
theorem zstk_size : zstk.size = 103 := rfl
theorem zstk_run (w : World) : Sem.run Tryz.prog (zeroValue 145) w = .ok (.agg zstk) w := by kernel_rfl
theorem new_stk (w : World) (m : Nat) (h1 : 1 ≤ m) (h2 : m ≤ 100) : Stk (w.alloc (.cells (zstk.setIfInBounds 101 (.int .i64 m)) 145)) w.heap.size [] m false := by
  refine ⟨zstk.setIfInBounds 101 (.int .i64 m), heap_alloc_new w _, by simp [zstk_size], fun i hi => ⟨0, ?_⟩, fun i hi => by simp at hi, ?_, set_eq (by simp [zstk_size]), ?_, by simp, h1, h2⟩
  · rw [set_ne (by omega)]; simp [zstk, Array.getElem?_append, hi]
  · rw [set_ne (by omega)]; rfl
  · rw [set_ne (by omega)]; rfl
theorem new_any (v : Int) (w : World) :
    Calls Tryz.prog 60 #[.int .i64 v] w fun e w' => e = .returned (.pointer (some ⟨w.heap.size, 0, none⟩)) ∧ Stk w' w.heap.size [] (mostOf v) false ∧ Gr w w' ∧ w.heap.size < w'.heap.size := by
  have hz := zstk_run
  have hs := zstk_size
  have ns := new_stk w (mostOf v) (by unfold mostOf; omega) (by unfold mostOf; omega)
  have NS := Lib.hid ns; clear ns
  by_cases h1 : 100 < v
  · have e := Lib.hid (show (100 : Int) = (mostOf v : Int) by unfold mostOf; omega)
    go_enter Tryz.func60, Tryz.ntmps60
    go_wp2
    all_goals
      go_ret
      exact ⟨rfl, by rw [e.out]; exact NS.out, Gr.alloc (Gr.refl w) _ _, by simp⟩
  · by_cases h2 : v < 1
    · have e := Lib.hid (show (1 : Int) = (mostOf v : Int) by unfold mostOf; omega)
      go_enter Tryz.func60, Tryz.ntmps60
      go_wp2
      all_goals
        go_ret
        exact ⟨rfl, by rw [e.out]; exact NS.out, Gr.alloc (Gr.refl w) _ _, by simp⟩
    · have e := Lib.hid (show v = (mostOf v : Int) by unfold mostOf; omega)
      go_enter Tryz.func60, Tryz.ntmps60
      go_wp2
      all_goals
        go_ret
        refine ⟨rfl, ?_, Gr.alloc (Gr.refl w) _ _, by simp⟩
        have hh := NS.out
        first
          | (rw [← e.out] at hh; exact hh)
          | (have ev : v = 1 := by omega
             subst ev; rw [← e.out] at hh; exact hh)
end Go.Proofs.YtoklohfpkaiidaaGreat.Gy
