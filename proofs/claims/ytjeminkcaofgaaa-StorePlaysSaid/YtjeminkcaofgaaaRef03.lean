/- The document's own store: words in an array of a block's own. -/
import Derived.Test.YtjeminkcaofgaaaL03
import Derived.Deep.AppendLies
import Derived.Deep.RegionHeld3
import Derived.Deep.DeepCutAuto
namespace Go.Proofs.Ytjeminkcaofgaaa.Rf
open Go.Proofs.Ytjeminkcaofgaaa.Gen Go.Proofs.Ytjeminkcaofgaaa.Base Go.Proofs.Ytjeminkcaofgaaa.Sr Go.ChangeShapes Go.WideShapes Go.ChangeAt Go.RowKit
set_option linter.unusedVariables false
/-- The document's store: its block, and the block of its words. -/
def RSt (w : World) (b g : Nat) (l : List Int) : Prop :=
  w.heap[b]? = some (.cells #[.slice (some ⟨g, 0, none⟩) l.length l.length] 30 (0, 0)) ∧ w.heap[g]? = some (.cells (wds l) 31 (0, 0)) ∧ b ≠ g ∧ l.length ≤ 65536
theorem RSt.cell {w : World} {b g : Nat} {l : List Int} (h : RSt w b g l) : w.cell? ⟨b, 0, none⟩ = some (.slice (some ⟨g, 0, none⟩) l.length l.length) ∧ (∀ i, i < l.length → w.cell? ⟨g, i, none⟩ = some (.int .u32 (l[i]?.getD 0))) ∧ (∀ i, w.frozen? ⟨g, i, none⟩ = false) ∧ l.length ≤ 65536 := by
  obtain ⟨h1, h2, h3, h4⟩ := h
  refine ⟨?_, fun i hi => ?_, fun i => frozen_of_row w g i _ _ h2, h4⟩
  · rw [cell_of_row w b 0 _ _ _ h1]; rfl
  · rw [cell_of_row w g i _ _ _ h2, wds_get]; simp [hi]
theorem RSt.set {w : World} {b g : Nat} {l : List Int} (h : RSt w b g l) (i : Nat) (v : Int) : RSt (w.setCell ⟨g, i, none⟩ (.int .u32 v)) b g (l.set i v) := by
  obtain ⟨h1, h2, h3, h4⟩ := h
  refine ⟨?_, ?_, h3, by simpa using h4⟩
  · rw [heap_setCell_other _ _ _ _ (by simpa using h3), h1]; simp
  · rw [heap_setCell_same w g i _ _ _ h2, wds_set]
theorem RSt.of_blocks {w w' : World} {b g : Nat} {l : List Int} (h : RSt w b g l) (hb : w'.heap[b]? = w.heap[b]?) (hg : w'.heap[g]? = w.heap[g]?) : RSt w' b g l := ⟨by rw [hb]; exact h.1, by rw [hg]; exact h.2.1, h.2.2⟩
theorem RSt.lt {w : World} {b g : Nat} {l : List Int} (h : RSt w b g l) : b < w.heap.size ∧ g < w.heap.size := ⟨(Array.getElem?_eq_some_iff.1 h.1).1, (Array.getElem?_eq_some_iff.1 h.2.1).1⟩
theorem Sto.lt {w : World} {b g : Nat} {l : List Int} (h : Sto w b g l) : b < w.heap.size ∧ g < w.heap.size := ⟨(Array.getElem?_eq_some_iff.1 h.1).1, (Array.getElem?_eq_some_iff.1 h.2.1).1⟩
theorem RSt.gr {w w' : World} {b g : Nat} {l : List Int} (h : RSt w b g l) (k : Gr w w') : RSt w' b g l := h.of_blocks (k.2.block _ h.lt.1) (k.2.block _ h.lt.2)
theorem Sto.gr {w w' : World} {b g : Nat} {l : List Int} (h : Sto w b g l) (k : Gr w w') : Sto w' b g l := h.of_blocks (k.2.block _ (Sto.lt h).1) (k.2.block _ (Sto.lt h).2)
theorem RSt.chg {w w' : World} {b g c : Nat} {l : List Int} (h : RSt w b g l) (k : Chg c w w') (h1 : b ≠ c) (h2 : g ≠ c) : RSt w' b g l := h.of_blocks (k.2.1 _ h.lt.1 h1) (k.2.1 _ h.lt.2 h2)
theorem Sto.chg {w w' : World} {b g c : Nat} {l : List Int} (h : Sto w b g l) (k : Chg c w w') (h1 : b ≠ c) (h2 : g ≠ c) : Sto w' b g l := h.of_blocks (k.2.1 _ (Sto.lt h).1 h1) (k.2.1 _ (Sto.lt h).2 h2)
theorem Chg.cellAt {b : Nat} {w w' : World} (h : Chg b w w') {k i : Nat} {v : Value} (hk : k ≠ b) (hc : w.cell? ⟨k, i, none⟩ = some v) : w'.cell? ⟨k, i, none⟩ = some v := by
  rw [World.cell?_of_block (h.2.1 k (World.block_lt_of_cell? _ _ hc) hk)]; exact hc
theorem new_rst (w : World) (n : Nat) (hn : n ≤ 65536) : RSt ((w.alloc (.cells (wds (List.replicate n 0)) 31)).alloc (.cells #[.slice (some ⟨w.heap.size, 0, none⟩) n n] 30)) (w.heap.size + 1) w.heap.size (List.replicate n 0) := by
  refine ⟨?_, heap_alloc2_old w _ _, by omega, by simpa using hn⟩
  rw [heap_alloc2_new]; simp
theorem rf_New (v : Int) (w : World) :
    Calls Try.prog 7 #[.int .i64 v] w fun e w' => e = .returned (.pointer (some ⟨w.heap.size + 1, 0, none⟩)) ∧ RSt w' (w.heap.size + 1) w.heap.size (List.replicate (lenOf v) 0) ∧ Gr w w' ∧ w'.heap.size = w.heap.size + 2 := by
  have NS := Lib.hid (new_rst w (lenOf v) (by unfold lenOf; omega))
  by_cases h1 : 65536 < v
  · have hm := fun w => mk_run 65536 (lenOf v) (by unfold lenOf; omega) (by unfold lenOf; omega) w
    go_enter Try.func7, Try.ntmps7
    go_wp2
    all_goals
      go_ret
      exact ⟨rfl, NS.out, Gr.alloc (Gr.alloc (Gr.refl w) _ _) _ _, by simp⟩
  · by_cases h2 : v < 0
    · have hm := fun w => mk_run 0 (lenOf v) (by unfold lenOf; omega) (by unfold lenOf; omega) w
      go_enter Try.func7, Try.ntmps7
      go_wp2
      all_goals
        go_ret
        exact ⟨rfl, NS.out, Gr.alloc (Gr.alloc (Gr.refl w) _ _) _ _, by simp⟩
    · by_cases h3 : v = 0
      · subst h3
        have hm := fun w => mk_run 0 (lenOf 0) (by unfold lenOf; omega) (by unfold lenOf; omega) w
        go_enter Try.func7, Try.ntmps7
        go_wp2
        all_goals
          go_ret
          exact ⟨rfl, NS.out, Gr.alloc (Gr.alloc (Gr.refl w) _ _) _ _, by simp⟩
      · have h4 : 0 < v := by omega
        have hm := fun w => mk_run v (lenOf v) (by unfold lenOf; omega) (by unfold lenOf; omega) w
        go_enter Try.func7, Try.ntmps7
        go_wp2
        all_goals
          go_ret
          exact ⟨rfl, NS.out, Gr.alloc (Gr.alloc (Gr.refl w) _ _) _ _, by simp⟩
theorem rf_in (w : World) (b g : Nat) (l : List Int) (x n : Int) (h : RSt w b g l) :
    Calls Try.prog 18 #[.pointer (some ⟨b, 0, none⟩), .int .i64 x, .int .i64 n] w fun e w' => e = .returned (.bool (lieB l.length x n)) ∧ w = w' := by
  obtain ⟨c0, c1, cz, hl⟩ := h.cell
  clear c1 cz
  by_cases h2 : 0 ≤ n
  · by_cases h1 : 0 ≤ x
    · by_cases h3 : x ≤ (l.length : Int)
      · have e : lieB l.length x n = decide (n ≤ (l.length : Int) - x) := by
          rw [Bool.eq_iff_iff, lie_iff]; simp; omega
        rw [e]; clear e
        go_enter Try.func18, Try.ntmps18
        go_wp2
        go_ret
        exact ⟨rfl, rfl⟩
      · have e : lieB l.length x n = false := by rw [Bool.eq_false_iff]; intro hh; have := lie_iff.1 hh; omega
        have hd : decide (x ≤ (l.length : Int)) = false := by simpa using h3
        rw [e]; clear e
        go_enter Try.func18, Try.ntmps18
        go_wp2
        go_ret
        exact ⟨rfl, rfl⟩
    · have e : lieB l.length x n = false := by rw [Bool.eq_false_iff]; intro hh; have := lie_iff.1 hh; omega
      rw [e]; clear e
      go_enter Try.func18, Try.ntmps18
      go_wp2
      go_ret
      exact ⟨rfl, rfl⟩
  · have e : lieB l.length x n = false := by rw [Bool.eq_false_iff]; intro hh; have := lie_iff.1 hh; omega
    rw [e]; clear e
    go_enter Try.func18, Try.ntmps18
    go_wp2
    go_ret
    exact ⟨rfl, rfl⟩
theorem rf_Get (w : World) (b g : Nat) (l : List Int) (x : Int) (h : RSt w b g l) :
    Calls Try.prog 15 #[.pointer (some ⟨b, 0, none⟩), .int .i64 x] w fun e w' => e = .returned (.int .u32 (getS l x)) ∧ w = w' := by
  obtain ⟨c0, c1, cz, hl⟩ := h.cell
  by_cases hx : 0 ≤ x ∧ x < (l.length : Int)
  · have e : getS l x = l[x.toNat]?.getD 0 := by simp [getS, hx]
    rw [e]; clear e
    obtain ⟨k, rfl⟩ := Int.eq_ofNat_of_zero_le hx.1
    have hc := c1 k (by omega)
    have h1 : (k : Int) < (l.length : Int) := hx.2
    have h0 : (0 : Int) ≤ (k : Int) := hx.1
    clear c1 cz
    go_enter Try.func15, Try.ntmps15
    go_wp2
    go_ret
    exact ⟨rfl, rfl⟩
  · have e : getS l x = 0 := by unfold getS; rw [if_neg hx]
    rw [e]; clear e
    clear c1 cz
    by_cases h0 : x < 0
    · clear hx
      go_enter Try.func15, Try.ntmps15
      go_wp2
      go_ret
      exact ⟨rfl, rfl⟩
    · have h1 : (l.length : Int) ≤ x := by omega
      clear hx
      go_enter Try.func15, Try.ntmps15
      go_wp2
      go_ret
      exact ⟨rfl, rfl⟩
theorem rf_Put (w : World) (b g : Nat) (l : List Int) (x v : Int) (h : RSt w b g l) :
    Calls Try.prog 11 #[.pointer (some ⟨b, 0, none⟩), .int .i64 x, .int .u32 v] w fun e w' => e = .returned (.bool (decide (0 ≤ x ∧ x < l.length))) ∧ RSt w' b g (putS l x v) ∧ Chg g w w' := by
  obtain ⟨c0, c1, cz, hl⟩ := h.cell
  by_cases hx : 0 ≤ x ∧ x < (l.length : Int)
  · have e : putS l x v = l.set x.toNat v := by simp [putS, hx]
    have e2 : decide (0 ≤ x ∧ x < (l.length : Int)) = true := by simp [hx]
    rw [e, e2]; clear e e2
    obtain ⟨k, rfl⟩ := Int.eq_ofNat_of_zero_le hx.1
    have hc := c1 k (by omega)
    have z := cz k
    have h1 : (k : Int) < (l.length : Int) := hx.2
    have h0 : (0 : Int) ≤ (k : Int) := hx.1
    clear c1 cz
    go_enter Try.func11, Try.ntmps11
    go_wp2
    go_ret
    exact ⟨rfl, h.set k v, (Chg.refl g w).setCell k _⟩
  · have e : putS l x v = l := by unfold putS; rw [if_neg hx]
    have e2 : decide (0 ≤ x ∧ x < (l.length : Int)) = false := by simp only [decide_eq_false_iff_not]; exact hx
    rw [e, e2]; clear e e2
    clear c1 cz
    by_cases h0 : x < 0
    · clear hx
      go_enter Try.func11, Try.ntmps11
      go_wp2
      go_ret
      exact ⟨rfl, h, Chg.refl g w⟩
    · have h1 : (l.length : Int) ≤ x := by omega
      clear hx
      go_enter Try.func11, Try.ntmps11
      go_wp2
      go_ret
      exact ⟨rfl, h, Chg.refl g w⟩
theorem rf_Move_no (w : World) (b g : Nat) (l : List Int) (f t n : Int) (hS : RSt w b g l) (hno : lieB l.length f n = false ∨ (lieB l.length f n = true ∧ lieB l.length t n = false)) :
    Calls Try.prog 13 #[.pointer (some ⟨b, 0, none⟩), .int .i64 f, .int .i64 t, .int .i64 n] w fun e w' => e = .returned (.bool false) ∧ w = w' := by
  rcases hno with h1 | ⟨h1, h2⟩
  · have L1 := Lib.hid h1; clear h1
    go_enter Try.func13, Try.ntmps13
    go_wp2_with fail
    refine (rf_in _ _ _ _ _ _ hS).mono ?_; rintro e w' ⟨rfl, rfl⟩; rw [L1.out]
    go_wp2_with fail
    go_ret
    exact ⟨rfl, rfl⟩
  · have L1 := Lib.hid h1; have L2 := Lib.hid h2; clear h1 h2
    go_enter Try.func13, Try.ntmps13
    go_wp2_with fail
    refine (rf_in _ _ _ _ _ _ hS).mono ?_; rintro e w' ⟨rfl, rfl⟩; rw [L1.out]
    go_wp2_with fail
    refine (rf_in _ _ _ _ _ _ hS).mono ?_; rintro e w' ⟨rfl, rfl⟩; rw [L2.out]
    go_wp2_with fail
    go_ret
    exact ⟨rfl, rfl⟩
theorem movS_get {l : List Int} {f t n : Nat} (hf : f + n ≤ l.length) (ht : t + n ≤ l.length) (j : Nat) : (movS l f t n)[j]? = if t ≤ j ∧ j < t + n then l[f + (j - t)]? else l[j]? := by
  unfold movS
  have a1 : (l.take t).length = t := by simp; omega
  have a2 : ((l.drop f).take n).length = n := by simp; omega
  by_cases h1 : j < t
  · rw [List.getElem?_append_left (by omega), if_neg (by omega)]; simp [List.getElem?_take, h1]
  · rw [List.getElem?_append_right (by omega), a1]
    by_cases h2 : j < t + n
    · rw [List.getElem?_append_left (by omega), if_pos (by omega)]; simp [List.getElem?_take, show j - t < n by omega]
    · rw [List.getElem?_append_right (by omega), a2, if_neg (by omega), List.getElem?_drop]; congr 1; omega
theorem mov_step {l : List Int} {f t i : Nat} (hf : f + (i + 1) ≤ l.length) (ht : t + (i + 1) ≤ l.length) : (movS l f t i).set (t + i) (l[f + i]?.getD 0) = movS l f t (i + 1) := by
  apply List.ext_getElem?
  intro j
  rw [List.getElem?_set, movS_get hf ht, movS_get (by omega) (by omega), movS_len (by omega) (by omega)]
  by_cases e : t + i = j
  · subst e
    rw [if_pos rfl, if_pos (by omega), if_pos (by omega), show f + (t + i - t) = f + i by omega, List.getElem?_eq_getElem (show f + i < l.length by omega)]; rfl
  · rw [if_neg e]
    by_cases h1 : t ≤ j ∧ j < t + i
    · rw [if_pos h1, if_pos (by omega)]
    · rw [if_neg h1, if_neg (by omega)]
theorem own_form {w : World} {base : Nat} {e : TypeId} {size : Nat} {v : Value} {n : Nat} {xs : List Value} (h : w.ownsRow base e size v n xs) (hn : 0 < n) : ∃ g cap, v = .slice (some ⟨g, 0, none⟩) n cap ∧ base ≤ g ∧ n ≤ cap ∧ cap ≤ 9223372036854775807 ∧ g < w.heap.size ∧ (∀ j u, j < n * size → xs[j]? = some u → w.cell? ⟨g, j, none⟩ = some u) := by
  obtain ⟨hx, h2 | ⟨g, cap, cur, h3, h4, h5, h6, h7, h8, h9⟩⟩ := h
  · omega
  · refine ⟨g, cap, h3, h4, h6, by unfold maxLen at h7; omega, (Array.getElem?_eq_some_iff.1 h5).1, fun j u hj hu => ?_⟩
    rw [cell_of_row w g j _ _ _ h5]
    rw [← h9, List.getElem?_take] at hu
    simpa [hj] using hu
set_option maxHeartbeats 2000000 in
theorem rf_Move (w : World) (b g : Nat) (l : List Int) (f t n : Nat) (hS : RSt w b g l) (hf : f + n ≤ l.length) (ht : t + n ≤ l.length) (hn : 0 < n) :
    Calls Try.prog 13 #[.pointer (some ⟨b, 0, none⟩), .int .i64 f, .int .i64 t, .int .i64 n] w fun e w' => e = .returned (.bool true) ∧ RSt w' b g (movS l f t n) ∧ Chg g w w' := by
  obtain ⟨c0, c1, cz, hl⟩ := hS.cell
  have L1 := Lib.hid (lie_iff.2 ⟨by omega, by omega, by omega, by omega⟩ : lieB l.length f n = true)
  have L2 := Lib.hid (lie_iff.2 ⟨by omega, by omega, by omega, by omega⟩ : lieB l.length t n = true)
  have f0 : (0 : Int) ≤ (f : Int) := by omega
  have f1 : (f : Int) ≤ (f : Int) + (n : Int) := by omega
  have f2 : (f : Int) + (n : Int) ≤ (l.length : Int) := by omega
  have fn : f ≠ l.length := by omega
  have hcs : (((l.drop f).take n).map (Value.int .u32)).length = n := by simp; omega
  have hsrc : ∀ j v, ((((l.drop f).take n).map (Value.int .u32)))[j]? = some v → w.cell? ((⟨g, f, none⟩ : Addr).add j) = some v := by
    intro j v hv
    have hj : j < n := by
      rcases Nat.lt_or_ge j n with h' | h'
      · exact h'
      · simp [List.getElem?_take, show ¬ j < n by omega] at hv
    have hc := c1 (f + j) (by omega)
    have hv' : v = .int .u32 (l[f + j]?.getD 0) := by
      simp [hj] at hv
      obtain ⟨x, hx, rfl⟩ := hv
      rw [hx]; rfl
    subst hv'
    by_cases e : j = 0
    · subst e; simpa [Addr.add] using hc
    · simpa [Addr.add, e] using hc
  have hone : ∀ u ∈ ((l.drop f).take n).map (Value.int .u32), u.oneCell' = true := by
    intro u hu
    obtain ⟨x, _, rfl⟩ := List.mem_map.1 hu
    rfl
  obtain ⟨i0, hi, hz0, hz1, hz2⟩ := info_parts infoU
  have HSRC := Lib.hid hsrc; have HONE := Lib.hid hone; have HCS := Lib.hid hcs
  clear c1 cz hsrc hone hcs
  go_enter Try.func13, Try.ntmps13
  go_wp2_with fail
  refine (rf_in _ _ _ _ _ _ hS).mono ?_; rintro e w' ⟨rfl, rfl⟩; rw [L1.out]
  go_wp2_with fail
  refine (rf_in _ _ _ _ _ _ hS).mono ?_; rintro e w' ⟨rfl, rfl⟩; rw [L2.out]
  go_wp2_with (at_builtin; refine wpList_append_own _ rfl _ _ 28 rfl w.heap.size 31 i0 (.int .u32 0) 1 4 Try.underlying28 hi hz0 hz1 hz2 rfl (by decide) _ _ _ rfl (World.ownsRow_nil _ _ _ _) ⟨g, f, none⟩ _ _ (((l.drop f).take n).map (Value.int .u32)) rfl ?c1 ?c2 ?c3 ?c4 ?c5 ?c6 ?_)
  case c1 => rw [HCS.out]; omega
  case c2 => exact HSRC.out
  case c3 => exact HONE.out
  case c4 => unfold maxLen; omega
  case c5 => omega
  case c6 => exact Nat.le_refl _
  intro v' w1 hown hgrow _
  obtain ⟨h, cap, rfl, hh1, hcap1, hcap2, hlt, hcells⟩ := own_form hown hn
  have hsrc2 : ∀ j, j < n → w1.cell? ⟨h, j, none⟩ = some (.int .u32 (l[f + j]?.getD 0)) := fun j hj => by
    refine hcells j _ (by omega) ?_
    simp [List.getElem?_take, hj, List.getElem?_eq_getElem (show f + j < l.length by omega)]
  have hblk : ∀ k, k < w.heap.size → w1.heap[k]? = w.heap[k]? := fun k hk => hgrow.block k hk (by simp [Value.ownBlock])
  have hS1 : RSt w1 b g l := hS.of_blocks (hblk _ hS.lt.1) (hblk _ hS.lt.2)
  have chg1 : Chg g w w1 := ⟨hgrow.size, fun k hk _ => hblk k hk, hgrow.os, hgrow.tape, hgrow.output⟩
  have hgh : h ≠ g := by have := hS.lt.2; omega
  have hbg : b ≠ g := hS.2.2.1
  have HS2 := Lib.hid hsrc2
  clear hsrc2 hcells hown hgrow hblk
  go_wp2_with fail
  go_loopw [10] (fun v10 wr => ∃ i : Nat, i ≤ n ∧ v10 = .int .i64 i ∧ RSt wr b g (movS l f t i) ∧ Chg g w1 wr) (fun v10 wr => n - (intOf v10).toNat)
  case atStart => exact ⟨0, by omega, rfl, by rw [movS_0]; exact hS1, Chg.refl _ _⟩
  case round =>
    obtain ⟨i, i0', rfl, hr, hk⟩ := hrel
    by_cases hi' : i < n
    · obtain ⟨q0, q1, qz, ql⟩ := hr.cell
      have ml : (movS l f t i).length = l.length := movS_len (by omega) (by omega)
      rw [ml] at q0 q1
      have qc := q1 (t + i) (by omega)
      have qf := qz (t + i)
      have hx : wr.cell? ⟨h, i, none⟩ = some (.int .u32 (l[f + i]?.getD 0)) := Chg.cellAt hk hgh (HS2.out i hi')
      have hstep := Lib.hid (mov_step (l := l) (f := f) (t := t) (i := i) (by omega) (by omega))
      have hset := Lib.hid (hr.set (t + i) (l[f + i]?.getD 0))
      have t0 : (0 : Int) ≤ (t : Int) + (i : Int) := by omega
      have t1 : (t : Int) + (i : Int) < (l.length : Int) := by omega
      have t2 : ((t : Int) + (i : Int)).toNat = t + i := by omega
      have wt : IntKind.i64.wrap ((t : Int) + (i : Int)) = (t : Int) + (i : Int) := IntWalk.i64_in _ ⟨by omega, by omega⟩
      have s0 : (0 : Int) ≤ (i : Int) := by omega
      have s1 : (i : Int) < (n : Int) := by omega
      generalize l[f + i]?.getD 0 = V at *
      clear q1 qz ml
      go_upto_region 7 with fail
      refine wp_region_held_drew (S := (fun w' => w'.cell? ⟨b, 0, none⟩ = some (.slice (some ⟨g, 0, none⟩) l.length l.length) ∧ w'.cell? ⟨h, i, none⟩ = some (.int .u32 V))) (by kernel_rfl) ?_ (fun hH0 => ?_)
      · (try dsimp only); exact ⟨by simpa using q0, by simpa using hx⟩
      refine wpAnyH_take (i := 0) (oi := { dst := some 38, op := Op.move (Operand.tmp 0), type := 25, pos := "ref.go:42", after := #[], guard := none }) (v := ?v1) rfl (by kernel_rfl) (by kernel_rfl) (by kernel_rfl) (fun _ _ _ h => h) (Or.inl ⟨by rfl, ?hy1⟩) (by assumption) ?_
      case hy1 => intro w hSw; (try dsimp only at hSw); go_simp; (try with_reducible rfl)
      try simp only [Act.put, List.setIfInBounds_toArray, List.set_cons_zero, List.set_cons_succ]
      refine wpAnyH_take (i := 1) (oi := { dst := some 39, op := Op.nilCheck (Operand.tmp 38), type := 0, pos := "ref.go:42", after := #[{ on := 0, ground := Ground.data }], guard := none }) (v := ?v2) rfl (by kernel_rfl) (by kernel_rfl) (by kernel_rfl) (fun _ _ _ h => h) (Or.inl ⟨by rfl, ?hy2⟩) (by assumption) ?_
      case hy2 => intro w hSw; (try dsimp only at hSw); go_simp; (try with_reducible rfl)
      try simp only [Act.put, List.setIfInBounds_toArray, List.set_cons_zero, List.set_cons_succ]
      refine wpAnyH_take (i := 2) (oi := { dst := some 40, op := Op.fieldAddr 30 (Operand.tmp 39) 0, type := 0, pos := "ref.go:42", after := #[{ on := 1, ground := Ground.data }], guard := none }) (v := ?v3) rfl (by kernel_rfl) (by kernel_rfl) (by kernel_rfl) (fun _ _ _ h => h) (Or.inl ⟨by rfl, ?hy3⟩) (by assumption) ?_
      case hy3 => intro w hSw; (try dsimp only at hSw); go_simp; (try with_reducible rfl)
      try simp only [Act.put, List.setIfInBounds_toArray, List.set_cons_zero, List.set_cons_succ]
      refine wpAnyH_take (i := 3) (oi := { dst := some 41, op := Op.load 28 (Operand.tmp 40), type := 28, pos := "ref.go:42", after := #[{ on := 2, ground := Ground.data }], guard := none }) (v := ?v4) rfl (by kernel_rfl) (by kernel_rfl) (by kernel_rfl) (fun _ _ _ h => h) (Or.inl ⟨by rfl, ?hy4⟩) (by assumption) ?_
      case hy4 => intro w hSw; (try dsimp only at hSw); go_simp; (try with_reducible rfl)
      try simp only [Act.put, List.setIfInBounds_toArray, List.set_cons_zero, List.set_cons_succ]
      refine wpAnyH_take (i := 4) (oi := { dst := some 42, op := Op.move (Operand.tmp 2), type := 3, pos := "ref.go:42", after := #[], guard := none }) (v := ?v5) rfl (by kernel_rfl) (by kernel_rfl) (by kernel_rfl) (fun _ _ _ h => h) (Or.inl ⟨by rfl, ?hy5⟩) (by assumption) ?_
      case hy5 => intro w hSw; (try dsimp only at hSw); go_simp; (try with_reducible rfl)
      try simp only [Act.put, List.setIfInBounds_toArray, List.set_cons_zero, List.set_cons_succ]
      refine wpAnyH_take (i := 5) (oi := { dst := some 43, op := Op.move (Operand.tmp 10), type := 3, pos := "ref.go:42", after := #[], guard := none }) (v := ?v6) rfl (by kernel_rfl) (by kernel_rfl) (by kernel_rfl) (fun _ _ _ h => h) (Or.inl ⟨by rfl, ?hy6⟩) (by assumption) ?_
      case hy6 => intro w hSw; (try dsimp only at hSw); go_simp; (try with_reducible rfl)
      try simp only [Act.put, List.setIfInBounds_toArray, List.set_cons_zero, List.set_cons_succ]
      refine wpAnyH_take (i := 6) (oi := { dst := some 44, op := Op.binOp BinOp.add 3 (Operand.tmp 42) (Operand.tmp 43) 3, type := 3, pos := "ref.go:42", after := #[{ on := 4, ground := Ground.data }, { on := 5, ground := Ground.data }], guard := none }) (v := ?v7) rfl (by kernel_rfl) (by kernel_rfl) (by kernel_rfl) (fun _ _ _ h => h) (Or.inl ⟨by rfl, ?hy7⟩) (by assumption) ?_
      case hy7 => intro w hSw; (try dsimp only at hSw); go_simp; (try with_reducible rfl)
      try simp only [Act.put, List.setIfInBounds_toArray, List.set_cons_zero, List.set_cons_succ]
      refine wpAnyH_take (i := 7) (oi := { dst := some 45, op := Op.move (Operand.tmp 9), type := 28, pos := "ref.go:42", after := #[], guard := none }) (v := ?v8) rfl (by kernel_rfl) (by kernel_rfl) (by kernel_rfl) (fun _ _ _ h => h) (Or.inl ⟨by rfl, ?hy8⟩) (by assumption) ?_
      case hy8 => intro w hSw; (try dsimp only at hSw); go_simp; (try with_reducible rfl)
      try simp only [Act.put, List.setIfInBounds_toArray, List.set_cons_zero, List.set_cons_succ]
      refine wpAnyH_take (i := 8) (oi := { dst := some 46, op := Op.move (Operand.tmp 10), type := 3, pos := "ref.go:42", after := #[], guard := none }) (v := ?v9) rfl (by kernel_rfl) (by kernel_rfl) (by kernel_rfl) (fun _ _ _ h => h) (Or.inl ⟨by rfl, ?hy9⟩) (by assumption) ?_
      case hy9 => intro w hSw; (try dsimp only at hSw); go_simp; (try with_reducible rfl)
      try simp only [Act.put, List.setIfInBounds_toArray, List.set_cons_zero, List.set_cons_succ]
      refine wpAnyH_take (i := 9) (oi := { dst := some 47, op := Op.indexAddr 28 (Operand.tmp 45) (Operand.tmp 46), type := 0, pos := "ref.go:42", after := #[{ on := 7, ground := Ground.data }, { on := 8, ground := Ground.data }], guard := none }) (v := ?v10) rfl (by kernel_rfl) (by kernel_rfl) (by kernel_rfl) (fun _ _ _ h => h) (Or.inl ⟨by rfl, ?hy10⟩) (by assumption) ?_
      case hy10 => intro w hSw; (try dsimp only at hSw); go_simp; (try with_reducible rfl)
      try simp only [Act.put, List.setIfInBounds_toArray, List.set_cons_zero, List.set_cons_succ]
      refine wpAnyH_take (i := 10) (oi := { dst := some 48, op := Op.load 31 (Operand.tmp 47), type := 31, pos := "ref.go:42", after := #[{ on := 9, ground := Ground.data }], guard := none }) (v := ?v11) rfl (by kernel_rfl) (by kernel_rfl) (by kernel_rfl) (fun _ _ _ h => h) (Or.inl ⟨by rfl, ?hy11⟩) (by assumption) ?_
      case hy11 => intro w hSw; (try dsimp only at hSw); go_simp; (try with_reducible rfl)
      try simp only [Act.put, List.setIfInBounds_toArray, List.set_cons_zero, List.set_cons_succ]
      refine wpAnyH_take (i := 11) (oi := { dst := some 49, op := Op.indexAddr 28 (Operand.tmp 41) (Operand.tmp 44), type := 0, pos := "ref.go:42", after := #[{ on := 3, ground := Ground.data }, { on := 6, ground := Ground.data }, { on := 0, ground := Ground.phase }, { on := 1, ground := Ground.phase }, { on := 2, ground := Ground.phase }, { on := 3, ground := Ground.phase }, { on := 4, ground := Ground.phase }, { on := 5, ground := Ground.phase }, { on := 6, ground := Ground.phase }, { on := 7, ground := Ground.phase }, { on := 8, ground := Ground.phase }, { on := 9, ground := Ground.phase }, { on := 10, ground := Ground.phase }], guard := none }) (v := ?v12) rfl (by kernel_rfl) (by kernel_rfl) (by kernel_rfl) (fun _ _ _ h => h) (Or.inl ⟨by rfl, ?hy12⟩) (by assumption) ?_
      case hy12 => intro w hSw; (try dsimp only at hSw); go_simp; (try with_reducible rfl)
      try simp only [Act.put, List.setIfInBounds_toArray, List.set_cons_zero, List.set_cons_succ]
      refine wpAnyH_ready (rs := [12]) (by kernel_rfl) (by simp) ?_
      refine AllReadyH.cons (o := { dst := none, op := Op.store 31 (Operand.tmp 49) (Operand.tmp 48), type := 0, pos := "ref.go:42", after := #[{ on := 11, ground := Ground.data }, { on := 10, ground := Ground.data }, { on := 0, ground := Ground.phase }, { on := 1, ground := Ground.phase }, { on := 2, ground := Ground.phase }, { on := 3, ground := Ground.phase }, { on := 4, ground := Ground.phase }, { on := 5, ground := Ground.phase }, { on := 6, ground := Ground.phase }, { on := 7, ground := Ground.phase }, { on := 8, ground := Ground.phase }, { on := 9, ground := Ground.phase }, { on := 10, ground := Ground.phase }], guard := none }) rfl (fun K hK => ?_) AllReadyH.nil
      go_simp
      refine hK.out _ _ ?_ (fun hH1 => ?_)
      · (try dsimp only); (first | assumption | exact ⟨(World.cell?_setCell_far wr _ ⟨b, 0, none⟩ _ (by simpa using Ne.symm hbg)).trans q0, (World.cell?_setCell_far wr _ ⟨h, i, none⟩ _ (by simpa using Ne.symm hgh)).trans hx⟩)
      clear hK K
      clear hH0
      try simp only [Act.put, List.setIfInBounds_toArray, List.set_cons_zero, List.set_cons_succ]
      refine wpAnyH_done (by kernel_rfl) ?_ _
      go_wp2_with fail
      go_roundw
      case rel => exact ⟨i + 1, by omega, by go_num, by rw [← hstep.out]; exact hset.out.of_blocks rfl rfl, Chg.drew (Chg.setCell hk _ _)⟩
      case measure => simp [intOf]; omega
    · obtain rfl : i = n := by omega
      go_wp2_with fail
      go_ret
      exact ⟨rfl, hr, chg1.trans hk⟩
set_option maxHeartbeats 2000000 in
theorem rf_Move_0 (w : World) (b g : Nat) (l : List Int) (f t : Nat) (hS : RSt w b g l) (hf : f ≤ l.length) (ht : t ≤ l.length) :
    Calls Try.prog 13 #[.pointer (some ⟨b, 0, none⟩), .int .i64 f, .int .i64 t, .int .i64 0] w fun e w' => e = .returned (.bool true) ∧ RSt w' b g l ∧ Chg g w w' := by
  obtain ⟨c0, c1, cz, hl⟩ := hS.cell
  have L1 := Lib.hid (lie_iff.2 ⟨by omega, by omega, by omega, by omega⟩ : lieB l.length f 0 = true)
  have L2 := Lib.hid (lie_iff.2 ⟨by omega, by omega, by omega, by omega⟩ : lieB l.length t 0 = true)
  have f0 : (0 : Int) ≤ (f : Int) := by omega
  have f2 : (f : Int) ≤ (l.length : Int) := by omega
  obtain ⟨i0, hi, hz0, hz1, hz2⟩ := info_parts infoU
  clear c1 cz
  by_cases fn : f = l.length
  · subst fn
    go_enter Try.func13, Try.ntmps13
    go_wp2_with fail
    refine (rf_in _ _ _ _ _ _ hS).mono ?_; rintro e w' ⟨rfl, rfl⟩; rw [L1.out]
    go_wp2_with fail
    refine (rf_in _ _ _ _ _ _ hS).mono ?_; rintro e w' ⟨rfl, rfl⟩; rw [L2.out]
    go_wp2_with (at_builtin; refine wpList_append_own _ rfl _ _ 28 rfl w.heap.size 31 i0 (.int .u32 0) 1 4 Try.underlying28 hi hz0 hz1 hz2 rfl (by decide) _ _ _ rfl (World.ownsRow_nil _ _ _ _) ⟨g, 0, none⟩ 0 _ [] rfl rfl (fun j u hu => by simp at hu) (fun u hu => by simp at hu) (by decide) (by decide) (Nat.le_refl _) ?_)
    intro v' w1 hown hgrow hnil
    obtain rfl := hnil
    have hblk : ∀ k, k < w.heap.size → w1.heap[k]? = w.heap[k]? := fun k hk => hgrow.block k hk (by simp [Value.ownBlock])
    have HS1 := Lib.hid (hS.of_blocks (hblk _ hS.lt.1) (hblk _ hS.lt.2))
    have chg1 : Chg g w w1 := ⟨hgrow.size, fun k hk _ => hblk k hk, hgrow.os, hgrow.tape, hgrow.output⟩
    clear hown hgrow hblk
    go_wp2_with fail
    refine wp_loop_rounds 1 ?_
    rw [rounds_succ]
    go_wp2_with fail
    go_ret
    exact ⟨rfl, HS1.out, chg1⟩
  · go_enter Try.func13, Try.ntmps13
    go_wp2_with fail
    refine (rf_in _ _ _ _ _ _ hS).mono ?_; rintro e w' ⟨rfl, rfl⟩; rw [L1.out]
    go_wp2_with fail
    refine (rf_in _ _ _ _ _ _ hS).mono ?_; rintro e w' ⟨rfl, rfl⟩; rw [L2.out]
    go_wp2_with (at_builtin; refine wpList_append_own _ rfl _ _ 28 rfl w.heap.size 31 i0 (.int .u32 0) 1 4 Try.underlying28 hi hz0 hz1 hz2 rfl (by decide) _ _ _ rfl (World.ownsRow_nil _ _ _ _) ⟨g, f, none⟩ 0 _ [] rfl rfl (fun j u hu => by simp at hu) (fun u hu => by simp at hu) (by decide) (by decide) (Nat.le_refl _) ?_)
    intro v' w1 hown hgrow hnil
    obtain rfl := hnil
    have hblk : ∀ k, k < w.heap.size → w1.heap[k]? = w.heap[k]? := fun k hk => hgrow.block k hk (by simp [Value.ownBlock])
    have HS1 := Lib.hid (hS.of_blocks (hblk _ hS.lt.1) (hblk _ hS.lt.2))
    have chg1 : Chg g w w1 := ⟨hgrow.size, fun k hk _ => hblk k hk, hgrow.os, hgrow.tape, hgrow.output⟩
    clear hown hgrow hblk
    go_wp2_with fail
    refine wp_loop_rounds 1 ?_
    rw [rounds_succ]
    go_wp2_with fail
    go_ret
    exact ⟨rfl, HS1.out, chg1⟩
end Go.Proofs.Ytjeminkcaofgaaa.Rf
