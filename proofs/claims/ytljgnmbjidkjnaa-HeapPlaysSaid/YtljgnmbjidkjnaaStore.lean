/- The calls of package store: words in a block of their own are a list. -/
import Derived.Test.YtljgnmbjidkjnaaBase
import Derived.Test.YtljgnmbjidkjnaaBase2
import Derived.RegionTactic
import Derived.Laws.Rows
import Derived.Laws.CopyOwn
import Derived.Deep.RegionHeld3
import Derived.OwnWalk
import Derived.Deep.DeepCutAuto
import Derived.StillTailTactics
namespace Go.Proofs.Ytljgnmbjidkjnaa.Sr
open Go.Proofs.Ytljgnmbjidkjnaa.Gen Go.Proofs.Ytljgnmbjidkjnaa.Base Go.ChangeShapes Go.WideShapes Go.ChangeAt Go.RowKit
set_option linter.unusedVariables false

/-- Only block b may have changed. -/
def Chg (b : Nat) (w w' : World) : Prop := w.heap.size ≤ w'.heap.size ∧ (∀ k, k < w.heap.size → k ≠ b → w'.heap[k]? = w.heap[k]?) ∧ w'.os = w.os ∧ w'.tape = w.tape ∧ w'.output = w.output
theorem Chg.refl (b : Nat) (w : World) : Chg b w w := ⟨Nat.le_refl _, fun _ _ _ => rfl, rfl, rfl, rfl⟩
theorem Chg.trans {b : Nat} {u v w : World} (h : Chg b u v) (k : Chg b v w) : Chg b u w :=
  ⟨Nat.le_trans h.1 k.1, fun i hi hb => (k.2.1 i (Nat.lt_of_lt_of_le hi h.1) hb).trans (h.2.1 i hi hb), k.2.2.1.trans h.2.2.1, k.2.2.2.1.trans h.2.2.2.1, k.2.2.2.2.trans h.2.2.2.2⟩
theorem Chg.setCell {b : Nat} {u w : World} (h : Chg b u w) (i : Nat) (v : Value) : Chg b u (w.setCell ⟨b, i, none⟩ v) :=
  ⟨by simpa using h.1, fun k hk hb => by rw [heap_setCell_other _ _ _ _ (by simpa using hb)]; exact h.2.1 k hk hb, h.2.2.1, h.2.2.2.1, h.2.2.2.2⟩
theorem Chg.setRow {b : Nat} {u w : World} (h : Chg b u w) (cs : Array Value) : Chg b u (w.setRow b cs) :=
  ⟨by simpa using h.1, fun k hk hb => by rw [setRow_other _ _ _ _ hb]; exact h.2.1 k hk hb, h.2.2.1, h.2.2.2.1, h.2.2.2.2⟩
theorem Chg.drewN {b : Nat} {u w : World} (h : Chg b u w) (n : Nat) : Chg b u (w.drewN n) := h
theorem Chg.drew {b : Nat} {u w : World} (h : Chg b u w) : Chg b u w.drew := h
theorem Chg.below {b B : Nat} {u w : World} (h : Chg b u w) (hb : B ≤ b) (hB : B ≤ u.heap.size) : Below B u w :=
  ⟨h.2.2.1, h.2.2.2.1, h.2.2.2.2, h.1, fun k hk => h.2.1 k (by omega) (by omega)⟩
theorem Chg.block {b k : Nat} {u w : World} (h : Chg b u w) {o : Obj} (hk : k ≠ b) (ho : u.heap[k]? = some o) : w.heap[k]? = some o := by
  rw [h.2.1 k (by rcases Nat.lt_or_ge k u.heap.size with h' | h'; exact h'; simp [Array.getElem?_eq_none h'] at ho) hk]; exact ho

def wds (l : List Int) : Array Value := (l.map (Value.int .u32)).toArray
theorem wds_size (l : List Int) : (wds l).size = l.length := by simp [wds]
theorem wds_get (l : List Int) (i : Nat) : (wds l)[i]? = (l[i]?).map (Value.int .u32) := by simp [wds]
theorem wds_set (l : List Int) (i : Nat) (v : Int) : (wds l).setIfInBounds i (.int .u32 v) = wds (l.set i v) := by
  apply Array.ext'
  simp [wds, List.map_set]
/-- A store: its block, and the block of its words. -/
def Sto (w : World) (b g : Nat) (l : List Int) : Prop :=
  w.heap[b]? = some (.cells #[.slice (some ⟨g, 0, none⟩) l.length l.length] 81 (0, 0)) ∧ w.heap[g]? = some (.cells (wds l) 28 (0, 0)) ∧ b ≠ g ∧ l.length ≤ 65536
theorem Sto.cell {w : World} {b g : Nat} {l : List Int} (h : Sto w b g l) : w.cell? ⟨b, 0, none⟩ = some (.slice (some ⟨g, 0, none⟩) l.length l.length) ∧ (∀ i, i < l.length → w.cell? ⟨g, i, none⟩ = some (.int .u32 (l[i]?.getD 0))) ∧ (∀ i, w.frozen? ⟨g, i, none⟩ = false) ∧ l.length ≤ 65536 := by
  obtain ⟨h1, h2, h3, h4⟩ := h
  refine ⟨?_, fun i hi => ?_, fun i => frozen_of_row w g i _ _ h2, h4⟩
  · rw [cell_of_row w b 0 _ _ _ h1]; rfl
  · rw [cell_of_row w g i _ _ _ h2, wds_get]; simp [hi]
theorem Sto.set {w : World} {b g : Nat} {l : List Int} (h : Sto w b g l) (i : Nat) (v : Int) : Sto (w.setCell ⟨g, i, none⟩ (.int .u32 v)) b g (l.set i v) := by
  obtain ⟨h1, h2, h3, h4⟩ := h
  refine ⟨?_, ?_, h3, by simpa using h4⟩
  · rw [heap_setCell_other _ _ _ _ (by simpa using h3), h1]; simp
  · rw [heap_setCell_same w g i _ _ _ h2, wds_set]
theorem Sto.of_blocks {w w' : World} {b g : Nat} {l : List Int} (h : Sto w b g l) (hb : w'.heap[b]? = w.heap[b]?) (hg : w'.heap[g]? = w.heap[g]?) : Sto w' b g l := ⟨by rw [hb]; exact h.1, by rw [hg]; exact h.2.1, h.2.2⟩

def lieB (len : Nat) (at_ n : Int) : Bool := decide (0 ≤ at_) && decide (0 ≤ n) && decide (n ≤ len) && decide (at_ ≤ len - n)
theorem lies_any (w : World) (b g : Nat) (l : List Int) (x n : Int) (h : Sto w b g l) :
    Calls Try.prog 79 #[.pointer (some ⟨b, 0, none⟩), .int .i64 x, .int .i64 n] w fun e w' => e = .returned (.bool (lieB l.length x n)) ∧ w = w' := by
  obtain ⟨c0, c1, cz, hl⟩ := h.cell
  clear c1 cz
  by_cases h1 : 0 ≤ x
  · by_cases h2 : 0 ≤ n
    · by_cases h3 : n ≤ (l.length : Int)
      · have e : lieB l.length x n = decide (x ≤ (l.length : Int) - n) := by simp [lieB, h1, h2, h3]
        rw [e]; clear e
        go_enter Try.func79, Try.ntmps79
        go_wp2
        go_ret
        exact ⟨rfl, rfl⟩
      · have e : lieB l.length x n = false := by simp [lieB]; omega
        have hd : decide (n ≤ (l.length : Int)) = false := by simpa using h3
        rw [e]; clear e
        go_enter Try.func79, Try.ntmps79
        go_wp2
        go_ret
        exact ⟨rfl, rfl⟩
    · have e : lieB l.length x n = false := by simp [lieB]; omega
      rw [e]; clear e
      go_enter Try.func79, Try.ntmps79
      go_wp2
      go_ret
      exact ⟨rfl, rfl⟩
  · have e : lieB l.length x n = false := by simp [lieB]; omega
    rw [e]; clear e
    go_enter Try.func79, Try.ntmps79
    go_wp2
    go_ret
    exact ⟨rfl, rfl⟩
theorem lie_iff {len : Nat} {x n : Int} : lieB len x n = true ↔ 0 ≤ x ∧ 0 ≤ n ∧ n ≤ len ∧ x ≤ len - n := by simp [lieB, and_assoc]
theorem lie1 {len : Nat} {x : Int} : lieB len x 1 = true ↔ 0 ≤ x ∧ x < len := by rw [lie_iff]; omega
def getS (l : List Int) (x : Int) : Int := if 0 ≤ x ∧ x < l.length then l[x.toNat]?.getD 0 else 0
def putS (l : List Int) (x v : Int) : List Int := if 0 ≤ x ∧ x < l.length then l.set x.toNat v else l
theorem get_any (w : World) (b g : Nat) (l : List Int) (x : Int) (h : Sto w b g l) :
    Calls Try.prog 75 #[.pointer (some ⟨b, 0, none⟩), .int .i64 x] w fun e w' => e = .returned (.int .u32 (getS l x)) ∧ w = w' := by
  obtain ⟨c0, c1, cz, hl⟩ := h.cell
  by_cases hx : 0 ≤ x ∧ x < (l.length : Int)
  · have e : getS l x = l[x.toNat]?.getD 0 := by simp [getS, hx]
    have hb : lieB l.length x 1 = true := lie1.2 hx
    rw [e]; clear e
    obtain ⟨k, rfl⟩ := Int.eq_ofNat_of_zero_le hx.1
    have hc := c1 k (by omega)
    have h1 : (k : Int) < (l.length : Int) := hx.2
    have h0 : (0 : Int) ≤ (k : Int) := hx.1
    have HB := Lib.hid hb; clear hb c1 cz
    go_enter Try.func75, Try.ntmps75
    go_wp2_with (go_at_call 79; refine (lies_any _ _ _ _ _ _ h).mono ?_; rintro e w' ⟨rfl, rfl⟩; rw [HB.out])
    go_ret
    exact ⟨rfl, rfl⟩
  · have e : getS l x = 0 := by unfold getS; rw [if_neg hx]
    have hb : lieB l.length x 1 = false := by rw [Bool.eq_false_iff]; exact fun hh => hx (lie1.1 hh)
    rw [e]; clear e
    have HB := Lib.hid hb; clear hb c1 cz
    go_enter Try.func75, Try.ntmps75
    go_wp2_with (go_at_call 79; refine (lies_any _ _ _ _ _ _ h).mono ?_; rintro e w' ⟨rfl, rfl⟩; rw [HB.out])
    go_ret
    exact ⟨rfl, rfl⟩
theorem put_any (w : World) (b g : Nat) (l : List Int) (x v : Int) (h : Sto w b g l) :
    Calls Try.prog 71 #[.pointer (some ⟨b, 0, none⟩), .int .i64 x, .int .u32 v] w fun e w' => e = .returned (.bool (decide (0 ≤ x ∧ x < l.length))) ∧ Sto w' b g (putS l x v) ∧ Chg g w w' := by
  obtain ⟨c0, c1, cz, hl⟩ := h.cell
  by_cases hx : 0 ≤ x ∧ x < (l.length : Int)
  · have e : putS l x v = l.set x.toNat v := by simp [putS, hx]
    have hb : lieB l.length x 1 = true := lie1.2 hx
    have e2 : decide (0 ≤ x ∧ x < (l.length : Int)) = true := by simp [hx]
    rw [e, e2]; clear e e2
    obtain ⟨k, rfl⟩ := Int.eq_ofNat_of_zero_le hx.1
    have hc := c1 k (by omega)
    have z := cz k
    have h1 : (k : Int) < (l.length : Int) := hx.2
    have h0 : (0 : Int) ≤ (k : Int) := hx.1
    have HB := Lib.hid hb; clear hb c1 cz
    go_enter Try.func71, Try.ntmps71
    go_wp2_with (go_at_call 79; refine (lies_any _ _ _ _ _ _ h).mono ?_; rintro e w' ⟨rfl, rfl⟩; rw [HB.out])
    go_ret
    exact ⟨rfl, h.set k v, (Chg.refl g w).setCell k _⟩
  · have e : putS l x v = l := by unfold putS; rw [if_neg hx]
    have hb : lieB l.length x 1 = false := by rw [Bool.eq_false_iff]; exact fun hh => hx (lie1.1 hh)
    have e2 : decide (0 ≤ x ∧ x < (l.length : Int)) = false := by simp only [decide_eq_false_iff_not]; exact hx
    rw [e, e2]; clear e e2
    have HB := Lib.hid hb; clear hb c1 cz
    go_enter Try.func71, Try.ntmps71
    go_wp2_with (go_at_call 79; refine (lies_any _ _ _ _ _ _ h).mono ?_; rintro e w' ⟨rfl, rfl⟩; rw [HB.out])
    go_ret
    exact ⟨rfl, h, Chg.refl g w⟩
theorem len_any (w : World) (b g : Nat) (l : List Int) (h : Sto w b g l) :
    Calls Try.prog 34 #[.pointer (some ⟨b, 0, none⟩)] w fun e w' => e = .returned (.int .i64 l.length) ∧ w = w' := by
  obtain ⟨c0, c1, cz, hl⟩ := h.cell
  clear c1 cz
  go_enter Try.func34, Try.ntmps34
  go_wp2
  go_ret
  exact ⟨rfl, rfl⟩
def lenOf (v : Int) : Nat := (max 0 (min v 65536)).toNat
theorem infoU : (Try.prog.info? 28).map (fun i => (i.zero, i.size, i.bytes)) = some (some (.int .u32 0), 1, 4) := by kernel_rfl
theorem made_wds (n : Nat) : madeCells (Value.cells (.int .u32 0)) n = wds (List.replicate n 0) := by
  apply Array.ext
  · simp [size_madeCells, wds_size]
  · intro i h1 h2
    have hz : i % 1 = 0 := by omega
    simp [madeCells, wds, Value.cells, hz]
theorem mk_run (m : Int) (n : Nat) (h : m = n) (hn : n ≤ 65536) (w : World) : Sem.run Try.prog (Instr.makeSlice 44 (.int .i64 m) (.int .i64 m)) w = .ok (.slice (some ⟨w.heap.size, 0, none⟩) n n) (w.alloc (.cells (wds (List.replicate n 0)) 28)) := by
  obtain ⟨ti, hti, hz0, hz1, hz2⟩ := info_parts infoU
  subst h
  have h := run_make (P := Try.prog) w 44 28 ti (.int .u32 0) Try.underlying44 hti hz0 .i64 .i64 n n (by omega) (by omega) (by rw [hz2]; omega) (by omega)
  rw [hz1, Int.toNat_natCast, Nat.mul_one, made_wds] at h
  exact h
theorem new_sto (w : World) (n : Nat) (hn : n ≤ 65536) : Sto ((w.alloc (.cells (wds (List.replicate n 0)) 28)).alloc (.cells #[.slice (some ⟨w.heap.size, 0, none⟩) n n] 81)) (w.heap.size + 1) w.heap.size (List.replicate n 0) := by
  refine ⟨?_, heap_alloc2_old w _ _, by omega, by simpa using hn⟩
  rw [heap_alloc2_new]; simp
theorem new_any (v : Int) (w : World) :
    Calls Try.prog 32 #[.int .i64 v] w fun e w' => e = .returned (.pointer (some ⟨w.heap.size + 1, 0, none⟩)) ∧ Sto w' (w.heap.size + 1) w.heap.size (List.replicate (lenOf v) 0) ∧ Gr w w' ∧ w'.heap.size = w.heap.size + 2 := by
  have NS := Lib.hid (new_sto w (lenOf v) (by unfold lenOf; omega))
  by_cases h1 : 65536 < v
  · have hm := fun w => mk_run 65536 (lenOf v) (by unfold lenOf; omega) (by unfold lenOf; omega) w
    go_enter Try.func32, Try.ntmps32
    go_wp2
    all_goals
      go_ret
      exact ⟨rfl, NS.out, Gr.alloc (Gr.alloc (Gr.refl w) _ _) _ _, by simp⟩
  · by_cases h2 : v < 0
    · have hm := fun w => mk_run 0 (lenOf v) (by unfold lenOf; omega) (by unfold lenOf; omega) w
      go_enter Try.func32, Try.ntmps32
      go_wp2
      all_goals
        go_ret
        exact ⟨rfl, NS.out, Gr.alloc (Gr.alloc (Gr.refl w) _ _) _ _, by simp⟩
    · have hm := fun w => mk_run v (lenOf v) (by unfold lenOf; omega) (by unfold lenOf; omega) w
      have hm0 := fun w (h : v = 0) => mk_run 0 (lenOf v) (by unfold lenOf; omega) (by unfold lenOf; omega) w
      by_cases h3 : v = 0
      · have hm1 := fun w => hm0 w h3
        subst h3
        clear hm0 hm
        go_enter Try.func32, Try.ntmps32
        go_wp2
        all_goals
          go_ret
          exact ⟨rfl, NS.out, Gr.alloc (Gr.alloc (Gr.refl w) _ _) _ _, by simp⟩
      · have h4 : 0 < v := by omega
        clear hm0
        go_enter Try.func32, Try.ntmps32
        go_wp2
        all_goals
          go_ret
          exact ⟨rfl, NS.out, Gr.alloc (Gr.alloc (Gr.refl w) _ _) _ _, by simp⟩
def movS (l : List Int) (f t n : Nat) : List Int := l.take t ++ (((l.drop f).take n) ++ l.drop (t + n))
theorem infoSz : (Try.prog.info? 28).map (·.size) = some 1 := by kernel_rfl
theorem Sto.row {w : World} {b g : Nat} {l l' : List Int} (h : Sto w b g l) (hl : l'.length = l.length) {cs : Array Value} (e : cs = wds l') : Sto (w.setRow g cs) b g l' := by
  subst e
  refine ⟨?_, ?_, h.2.2.1, by have := h.2.2.2; omega⟩
  · rw [setRow_other _ _ _ _ h.2.2.1, h.1, hl]
  · exact setRow_heap w g (wds l) (wds l') _ _ h.2.1
theorem movS_len {l : List Int} {f t n : Nat} (hf : f + n ≤ l.length) (ht : t + n ≤ l.length) : (movS l f t n).length = l.length := by
  unfold movS; simp; omega
theorem movS_row {l : List Int} {f t n : Nat} (hf : f + n ≤ l.length) : ((wds l).toList.take t ++ (((l.drop f).take n).map (Value.int .u32) ++ (wds l).toList.drop (t + (((l.drop f).take n).map (Value.int .u32)).length))).toArray = wds (movS l f t n) := by
  have e : (((l.drop f).take n).map (Value.int .u32)).length = n := by simp; omega
  rw [e]; apply Array.ext'
  simp [wds, movS, List.map_take, List.map_drop]
theorem movS_0 (l : List Int) (f t : Nat) : movS l f t 0 = l := by simp [movS]
end Go.Proofs.Ytljgnmbjidkjnaa.Sr
