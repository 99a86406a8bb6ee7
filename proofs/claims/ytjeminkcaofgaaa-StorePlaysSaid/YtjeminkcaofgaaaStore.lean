/- The calls of package store: words in a block of their own are a list. -/
import Derived.Test.YtjeminkcaofgaaaBase
import Derived.Test.YtjeminkcaofgaaaBase2
import Derived.RegionTactic
import Derived.Laws.Rows
import Derived.Laws.CopyOwn
import Derived.Deep.RegionHeld3
import Derived.OwnWalk
import Derived.Deep.DeepCutAuto
import Derived.StillTailTactics
import Derived.Laws.CopyOwn
namespace Go.Proofs.Ytjeminkcaofgaaa.Sr
open Go.Proofs.Ytjeminkcaofgaaa.Gen Go.Proofs.Ytjeminkcaofgaaa.Base Go.ChangeShapes Go.WideShapes Go.ChangeAt Go.RowKit
set_option linter.unusedVariables false

/-- Only block b may have changed. -/
def Chg (b : Nat) (w w' : World) : Prop := w.heap.size ≤ w'.heap.size ∧ (∀ k, k < w.heap.size → k ≠ b → w'.heap[k]? = w.heap[k]?) ∧ w'.os = w.os ∧ w'.tape = w.tape ∧ w'.output = w.output
theorem Chg.refl (b : Nat) (w : World) : Chg b w w := ⟨Nat.le_refl _, fun _ _ _ => rfl, rfl, rfl, rfl⟩
theorem Chg.trans {b : Nat} {u v w : World} (h : Chg b u v) (k : Chg b v w) : Chg b u w :=
  ⟨Nat.le_trans h.1 k.1, fun i hi hb => (k.2.1 i (Nat.lt_of_lt_of_le hi h.1) hb).trans (h.2.1 i hi hb), k.2.2.1.trans h.2.2.1, k.2.2.2.1.trans h.2.2.2.1, k.2.2.2.2.trans h.2.2.2.2⟩
theorem Chg.setCell {b : Nat} {u w : World} (h : Chg b u w) (i : Nat) (v : Value) : Chg b u (w.setCell ⟨b, i, none⟩ v) :=
  ⟨by simpa using h.1, fun k hk hb => by rw [heap_setCell_other _ _ _ _ (by simpa using hb)]; exact h.2.1 k hk hb, h.2.2.1, h.2.2.2.1, h.2.2.2.2⟩
theorem Chg.setRow {b : Nat} {u w : World} (h : Chg b u w) (cs : Array Value) : Chg b u (w.setRow b cs) :=
  ⟨by simpa using h.1, fun k hk hb => by rw [setRow_other _ _ _ _ hb]; exact h.2.1 k hk hb, h.2.2.1, h.2.2.2.1, h.2.2.2.2⟩
theorem Chg.drewN {b : Nat} {u w : World} (h : Chg b u w) (n : Nat) : Chg b u (w.drewN n) := h
theorem Chg.drew {b : Nat} {u w : World} (h : Chg b u w) : Chg b u w.drew := h
theorem Chg.below {b B : Nat} {u w : World} (h : Chg b u w) (hb : B ≤ b) (hB : B ≤ u.heap.size) : Below B u w :=
  ⟨h.2.2.1, h.2.2.2.1, h.2.2.2.2, h.1, fun k hk => h.2.1 k (by omega) (by omega)⟩
theorem Chg.block {b k : Nat} {u w : World} (h : Chg b u w) {o : Obj} (hk : k ≠ b) (ho : u.heap[k]? = some o) : w.heap[k]? = some o := by
  rw [h.2.1 k (by rcases Nat.lt_or_ge k u.heap.size with h' | h'; exact h'; simp [Array.getElem?_eq_none h'] at ho) hk]; exact ho

def wds (l : List Int) : Array Value := (l.map (Value.int .u32)).toArray
theorem wds_size (l : List Int) : (wds l).size = l.length := by simp [wds]
theorem wds_get (l : List Int) (i : Nat) : (wds l)[i]? = (l[i]?).map (Value.int .u32) := by simp [wds]
theorem wds_set (l : List Int) (i : Nat) (v : Int) : (wds l).setIfInBounds i (.int .u32 v) = wds (l.set i v) := by
  apply Array.ext'
  simp [wds, List.map_set]
/-- A store: its block, and the block of its words. -/
def Sto (w : World) (b g : Nat) (l : List Int) : Prop :=
  w.heap[b]? = some (.cells #[.slice (some ⟨g, 0, none⟩) l.length l.length] 45 (0, 0)) ∧ w.heap[g]? = some (.cells (wds l) 31 (0, 0)) ∧ b ≠ g ∧ l.length ≤ 65536
theorem Sto.cell {w : World} {b g : Nat} {l : List Int} (h : Sto w b g l) : w.cell? ⟨b, 0, none⟩ = some (.slice (some ⟨g, 0, none⟩) l.length l.length) ∧ (∀ i, i < l.length → w.cell? ⟨g, i, none⟩ = some (.int .u32 (l[i]?.getD 0))) ∧ (∀ i, w.frozen? ⟨g, i, none⟩ = false) ∧ l.length ≤ 65536 := by
  obtain ⟨h1, h2, h3, h4⟩ := h
  refine ⟨?_, fun i hi => ?_, fun i => frozen_of_row w g i _ _ h2, h4⟩
  · rw [cell_of_row w b 0 _ _ _ h1]; rfl
  · rw [cell_of_row w g i _ _ _ h2, wds_get]; simp [hi]
theorem Sto.set {w : World} {b g : Nat} {l : List Int} (h : Sto w b g l) (i : Nat) (v : Int) : Sto (w.setCell ⟨g, i, none⟩ (.int .u32 v)) b g (l.set i v) := by
  obtain ⟨h1, h2, h3, h4⟩ := h
  refine ⟨?_, ?_, h3, by simpa using h4⟩
  · rw [heap_setCell_other _ _ _ _ (by simpa using h3), h1]; simp
  · rw [heap_setCell_same w g i _ _ _ h2, wds_set]
theorem Sto.of_blocks {w w' : World} {b g : Nat} {l : List Int} (h : Sto w b g l) (hb : w'.heap[b]? = w.heap[b]?) (hg : w'.heap[g]? = w.heap[g]?) : Sto w' b g l := ⟨by rw [hb]; exact h.1, by rw [hg]; exact h.2.1, h.2.2⟩

def lieB (len : Nat) (at_ n : Int) : Bool := decide (0 ≤ at_) && decide (0 ≤ n) && decide (n ≤ len) && decide (at_ ≤ len - n)
theorem lies_any (w : World) (b g : Nat) (l : List Int) (x n : Int) (h : Sto w b g l) :
    Calls Try.prog 17 #[.pointer (some ⟨b, 0, none⟩), .int .i64 x, .int .i64 n] w fun e w' => e = .returned (.bool (lieB l.length x n)) ∧ w = w' := by
  obtain ⟨c0, c1, cz, hl⟩ := h.cell
  clear c1 cz
  by_cases h1 : 0 ≤ x
  · by_cases h2 : 0 ≤ n
    · by_cases h3 : n ≤ (l.length : Int)
      · have e : lieB l.length x n = decide (x ≤ (l.length : Int) - n) := by simp [lieB, h1, h2, h3]
        rw [e]; clear e
        go_enter Try.func17, Try.ntmps17
        go_wp2
        go_ret
        exact ⟨rfl, rfl⟩
      · have e : lieB l.length x n = false := by simp [lieB]; omega
        have hd : decide (n ≤ (l.length : Int)) = false := by simpa using h3
        rw [e]; clear e
        go_enter Try.func17, Try.ntmps17
        go_wp2
        go_ret
        exact ⟨rfl, rfl⟩
    · have e : lieB l.length x n = false := by simp [lieB]; omega
      rw [e]; clear e
      go_enter Try.func17, Try.ntmps17
      go_wp2
      go_ret
      exact ⟨rfl, rfl⟩
  · have e : lieB l.length x n = false := by simp [lieB]; omega
    rw [e]; clear e
    go_enter Try.func17, Try.ntmps17
    go_wp2
    go_ret
    exact ⟨rfl, rfl⟩
theorem lie_iff {len : Nat} {x n : Int} : lieB len x n = true ↔ 0 ≤ x ∧ 0 ≤ n ∧ n ≤ len ∧ x ≤ len - n := by simp [lieB, and_assoc]
theorem lie1 {len : Nat} {x : Int} : lieB len x 1 = true ↔ 0 ≤ x ∧ x < len := by rw [lie_iff]; omega
def getS (l : List Int) (x : Int) : Int := if 0 ≤ x ∧ x < l.length then l[x.toNat]?.getD 0 else 0
def putS (l : List Int) (x v : Int) : List Int := if 0 ≤ x ∧ x < l.length then l.set x.toNat v else l
theorem get_any (w : World) (b g : Nat) (l : List Int) (x : Int) (h : Sto w b g l) :
    Calls Try.prog 14 #[.pointer (some ⟨b, 0, none⟩), .int .i64 x] w fun e w' => e = .returned (.int .u32 (getS l x)) ∧ w = w' := by
  obtain ⟨c0, c1, cz, hl⟩ := h.cell
  by_cases hx : 0 ≤ x ∧ x < (l.length : Int)
  · have e : getS l x = l[x.toNat]?.getD 0 := by simp [getS, hx]
    have hb : lieB l.length x 1 = true := lie1.2 hx
    rw [e]; clear e
    obtain ⟨k, rfl⟩ := Int.eq_ofNat_of_zero_le hx.1
    have hc := c1 k (by omega)
    have h1 : (k : Int) < (l.length : Int) := hx.2
    have h0 : (0 : Int) ≤ (k : Int) := hx.1
    have HB := Lib.hid hb; clear hb c1 cz
    go_enter Try.func14, Try.ntmps14
    go_wp2_with (go_at_call 17; refine (lies_any _ _ _ _ _ _ h).mono ?_; rintro e w' ⟨rfl, rfl⟩; rw [HB.out])
    go_ret
    exact ⟨rfl, rfl⟩
  · have e : getS l x = 0 := by unfold getS; rw [if_neg hx]
    have hb : lieB l.length x 1 = false := by rw [Bool.eq_false_iff]; exact fun hh => hx (lie1.1 hh)
    rw [e]; clear e
    have HB := Lib.hid hb; clear hb c1 cz
    go_enter Try.func14, Try.ntmps14
    go_wp2_with (go_at_call 17; refine (lies_any _ _ _ _ _ _ h).mono ?_; rintro e w' ⟨rfl, rfl⟩; rw [HB.out])
    go_ret
    exact ⟨rfl, rfl⟩
theorem put_any (w : World) (b g : Nat) (l : List Int) (x v : Int) (h : Sto w b g l) :
    Calls Try.prog 10 #[.pointer (some ⟨b, 0, none⟩), .int .i64 x, .int .u32 v] w fun e w' => e = .returned (.bool (decide (0 ≤ x ∧ x < l.length))) ∧ Sto w' b g (putS l x v) ∧ Chg g w w' := by
  obtain ⟨c0, c1, cz, hl⟩ := h.cell
  by_cases hx : 0 ≤ x ∧ x < (l.length : Int)
  · have e : putS l x v = l.set x.toNat v := by simp [putS, hx]
    have hb : lieB l.length x 1 = true := lie1.2 hx
    have e2 : decide (0 ≤ x ∧ x < (l.length : Int)) = true := by simp [hx]
    rw [e, e2]; clear e e2
    obtain ⟨k, rfl⟩ := Int.eq_ofNat_of_zero_le hx.1
    have hc := c1 k (by omega)
    have z := cz k
    have h1 : (k : Int) < (l.length : Int) := hx.2
    have h0 : (0 : Int) ≤ (k : Int) := hx.1
    have HB := Lib.hid hb; clear hb c1 cz
    go_enter Try.func10, Try.ntmps10
    go_wp2_with (go_at_call 17; refine (lies_any _ _ _ _ _ _ h).mono ?_; rintro e w' ⟨rfl, rfl⟩; rw [HB.out])
    go_ret
    exact ⟨rfl, h.set k v, (Chg.refl g w).setCell k _⟩
  · have e : putS l x v = l := by unfold putS; rw [if_neg hx]
    have hb : lieB l.length x 1 = false := by rw [Bool.eq_false_iff]; exact fun hh => hx (lie1.1 hh)
    have e2 : decide (0 ≤ x ∧ x < (l.length : Int)) = false := by simp only [decide_eq_false_iff_not]; exact hx
    rw [e, e2]; clear e e2
    have HB := Lib.hid hb; clear hb c1 cz
    go_enter Try.func10, Try.ntmps10
    go_wp2_with (go_at_call 17; refine (lies_any _ _ _ _ _ _ h).mono ?_; rintro e w' ⟨rfl, rfl⟩; rw [HB.out])
    go_ret
    exact ⟨rfl, h, Chg.refl g w⟩
theorem len_any (w : World) (b g : Nat) (l : List Int) (h : Sto w b g l) :
    Calls Try.prog 8 #[.pointer (some ⟨b, 0, none⟩)] w fun e w' => e = .returned (.int .i64 l.length) ∧ w = w' := by
  obtain ⟨c0, c1, cz, hl⟩ := h.cell
  clear c1 cz
  go_enter Try.func8, Try.ntmps8
  go_wp2
  go_ret
  exact ⟨rfl, rfl⟩
def lenOf (v : Int) : Nat := (max 0 (min v 65536)).toNat
theorem infoU : (Try.prog.info? 31).map (fun i => (i.zero, i.size, i.bytes)) = some (some (.int .u32 0), 1, 4) := by kernel_rfl
theorem made_wds (n : Nat) : madeCells (Value.cells (.int .u32 0)) n = wds (List.replicate n 0) := by
  apply Array.ext
  · simp [size_madeCells, wds_size]
  · intro i h1 h2
    have hz : i % 1 = 0 := by omega
    simp [madeCells, wds, Value.cells, hz]
theorem mk_run (m : Int) (n : Nat) (h : m = n) (hn : n ≤ 65536) (w : World) : Sem.run Try.prog (Instr.makeSlice 28 (.int .i64 m) (.int .i64 m)) w = .ok (.slice (some ⟨w.heap.size, 0, none⟩) n n) (w.alloc (.cells (wds (List.replicate n 0)) 31)) := by
  obtain ⟨ti, hti, hz0, hz1, hz2⟩ := info_parts infoU
  subst h
  have h := run_make (P := Try.prog) w 28 31 ti (.int .u32 0) Try.underlying28 hti hz0 .i64 .i64 n n (by omega) (by omega) (by rw [hz2]; omega) (by omega)
  rw [hz1, Int.toNat_natCast, Nat.mul_one, made_wds] at h
  exact h
theorem new_sto (w : World) (n : Nat) (hn : n ≤ 65536) : Sto ((w.alloc (.cells (wds (List.replicate n 0)) 31)).alloc (.cells #[.slice (some ⟨w.heap.size, 0, none⟩) n n] 45)) (w.heap.size + 1) w.heap.size (List.replicate n 0) := by
  refine ⟨?_, heap_alloc2_old w _ _, by omega, by simpa using hn⟩
  rw [heap_alloc2_new]; simp
theorem new_any (v : Int) (w : World) :
    Calls Try.prog 6 #[.int .i64 v] w fun e w' => e = .returned (.pointer (some ⟨w.heap.size + 1, 0, none⟩)) ∧ Sto w' (w.heap.size + 1) w.heap.size (List.replicate (lenOf v) 0) ∧ Gr w w' ∧ w'.heap.size = w.heap.size + 2 := by
  have NS := Lib.hid (new_sto w (lenOf v) (by unfold lenOf; omega))
  by_cases h1 : 65536 < v
  · have hm := fun w => mk_run 65536 (lenOf v) (by unfold lenOf; omega) (by unfold lenOf; omega) w
    go_enter Try.func6, Try.ntmps6
    go_wp2
    all_goals
      go_ret
      exact ⟨rfl, NS.out, Gr.alloc (Gr.alloc (Gr.refl w) _ _) _ _, by simp⟩
  · by_cases h2 : v < 0
    · have hm := fun w => mk_run 0 (lenOf v) (by unfold lenOf; omega) (by unfold lenOf; omega) w
      go_enter Try.func6, Try.ntmps6
      go_wp2
      all_goals
        go_ret
        exact ⟨rfl, NS.out, Gr.alloc (Gr.alloc (Gr.refl w) _ _) _ _, by simp⟩
    · have hm := fun w => mk_run v (lenOf v) (by unfold lenOf; omega) (by unfold lenOf; omega) w
      have hm0 := fun w (h : v = 0) => mk_run 0 (lenOf v) (by unfold lenOf; omega) (by unfold lenOf; omega) w
      by_cases h3 : v = 0
      · have hm1 := fun w => hm0 w h3
        subst h3
        clear hm0 hm
        go_enter Try.func6, Try.ntmps6
        go_wp2
        all_goals
          go_ret
          exact ⟨rfl, NS.out, Gr.alloc (Gr.alloc (Gr.refl w) _ _) _ _, by simp⟩
      · have h4 : 0 < v := by omega
        clear hm0
        go_enter Try.func6, Try.ntmps6
        go_wp2
        all_goals
          go_ret
          exact ⟨rfl, NS.out, Gr.alloc (Gr.alloc (Gr.refl w) _ _) _ _, by simp⟩
def movS (l : List Int) (f t n : Nat) : List Int := l.take t ++ (((l.drop f).take n) ++ l.drop (t + n))
theorem infoSz : (Try.prog.info? 31).map (·.size) = some 1 := by kernel_rfl
theorem Sto.row {w : World} {b g : Nat} {l l' : List Int} (h : Sto w b g l) (hl : l'.length = l.length) {cs : Array Value} (e : cs = wds l') : Sto (w.setRow g cs) b g l' := by
  subst e
  refine ⟨?_, ?_, h.2.2.1, by have := h.2.2.2; omega⟩
  · rw [setRow_other _ _ _ _ h.2.2.1, h.1, hl]
  · exact setRow_heap w g (wds l) (wds l') _ _ h.2.1
theorem movS_len {l : List Int} {f t n : Nat} (hf : f + n ≤ l.length) (ht : t + n ≤ l.length) : (movS l f t n).length = l.length := by
  unfold movS; simp; omega
theorem movS_row {l : List Int} {f t n : Nat} (hf : f + n ≤ l.length) : ((wds l).toList.take t ++ (((l.drop f).take n).map (Value.int .u32) ++ (wds l).toList.drop (t + (((l.drop f).take n).map (Value.int .u32)).length))).toArray = wds (movS l f t n) := by
  have e : (((l.drop f).take n).map (Value.int .u32)).length = n := by simp; omega
  rw [e]; apply Array.ext'
  simp [wds, movS, List.map_take, List.map_drop]
theorem movS_0 (l : List Int) (f t : Nat) : movS l f t 0 = l := by simp [movS]
theorem move_ok (w : World) (b g : Nat) (l : List Int) (f t n : Nat) (hS : Sto w b g l) (hf : f + n ≤ l.length) (ht : t + n ≤ l.length) (hn : 0 < n) :
    Calls Try.prog 12 #[.pointer (some ⟨b, 0, none⟩), .int .i64 f, .int .i64 t, .int .i64 n] w fun e w' => e = .returned (.bool true) ∧ Sto w' b g (movS l f t n) ∧ Chg g w w' := by
  obtain ⟨c0, c1, cz, hl⟩ := hS.cell
  have L1 := Lib.hid (lie_iff.2 ⟨by omega, by omega, by omega, by omega⟩ : lieB l.length f n = true)
  have L2 := Lib.hid (lie_iff.2 ⟨by omega, by omega, by omega, by omega⟩ : lieB l.length t n = true)
  have hsrc : ∀ j v, ((((l.drop f).take n).map (Value.int .u32)))[j]? = some v → w.drew.cell? ((⟨g, f, none⟩ : Addr).add j) = some v := by
    intro j v hv
    have hj : j < n := by
      rcases Nat.lt_or_ge j n with h' | h'
      · exact h'
      · simp [List.getElem?_take, show ¬ j < n by omega] at hv
    have hc := c1 (f + j) (by omega)
    have hv' : v = .int .u32 (l[f + j]?.getD 0) := by
      simp [hj] at hv
      obtain ⟨x, hx, rfl⟩ := hv
      rw [hx]; rfl
    subst hv'
    by_cases e : j = 0
    · subst e; simpa [Addr.add] using hc
    · simpa [Addr.add, e] using hc
  have hcs : (((l.drop f).take n).map (Value.int .u32)).length = n := by simp; omega
  have hcp := run_copy_row (P := Try.prog) w.drew 28 28 3 31 g t (((t : Int) + (n : Int)).toNat - t) (l.length - t) ⟨g, f, none⟩ (((f : Int) + (n : Int)).toNat - f) (l.length - f) (wds l) 31 (((l.drop f).take n).map (Value.int .u32)) Try.underlying28 infoSz hS.2.1 (by rw [hcs, show ((t : Int) + (n : Int)).toNat - t = n by omega, show ((f : Int) + (n : Int)).toNat - f = n by omega]; simp) hsrc (by rw [hcs, wds_size]; omega) (fun v hv => by obtain ⟨x, _, rfl⟩ := List.mem_map.1 hv; rfl)
  rw [List.append_assoc, movS_row hf, hcs] at hcp
  have f0 : (0 : Int) ≤ (f : Int) := by omega
  have t0 : (0 : Int) ≤ (t : Int) := by omega
  have f1 : (f : Int) ≤ (f : Int) + (n : Int) := by omega
  have t1 : (t : Int) ≤ (t : Int) + (n : Int) := by omega
  have f2 : (f : Int) + (n : Int) ≤ (l.length : Int) := by omega
  have t2 : (t : Int) + (n : Int) ≤ (l.length : Int) := by omega
  have wf : IntKind.i64.wrap ((f : Int) + (n : Int)) = (f : Int) + (n : Int) := IntWalk.i64_in _ ⟨by omega, by omega⟩
  have wt : IntKind.i64.wrap ((t : Int) + (n : Int)) = (t : Int) + (n : Int) := IntWalk.i64_in _ ⟨by omega, by omega⟩
  have hkp : (w.drew.setRow g (wds (movS l f t n))).cell? ⟨b, 0, none⟩ = some (.slice (some ⟨g, 0, none⟩) l.length l.length) := by
    rw [World.cell?_of_block (w := w) (setRow_other w.drew g b _ hS.2.2.1)]; exact c0
  clear c1 cz hsrc hcs
  go_enter Try.func12, Try.ntmps12
  go_wp2_with fail
  refine (lies_any _ _ _ _ _ _ hS).mono ?_; rintro e w' ⟨rfl, rfl⟩; rw [L1.out]
  go_wp2_with fail
  refine (lies_any _ _ _ _ _ _ hS).mono ?_; rintro e w' ⟨rfl, rfl⟩; rw [L2.out]
  go_wp2_with fail
  go_region_held3 (fun w' => w'.cell? ⟨b, 0, none⟩ = some (.slice (some ⟨g, 0, none⟩) l.length l.length)) (first | exact c0 | exact hkp)
    (fail)
  go_wp2
  all_goals
    go_ret
    exact ⟨rfl, (hS.row (movS_len hf ht) rfl).of_blocks rfl rfl, ((Chg.refl g w).setRow _).drew⟩
theorem move_zero (w : World) (b g : Nat) (l : List Int) (f t : Nat) (hS : Sto w b g l) (hf : f ≤ l.length) (ht : t ≤ l.length) :
    Calls Try.prog 12 #[.pointer (some ⟨b, 0, none⟩), .int .i64 f, .int .i64 t, .int .i64 0] w fun e w' => e = .returned (.bool true) ∧ Sto w' b g l ∧ Chg g w w' := by
  obtain ⟨c0, c1, cz, hl⟩ := hS.cell
  have L1 := Lib.hid (lie_iff.2 ⟨by omega, by omega, by omega, by omega⟩ : lieB l.length f 0 = true)
  have L2 := Lib.hid (lie_iff.2 ⟨by omega, by omega, by omega, by omega⟩ : lieB l.length t 0 = true)
  have hcn := fun (d a : Option Addr) (p q : Nat) => run_copy_none (P := Try.prog) w.drew 28 28 3 31 d a 0 p 0 q Try.underlying28 infoSz rfl
  have f0 : (0 : Int) ≤ (f : Int) := by omega
  have t0 : (0 : Int) ≤ (t : Int) := by omega
  have f2 : (f : Int) ≤ (l.length : Int) := by omega
  have t2 : (t : Int) ≤ (l.length : Int) := by omega
  have wf : IntKind.i64.wrap (f : Int) = (f : Int) := IntWalk.i64_in _ ⟨by omega, by omega⟩
  have wt : IntKind.i64.wrap (t : Int) = (t : Int) := IntWalk.i64_in _ ⟨by omega, by omega⟩
  rcases (Decidable.em (l.length = f)) with rfl | hft
  all_goals
    rcases (Decidable.em (l.length = t)) with rfl | htt
    all_goals
      clear c1 cz
      go_enter Try.func12, Try.ntmps12
      go_wp2_with fail
      refine (lies_any _ _ _ _ _ _ hS).mono ?_; rintro e w' ⟨rfl, rfl⟩; rw [L1.out]
      go_wp2_with fail
      refine (lies_any _ _ _ _ _ _ hS).mono ?_; rintro e w' ⟨rfl, rfl⟩; rw [L2.out]
      go_wp2_with fail
      go_region_held3 (fun w' => w'.cell? ⟨b, 0, none⟩ = some (.slice (some ⟨g, 0, none⟩) l.length l.length)) (exact c0)
        (fail)
      all_goals
        go_wp2
        go_ret
        exact ⟨rfl, hS.of_blocks rfl rfl, (Chg.refl g w).drew⟩
theorem move_no (w : World) (b g : Nat) (l : List Int) (f t n : Int) (hS : Sto w b g l) (hno : lieB l.length f n = false ∨ (lieB l.length f n = true ∧ lieB l.length t n = false)) :
    Calls Try.prog 12 #[.pointer (some ⟨b, 0, none⟩), .int .i64 f, .int .i64 t, .int .i64 n] w fun e w' => e = .returned (.bool false) ∧ w = w' := by
  rcases hno with h1 | ⟨h1, h2⟩
  · have L1 := Lib.hid h1; clear h1
    go_enter Try.func12, Try.ntmps12
    go_wp2_with (go_at_call 17; refine (lies_any _ _ _ _ _ _ hS).mono ?_; rintro e w' ⟨rfl, rfl⟩; rw [L1.out])
    go_ret
    exact ⟨rfl, rfl⟩
  · have L1 := Lib.hid h1; have L2 := Lib.hid h2; clear h1 h2
    go_enter Try.func12, Try.ntmps12
    go_wp2_with fail
    refine (lies_any _ _ _ _ _ _ hS).mono ?_; rintro e w' ⟨rfl, rfl⟩; rw [L1.out]
    go_wp2_with fail
    refine (lies_any _ _ _ _ _ _ hS).mono ?_; rintro e w' ⟨rfl, rfl⟩; rw [L2.out]
    go_wp2_with fail
    go_ret
    exact ⟨rfl, rfl⟩
end Go.Proofs.Ytjeminkcaofgaaa.Sr
