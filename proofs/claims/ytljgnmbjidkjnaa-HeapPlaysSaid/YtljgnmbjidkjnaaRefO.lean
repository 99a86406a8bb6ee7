/- The reference's own answer of chapter 4, of each word whether it is free: New, Words, Give. -/
/- The reference's own answer of chapter 4: Runs. -/
/- The reference's own answer of chapter 4: Take. -/
/- The reference's own answer of chapter 4: New. -/
/- The reference's own answer of chapter 5: its objects in memory; find, Next. -/
/- The reference's own answer of chapter 5: Next, Get. -/
/- The reference's own answer of chapter 5: Get. -/
/- The reference's own answer of chapter 5: Size, Field. -/
/- The reference's own answer of chapter 5: Field, Byte. -/
/- The reference's own answer of chapter 5: a store into a row of one's own. -/
/- The reference's own answer of chapter 5: what it holds once a field or a byte is set. -/
/- The reference's own answer of chapter 5: SetField, SetByte. -/
/- The reference's own answer of chapter 5: what it holds once a number of an object is set. -/
/- The reference's own answer of chapter 5: SetClass. -/
/- The reference's own answer of chapter 5: SetClass, SetMark where they do not go. -/
import Derived.Test.YtljgnmbjidkjnaaTwoH
import Derived.Deep.DeepCutAuto
import Derived.Deep.RegionWith
import Derived.Deep.MidRow
import Derived.Laws.Tables
import Derived.Laws.Rows
import Derived.Laws.ResultCell
import Derived.Deep.WholeRow
namespace Go.Proofs.Ytljgnmbjidkjnaa.Rf4
open Go.Proofs.Ytljgnmbjidkjnaa.Gen Go.Proofs.Ytljgnmbjidkjnaa.Base Go.Proofs.Ytljgnmbjidkjnaa.Fr Go.Proofs.Ytljgnmbjidkjnaa.Hp Go.ChangeShapes Go.WideShapes Go.ChangeAt Go.RowKit
set_option linter.unusedVariables false
/-- Where it lies: the struct, the row of truths. -/
structure R4 (w : World) (r g : Nat) (l : List Bool) : Prop where
  row : w.heap[r]? = some (.cells #[.slice (some ⟨g, 0, none⟩) l.length l.length] 77 (0, 0))
  bs : w.heap[g]? = some (.cells (bools l).toArray 4 (0, 0))
  ne : r ≠ g
  len : l.length ≤ 65536
/-- What a call does: its own row may change; nothing else that was there does. -/
structure G4 (g : Nat) (w w' : World) : Prop where
  os : w'.os = w.os
  tape : w'.tape = w.tape
  output : w'.output = w.output
  size : w.heap.size ≤ w'.heap.size
  block : ∀ k, k < w.heap.size → k ≠ g → w'.heap[k]? = w.heap[k]?
theorem G4.refl (g : Nat) (w : World) : G4 g w w := ⟨rfl, rfl, rfl, Nat.le_refl _, fun _ _ _ => rfl⟩
theorem G4.trans {g : Nat} {w w' w'' : World} (h : G4 g w w') (k : G4 g w' w'') : G4 g w w'' :=
  ⟨k.os.trans h.os, k.tape.trans h.tape, k.output.trans h.output, Nat.le_trans h.size k.size, fun i hi hne => (k.block i (Nat.lt_of_lt_of_le hi h.size) hne).trans (h.block i hi hne)⟩
theorem G4.of {g : Nat} {w w' : World} (h : Below w.heap.size w w') : G4 g w w' := ⟨h.os, h.tape, h.output, h.size, fun k hk _ => h.block k hk⟩
theorem G4.below {g W : Nat} {w w' : World} (h : G4 g w w') (hW : W ≤ g) (hW2 : W ≤ w.heap.size) : Below W w w' := ⟨h.os, h.tape, h.output, h.size, fun k hk => h.block k (by omega) (by omega)⟩
theorem G4.set {g : Nat} {w w' : World} (h : G4 g w w') (i : Nat) (v : Value) : G4 g w (w'.setCell ⟨g, i, none⟩ v) :=
  ⟨h.os, h.tape, h.output, by simpa using h.size, fun k hk hne => (heap_setCell_other _ _ _ _ (fun e => hne e)).trans (h.block k hk hne)⟩
section
variable {w w' : World} {r g : Nat} {l : List Bool}
theorem R4.c0 (h : R4 w r g l) : w.cell? ⟨r, 0, none⟩ = some (.slice (some ⟨g, 0, none⟩) l.length l.length) := by rw [cell_of_row w r 0 _ _ _ h.row]; rfl
theorem R4.co (h : R4 w r g l) (i : Nat) (hi : i < l.length) : w.cell? ⟨g, i, none⟩ = some (.bool (o l i)) := by rw [cell_of_row w g i _ _ _ h.bs]; simp [bools, hi, o]
theorem R4.fz (h : R4 w r g l) (i : Nat) : w.frozen? ⟨g, i, none⟩ = false := frozen_of_row w g i _ _ h.bs
theorem R4.set (h : R4 w r g l) (i : Nat) (v : Bool) : R4 (w.setCell ⟨g, i, none⟩ (.bool v)) r g (l.set i v) :=
  ⟨by rw [heap_setCell_other _ _ _ _ (fun e => h.ne e), List.length_set]; exact h.row, by rw [heap_setCell_same w g i _ _ _ h.bs, bools_set], h.ne, by simpa using h.len⟩
theorem R4.keep (h : R4 w r g l) (hb : ∀ k, k = r ∨ k = g → w'.heap[k]? = w.heap[k]?) : R4 w' r g l :=
  ⟨(hb r (.inl rfl)).trans h.row, (hb g (.inr rfl)).trans h.bs, h.ne, h.len⟩
theorem R4.lt (h : R4 w r g l) : r < w.heap.size ∧ g < w.heap.size := ⟨(Array.getElem?_eq_some_iff.1 h.row).1, (Array.getElem?_eq_some_iff.1 h.bs).1⟩
theorem cnt_succ (l : List Bool) (i : Nat) : cnt (l.take (i + 1)) = cnt (l.take i) + (if o l i then 1 else 0) := by
  unfold cnt o
  by_cases h : i < l.length
  · rw [List.take_succ_eq_append_getElem h, List.count_append, List.getElem?_eq_getElem h]
    cases hx : l[i] <;> simp [hx]
  · rw [List.take_of_length_le (by omega), List.take_of_length_le (by omega), List.getElem?_eq_none (by omega)]; simp
theorem r4_Words (h : R4 w r g l) : Calls Try.prog 52 #[.pointer (some ⟨r, 0, none⟩)] w fun e w' => e = .returned (.int .i64 (cnt l)) ∧ w = w' := by
  have c0 := h.c0
  have hle := h.len
  have HR := Lib.hid h
  clear h
  go_enter Try.func52, Try.ntmps52
  go_wp2_with fail
  go_loopw [3, 4] (fun v3 v4 wr => ∃ i : Nat, i ≤ l.length ∧ v4 = .int .i64 i ∧ v3 = .int .i64 (cnt (l.take i)) ∧ wr = w) (fun _ v4 wr => l.length - (intOf v4).toNat)
  case atStart => exact ⟨0, Nat.zero_le _, rfl, rfl, rfl⟩
  case round =>
    obtain ⟨i, i1, rfl, rfl, rfl⟩ := hrel
    by_cases hi : i < l.length
    · have t1 : (i : Int) < (l.length : Int) := by omega
      have t0 : (0 : Int) ≤ (i : Int) := by omega
      have co := HR.out.co i hi
      have hcs := cnt_succ l i
      have hcl : cnt (l.take i) ≤ 65536 := by have := cnt_le (l.take i); rw [List.length_take] at this; omega
      cases hx : o l i
      · rw [hx] at co hcs
        simp only [Bool.false_eq_true, if_false, Nat.add_zero] at hcs
        have HCS := Lib.hid hcs
        clear hcs hx
        generalize cnt (l.take i) = C at *
        go_wp2_with fail
        refine ⟨⟨i + 1, by omega, by simp, by rw [HCS.out], trivial⟩, by simp only [intOf]; omega⟩
      · rw [hx] at co hcs
        simp only [if_true] at hcs
        have HCS := Lib.hid hcs
        clear hcs hx
        generalize cnt (l.take i) = C at *
        go_wp2_with fail
        refine ⟨⟨i + 1, by omega, by simp, by rw [HCS.out]; simp, trivial⟩, by simp only [intOf]; omega⟩
    · obtain rfl : i = l.length := by omega
      rw [List.take_length]
      go_wp2_with fail
      go_ret
      exact ⟨rfl, rfl⟩
theorem r4_Give_no (h : R4 w r g l) (x n : Int) (hx : (Lit.int .i64 x).wf = true) (hn : (Lit.int .i64 n).wf = true) (hno : n < 1 ∨ x < 0 ∨ (l.length : Int) < x ∨ (l.length : Int) - x < n) :
    Calls Try.prog 57 #[.pointer (some ⟨r, 0, none⟩), .int .i64 x, .int .i64 n] w fun e w' => e = .returned (.bool false) ∧ w = w' := by
  have c0 := h.c0
  have hle := h.len
  clear h
  have b1 := bounds_i64 hx
  have b2 := bounds_i64 hn
  by_cases h1 : n < 1
  · go_enter Try.func57, Try.ntmps57
    go_wp2
    go_ret
    exact ⟨rfl, rfl⟩
  · by_cases h2 : x < 0
    · go_enter Try.func57, Try.ntmps57
      go_wp2
      go_ret
      exact ⟨rfl, rfl⟩
    · by_cases h3 : (l.length : Int) < x
      · go_enter Try.func57, Try.ntmps57
        go_wp2
        go_ret
        exact ⟨rfl, rfl⟩
      · have h4 : (l.length : Int) - x < n := by omega
        have wr : IntKind.i64.wrap ((l.length : Int) - x) = (l.length : Int) - x := IntWalk.i64_in _ ⟨by omega, by omega⟩
        go_enter Try.func57, Try.ntmps57
        go_wp2
        go_ret
        exact ⟨rfl, rfl⟩
set_option maxHeartbeats 1000000 in
theorem r4_Give (h : R4 w r g l) (a n : Nat) (h1 : 1 ≤ n) (h2 : a + n ≤ l.length) (hc : ∀ i, a ≤ i → i < a + n → o l i = false) :
    Calls Try.prog 57 #[.pointer (some ⟨r, 0, none⟩), .int .i64 a, .int .i64 n] w fun e w' => e = .returned (.bool true) ∧ R4 w' r g (setR l a n true) ∧ G4 g w w' := by
  have c0 := h.c0
  have hle := h.len
  have HR := Lib.hid h; have HC := Lib.hid hc
  clear h hc
  have wr0 : IntKind.i64.wrap ((l.length : Int) - a) = (l.length : Int) - a := IntWalk.i64_in _ ⟨by omega, by omega⟩
  have s1 : ¬ (n : Int) < 1 := by omega
  have s2 : ¬ (a : Int) < 0 := by omega
  have s3 : ¬ (l.length : Int) < (a : Int) := by omega
  have s4 : ¬ (l.length : Int) - (a : Int) < (n : Int) := by omega
  go_enter Try.func57, Try.ntmps57
  go_wp2_with fail
  go_loopw [7] (fun v7 wr => ∃ i : Nat, i ≤ n ∧ v7 = .int .i64 i ∧ wr = w) (fun v7 wr => n - (intOf v7).toNat)
  case atStart => exact ⟨0, Nat.zero_le _, rfl, rfl⟩
  case round =>
    obtain ⟨i, i1, rfl, rfl⟩ := hrel
    by_cases hi : i < n
    · have t3 : (i : Int) < (n : Int) := by omega
      have t1 : (a : Int) + (i : Int) < (l.length : Int) := by omega
      have t0 : (0 : Int) ≤ (a : Int) + (i : Int) := by omega
      have t2 : ((a : Int) + (i : Int)).toNat = a + i := by omega
      have co := HR.out.co (a + i) (by omega)
      rw [HC.out (a + i) (by omega) (by omega)] at co
      go_wp2_with fail
      refine ⟨⟨i + 1, by omega, by simp, trivial⟩, by simp only [intOf]; omega⟩
    · obtain rfl : i = n := by omega
      clear c0
      go_wp2_with fail
      go_loopw [8] (fun v8 wr' => ∃ j : Nat, j ≤ i ∧ v8 = .int .i64 j ∧ R4 wr' r g (setR l a j true) ∧ G4 g wr wr') (fun v8 wr' => i - (intOf v8).toNat)
      case atStart => exact ⟨0, Nat.zero_le _, rfl, HR.out, G4.refl _ _⟩
      case round =>
        obtain ⟨j, j1, rfl, hR, hG⟩ := hrel
        by_cases hj : j < i
        · have t3 : (j : Int) < (i : Int) := by omega
          have t1 : (a : Int) + (j : Int) < (l.length : Int) := by omega
          have t0 : (0 : Int) ≤ (a : Int) + (j : Int) := by omega
          have t2 : ((a : Int) + (j : Int)).toNat = a + j := by omega
          have c0 := hR.c0
          have fz := hR.fz (a + j)
          have c1 := hR.co (a + j) (by rw [setR_len]; omega)
          rw [setR_len] at c0
          have HS := Lib.hid (hR.set (a + j) true); have HG := Lib.hid (hG.set (a + j) (.bool true))
          clear hR hG
          generalize o (setR l a j true) (a + j) = V at *
          go_wp2_with fail
          refine ⟨⟨j + 1, by omega, by simp, HS.out, HG.out⟩, by simp only [intOf]; omega⟩
        · obtain rfl : j = i := by omega
          have HS := Lib.hid hR; have HG := Lib.hid hG
          clear hR hG
          go_wp2_with fail
          go_ret
          exact ⟨rfl, HS.out, HG.out⟩
end
end Go.Proofs.Ytljgnmbjidkjnaa.Rf4

namespace Go.Proofs.Ytljgnmbjidkjnaa.Rf4
open Go.Proofs.Ytljgnmbjidkjnaa.Gen Go.Proofs.Ytljgnmbjidkjnaa.Base Go.Proofs.Ytljgnmbjidkjnaa.Fr Go.Proofs.Ytljgnmbjidkjnaa.Hp Go.ChangeShapes Go.WideShapes Go.ChangeAt Go.RowKit
set_option linter.unusedVariables false
section
variable {w w' : World} {r g : Nat} {l : List Bool}
theorem run_to {f i : Nat} (hfi : f < i) (hlo : f = 0 ∨ o l (f - 1) = false) (hall : ∀ x, f ≤ x → x < i → o l x = true) (hx : o l i = false) : Run l f (i - f) :=
  ⟨by omega, fun x h1 h2 => hall x h1 (by omega), hlo, by rw [show f + (i - f) = i by omega]; exact hx⟩
theorem upto_eq {a : Nat} {R : List (Nat × Nat)} (h : Upto l a R) (ha : l.length ≤ a) : Upto l l.length R :=
  ⟨fun x n => by
    rw [h.mem]
    constructor
    · rintro ⟨q1, _⟩; exact ⟨q1, by have := q1.le; have := q1.pos; omega⟩
    · rintro ⟨q1, q2⟩; exact ⟨q1, by omega⟩, h.sorted⟩
set_option maxHeartbeats 2000000 in
theorem r4_Runs (h : R4 w r g l) : Calls Try.prog 72 #[.pointer (some ⟨r, 0, none⟩)] w
    fun e w' => ∃ v R, e = .returned v ∧ Upto l l.length R ∧ w'.ownsRow w.heap.size 91 2 v R.length (pairs R) ∧ Below w.heap.size w w' := by
  have hle := h.len
  have hlt := h.lt
  obtain ⟨ti, hti, hz0, hz1, hz2⟩ := info_parts infoP
  have HTI := Lib.hid hti; have HZ0 := Lib.hid hz0; have HZ1 := Lib.hid hz1; have HZ2 := Lib.hid hz2
  have HR := Lib.hid h
  clear hti hz0 hz1 hz2 h
  have c0 := HR.out.c0
  go_enter Try.func72, Try.ntmps72
  go_wp2_with fail
  go_loopw [3, 4, 5] (fun v3 v4 v5 wr => ∃ (f i : Nat) (R : List (Nat × Nat)), i ≤ l.length + 1 ∧ f ≤ i ∧ v4 = .int .i64 f ∧ v5 = .int .i64 i ∧ Upto l f R ∧ (f = 0 ∨ o l (f - 1) = false) ∧ (∀ x, f ≤ x → x < i → o l x = true) ∧ wr.ownsRow w.heap.size 91 2 v3 R.length (pairs R) ∧ Below w.heap.size w wr) (fun _ _ v5 wr => l.length + 1 - (intOf v5).toNat)
  case atStart => exact ⟨0, 0, [], by omega, by omega, rfl, rfl, Upto.zero l, .inl rfl, fun x h1 h2 => by omega, ⟨rfl, .inl ⟨rfl, rfl⟩⟩, Below.refl _ _⟩
  case round =>
    obtain ⟨f, i, R, i1, f1, rfl, rfl, hU, hlo, hall, hown, hb⟩ := hrel
    have c0' := (hb.cell (p := ⟨r, 0, none⟩) hlt.1).trans c0
    have hRl : R.length ≤ 65537 := by have := hU.len; omega
    by_cases hi : i ≤ l.length
    · have t1 : (i : Int) ≤ (l.length : Int) := by omega
      have t0 : (0 : Int) ≤ (i : Int) := by omega
      cases hx : o l i
      · have hco : i < l.length → wr.cell? ⟨g, i, none⟩ = some (.bool false) := fun c => by
          have := (hb.cell (p := ⟨g, i, none⟩) hlt.2).trans (HR.out.co i c)
          rwa [hx] at this
        have HCO := Lib.hid hco; have HU := Lib.hid hU; have HLO := Lib.hid hlo; have HALL := Lib.hid hall; have HOWN := Lib.hid hown; have HX := Lib.hid hx
        clear hco hU hlo hall hown hx
        go_upto_region 6 with fail
        go_cut [30] (fun s30 wx => s30 = .bool false ∧ wr = wx)
        case first =>
          by_cases c : i < l.length
          · have t2 : (i : Int) < (l.length : Int) := by omega
            have co := HCO.out c
            go_wp2_with fail
            go_meet
            exact ⟨rfl, rfl⟩
          · have t2 : ¬ (i : Int) < (l.length : Int) := by omega
            go_wp2_with fail
            go_meet
            exact ⟨by first | rfl | (congr 1; simp; omega), rfl⟩
        case rest =>
          obtain ⟨rfl, rfl⟩ := hcut
          by_cases hfi : f < i
          · have t3 : (f : Int) < (i : Int) := by omega
            obtain ⟨m, hm, hm2⟩ : ∃ m : Nat, IntKind.i64.wrap ((i : Int) - (f : Int)) = (m : Int) ∧ f + m = i := ⟨i - f, by rw [IntWalk.i64_in _ ⟨by omega, by omega⟩]; omega, by omega⟩
            have hrun := run_to hfi HLO.out HALL.out HX.out
            rw [show i - f = m by omega] at hrun
            have hU2 := HU.out.run hrun
            rw [hm2] at hU2
            have HU2 := Lib.hid (hU2.shut HX.out)
            have hsz := hb.size
            clear hrun hU2
            go_wp2_with (at_builtin; refine wpList_append_own _ rfl _ _ 89 rfl w.heap.size 91 ti (.agg #[.int .i64 0, .int .i64 0]) 2 16 Try.underlying89 HTI.out HZ0.out HZ1.out HZ2.out rfl (by decide) _ _ _ rfl (World.ownsRow.alloc HOWN.out _) ⟨wr.heap.size, 0, none⟩ 1 1 [.int .i64 f, .int .i64 m] rfl rfl ?c1 ?c2 ?c3 ?c4 ?c5 ?_)
            case c1 => exact World.news_of_block (heap_alloc_new wr _)
            case c2 => intro u hu; simp at hu; rcases hu with rfl | rfl <;> rfl
            case c3 => unfold maxLen; omega
            case c4 => omega
            case c5 => simp; omega
            intro v' w1 hown1 hgrow _
            have hb1 : Below w.heap.size w w1 := Below.grown (hb.alloc hsz _) hgrow (by simp; omega) (fun k hk => by
              obtain ⟨_, ⟨h2, _⟩ | ⟨g', cap, cur, h3, h4, _⟩⟩ := HOWN.out
              · subst h2; simp [Value.ownBlock] at hk
              · subst h3; simp [Value.ownBlock] at hk; omega)
            have HO1 := Lib.hid hown1
            clear hgrow hown1 c0' HOWN
            go_wp2_with fail
            refine ⟨⟨i + 1, i + 1, R ++ [(f, m)], by omega, by omega, by simp, by simp, HU2.out, .inr (by simpa using HX.out), fun x h1 h2 => by omega, by rw [pairs_app]; simpa using HO1.out, hb1⟩, by simp only [intOf]; omega⟩
          · obtain rfl : f = i := by omega
            have HU2 := Lib.hid (HU.out.shut HX.out)
            go_wp2_with fail
            refine ⟨⟨f + 1, f + 1, R, by omega, by omega, by simp, by simp, HU2.out, .inr (by simpa using HX.out), fun x h1 h2 => by omega, HOWN.out, hb⟩, by simp only [intOf]; omega⟩
      · have hil := o_lt hx
        have t2 : (i : Int) < (l.length : Int) := by omega
        have co := (hb.cell (p := ⟨g, i, none⟩) hlt.2).trans (HR.out.co i hil)
        rw [hx] at co
        have HALL := Lib.hid (show ∀ x, f ≤ x → x < i + 1 → o l x = true from fun x h1 h2 => by
          by_cases e : x = i
          · rw [e]; exact hx
          · exact hall x h1 (by omega))
        have HU := Lib.hid hU; have HLO := Lib.hid hlo; have HOWN := Lib.hid hown
        clear hU hlo hall hown hx
        go_wp2_with fail
        refine ⟨⟨f, i + 1, R, by omega, by omega, rfl, by simp, HU.out, HLO.out, HALL.out, HOWN.out, hb⟩, by simp only [intOf]; omega⟩
    · have t1 : ¬ (i : Int) ≤ (l.length : Int) := by omega
      have hff : l.length ≤ f := by
        rcases Nat.lt_or_ge f l.length with c | c
        · have := o_lt (hall l.length (by omega) (by omega)); omega
        · exact c
      have HU := Lib.hid (upto_eq hU hff); have HOWN := Lib.hid hown
      clear hU hlo hall hown
      go_wp2_with fail
      go_ret
      exact ⟨_, rfl, R, HU.out, HOWN.out, hb⟩
end
end Go.Proofs.Ytljgnmbjidkjnaa.Rf4

namespace Go.Proofs.Ytljgnmbjidkjnaa.Rf4
open Go.Proofs.Ytljgnmbjidkjnaa.Gen Go.Proofs.Ytljgnmbjidkjnaa.Base Go.Proofs.Ytljgnmbjidkjnaa.Fr Go.Proofs.Ytljgnmbjidkjnaa.Hp Go.ChangeShapes Go.WideShapes Go.ChangeAt Go.RowKit
set_option linter.unusedVariables false
/-- The size, the place of the run at an index. -/
def sz (R : List (Nat × Nat)) (q : Nat) : Nat := (R[q]?.getD (0, 0)).2
def pl (R : List (Nat × Nat)) (q : Nat) : Nat := (R[q]?.getD (0, 0)).1
theorem pairs_at (R : List (Nat × Nat)) : ∀ q, q < R.length → (pairs R)[q * 2]? = some (.int .i64 (pl R q)) ∧ (pairs R)[q * 2 + 1]? = some (.int .i64 (sz R q)) := by
  induction R with
  | nil => intro q hq; simp at hq
  | cons p R ih =>
    intro q hq
    have e : pairs (p :: R) = .int .i64 (p.1 : Int) :: .int .i64 (p.2 : Int) :: pairs R := rfl
    cases q with
    | zero => rw [e]; exact ⟨rfl, rfl⟩
    | succ q =>
      have h := ih q (by simpa using hq)
      rw [e, show (q + 1) * 2 = q * 2 + 1 + 1 by omega]
      simp only [List.getElem?_cons_succ]
      exact h
theorem own_pairs {w : World} {base : Nat} {e : TypeId} {v : Value} {R : List (Nat × Nat)} (h : w.ownsRow base e 2 v R.length (pairs R)) : ∃ a cap, v = .slice a R.length cap ∧ R.length ≤ cap ∧ ∀ q, q < R.length → ∃ g, a = some ⟨g, 0, none⟩ ∧ w.cell? ⟨g, q * 2, none⟩ = some (.int .i64 (pl R q)) ∧ w.cell? ⟨g, q * 2 + 1, none⟩ = some (.int .i64 (sz R q)) := by
  obtain ⟨hx, ⟨h1, h2⟩ | ⟨g, cap, cur, h3, h4, h5, h6, h7, h8, h9⟩⟩ := h
  · exact ⟨none, 0, by rw [h1, h2], by omega, fun q hq => by omega⟩
  · have hc : ∀ j u, j < R.length * 2 → (pairs R)[j]? = some u → w.cell? ⟨g, j, none⟩ = some u := fun j u hj hu => by
      rw [cell_of_row w g j _ _ _ h5]
      rw [← h9, List.getElem?_take] at hu
      simpa [hj] using hu
    refine ⟨_, cap, h3, h6, fun q hq => ⟨g, rfl, hc _ _ (by omega) (pairs_at R q hq).1, hc _ _ (by omega) (pairs_at R q hq).2⟩⟩
/-- Which of the first k runs is the best: none, or the first of the smallest that do. -/
def BestI (R : List (Nat × Nat)) (M k : Nat) (b : Int) : Prop := (b = -1 ∧ ∀ q, q < k → sz R q < M) ∨ (∃ b' : Nat, b = b' ∧ b' < k ∧ M ≤ sz R b' ∧ ∀ q, q < k → M ≤ sz R q → sz R b' < sz R q ∨ (sz R b' = sz R q ∧ b' ≤ q))
/-- While the runs are read. -/
structure Rd (w u : World) (r g : Nat) (av : Option Addr) (l : List Bool) (R : List (Nat × Nat)) : Prop where
  r4 : R4 u r g l
  gx : G4 g w u
  ce : ∀ q, q < R.length → ∃ g', av = some ⟨g', 0, none⟩ ∧ u.cell? ⟨g', q * 2, none⟩ = some (.int .i64 (pl R q)) ∧ u.cell? ⟨g', q * 2 + 1, none⟩ = some (.int .i64 (sz R q))
theorem Rd.drewN {w u : World} {r g : Nat} {av : Option Addr} {l : List Bool} {R : List (Nat × Nat)} (h : Rd w u r g av l R) (c : Nat) : Rd w (u.drewN c) r g av l R :=
  ⟨h.r4.keep fun _ _ => rfl, ⟨h.gx.os, h.gx.tape, h.gx.output, h.gx.size, h.gx.block⟩, h.ce⟩
theorem in_runs {l : List Bool} {R : List (Nat × Nat)} (hU : Upto l l.length R) {a m : Nat} (h : Run l a m) : ∃ q, q < R.length ∧ pl R q = a ∧ sz R q = m := by
  have := (hU.mem a m).2 ⟨h, by have := h.le; have := h.pos; omega⟩
  obtain ⟨q, hq, e⟩ := List.getElem_of_mem this
  exact ⟨q, hq, by unfold pl; rw [List.getElem?_eq_getElem hq, e]; rfl, by unfold sz; rw [List.getElem?_eq_getElem hq, e]; rfl⟩
theorem run_at {l : List Bool} {R : List (Nat × Nat)} (hU : Upto l l.length R) {q : Nat} (h : q < R.length) : Run l (pl R q) (sz R q) := by
  have := ((hU.mem (pl R q) (sz R q)).1 (by unfold pl sz; rw [List.getElem?_eq_getElem h]; exact List.getElem_mem _)).1
  exact this
theorem best_at {l : List Bool} {R : List (Nat × Nat)} (hU : Upto l l.length R) {n b : Nat} (hb : b < R.length) (hn : n ≤ sz R b) (hl : ∀ q, q < R.length → n ≤ sz R q → sz R b < sz R q ∨ (sz R b = sz R q ∧ b ≤ q)) : Best (Run l) n (pl R b) (sz R b) :=
  ⟨run_at hU hb, hn, fun a' m' hr hm => by
    obtain ⟨q, hq, rfl, rfl⟩ := in_runs hU hr
    rcases hl q hq hm with c | ⟨c, d⟩
    · exact .inl c
    · refine .inr ⟨c, ?_⟩
      rcases Nat.lt_or_ge b q with e | e
      · have := List.pairwise_iff_getElem.1 hU.sorted b q hb hq e
        unfold pl
        rw [List.getElem?_eq_getElem hb, List.getElem?_eq_getElem hq]
        exact Nat.le_of_lt this
      · rw [show b = q by omega]; exact Nat.le_refl _⟩
section
variable {w w' : World} {r g : Nat} {l : List Bool}
set_option maxHeartbeats 4000000 in
theorem r4_Take (h : R4 w r g l) (n a m : Nat) (h1 : 1 ≤ n) (hB : Best (Run l) n a m) :
    Calls Try.prog 42 #[.pointer (some ⟨r, 0, none⟩), .int .i64 n] w fun e w' => e = .returned (.tuple #[.int .i64 a, .bool true]) ∧ R4 w' r g (setR l a n false) ∧ G4 g w w' := by
  have HBST := Lib.hid hB
  have hna : a + n ≤ l.length := by have := hB.run.le; have := hB.fits; omega
  have s1 : ¬ (n : Int) < 1 := by omega
  clear hB
  have hle := h.len
  have hlt := h.lt
  have hrun := r4_Runs h
  have HR := Lib.hid h
  clear h
  go_enter Try.func42, Try.ntmps42
  go_wp2_with fail
  refine hrun.mono ?_
  rintro e w1 ⟨v, R, rfl, hU, hown, hb⟩
  obtain ⟨av, capv, rfl, hcap, hce⟩ := own_pairs hown
  have HU := Lib.hid hU
  have hRl : R.length ≤ 65536 := by have := hU.len; omega
  have HRD : Hid (Rd w w1 r g av l R) := Lib.hid ⟨HR.out.keep fun k hk => hb.block k (by rcases hk with rfl | rfl; exact hlt.1; exact hlt.2), G4.of hb, hce⟩
  clear hrun hU hown hce hb HR
  dsimp only
  go_wp2_with fail
  go_loopw [7, 8] (fun v7 v8 wr => ∃ (k : Nat) (b : Int), k ≤ R.length ∧ v8 = .int .i64 k ∧ v7 = .int .i64 b ∧ BestI R n k b ∧ Rd w wr r g av l R) (fun _ v8 wr => R.length - (intOf v8).toNat)
  case atStart => exact ⟨0, -1, Nat.zero_le _, rfl, rfl, .inl ⟨rfl, fun q hq => by omega⟩, HRD.out⟩
  case round =>
    clear HRD
    obtain ⟨k, b, k1, rfl, rfl, hbest, hRd⟩ := hrel
    by_cases hlt : k < R.length
    · have q1 : (k : Int) < (R.length : Int) := by omega
      have q0 : (0 : Int) ≤ (k : Int) := by omega
      obtain ⟨g', rfl, _, cxb⟩ := hRd.ce k hlt
      have hfb : ∀ b', b' < R.length → wr.cell? ⟨g', b' * 2 + 1, none⟩ = some (.int .i64 (sz R b')) := fun b' hb' => by
        obtain ⟨g2, e, _, c⟩ := hRd.ce b' hb'
        obtain rfl : g' = g2 := by simpa using e
        exact c
      have HR0 := Lib.hid hRd
      clear hRd
      by_cases hfit : n ≤ sz R k
      · have d1 : decide ((n : Int) ≤ (sz R k : Int)) = true := by simp; omega
        rcases hbest with ⟨rfl, hno⟩ | ⟨b', rfl, hb1, hb2, hb3⟩
        · have HB : Hid (BestI R n (k + 1) k) := Lib.hid (.inr ⟨k, rfl, by omega, hfit, fun q hq hm => by
            by_cases e : q = k
            · subst e; exact .inr ⟨rfl, Nat.le_refl _⟩
            · have := hno q (by omega); omega⟩)
          clear hno hfb
          generalize sz R k = S at *
          go_upto_region 6 with fail
          go_quiet (fail)
          go_wp2_with fail
          refine ⟨⟨k + 1, k, by omega, by simp, by simp, HB.out, HR0.out.drewN _⟩, by simp only [intOf]; omega⟩
        · have cxc := hfb b' (by omega)
          have q2 : (b' : Int) < (R.length : Int) := by omega
          have q3 : (0 : Int) ≤ (b' : Int) := by omega
          have d2 : decide ((b' : Int) < 0) = false := by simp
          by_cases hless : sz R k < sz R b'
          · have HB : Hid (BestI R n (k + 1) k) := Lib.hid (.inr ⟨k, rfl, by omega, hfit, fun q hq hm => by
              by_cases e : q = k
              · subst e; exact .inr ⟨rfl, Nat.le_refl _⟩
              · have := hb3 q (by omega) hm; omega⟩)
            have d3 : decide ((sz R k : Int) < (sz R b' : Int)) = true := by simp; omega
            clear hb3 hfb
            generalize sz R k = S at *
            generalize sz R b' = S2 at *
            go_upto_region 6 with fail
            go_quiet (fail)
            go_wp2_with fail
            refine ⟨⟨k + 1, k, by omega, by simp, by simp, HB.out, HR0.out.drewN _⟩, by simp only [intOf]; omega⟩
          · have HB : Hid (BestI R n (k + 1) b') := Lib.hid (.inr ⟨b', rfl, by omega, hb2, fun q hq hm => by
              by_cases e : q = k
              · subst e; omega
              · exact hb3 q (by omega) hm⟩)
            have d3 : decide ((sz R k : Int) < (sz R b' : Int)) = false := by simp; omega
            clear hb3 hfb
            generalize sz R k = S at *
            generalize sz R b' = S2 at *
            go_upto_region 6 with fail
            go_quiet (fail)
            go_wp2_with fail
            refine ⟨⟨k + 1, b', by omega, by simp, by simp, HB.out, HR0.out.drewN _⟩, by simp only [intOf]; omega⟩
      · have d1 : decide ((n : Int) ≤ (sz R k : Int)) = false := by simp; omega
        have HB : Hid (BestI R n (k + 1) b) := Lib.hid (by
          rcases hbest with ⟨e, hno⟩ | ⟨b', e, hb1, hb2, hb3⟩
          · refine .inl ⟨e, fun q hq => ?_⟩
            by_cases e : q = k
            · subst e; omega
            · exact hno q (by omega)
          · refine .inr ⟨b', e, by omega, hb2, fun q hq hm => ?_⟩
            by_cases e : q = k
            · subst e; omega
            · exact hb3 q (by omega) hm)
        clear hbest hfb
        generalize sz R k = S at *
        go_upto_region 6 with fail
        go_quiet (fail)
        go_wp2_with fail
        refine ⟨⟨k + 1, b, by omega, by simp, by simp, HB.out, HR0.out.drewN _⟩, by simp only [intOf]; omega⟩
    · obtain rfl : k = R.length := by omega
      rcases hbest with ⟨rfl, hno⟩ | ⟨b', rfl, hb1, hb2, hb3⟩
      · obtain ⟨q, hq, _, e⟩ := in_runs HU.out HBST.out.run
        have := hno q hq; have := HBST.out.fits; omega
      · obtain ⟨e1, e2⟩ := (best_at HU.out hb1 hb2 hb3).eq HBST.out
        obtain ⟨g', rfl, cxa, _⟩ := hRd.ce b' hb1
        rw [e1] at cxa
        have q2 : (b' : Int) < (R.length : Int) := by omega
        have q3 : (0 : Int) ≤ (b' : Int) := by omega
        have d2 : ¬ (b' : Int) < 0 := by omega
        have HR4 := Lib.hid hRd.r4; have HG4 := Lib.hid hRd.gx
        clear hRd hb3 e1 e2
        go_wp2_with fail
        go_loopw [10] (fun v10 wr' => ∃ j : Nat, j ≤ n ∧ v10 = .int .i64 j ∧ R4 wr' r g (setR l a j false) ∧ G4 g w wr') (fun v10 wr' => n - (intOf v10).toNat)
        case atStart => exact ⟨0, Nat.zero_le _, rfl, HR4.out, HG4.out⟩
        case round =>
          clear cxa HR4 HG4
          obtain ⟨j, j1, rfl, hR, hG⟩ := hrel
          by_cases hj : j < n
          · have t3 : (j : Int) < (n : Int) := by omega
            have t1 : (a : Int) + (j : Int) < (l.length : Int) := by omega
            have t0 : (0 : Int) ≤ (a : Int) + (j : Int) := by omega
            have t2 : ((a : Int) + (j : Int)).toNat = a + j := by omega
            have c0 := hR.c0
            have fz := hR.fz (a + j)
            have c1 := hR.co (a + j) (by rw [setR_len]; omega)
            rw [setR_len] at c0
            have HS := Lib.hid (hR.set (a + j) false); have HG := Lib.hid (hG.set (a + j) (.bool false))
            clear hR hG
            generalize o (setR l a j false) (a + j) = V at *
            go_wp2_with fail
            refine ⟨⟨j + 1, by omega, by simp, HS.out, HG.out⟩, by simp only [intOf]; omega⟩
          · obtain rfl : j = n := by omega
            have HS := Lib.hid hR; have HG := Lib.hid hG
            clear hR hG
            go_wp2_with fail
            go_ret2
            exact ⟨rfl, HS.out, HG.out⟩
set_option maxHeartbeats 4000000 in
theorem r4_Take_no (h : R4 w r g l) (n : Nat) (h1 : 1 ≤ n) (hno : ∀ a m, Run l a m → m < n) (hn2 : n ≤ 65539) :
    Calls Try.prog 42 #[.pointer (some ⟨r, 0, none⟩), .int .i64 n] w fun e w' => e = .returned (.tuple #[.int .i64 0, .bool false]) ∧ R4 w' r g l ∧ G4 g w w' := by
  have HNO := Lib.hid hno
  have s1 : ¬ (n : Int) < 1 := by omega
  clear hno
  have hle := h.len
  have hlt := h.lt
  have hrun := r4_Runs h
  have HR := Lib.hid h
  clear h
  go_enter Try.func42, Try.ntmps42
  go_wp2_with fail
  refine hrun.mono ?_
  rintro e w1 ⟨v, R, rfl, hU, hown, hb⟩
  obtain ⟨av, capv, rfl, hcap, hce⟩ := own_pairs hown
  have HU := Lib.hid hU
  have hRl : R.length ≤ 65536 := by have := hU.len; omega
  have HRD : Hid (Rd w w1 r g av l R) := Lib.hid ⟨HR.out.keep fun k hk => hb.block k (by rcases hk with rfl | rfl; exact hlt.1; exact hlt.2), G4.of hb, hce⟩
  clear hrun hU hown hce hb HR
  dsimp only
  go_wp2_with fail
  go_loopw [7, 8] (fun v7 v8 wr => ∃ (k : Nat) (b : Int), k ≤ R.length ∧ v8 = .int .i64 k ∧ v7 = .int .i64 b ∧ BestI R n k b ∧ Rd w wr r g av l R) (fun _ v8 wr => R.length - (intOf v8).toNat)
  case atStart => exact ⟨0, -1, Nat.zero_le _, rfl, rfl, .inl ⟨rfl, fun q hq => by omega⟩, HRD.out⟩
  case round =>
    clear HRD
    obtain ⟨k, b, k1, rfl, rfl, hbest, hRd⟩ := hrel
    by_cases hlt : k < R.length
    · have q1 : (k : Int) < (R.length : Int) := by omega
      have q0 : (0 : Int) ≤ (k : Int) := by omega
      obtain ⟨g', rfl, _, cxb⟩ := hRd.ce k hlt
      have hfb : ∀ b', b' < R.length → wr.cell? ⟨g', b' * 2 + 1, none⟩ = some (.int .i64 (sz R b')) := fun b' hb' => by
        obtain ⟨g2, e, _, c⟩ := hRd.ce b' hb'
        obtain rfl : g' = g2 := by simpa using e
        exact c
      have HR0 := Lib.hid hRd
      clear hRd
      by_cases hfit : n ≤ sz R k
      · have d1 : decide ((n : Int) ≤ (sz R k : Int)) = true := by simp; omega
        rcases hbest with ⟨rfl, hno⟩ | ⟨b', rfl, hb1, hb2, hb3⟩
        · have HB : Hid (BestI R n (k + 1) k) := Lib.hid (.inr ⟨k, rfl, by omega, hfit, fun q hq hm => by
            by_cases e : q = k
            · subst e; exact .inr ⟨rfl, Nat.le_refl _⟩
            · have := hno q (by omega); omega⟩)
          clear hno hfb
          generalize sz R k = S at *
          go_upto_region 6 with fail
          go_quiet (fail)
          go_wp2_with fail
          refine ⟨⟨k + 1, k, by omega, by simp, by simp, HB.out, HR0.out.drewN _⟩, by simp only [intOf]; omega⟩
        · have cxc := hfb b' (by omega)
          have q2 : (b' : Int) < (R.length : Int) := by omega
          have q3 : (0 : Int) ≤ (b' : Int) := by omega
          have d2 : decide ((b' : Int) < 0) = false := by simp
          by_cases hless : sz R k < sz R b'
          · have HB : Hid (BestI R n (k + 1) k) := Lib.hid (.inr ⟨k, rfl, by omega, hfit, fun q hq hm => by
              by_cases e : q = k
              · subst e; exact .inr ⟨rfl, Nat.le_refl _⟩
              · have := hb3 q (by omega) hm; omega⟩)
            have d3 : decide ((sz R k : Int) < (sz R b' : Int)) = true := by simp; omega
            clear hb3 hfb
            generalize sz R k = S at *
            generalize sz R b' = S2 at *
            go_upto_region 6 with fail
            go_quiet (fail)
            go_wp2_with fail
            refine ⟨⟨k + 1, k, by omega, by simp, by simp, HB.out, HR0.out.drewN _⟩, by simp only [intOf]; omega⟩
          · have HB : Hid (BestI R n (k + 1) b') := Lib.hid (.inr ⟨b', rfl, by omega, hb2, fun q hq hm => by
              by_cases e : q = k
              · subst e; omega
              · exact hb3 q (by omega) hm⟩)
            have d3 : decide ((sz R k : Int) < (sz R b' : Int)) = false := by simp; omega
            clear hb3 hfb
            generalize sz R k = S at *
            generalize sz R b' = S2 at *
            go_upto_region 6 with fail
            go_quiet (fail)
            go_wp2_with fail
            refine ⟨⟨k + 1, b', by omega, by simp, by simp, HB.out, HR0.out.drewN _⟩, by simp only [intOf]; omega⟩
      · have d1 : decide ((n : Int) ≤ (sz R k : Int)) = false := by simp; omega
        have HB : Hid (BestI R n (k + 1) b) := Lib.hid (by
          rcases hbest with ⟨e, hno⟩ | ⟨b', e, hb1, hb2, hb3⟩
          · refine .inl ⟨e, fun q hq => ?_⟩
            by_cases e : q = k
            · subst e; omega
            · exact hno q (by omega)
          · refine .inr ⟨b', e, by omega, hb2, fun q hq hm => ?_⟩
            by_cases e : q = k
            · subst e; omega
            · exact hb3 q (by omega) hm)
        clear hbest hfb
        generalize sz R k = S at *
        go_upto_region 6 with fail
        go_quiet (fail)
        go_wp2_with fail
        refine ⟨⟨k + 1, b, by omega, by simp, by simp, HB.out, HR0.out.drewN _⟩, by simp only [intOf]; omega⟩
    · obtain rfl : k = R.length := by omega
      rcases hbest with ⟨rfl, hno⟩ | ⟨b', rfl, hb1, hb2, hb3⟩
      · have HR4 := Lib.hid hRd.r4; have HG4 := Lib.hid hRd.gx
        clear hRd hno
        go_wp2_with fail
        go_ret2
        exact ⟨rfl, HR4.out, HG4.out⟩
      · have := HNO.out _ _ (run_at HU.out hb1); omega
end
end Go.Proofs.Ytljgnmbjidkjnaa.Rf4

namespace Go.Proofs.Ytljgnmbjidkjnaa.Rf4
open Go.Proofs.Ytljgnmbjidkjnaa.Gen Go.Proofs.Ytljgnmbjidkjnaa.Base Go.Proofs.Ytljgnmbjidkjnaa.Fr Go.Proofs.Ytljgnmbjidkjnaa.Hp Go.ChangeShapes Go.WideShapes Go.ChangeAt Go.RowKit
set_option linter.unusedVariables false
theorem r4_new0 (w : World) (n : Nat) (hn : n ≤ 65536) : R4 ((w.alloc (.cells (zbools n) 4)).alloc (.cells #[.slice (some ⟨w.heap.size, 0, none⟩) n n] 77)) (w.heap.size + 1) w.heap.size (List.replicate n false) :=
  ⟨by
    have := heap_alloc_new (w.alloc (.cells (zbools n) 4)) (.cells #[.slice (some ⟨w.heap.size, 0, none⟩) n n] 77)
    simpa using this, by rw [heap_alloc_old _ _ (by simp), heap_alloc_new]; rfl, by omega, by simpa using hn⟩
/-- The loop of New, from the rows as made. -/
def newK (n : Nat) (x : Int) : Prop := (x = n ∧ 0 < n ∧ n < 65536) ∨ (x ≤ 0 ∧ n = 0) ∨ (65536 ≤ x ∧ n = 65536)
set_option maxHeartbeats 2000000 in
set_option maxRecDepth 100000 in
theorem r4_New (w : World) (x : Int) (hx : (Lit.int .i64 x).wf = true) (n : Nat) (hk : newK n x) :
    Calls Try.prog 35 #[.int .i64 x] w fun e w' => e = .returned (.pointer (some ⟨w.heap.size + 1, 0, none⟩)) ∧ R4 w' (w.heap.size + 1) w.heap.size (List.replicate n true) ∧ Below w.heap.size w w' := by
  have hn : n ≤ 65536 := by unfold newK at hk; omega
  have hb := mk_b n hn
  have hz : ∀ u, Sem.run Try.prog (zeroValue 77) u = .ok (.agg #[.slice none 0 0]) u := fun u => by kernel_rfl
  have H0 := Lib.hid (r4_new0 w n hn)
  have B0 : Hid (Below w.heap.size w ((w.alloc (.cells (zbools n) 4)).alloc (.cells #[.slice (some ⟨w.heap.size, 0, none⟩) n n] 77))) := Lib.hid (((Below.refl _ _).alloc (Nat.le_refl _) _).alloc (by simp) _)
  go_enter Try.func35, Try.ntmps35
  go_upto_region 1 with fail
  go_cut [3] (fun s3 wx => s3 = .pointer (some ⟨w.heap.size + 1, 0, none⟩) ∧ wx = (w.alloc (.cells (zbools n) 4)).alloc (.cells #[.slice (some ⟨w.heap.size, 0, none⟩) n n] 77))
  case first =>
    have hm : min (max x 0) 65536 = (n : Int) := by unfold newK at hk; omega
    clear hk
    go_wp2_with fail
    go_meet
    exact ⟨rfl, rfl⟩
  case rest =>
    obtain ⟨rfl, rfl⟩ := hcut
    clear hb hz
    generalize (w.alloc (.cells (zbools n) 4)).alloc (.cells #[.slice (some ⟨w.heap.size, 0, none⟩) n n] 77) = u at *
    go_wp2_with fail
    go_loopw [4] (fun v4 wr => ∃ i : Nat, i ≤ n ∧ v4 = .int .i64 i ∧ R4 wr (w.heap.size + 1) w.heap.size (setR (List.replicate n false) 0 i true) ∧ Below w.heap.size w wr) (fun v4 wr => n - (intOf v4).toNat)
    case atStart => exact ⟨0, Nat.zero_le _, rfl, H0.out, B0.out⟩
    case round =>
      clear H0 B0
      obtain ⟨i, i1, rfl, hR, hB⟩ := hrel
      have c0 := hR.c0
      rw [setR_len, List.length_replicate] at c0
      by_cases hi : i < n
      · have t1 : (i : Int) < (n : Int) := by omega
        have t0 : (0 : Int) ≤ (i : Int) := by omega
        have fz := hR.fz i
        have c1 := hR.co i (by rw [setR_len, List.length_replicate]; exact hi)
        have HS := Lib.hid (hR.set i true); have HB := Lib.hid (hB.setCell (p := ⟨w.heap.size, i, none⟩) (Nat.le_refl _) (.bool true))
        have e1 : (setR (List.replicate n false) 0 i true).set i true = setR (List.replicate n false) 0 (i + 1) true := by
          show _ = (setR (List.replicate n false) 0 i true).set (0 + i) true
          rw [Nat.zero_add]
        rw [e1] at HS
        clear hR hB e1
        generalize o (setR (List.replicate n false) 0 i true) i = V at *
        go_wp2_with fail
        refine ⟨⟨i + 1, by omega, by simp, HS.out, HB.out⟩, by simp only [intOf]; omega⟩
      · obtain rfl : i = n := by omega
        rw [setR_rep] at hR
        have HR := Lib.hid hR; have HB := Lib.hid hB
        clear hR hB
        go_wp2_with fail
        go_ret
        exact ⟨rfl, HR.out, HB.out⟩
end Go.Proofs.Ytljgnmbjidkjnaa.Rf4

namespace Go.Proofs.Ytljgnmbjidkjnaa.Rf5
open Go.Proofs.Ytljgnmbjidkjnaa.Gen Go.Proofs.Ytljgnmbjidkjnaa.Base Go.Proofs.Ytljgnmbjidkjnaa.Fr Go.Proofs.Ytljgnmbjidkjnaa.Hp Go.Proofs.Ytljgnmbjidkjnaa.Rf4 Go.ChangeShapes Go.WideShapes Go.ChangeAt Go.RowKit
set_option linter.unusedVariables false
/-- An object as the reference keeps it; fv, bv: the slices of its fields, its bytes. -/
structure Ob where
  pos : Nat
  wds : Nat
  fmt : Nat
  cls : Int
  hash : Int
  fv : Value
  F : List Int
  bv : Value
  B : List Int
  col : Int
  fin : Bool
def Ob.cells (o : Ob) : List Value := [.int .i64 o.pos, .int .i64 o.wds, .int .i64 o.fmt, .int .i64 o.cls, .int .i64 o.hash, o.fv, o.bv, .int .i64 o.col, .bool o.fin]
def cellsL (obs : List Ob) : List Value := obs.flatMap Ob.cells
theorem cellsL_len (obs : List Ob) : (cellsL obs).length = obs.length * 9 := by
  induction obs with
  | nil => rfl
  | cons o obs ih =>
    have e : cellsL (o :: obs) = o.cells ++ cellsL obs := rfl
    rw [e, List.length_append, ih, List.length_cons]
    have : o.cells.length = 9 := rfl
    omega
theorem cellsL_at (obs : List Ob) : ∀ q o, obs[q]? = some o → ∀ j, j < 9 → (cellsL obs)[q * 9 + j]? = o.cells[j]? := by
  induction obs with
  | nil => intro q o hq; simp at hq
  | cons p obs ih =>
    intro q o hq j hj
    have e : cellsL (p :: obs) = p.cells ++ cellsL obs := rfl
    have hl : p.cells.length = 9 := rfl
    rw [e]
    cases q with
    | zero =>
      obtain rfl : p = o := by simpa using hq
      rw [Nat.zero_mul, Nat.zero_add, List.getElem?_append_left (by omega)]
    | succ q =>
      rw [List.getElem?_append_right (by omega), hl, show (q + 1) * 9 + j - 9 = q * 9 + j by omega]
      exact ih q o (by simpa using hq) j hj
theorem own_obs {w : World} {base : Nat} {e : TypeId} {v : Value} {obs : List Ob} (h : w.ownsRow base e 9 v obs.length (cellsL obs)) : ∃ a cap, v = .slice a obs.length cap ∧ obs.length ≤ cap ∧ ∀ q o, obs[q]? = some o → ∃ g, a = some ⟨g, 0, none⟩ ∧ ∀ j u, j < 9 → o.cells[j]? = some u → w.cell? ⟨g, q * 9 + j, none⟩ = some u := by
  obtain ⟨hx, ⟨h1, h2⟩ | ⟨g, cap, cur, h3, h4, h5, h6, h7, h8, h9⟩⟩ := h
  · exact ⟨none, 0, by rw [h1, h2], by omega, fun q o hq => by have := (List.getElem?_eq_some_iff.1 hq).1; omega⟩
  · refine ⟨_, cap, h3, h6, fun q o hq => ⟨g, rfl, fun j u hj hu => ?_⟩⟩
    have hl := (List.getElem?_eq_some_iff.1 hq).1
    rw [← cellsL_at obs q o hq j hj] at hu
    rw [cell_of_row w g _ _ _ _ h5]
    rw [← h9, List.getElem?_take] at hu
    have hlt : q * 9 + j < obs.length * 9 := by omega
    simpa [hlt] using hu
/-- The reference in memory: the struct at h, the row of objects, its chapter 4 at r and g; each object's fields and bytes in rows of their own. -/
structure R5 (w : World) (h r g : Nat) (lv : Value) (obs : List Ob) (l : List Bool) : Prop where
  row : w.heap[h]? = some (.cells #[lv, .pointer (some ⟨r, 0, none⟩)] 43 (0, 0))
  fr : R4 w r g l
  ls : w.ownsRow 0 47 9 lv obs.length (cellsL obs)
  fs : ∀ o ∈ obs, w.ownsRow 0 28 1 o.fv o.F.length (o.F.map (Value.int .u32))
  bs : ∀ o ∈ obs, w.ownsRow 0 5 1 o.bv o.B.length (o.B.map (Value.int .u8))
  n1 : h ≠ r
  n2 : h ≠ g
  n3 : lv.ownBlock ≠ some h ∧ lv.ownBlock ≠ some r ∧ lv.ownBlock ≠ some g
  n4 : ∀ o ∈ obs, ∀ k, o.fv.ownBlock = some k ∨ o.bv.ownBlock = some k → k ≠ h ∧ k ≠ r ∧ k ≠ g ∧ lv.ownBlock ≠ some k
  n5 : ∀ (q q' : Nat) (o o' : Ob), obs[q]? = some o → obs[q']? = some o' → q ≠ q' → ∀ k, o.fv.ownBlock = some k ∨ o.bv.ownBlock = some k → o'.fv.ownBlock ≠ some k ∧ o'.bv.ownBlock ≠ some k
  n6 : ∀ o ∈ obs, ∀ k, o.fv.ownBlock = some k → o.bv.ownBlock ≠ some k
  srt : obs.Pairwise fun p q => p.pos < q.pos
  hi : ∀ o ∈ obs, 1 ≤ o.pos ∧ o.pos ≤ 65536
  few : obs.length ≤ 65536
section
variable {w w' : World} {h r g : Nat} {lv : Value} {obs : List Ob} {l : List Bool}
theorem R5.c0 (hR : R5 w h r g lv obs l) : w.cell? ⟨h, 0, none⟩ = some lv ∧ w.cell? ⟨h, 1, none⟩ = some (.pointer (some ⟨r, 0, none⟩)) :=
  ⟨by rw [cell_of_row w h 0 _ _ _ hR.row]; rfl, by rw [cell_of_row w h 1 _ _ _ hR.row]; rfl⟩
/-- The index of the object at x; else -1. -/
def idx (obs : List Ob) (x : Int) (i : Int) : Prop := (i = -1 ∧ ∀ (q : Nat) o, obs[q]? = some o → (o.pos : Int) ≠ x) ∨ ∃ (q : Nat) (o : Ob), i = q ∧ obs[q]? = some o ∧ (o.pos : Int) = x
set_option maxHeartbeats 1000000 in
theorem r5_find (hR : R5 w h r g lv obs l) (x : Int) (hx : (Lit.int .i64 x).wf = true) :
    Calls Try.prog 56 #[.pointer (some ⟨h, 0, none⟩), .int .i64 x] w fun e w' => ∃ i, e = .returned (.int .i64 i) ∧ idx obs x i ∧ w = w' := by
  obtain ⟨c0, -⟩ := hR.c0
  obtain ⟨a, cap, rfl, hcap, hc⟩ := own_obs hR.ls
  have hfew := hR.few
  have HC := Lib.hid hc
  clear hR hc
  go_enter Try.func56, Try.ntmps56
  go_wp2_with fail
  go_loopw [5] (fun v5 wr => ∃ i : Nat, i ≤ obs.length ∧ v5 = .int .i64 i ∧ (∀ q o, q < i → obs[q]? = some o → (o.pos : Int) ≠ x) ∧ wr = w) (fun v5 wr => obs.length - (intOf v5).toNat)
  case atStart => exact ⟨0, Nat.zero_le _, rfl, fun q o hq => by omega, rfl⟩
  case round =>
    obtain ⟨i, i1, rfl, hno, rfl⟩ := hrel
    have HNO := Lib.hid hno
    clear hno
    by_cases hi : i < obs.length
    · have t1 : (i : Int) < (obs.length : Int) := by omega
      have t0 : (0 : Int) ≤ (i : Int) := by omega
      obtain ⟨o, ho⟩ : ∃ o, obs[i]? = some o := ⟨_, List.getElem?_eq_getElem hi⟩
      obtain ⟨g', rfl, hcell⟩ := HC.out i o ho
      have c1 := hcell 0 _ (by omega) rfl
      rw [Nat.add_zero] at c1
      have HOB := Lib.hid ho
      clear hcell ho
      by_cases hp : (o.pos : Int) = x
      · have HP := Lib.hid hp
        subst hp
        go_wp2_with fail
        go_ret
        exact ⟨i, rfl, .inr ⟨i, o, rfl, HOB.out, rfl⟩, rfl⟩
      · go_wp2_with fail
        refine ⟨⟨i + 1, by omega, by simp, fun q o' hq ho' => ?_, trivial⟩, by simp only [intOf]; omega⟩
        by_cases e : q = i
        · subst e; rw [HOB.out] at ho'; cases ho'; exact hp
        · exact HNO.out q o' (by omega) ho'
    · obtain rfl : i = obs.length := by omega
      go_wp2_with fail
      go_ret
      exact ⟨-1, rfl, .inl ⟨rfl, fun q o ho => HNO.out q o (List.getElem?_eq_some_iff.1 ho).1 ho⟩, rfl⟩
end
end Go.Proofs.Ytljgnmbjidkjnaa.Rf5

namespace Go.Proofs.Ytljgnmbjidkjnaa.Rf5
open Go.Proofs.Ytljgnmbjidkjnaa.Gen Go.Proofs.Ytljgnmbjidkjnaa.Base Go.Proofs.Ytljgnmbjidkjnaa.Fr Go.Proofs.Ytljgnmbjidkjnaa.Hp Go.Proofs.Ytljgnmbjidkjnaa.Rf4 Go.ChangeShapes Go.WideShapes Go.ChangeAt Go.RowKit
set_option linter.unusedVariables false
section
variable {w w' : World} {h r g : Nat} {lv : Value} {obs : List Ob} {l : List Bool}
/-- The place of the first object above x; 0: none is. -/
def nxt (obs : List Ob) (x : Int) (v : Int) : Prop := (v = 0 ∧ ∀ (q : Nat) o, obs[q]? = some o → (o.pos : Int) ≤ x) ∨ ∃ (q : Nat) (o : Ob), v = o.pos ∧ obs[q]? = some o ∧ x < (o.pos : Int) ∧ ∀ (q' : Nat) o', q' < q → obs[q']? = some o' → (o'.pos : Int) ≤ x
set_option maxHeartbeats 1000000 in
theorem r5_Next (hR : R5 w h r g lv obs l) (x : Int) (hx : (Lit.int .i64 x).wf = true) :
    Calls Try.prog 51 #[.pointer (some ⟨h, 0, none⟩), .int .i64 x] w fun e w' => ∃ v, e = .returned (.int .i64 v) ∧ nxt obs x v ∧ w = w' := by
  obtain ⟨c0, -⟩ := hR.c0
  obtain ⟨a, cap, rfl, hcap, hc⟩ := own_obs hR.ls
  have hfew := hR.few
  have HC := Lib.hid hc
  clear hR hc
  go_enter Try.func51, Try.ntmps51
  go_wp2_with fail
  go_loopw [5] (fun v5 wr => ∃ i : Nat, i ≤ obs.length ∧ v5 = .int .i64 i ∧ (∀ q o, q < i → obs[q]? = some o → (o.pos : Int) ≤ x) ∧ wr = w) (fun v5 wr => obs.length - (intOf v5).toNat)
  case atStart => exact ⟨0, Nat.zero_le _, rfl, fun q o hq => by omega, rfl⟩
  case round =>
    obtain ⟨i, i1, rfl, hno, rfl⟩ := hrel
    have HNO := Lib.hid hno
    clear hno
    by_cases hi : i < obs.length
    · have t1 : (i : Int) < (obs.length : Int) := by omega
      have t0 : (0 : Int) ≤ (i : Int) := by omega
      obtain ⟨o, ho⟩ : ∃ o, obs[i]? = some o := ⟨_, List.getElem?_eq_getElem hi⟩
      obtain ⟨g', rfl, hcell⟩ := HC.out i o ho
      have c1 := hcell 0 _ (by omega) rfl
      rw [Nat.add_zero] at c1
      have HOB := Lib.hid ho
      clear hcell ho
      by_cases hp : x < (o.pos : Int)
      · go_wp2_with fail
        go_ret
        exact ⟨o.pos, rfl, .inr ⟨i, o, rfl, HOB.out, hp, HNO.out⟩, rfl⟩
      · go_wp2_with fail
        refine ⟨⟨i + 1, by omega, by simp, fun q o' hq ho' => ?_, trivial⟩, by simp only [intOf]; omega⟩
        by_cases e : q = i
        · subst e; rw [HOB.out] at ho'; cases ho'; omega
        · exact HNO.out q o' (by omega) ho'
    · obtain rfl : i = obs.length := by omega
      go_wp2_with fail
      go_ret
      exact ⟨0, rfl, .inl ⟨rfl, fun q o ho => HNO.out q o (List.getElem?_eq_some_iff.1 ho).1 ho⟩, rfl⟩
end
end Go.Proofs.Ytljgnmbjidkjnaa.Rf5

namespace Go.Proofs.Ytljgnmbjidkjnaa.Rf5
open Go.Proofs.Ytljgnmbjidkjnaa.Gen Go.Proofs.Ytljgnmbjidkjnaa.Base Go.Proofs.Ytljgnmbjidkjnaa.Fr Go.Proofs.Ytljgnmbjidkjnaa.Hp Go.Proofs.Ytljgnmbjidkjnaa.Rf4 Go.ChangeShapes Go.WideShapes Go.ChangeAt Go.RowKit
set_option linter.unusedVariables false
section
variable {w w' : World} {h r g : Nat} {lv : Value} {obs : List Ob} {l : List Bool}
theorem R5.below (hR : R5 w h r g lv obs l) (hb : Below w.heap.size w w') : R5 w' h r g lv obs l :=
  { hR with
    row := (hb.block h (Array.getElem?_eq_some_iff.1 hR.row).1).trans hR.row
    fr := hR.fr.keep fun k hk => hb.block k (by rcases hk with rfl | rfl; exact hR.fr.lt.1; exact hR.fr.lt.2)
    ls := owns_keep hR.ls fun k hk => hb.block k (hR.ls.lt k hk).2
    fs := fun o ho => owns_keep (hR.fs o ho) fun k hk => hb.block k ((hR.fs o ho).lt k hk).2
    bs := fun o ho => owns_keep (hR.bs o ho) fun k hk => hb.block k ((hR.bs o ho).lt k hk).2 }
def z9 : Array Value := #[.int .i64 0, .int .i64 0, .int .i64 0, .int .i64 0, .int .i64 0, .slice none 0 0, .slice none 0 0, .int .i64 0, .bool false]
def no9 : Array Value := #[.int .i64 0, .int .i64 0, .int .i64 0, .int .i64 0, .int .i64 (-1), .slice none 0 0, .slice none 0 0, .int .i64 0, .bool false]
theorem z9_run : ∀ u, Sem.run Try.prog (zeroValue 47) u = .ok (.agg z9) u := fun u => by kernel_rfl
theorem range9 {g' q : Nat} {o : Ob} (hc : ∀ j u, j < 9 → o.cells[j]? = some u → w.cell? ⟨g', q * 9 + j, none⟩ = some u) : w.rangeAt g' (q * 9) o.cells := fun j v hv => hc j v (by have := (List.getElem?_eq_some_iff.1 hv).1; have e : o.cells.length = 9 := rfl; omega) hv
theorem own_slice {base : Nat} {e : TypeId} {size : Nat} {v : Value} {n : Nat} {xs : List Value} (h : w.ownsRow base e size v n xs) : ∃ a cap, v = .slice a n cap := by
  obtain ⟨_, ⟨h1, h2⟩ | ⟨g, cap, cur, h3, h4⟩⟩ := h
  · exact ⟨none, 0, by rw [h1, h2]⟩
  · exact ⟨_, cap, h3⟩
theorem one9 (hR : R5 w h r g lv obs l) {o : Ob} (ho : o ∈ obs) : o.cells.toArray.all (·.oneCell') = true := by
  obtain ⟨a, c, e⟩ := own_slice (hR.fs o ho)
  obtain ⟨a2, c2, e2⟩ := own_slice (hR.bs o ho)
  unfold Ob.cells
  rw [e, e2]
  simp [Value.oneCell']
theorem info9 : (Try.prog.info? 47).map (·.size) = some 9 := by kernel_rfl
theorem load9 (w : World) (cs : Array Value) (hs : cs.size = 9) : (loadVar 47 ⟨w.heap.size, 0, none⟩).run Try.prog (w.alloc (.cells cs 47)) = .ok (.agg cs) (w.alloc (.cells cs 47)) :=
  run_loadVar_row _ _ _ _ _ _ _ (heap_alloc_new w _) Try.underlying47 rfl (by rw [info9, hs])
set_option maxHeartbeats 2000000 in
set_option maxRecDepth 100000 in
theorem r5_Get (hR : R5 w h r g lv obs l) (x : Int) (hx : (Lit.int .i64 x).wf = true) :
    Calls Try.prog 44 #[.pointer (some ⟨h, 0, none⟩), .int .i64 x] w fun e w' => ((e = .returned (.tuple #[.agg no9, .bool false]) ∧ ∀ (q : Nat) o, obs[q]? = some o → (o.pos : Int) ≠ x) ∨ ∃ (q : Nat) (o : Ob), e = .returned (.tuple #[.agg o.cells.toArray, .bool true]) ∧ obs[q]? = some o ∧ (o.pos : Int) = x) ∧ Below w.heap.size w w' := by
  have hz := z9_run
  have hb0 : Below w.heap.size w (w.alloc (.cells z9 47)) := (Below.refl _ _).alloc (Nat.le_refl _) _
  have hR1 := hR.below hb0
  have hnew := heap_alloc_new w (.cells z9 47)
  have hfind := r5_find hR1 x hx
  obtain ⟨c0, -⟩ := hR1.c0
  obtain ⟨a, cap, hlv, hcap, hc⟩ := own_obs hR1.ls
  subst hlv
  have hfew := hR1.few
  have HC := Lib.hid hc; have HB0 := Lib.hid hb0; have HR1 := Lib.hid hR1
  clear hR hR1 hc hb0
  go_enter Try.func44, Try.ntmps44
  go_wp2_with fail
  refine hfind.mono ?_
  rintro e u1 ⟨i, rfl, hi, rfl⟩
  rcases hi with ⟨rfl, hno⟩ | ⟨q, o, rfl, ho, hp⟩
  · have HNO := Lib.hid hno
    clear hno hfind
    dsimp only
    go_wp2_with (with_reducible refine wpList_store_row rfl _ _ _ rfl w.heap.size no9 rfl rfl _ z9 (heap_alloc_new w _) (by kernel_rfl) (by kernel_rfl) (by kernel_rfl) ?_)
    rw [World.setRow_alloc_new]
    have hld := load9 w no9 rfl
    refine bodyPost_ret (v := .tuple #[.agg no9, .bool false]) ?_ rfl ⟨.inl ⟨rfl, HNO.out⟩, (Below.refl _ _).alloc (Nat.le_refl _) _⟩
    rw [results_cell_tmp rfl]
    simp [asAddr, Result.andThen, hld]
  · obtain ⟨g', rfl, hcell⟩ := HC.out q o ho
    have hql := (List.getElem?_eq_some_iff.1 ho).1
    have t1 : (q : Int) < (obs.length : Int) := by omega
    have t0 : (0 : Int) ≤ (q : Int) := by omega
    have t2 : ¬ (q : Int) < 0 := by omega
    have HRG := Lib.hid (range9 hcell)
    have HONE := Lib.hid (one9 HR1.out (List.mem_of_getElem? ho))
    have HO := Lib.hid ho; have HP := Lib.hid hp
    clear hcell ho hp hfind
    dsimp only
    go_wp2_with (first
      | (refine wpList_load_mid (by rfl) 47 (Operand.tmp 18) (by rfl) g' (q * 9) (by rfl) _ _ HRG.out Try.underlying47 rfl info9 ?_)
      | (refine wpList_store_row rfl 47 (Operand.tmp 4) (Operand.tmp 19) rfl w.heap.size o.cells.toArray rfl rfl _ z9 (heap_alloc_new w _) info9 rfl HONE.out ?_))
    rw [World.setRow_alloc_new]
    have hld := load9 w o.cells.toArray rfl
    refine bodyPost_ret (v := .tuple #[.agg o.cells.toArray, .bool true]) ?_ rfl ⟨.inr ⟨q, o, rfl, HO.out, HP.out⟩, (Below.refl _ _).alloc (Nat.le_refl _) _⟩
    rw [results_cell_tmp rfl]
    simp [asAddr, Result.andThen, hld]
end
end Go.Proofs.Ytljgnmbjidkjnaa.Rf5

namespace Go.Proofs.Ytljgnmbjidkjnaa.Rf5
open Go.Proofs.Ytljgnmbjidkjnaa.Gen Go.Proofs.Ytljgnmbjidkjnaa.Base Go.Proofs.Ytljgnmbjidkjnaa.Fr Go.Proofs.Ytljgnmbjidkjnaa.Hp Go.Proofs.Ytljgnmbjidkjnaa.Rf4 Go.ChangeShapes Go.WideShapes Go.ChangeAt Go.RowKit
set_option linter.unusedVariables false
/-- What Get hands on where there is none. -/
def noOb : Ob := ⟨0, 0, 0, 0, -1, .slice none 0 0, [], .slice none 0 0, [], 0, false⟩
def Got (obs : List Ob) (x : Int) (o : Ob) (b : Bool) : Prop := (b = false ∧ o = noOb ∧ ∀ (q : Nat) o', obs[q]? = some o' → (o'.pos : Int) ≠ x) ∨ (b = true ∧ ∃ q : Nat, obs[q]? = some o ∧ (o.pos : Int) = x)
section
variable {w w' : World} {h r g : Nat} {lv : Value} {obs : List Ob} {l : List Bool}
theorem own_k {k : IntKind} {e : TypeId} {v : Value} {xs : List Int} (h : w.ownsRow 0 e 1 v xs.length (xs.map (Value.int k))) : ∃ a cap, v = .slice a xs.length cap ∧ xs.length ≤ cap ∧ (xs.length : Int) ≤ 9223372036854775807 ∧ ∀ i, i < xs.length → ∃ g, a = some ⟨g, 0, none⟩ ∧ w.cell? ⟨g, i, none⟩ = some (.int k (xs[i]?.getD 0)) ∧ w.frozen? ⟨g, i, none⟩ = false := by
  obtain ⟨hx, ⟨h1, h2⟩ | ⟨g, cap, cur, h3, h4, h5, h6, h7, h8, h9⟩⟩ := h
  · exact ⟨none, 0, by rw [h1, h2], by omega, by omega, fun i hi => by omega⟩
  · refine ⟨_, cap, h3, h6, by unfold maxLen at h7; omega, fun i hi => ⟨g, rfl, ?_, frozen_of_row w g i _ _ h5⟩⟩
    have hu : (xs.map (Value.int k))[i]? = some (.int k (xs[i]?.getD 0)) := by simp [hi]
    rw [cell_of_row w g i _ _ _ h5]
    rw [← h9, List.getElem?_take] at hu
    rw [if_pos (show i < xs.length * 1 by omega)] at hu
    simpa using hu
/-- The rows of an object that Get hands on. -/
structure Rows9 (w : World) (o : Ob) : Prop where
  f : w.ownsRow 0 28 1 o.fv o.F.length (o.F.map (Value.int .u32))
  b : w.ownsRow 0 5 1 o.bv o.B.length (o.B.map (Value.int .u8))
theorem R5.rows (hR : R5 w h r g lv obs l) {x : Int} {o : Ob} {b : Bool} (hG : Got obs x o b) : Rows9 w o := by
  rcases hG with ⟨_, rfl, _⟩ | ⟨_, q, ho, _⟩
  · exact ⟨⟨rfl, .inl ⟨rfl, rfl⟩⟩, ⟨rfl, .inl ⟨rfl, rfl⟩⟩⟩
  · exact ⟨hR.fs o (List.mem_of_getElem? ho), hR.bs o (List.mem_of_getElem? ho)⟩
theorem Rows9.one {o : Ob} (h : Rows9 w o) : o.cells.toArray.all (·.oneCell') = true := by
  obtain ⟨a, c, e⟩ := own_slice h.f
  obtain ⟨a2, c2, e2⟩ := own_slice h.b
  unfold Ob.cells
  rw [e, e2]
  simp [Value.oneCell']
theorem Rows9.below {o : Ob} (hR : Rows9 w o) (hb : Below w.heap.size w w') : Rows9 w' o :=
  ⟨owns_keep hR.f fun k hk => hb.block k (hR.f.lt k hk).2, owns_keep hR.b fun k hk => hb.block k (hR.b.lt k hk).2⟩
theorem r5_Got (hR : R5 w h r g lv obs l) (x : Int) (hx : (Lit.int .i64 x).wf = true) :
    Calls Try.prog 44 #[.pointer (some ⟨h, 0, none⟩), .int .i64 x] w fun e w' => ∃ (o : Ob) (b : Bool), e = .returned (.tuple #[.agg o.cells.toArray, .bool b]) ∧ Got obs x o b ∧ Below w.heap.size w w' := by
  refine (r5_Get hR x hx).mono ?_
  rintro e w' ⟨⟨rfl, hno⟩ | ⟨q, o, rfl, ho, hp⟩, hb⟩
  · exact ⟨noOb, false, rfl, .inl ⟨rfl, rfl, hno⟩, hb⟩
  · exact ⟨o, true, rfl, .inr ⟨rfl, q, ho, hp⟩, hb⟩
theorem cell9 (u : World) (o : Ob) (j : Nat) (v : Value) (hv : o.cells[j]? = some v) : (u.alloc (.cells o.cells.toArray 47)).cell? ⟨u.heap.size, j, none⟩ = some v := new_cell u _ _ (by simpa using hv)
set_option maxHeartbeats 2000000 in
set_option maxRecDepth 100000 in
theorem r5_Size (hR : R5 w h r g lv obs l) (x : Int) (hx : (Lit.int .i64 x).wf = true) (hsm : ∀ o ∈ obs, o.F.length ≤ 65536 ∧ o.B.length ≤ 65536) :
    Calls Try.prog 46 #[.pointer (some ⟨h, 0, none⟩), .int .i64 x] w fun e w' => ∃ (o : Ob) (b : Bool), e = .returned (.int .i64 (if b then (o.F.length : Int) + o.B.length else -1)) ∧ Got obs x o b ∧ Below w.heap.size w w' := by
  have hz := z9_run
  have hget := r5_Got hR x hx
  have HR := Lib.hid hR; have HSM := Lib.hid hsm
  clear hR hsm
  go_enter Try.func46, Try.ntmps46
  go_wp2_with fail
  refine hget.mono ?_
  rintro e u1 ⟨o, b, rfl, hG, hb1⟩
  have hRw := HR.out.rows hG
  have hone := hRw.one
  obtain ⟨fa, fc, hfv, _, _, _⟩ := own_k hRw.f
  obtain ⟨ba, bc, hbv, _, _, _⟩ := own_k hRw.b
  have hc5 := cell9 u1 o 5 o.fv rfl
  have hc6 := cell9 u1 o 6 o.bv rfl
  rw [hfv] at hc5
  rw [hbv] at hc6
  have hl : o.F.length ≤ 65536 ∧ o.B.length ≤ 65536 := by
    rcases hG with ⟨_, rfl, _⟩ | ⟨_, q, ho, _⟩
    · exact ⟨Nat.zero_le _, Nat.zero_le _⟩
    · exact HSM.out o (List.mem_of_getElem? ho)
  obtain ⟨l1, l2⟩ := hl
  have HONE := Lib.hid hone; have HG := Lib.hid hG
  have HB2 : Hid (Below w.heap.size w (u1.alloc (.cells o.cells.toArray 47))) := Lib.hid (hb1.alloc hb1.size _)
  clear hget hRw hone hG hb1 hfv hbv
  dsimp only
  cases b
  · go_wp2_with (refine wpList_store_row rfl 47 (Operand.tmp 5) (Operand.tmp 11) rfl u1.heap.size o.cells.toArray rfl rfl _ z9 (heap_alloc_new u1 _) info9 rfl HONE.out ?_; rw [World.setRow_alloc_new])
    go_ret
    exact ⟨o, false, rfl, HG.out, HB2.out⟩
  · go_wp2_with (refine wpList_store_row rfl 47 (Operand.tmp 5) (Operand.tmp 11) rfl u1.heap.size o.cells.toArray rfl rfl _ z9 (heap_alloc_new u1 _) info9 rfl HONE.out ?_; rw [World.setRow_alloc_new])
    go_ret
    exact ⟨o, true, rfl, HG.out, HB2.out⟩
end
end Go.Proofs.Ytljgnmbjidkjnaa.Rf5

namespace Go.Proofs.Ytljgnmbjidkjnaa.Rf5
open Go.Proofs.Ytljgnmbjidkjnaa.Gen Go.Proofs.Ytljgnmbjidkjnaa.Base Go.Proofs.Ytljgnmbjidkjnaa.Fr Go.Proofs.Ytljgnmbjidkjnaa.Hp Go.Proofs.Ytljgnmbjidkjnaa.Rf4 Go.ChangeShapes Go.WideShapes Go.ChangeAt Go.RowKit
set_option linter.unusedVariables false
/-- The element at i; where there is none: d. -/
def elA (L : List Int) (i d : Int) : Int := if 0 ≤ i then L[i.toNat]?.getD d else d
theorem elA_lo {L : List Int} {i d : Int} (h : i < 0) : elA L i d = d := by unfold elA; rw [if_neg (by omega)]
theorem elA_hi {L : List Int} {i d : Int} (h : 0 ≤ i) (h2 : (L.length : Int) ≤ i) : elA L i d = d := by unfold elA; rw [if_pos h, List.getElem?_eq_none (by omega)]; rfl
theorem elA_at {L : List Int} {k : Nat} {d : Int} (h : k < L.length) : elA L (k : Int) d = L[k]?.getD 0 := by unfold elA; rw [if_pos (by omega), Int.toNat_natCast, List.getElem?_eq_getElem h]; rfl
def HasOb (obs : List Ob) (x : Int) (o : Ob) : Prop := ∃ b, Got obs x o b
section
variable {w w' : World} {h r g : Nat} {lv : Value} {obs : List Ob} {l : List Bool}
set_option maxHeartbeats 2000000 in
set_option maxRecDepth 100000 in
theorem r5_Field (hR : R5 w h r g lv obs l) (x i : Int) (hx : (Lit.int .i64 x).wf = true) (hi : (Lit.int .i64 i).wf = true) :
    Calls Try.prog 49 #[.pointer (some ⟨h, 0, none⟩), .int .i64 x, .int .i64 i] w fun e w' => ∃ o : Ob, e = .returned (.int .u32 (elA o.F i (0))) ∧ HasOb obs x o ∧ Below w.heap.size w w' := by
  have hz := z9_run
  have hget := r5_Got hR x hx
  have HR := Lib.hid hR
  have hib := bounds_i64 hi
  clear hR
  go_enter Try.func49, Try.ntmps49
  go_wp2_with fail
  refine hget.mono ?_
  rintro e u1 ⟨o, b, rfl, hG, hb1⟩
  have hRw := HR.out.rows hG
  have hone := hRw.one
  have hRw2 := (hRw.below hb1).below (w' := u1.alloc (.cells o.cells.toArray 47)) ((Below.refl _ _).alloc (Nat.le_refl _) _)
  obtain ⟨fa, fc, hfv, hfc, hfl, hcell⟩ := own_k hRw2.f
  have hc5 := cell9 u1 o 5 o.fv rfl
  rw [hfv] at hc5
  have HONE := Lib.hid hone; have HG : Hid (HasOb obs x o) := Lib.hid ⟨b, hG⟩; have HCL := Lib.hid hcell
  have HB2 : Hid (Below w.heap.size w (u1.alloc (.cells o.cells.toArray 47))) := Lib.hid (hb1.alloc hb1.size _)
  clear hget hRw hRw2 hone hG hb1 hfv hcell
  dsimp only
  by_cases c1 : i < 0
  · have c2 : ¬ 0 ≤ i := by omega
    go_wp2_with (refine wpList_store_row rfl 47 (Operand.tmp 7) (Operand.tmp 13) rfl u1.heap.size o.cells.toArray rfl rfl _ z9 (heap_alloc_new u1 _) info9 rfl HONE.out ?_; rw [World.setRow_alloc_new])
    go_ret
    exact ⟨o, by rw [elA_lo c1]; rfl, HG.out, HB2.out⟩
  · have c2 : 0 ≤ i := by omega
    by_cases c3 : (o.F.length : Int) ≤ i
    · go_wp2_with (refine wpList_store_row rfl 47 (Operand.tmp 7) (Operand.tmp 13) rfl u1.heap.size o.cells.toArray rfl rfl _ z9 (heap_alloc_new u1 _) info9 rfl HONE.out ?_; rw [World.setRow_alloc_new])
      go_ret
      exact ⟨o, by rw [elA_hi c2 c3]; rfl, HG.out, HB2.out⟩
    · obtain ⟨k, rfl⟩ := Int.eq_ofNat_of_zero_le c2
      have hk : k < o.F.length := by omega
      obtain ⟨g', rfl, hck, _⟩ := HCL.out k hk
      have e1 := elA_at (d := (0)) hk
      have E1 := Lib.hid e1
      clear e1
      generalize (o.F)[k]?.getD 0 = V at *
      have c4 : (k : Int) < (o.F.length : Int) := by omega
      go_wp2_with (refine wpList_store_row rfl 47 (Operand.tmp 7) (Operand.tmp 13) rfl u1.heap.size o.cells.toArray rfl rfl _ z9 (heap_alloc_new u1 _) info9 rfl HONE.out ?_; rw [World.setRow_alloc_new])
      go_ret
      exact ⟨o, by rw [E1.out]; rfl, HG.out, HB2.out⟩
set_option maxHeartbeats 2000000 in
set_option maxRecDepth 100000 in
theorem r5_Byte (hR : R5 w h r g lv obs l) (x i : Int) (hx : (Lit.int .i64 x).wf = true) (hi : (Lit.int .i64 i).wf = true) (hval : ∀ o ∈ obs, ∀ v ∈ o.B, 0 ≤ v ∧ v ≤ 255) :
    Calls Try.prog 50 #[.pointer (some ⟨h, 0, none⟩), .int .i64 x, .int .i64 i] w fun e w' => ∃ o : Ob, e = .returned (.int .i64 (elA o.B i (-1))) ∧ HasOb obs x o ∧ Below w.heap.size w w' := by
  have hz := z9_run
  have hget := r5_Got hR x hx
  have HR := Lib.hid hR
  have hib := bounds_i64 hi
  clear hR
  go_enter Try.func50, Try.ntmps50
  go_wp2_with fail
  refine hget.mono ?_
  rintro e u1 ⟨o, b, rfl, hG, hb1⟩
  have hRw := HR.out.rows hG
  have hone := hRw.one
  have hRw2 := (hRw.below hb1).below (w' := u1.alloc (.cells o.cells.toArray 47)) ((Below.refl _ _).alloc (Nat.le_refl _) _)
  obtain ⟨fa, fc, hfv, hfc, hfl, hcell⟩ := own_k hRw2.b
  have hc5 := cell9 u1 o 6 o.bv rfl
  rw [hfv] at hc5
  have HONE := Lib.hid hone; have HG : Hid (HasOb obs x o) := Lib.hid ⟨b, hG⟩; have HCL := Lib.hid hcell
  have HB2 : Hid (Below w.heap.size w (u1.alloc (.cells o.cells.toArray 47))) := Lib.hid (hb1.alloc hb1.size _)
  clear hget hRw hRw2 hone hG hb1 hfv hcell
  dsimp only
  by_cases c1 : i < 0
  · have c2 : ¬ 0 ≤ i := by omega
    go_wp2_with (refine wpList_store_row rfl 47 (Operand.tmp 7) (Operand.tmp 13) rfl u1.heap.size o.cells.toArray rfl rfl _ z9 (heap_alloc_new u1 _) info9 rfl HONE.out ?_; rw [World.setRow_alloc_new])
    go_ret
    exact ⟨o, by rw [elA_lo c1]; rfl, HG.out, HB2.out⟩
  · have c2 : 0 ≤ i := by omega
    by_cases c3 : (o.B.length : Int) ≤ i
    · go_wp2_with (refine wpList_store_row rfl 47 (Operand.tmp 7) (Operand.tmp 13) rfl u1.heap.size o.cells.toArray rfl rfl _ z9 (heap_alloc_new u1 _) info9 rfl HONE.out ?_; rw [World.setRow_alloc_new])
      go_ret
      exact ⟨o, by rw [elA_hi c2 c3]; rfl, HG.out, HB2.out⟩
    · obtain ⟨k, rfl⟩ := Int.eq_ofNat_of_zero_le c2
      have hk : k < o.B.length := by omega
      obtain ⟨g', rfl, hck, _⟩ := HCL.out k hk
      have e1 := elA_at (d := (-1)) hk
      have E1 := Lib.hid e1
      clear e1
      have vb : 0 ≤ (o.B)[k]?.getD 0 ∧ (o.B)[k]?.getD 0 ≤ 255 := by
        rw [List.getElem?_eq_getElem hk]
        have hm : (o.B)[k] ∈ o.B := List.getElem_mem _
        obtain ⟨b2, ⟨_, rfl, _⟩ | ⟨_, q, ho, _⟩⟩ := HG.out
        · exact absurd hk (by show ¬ k < 0; omega)
        · exact hval o (List.mem_of_getElem? ho) _ hm
      obtain ⟨vb0, vb1⟩ := vb
      generalize (o.B)[k]?.getD 0 = V at *
      have c4 : (k : Int) < (o.B.length : Int) := by omega
      go_wp2_with (refine wpList_store_row rfl 47 (Operand.tmp 7) (Operand.tmp 13) rfl u1.heap.size o.cells.toArray rfl rfl _ z9 (heap_alloc_new u1 _) info9 rfl HONE.out ?_; rw [World.setRow_alloc_new])
      go_ret
      exact ⟨o, by rw [E1.out]; rfl, HG.out, HB2.out⟩
end
end Go.Proofs.Ytljgnmbjidkjnaa.Rf5

namespace Go.Proofs.Ytljgnmbjidkjnaa.Rf5
open Go.Proofs.Ytljgnmbjidkjnaa.Gen Go.Proofs.Ytljgnmbjidkjnaa.Base Go.Proofs.Ytljgnmbjidkjnaa.Fr Go.Proofs.Ytljgnmbjidkjnaa.Hp Go.Proofs.Ytljgnmbjidkjnaa.Rf4 Go.ChangeShapes Go.WideShapes Go.ChangeAt Go.RowKit
set_option linter.unusedVariables false
section
variable {w w' : World} {h r g : Nat} {lv : Value} {obs : List Ob} {l : List Bool}
theorem own_setL {e : TypeId} {size g n cap : Nat} {xs : List Value} (h : w.ownsRow 0 e size (.slice (some ⟨g, 0, none⟩) n cap) n xs) (j : Nat) (hj : j < n * size) (v : Value) :
    (w.setCell ⟨g, j, none⟩ v).ownsRow 0 e size (.slice (some ⟨g, 0, none⟩) n cap) n (xs.set j v) := by
  obtain ⟨hx, ⟨h1, h2⟩ | ⟨g', cap', cur, h3, h4, h5, h6, h7, h8, h9⟩⟩ := h
  · cases h1
  · obtain ⟨e1, -, e3⟩ := Value.slice.inj h3
    obtain rfl : g = g' := by simpa using e1
    subst e3
    refine ⟨by simpa using hx, .inr ⟨g, cap, cur.setIfInBounds j v, rfl, h4, heap_setCell_same w g j _ _ _ h5, h6, h7, by simpa using h8, ?_⟩⟩
    rw [← h9]
    simp [List.take_set]
/-- Elsewhere nothing has changed. -/
theorem own_far {e : TypeId} {size n : Nat} {v u : Value} {xs : List Value} {g j : Nat} (h : w.ownsRow 0 e size v n xs) (hne : v.ownBlock ≠ some g) : (w.setCell ⟨g, j, none⟩ u).ownsRow 0 e size v n xs :=
  owns_keep h fun k hk => heap_setCell_other _ _ _ _ fun e => hne (by rw [hk, show k = g from e])
theorem R4.far {r g : Nat} {l : List Bool} (h : R4 w r g l) {g' j : Nat} {u : Value} (h1 : g' ≠ r) (h2 : g' ≠ g) : R4 (w.setCell ⟨g', j, none⟩ u) r g l :=
  h.keep fun k hk => heap_setCell_other _ _ _ _ fun e => by
    have e : k = g' := e
    rcases hk with rfl | rfl
    · exact h1 e.symm
    · exact h2 e.symm
theorem cells_set (obs : List Ob) : ∀ (q : Nat) (o o' : Ob), obs[q]? = some o → o'.cells = o.cells → cellsL (obs.set q o') = cellsL obs := by
  induction obs with
  | nil => intro q o o' hq; simp at hq
  | cons p obs ih =>
    intro q o o' hq he
    cases q with
    | zero =>
      obtain rfl : p = o := by simpa using hq
      show o'.cells ++ cellsL obs = p.cells ++ cellsL obs
      rw [he]
    | succ q =>
      show p.cells ++ cellsL (obs.set q o') = p.cells ++ cellsL obs
      rw [ih q o o' (by simpa using hq) he]
theorem mem_set {obs : List Ob} {q : Nat} {o o' p : Ob} (hp : p ∈ obs.set q o') : p = o' ∨ ∃ q', q' ≠ q ∧ obs[q']? = some p := by
  obtain ⟨k, hk⟩ := List.mem_iff_getElem?.1 hp
  rw [List.getElem?_set] at hk
  by_cases e : q = k
  · rw [if_pos e] at hk
    split at hk
    · cases hk; exact .inl rfl
    · cases hk
  · rw [if_neg e] at hk; exact .inr ⟨k, fun e' => e e'.symm, hk⟩
end
end Go.Proofs.Ytljgnmbjidkjnaa.Rf5

namespace Go.Proofs.Ytljgnmbjidkjnaa.Rf5
open Go.Proofs.Ytljgnmbjidkjnaa.Gen Go.Proofs.Ytljgnmbjidkjnaa.Base Go.Proofs.Ytljgnmbjidkjnaa.Fr Go.Proofs.Ytljgnmbjidkjnaa.Hp Go.Proofs.Ytljgnmbjidkjnaa.Rf4 Go.ChangeShapes Go.WideShapes Go.ChangeAt Go.RowKit
set_option linter.unusedVariables false
section
variable {w w' : World} {h r g : Nat} {lv : Value} {obs : List Ob} {l : List Bool}
theorem pos_set (obs : List Ob) : ∀ (q : Nat) (o o' : Ob), obs[q]? = some o → o'.pos = o.pos → (obs.set q o').map Ob.pos = obs.map Ob.pos := by
  induction obs with
  | nil => intro q o o' hq; simp at hq
  | cons p obs ih =>
    intro q o o' hq he
    cases q with
    | zero =>
      obtain rfl : p = o := by simpa using hq
      simp [he]
    | succ q => simp [ih q o o' (by simpa using hq) he]
theorem at_set {obs : List Ob} {q : Nat} {o o' : Ob} (ho : obs[q]? = some o) {k : Nat} {p : Ob} (hk : (obs.set q o')[k]? = some p) : (k = q ∧ p = o') ∨ (k ≠ q ∧ obs[k]? = some p) := by
  rw [List.getElem?_set] at hk
  by_cases e : q = k
  · rw [if_pos e] at hk
    split at hk
    · cases hk; exact .inl ⟨e.symm, rfl⟩
    · cases hk
  · rw [if_neg e] at hk; exact .inr ⟨fun e' => e e'.symm, hk⟩
theorem R5.put (hR : R5 w h r g lv obs l) {q : Nat} {o o' : Ob} (ho : obs[q]? = some o) (hcl : o'.cells = o.cells) {g2 : Nat} (hw : ∀ k, k ≠ g2 → w'.heap[k]? = w.heap[k]?)
    (ne : g2 ≠ h ∧ g2 ≠ r ∧ g2 ≠ g ∧ lv.ownBlock ≠ some g2) (hoth : ∀ (q' : Nat) (p : Ob), obs[q']? = some p → q' ≠ q → p.fv.ownBlock ≠ some g2 ∧ p.bv.ownBlock ≠ some g2)
    (hf' : w'.ownsRow 0 28 1 o'.fv o'.F.length (o'.F.map (Value.int .u32))) (hb' : w'.ownsRow 0 5 1 o'.bv o'.B.length (o'.B.map (Value.int .u8))) : R5 w' h r g lv (obs.set q o') l := by
  have hm := List.mem_of_getElem? ho
  have efv : o'.fv = o.fv := by have := congrArg (·[5]?) hcl; simpa [Ob.cells] using this
  have ebv : o'.bv = o.bv := by have := congrArg (·[6]?) hcl; simpa [Ob.cells] using this
  have eps : o'.pos = o.pos := by have := congrArg (·[0]?) hcl; simp [Ob.cells] at this; omega
  have old : ∀ p ∈ obs.set q o', ∃ p0 ∈ obs, p.fv = p0.fv ∧ p.bv = p0.bv ∧ p.pos = p0.pos := fun p hp => by
    rcases mem_set (o := o) hp with rfl | ⟨q', _, hq'⟩
    · exact ⟨o, hm, efv, ebv, eps⟩
    · exact ⟨p, List.mem_of_getElem? hq', rfl, rfl, rfl⟩
  have oldA : ∀ (k : Nat) (p : Ob), (obs.set q o')[k]? = some p → ∃ p0, obs[k]? = some p0 ∧ p.fv = p0.fv ∧ p.bv = p0.bv := fun k p hp => by
    rcases at_set ho hp with ⟨rfl, rfl⟩ | ⟨_, hk⟩
    · exact ⟨o, ho, efv, ebv⟩
    · exact ⟨p, hk, rfl, rfl⟩
  have far : ∀ {e : TypeId} {size n : Nat} {v : Value} {xs : List Value}, w.ownsRow 0 e size v n xs → v.ownBlock ≠ some g2 → w'.ownsRow 0 e size v n xs := fun hh hne => owns_keep hh fun k hk => hw k fun e => hne (by rw [hk, e])
  exact
  { row := (hw h (fun e => ne.1 e.symm)).trans hR.row
    fr := hR.fr.keep fun k hk => hw k fun e => by
      rcases hk with rfl | rfl
      · exact ne.2.1 e.symm
      · exact ne.2.2.1 e.symm
    ls := by rw [List.length_set, cells_set obs q o o' ho hcl]; exact far hR.ls ne.2.2.2
    fs := fun p hp => by
      rcases mem_set (o := o) hp with rfl | ⟨q', hne, hq'⟩
      · exact hf'
      · exact far (hR.fs p (List.mem_of_getElem? hq')) (hoth q' p hq' hne).1
    bs := fun p hp => by
      rcases mem_set (o := o) hp with rfl | ⟨q', hne, hq'⟩
      · exact hb'
      · exact far (hR.bs p (List.mem_of_getElem? hq')) (hoth q' p hq' hne).2
    n1 := hR.n1
    n2 := hR.n2
    n3 := hR.n3
    n4 := fun p hp k hk => by
      obtain ⟨p0, h0, e1, e2, _⟩ := old p hp
      exact hR.n4 p0 h0 k (by rw [← e1, ← e2]; exact hk)
    n5 := fun a b p p' hp hp' hne k hk => by
      obtain ⟨p0, h0, e1, e2⟩ := oldA a p hp
      obtain ⟨p1, h1, e3, e4⟩ := oldA b p' hp'
      rw [e3, e4]
      exact hR.n5 a b p0 p1 h0 h1 hne k (by rw [← e1, ← e2]; exact hk)
    n6 := fun p hp k hk => by
      obtain ⟨p0, h0, e1, e2, _⟩ := old p hp
      rw [e2]; exact hR.n6 p0 h0 k (by rw [← e1]; exact hk)
    srt := by
      have := List.pairwise_map.2 hR.srt
      rw [← pos_set obs q o o' ho eps] at this
      exact List.pairwise_map.1 this
    hi := fun p hp => by
      obtain ⟨p0, h0, _, _, e3⟩ := old p hp
      rw [e3]; exact hR.hi p0 h0
    few := by rw [List.length_set]; exact hR.few }
theorem R5.setF (hR : R5 w h r g lv obs l) {q : Nat} {o : Ob} (ho : obs[q]? = some o) {g2 c : Nat} (hfv : o.fv = .slice (some ⟨g2, 0, none⟩) o.F.length c) (j : Nat) (hj : j < o.F.length) (v : Int) :
    R5 (w.setCell ⟨g2, j, none⟩ (.int .u32 v)) h r g lv (obs.set q { o with F := o.F.set j v }) l := by
  have hm := List.mem_of_getElem? ho
  have hob : o.fv.ownBlock = some g2 := by rw [hfv]; rfl
  refine hR.put ho rfl (g2 := g2) (fun k hk => heap_setCell_other _ _ _ _ fun e => hk e) (hR.n4 o hm g2 (.inl hob)) (fun q' p hp hne => hR.n5 q q' o p ho hp (fun e => hne e.symm) g2 (.inl hob)) ?_ (own_far (hR.bs o hm) (hR.n6 o hm g2 hob))
  have hrow := hR.fs o hm
  show (w.setCell ⟨g2, j, none⟩ (.int .u32 v)).ownsRow 0 _ 1 o.fv (o.F.set j v).length ((o.F.set j v).map (Value.int .u32))
  rw [hfv] at hrow ⊢
  rw [List.length_set, List.map_set]
  exact own_setL hrow j (by omega) _
theorem R5.setB (hR : R5 w h r g lv obs l) {q : Nat} {o : Ob} (ho : obs[q]? = some o) {g2 c : Nat} (hbv : o.bv = .slice (some ⟨g2, 0, none⟩) o.B.length c) (j : Nat) (hj : j < o.B.length) (v : Int) :
    R5 (w.setCell ⟨g2, j, none⟩ (.int .u8 v)) h r g lv (obs.set q { o with B := o.B.set j v }) l := by
  have hm := List.mem_of_getElem? ho
  have hob : o.bv.ownBlock = some g2 := by rw [hbv]; rfl
  refine hR.put ho rfl (g2 := g2) (fun k hk => heap_setCell_other _ _ _ _ fun e => hk e) (hR.n4 o hm g2 (.inr hob)) (fun q' p hp hne => hR.n5 q q' o p ho hp (fun e => hne e.symm) g2 (.inr hob)) (own_far (hR.fs o hm) fun e => hR.n6 o hm g2 e hob) ?_
  have hrow := hR.bs o hm
  show (w.setCell ⟨g2, j, none⟩ (.int .u8 v)).ownsRow 0 _ 1 o.bv (o.B.set j v).length ((o.B.set j v).map (Value.int .u8))
  rw [hbv] at hrow ⊢
  rw [List.length_set, List.map_set]
  exact own_setL hrow j (by omega) _
end
end Go.Proofs.Ytljgnmbjidkjnaa.Rf5

namespace Go.Proofs.Ytljgnmbjidkjnaa.Rf5
open Go.Proofs.Ytljgnmbjidkjnaa.Gen Go.Proofs.Ytljgnmbjidkjnaa.Base Go.Proofs.Ytljgnmbjidkjnaa.Fr Go.Proofs.Ytljgnmbjidkjnaa.Hp Go.Proofs.Ytljgnmbjidkjnaa.Rf4 Go.ChangeShapes Go.WideShapes Go.ChangeAt Go.RowKit
set_option linter.unusedVariables false
section
variable {w w' : World} {h r g : Nat} {lv : Value} {obs : List Ob} {l : List Bool}
theorem R5.same (hR : R5 w h r g lv obs l) {x : Int} {o o' : Ob} {b : Bool} (hG : Got obs x o b) {q : Nat} (ho : obs[q]? = some o') (hp : (o'.pos : Int) = x) : o = o' := by
  rcases hG with ⟨_, _, hno⟩ | ⟨_, q', hq', hp'⟩
  · exact absurd hp (hno q o' ho)
  · obtain ⟨h1, e1⟩ := List.getElem?_eq_some_iff.1 ho
    obtain ⟨h2, e2⟩ := List.getElem?_eq_some_iff.1 hq'
    have hs := List.pairwise_iff_getElem.1 hR.srt
    rcases Nat.lt_trichotomy q q' with c | c | c
    · have := hs q q' h1 h2 c; rw [e1, e2] at this; omega
    · subst c; rw [← e1, ← e2]
    · have := hs q' q h2 h1 c; rw [e1, e2] at this; omega
set_option maxHeartbeats 2000000 in
set_option maxRecDepth 100000 in
theorem r5_SetField_yes (hR : R5 w h r g lv obs l) (x : Int) (hx : (Lit.int .i64 x).wf = true) {q : Nat} {o : Ob} (ho : obs[q]? = some o) (hp : (o.pos : Int) = x) (k : Nat) (hk : k < o.F.length) (vv : Int) (hv : (Lit.int .u32 vv).wf = true) :
    Calls Try.prog 18 #[.pointer (some ⟨h, 0, none⟩), .int .i64 x, .int .i64 k, .int .u32 vv] w fun e w' => e = .returned (.bool true) ∧ (∃ g2 c, o.fv = .slice (some ⟨g2, 0, none⟩) o.F.length c ∧ G4 g2 w w') ∧ R5 w' h r g lv (obs.set q { o with F := o.F.set k vv }) l := by
  have hz := z9_run
  have hget := r5_Got hR x hx
  have hib := bounds_i64 hx
  have HR := Lib.hid hR
  clear hR
  go_enter Try.func18, Try.ntmps18
  go_wp2_with fail
  refine hget.mono ?_
  rintro e u1 ⟨o1, b, rfl, hG, hb1⟩
  obtain rfl : o1 = o := HR.out.same hG ho hp
  have hRw := HR.out.rows hG
  have hone := hRw.one
  have hba : Below u1.heap.size u1 (u1.alloc (.cells o1.cells.toArray 47)) := (Below.refl _ _).alloc (Nat.le_refl _) _
  have hR2 := (HR.out.below hb1).below hba
  have hRw2 := (hRw.below hb1).below hba
  obtain ⟨fa, fc, hfv, hfc, hfl, hcell⟩ := own_k hRw2.f
  have hc5 := cell9 u1 o1 5 o1.fv rfl
  obtain ⟨g', rfl, hck, hfz⟩ := hcell k hk
  have HS := Lib.hid (hR2.setF ho hfv k hk vv)
  have HFV := Lib.hid hfv
  rw [hfv] at hc5
  have HONE := Lib.hid hone
  have hgl := (hRw.f.lt g' (by rw [hfv]; rfl)).2
  have HG4 : Hid (G4 g' w ((u1.alloc (.cells o1.cells.toArray 47)).setCell ⟨g', k, none⟩ (.int .u32 vv))) := Lib.hid ((G4.of (hb1.trans (hba.mono hb1.size))).set k _)
  clear hget hRw hRw2 hone hG hb1 hfv hcell hba hR2 ho hp
  generalize (o1.F)[k]?.getD 0 = V at *
  dsimp only
  have c2 : (0 : Int) ≤ (k : Int) := by omega
  have c4 : (k : Int) < (o1.F.length : Int) := by omega
  go_wp2_with (refine wpList_store_row rfl 47 (Operand.tmp 9) (Operand.tmp 15) rfl u1.heap.size o1.cells.toArray rfl rfl _ z9 (heap_alloc_new u1 _) info9 rfl HONE.out ?_; rw [World.setRow_alloc_new])
  go_ret
  exact ⟨rfl, ⟨g', fc, HFV.out, HG4.out⟩, HS.out⟩
set_option maxHeartbeats 2000000 in
set_option maxRecDepth 100000 in
theorem r5_SetByte_yes (hR : R5 w h r g lv obs l) (x : Int) (hx : (Lit.int .i64 x).wf = true) {q : Nat} {o : Ob} (ho : obs[q]? = some o) (hp : (o.pos : Int) = x) (k : Nat) (hk : k < o.B.length) (vv : Int) (hv : (Lit.int .i64 vv).wf = true) :
    Calls Try.prog 20 #[.pointer (some ⟨h, 0, none⟩), .int .i64 x, .int .i64 k, .int .i64 vv] w fun e w' => e = .returned (.bool true) ∧ (∃ g2 c, o.bv = .slice (some ⟨g2, 0, none⟩) o.B.length c ∧ G4 g2 w w') ∧ R5 w' h r g lv (obs.set q { o with B := o.B.set k (vv % 256) }) l := by
  have hz := z9_run
  have hget := r5_Got hR x hx
  have hib := bounds_i64 hx
  have HR := Lib.hid hR
  clear hR
  go_enter Try.func20, Try.ntmps20
  go_wp2_with fail
  refine hget.mono ?_
  rintro e u1 ⟨o1, b, rfl, hG, hb1⟩
  obtain rfl : o1 = o := HR.out.same hG ho hp
  have hRw := HR.out.rows hG
  have hone := hRw.one
  have hba : Below u1.heap.size u1 (u1.alloc (.cells o1.cells.toArray 47)) := (Below.refl _ _).alloc (Nat.le_refl _) _
  have hR2 := (HR.out.below hb1).below hba
  have hRw2 := (hRw.below hb1).below hba
  obtain ⟨fa, fc, hfv, hfc, hfl, hcell⟩ := own_k hRw2.b
  have hc5 := cell9 u1 o1 6 o1.bv rfl
  obtain ⟨g', rfl, hck, hfz⟩ := hcell k hk
  have HS := Lib.hid (hR2.setB ho hfv k hk (vv % 256))
  have HFV := Lib.hid hfv
  rw [hfv] at hc5
  have HONE := Lib.hid hone
  have hgl := (hRw.b.lt g' (by rw [hfv]; rfl)).2
  have HG4 : Hid (G4 g' w ((u1.alloc (.cells o1.cells.toArray 47)).setCell ⟨g', k, none⟩ (.int .u8 (vv % 256)))) := Lib.hid ((G4.of (hb1.trans (hba.mono hb1.size))).set k _)
  clear hget hRw hRw2 hone hG hb1 hfv hcell hba hR2 ho hp
  generalize (o1.B)[k]?.getD 0 = V at *
  dsimp only
  have c2 : (0 : Int) ≤ (k : Int) := by omega
  have c4 : (k : Int) < (o1.B.length : Int) := by omega
  go_wp2_with (refine wpList_store_row rfl 47 (Operand.tmp 9) (Operand.tmp 15) rfl u1.heap.size o1.cells.toArray rfl rfl _ z9 (heap_alloc_new u1 _) info9 rfl HONE.out ?_; rw [World.setRow_alloc_new])
  go_ret
  exact ⟨rfl, ⟨g', fc, HFV.out, HG4.out⟩, HS.out⟩
set_option maxHeartbeats 2000000 in
set_option maxRecDepth 100000 in
theorem r5_SetField_no (hR : R5 w h r g lv obs l) (x i : Int) (hx : (Lit.int .i64 x).wf = true) (hi : (Lit.int .i64 i).wf = true) (vv : Int) (hv : (Lit.int .u32 vv).wf = true) (hno : ∀ o b, Got obs x o b → i < 0 ∨ (o.F.length : Int) ≤ i) :
    Calls Try.prog 18 #[.pointer (some ⟨h, 0, none⟩), .int .i64 x, .int .i64 i, .int .u32 vv] w fun e w' => e = .returned (.bool false) ∧ Below w.heap.size w w' := by
  have hz := z9_run
  have hget := r5_Got hR x hx
  have hib := bounds_i64 hi
  have HR := Lib.hid hR; have HNO := Lib.hid hno
  clear hR hno
  go_enter Try.func18, Try.ntmps18
  go_wp2_with fail
  refine hget.mono ?_
  rintro e u1 ⟨o, b, rfl, hG, hb1⟩
  have hn := HNO.out o b hG
  have hRw := HR.out.rows hG
  have hone := hRw.one
  have hba : Below u1.heap.size u1 (u1.alloc (.cells o.cells.toArray 47)) := (Below.refl _ _).alloc (Nat.le_refl _) _
  obtain ⟨fa, fc, hfv, hfc, hfl, _⟩ := own_k hRw.f
  have hc5 := cell9 u1 o 5 o.fv rfl
  rw [hfv] at hc5
  have HONE := Lib.hid hone
  have HB := Lib.hid (hb1.trans (hba.mono hb1.size))
  clear hget hRw hone hG hb1 hfv hba
  dsimp only
  by_cases c1 : i < 0
  · go_wp2_with (refine wpList_store_row rfl 47 (Operand.tmp 9) (Operand.tmp 15) rfl u1.heap.size o.cells.toArray rfl rfl _ z9 (heap_alloc_new u1 _) info9 rfl HONE.out ?_; rw [World.setRow_alloc_new])
    go_ret
    exact ⟨rfl, HB.out⟩
  · have c2 : (0 : Int) ≤ i := by omega
    have c3 : (o.F.length : Int) ≤ i := by omega
    clear hn
    go_wp2_with (refine wpList_store_row rfl 47 (Operand.tmp 9) (Operand.tmp 15) rfl u1.heap.size o.cells.toArray rfl rfl _ z9 (heap_alloc_new u1 _) info9 rfl HONE.out ?_; rw [World.setRow_alloc_new])
    go_ret
    exact ⟨rfl, HB.out⟩
set_option maxHeartbeats 2000000 in
set_option maxRecDepth 100000 in
theorem r5_SetByte_no (hR : R5 w h r g lv obs l) (x i : Int) (hx : (Lit.int .i64 x).wf = true) (hi : (Lit.int .i64 i).wf = true) (vv : Int) (hv : (Lit.int .i64 vv).wf = true) (hno : ∀ o b, Got obs x o b → i < 0 ∨ (o.B.length : Int) ≤ i) :
    Calls Try.prog 20 #[.pointer (some ⟨h, 0, none⟩), .int .i64 x, .int .i64 i, .int .i64 vv] w fun e w' => e = .returned (.bool false) ∧ Below w.heap.size w w' := by
  have hz := z9_run
  have hget := r5_Got hR x hx
  have hib := bounds_i64 hi
  have HR := Lib.hid hR; have HNO := Lib.hid hno
  clear hR hno
  go_enter Try.func20, Try.ntmps20
  go_wp2_with fail
  refine hget.mono ?_
  rintro e u1 ⟨o, b, rfl, hG, hb1⟩
  have hn := HNO.out o b hG
  have hRw := HR.out.rows hG
  have hone := hRw.one
  have hba : Below u1.heap.size u1 (u1.alloc (.cells o.cells.toArray 47)) := (Below.refl _ _).alloc (Nat.le_refl _) _
  obtain ⟨fa, fc, hfv, hfc, hfl, _⟩ := own_k hRw.b
  have hc5 := cell9 u1 o 6 o.bv rfl
  rw [hfv] at hc5
  have HONE := Lib.hid hone
  have HB := Lib.hid (hb1.trans (hba.mono hb1.size))
  clear hget hRw hone hG hb1 hfv hba
  dsimp only
  by_cases c1 : i < 0
  · go_wp2_with (refine wpList_store_row rfl 47 (Operand.tmp 9) (Operand.tmp 15) rfl u1.heap.size o.cells.toArray rfl rfl _ z9 (heap_alloc_new u1 _) info9 rfl HONE.out ?_; rw [World.setRow_alloc_new])
    go_ret
    exact ⟨rfl, HB.out⟩
  · have c2 : (0 : Int) ≤ i := by omega
    have c3 : (o.B.length : Int) ≤ i := by omega
    clear hn
    go_wp2_with (refine wpList_store_row rfl 47 (Operand.tmp 9) (Operand.tmp 15) rfl u1.heap.size o.cells.toArray rfl rfl _ z9 (heap_alloc_new u1 _) info9 rfl HONE.out ?_; rw [World.setRow_alloc_new])
    go_ret
    exact ⟨rfl, HB.out⟩
end
end Go.Proofs.Ytljgnmbjidkjnaa.Rf5

namespace Go.Proofs.Ytljgnmbjidkjnaa.Rf5
open Go.Proofs.Ytljgnmbjidkjnaa.Gen Go.Proofs.Ytljgnmbjidkjnaa.Base Go.Proofs.Ytljgnmbjidkjnaa.Fr Go.Proofs.Ytljgnmbjidkjnaa.Hp Go.Proofs.Ytljgnmbjidkjnaa.Rf4 Go.ChangeShapes Go.WideShapes Go.ChangeAt Go.RowKit
set_option linter.unusedVariables false
section
variable {w w' : World} {h r g : Nat} {lv : Value} {obs : List Ob} {l : List Bool}
theorem cellsL_set (obs : List Ob) : ∀ (q : Nat) (o o' : Ob) (j : Nat) (u : Value), obs[q]? = some o → j < 9 → o'.cells = o.cells.set j u → cellsL (obs.set q o') = (cellsL obs).set (q * 9 + j) u := by
  induction obs with
  | nil => intro q o o' j u hq; simp at hq
  | cons p obs ih =>
    intro q o o' j u hq hj he
    have hl : p.cells.length = 9 := rfl
    cases q with
    | zero =>
      obtain rfl : p = o := by simpa using hq
      show o'.cells ++ cellsL obs = (p.cells ++ cellsL obs).set (0 * 9 + j) u
      rw [he, Nat.zero_mul, Nat.zero_add, List.set_append_left _ _ (by omega)]
    | succ q =>
      show p.cells ++ cellsL (obs.set q o') = (p.cells ++ cellsL obs).set ((q + 1) * 9 + j) u
      rw [ih q o o' j u (by simpa using hq) hj he, List.set_append_right _ _ (by omega), hl, show (q + 1) * 9 + j - 9 = q * 9 + j by omega]
theorem R5.putL (hR : R5 w h r g lv obs l) {q : Nat} {o o' : Ob} (ho : obs[q]? = some o) {gl c : Nat} (hlv : lv = .slice (some ⟨gl, 0, none⟩) obs.length c) {j : Nat} {u : Value} (hj : j < 9) (hcl : o'.cells = o.cells.set j u)
    (efv : o'.fv = o.fv) (ebv : o'.bv = o.bv) (eF : o'.F = o.F) (eB : o'.B = o.B) (eps : o'.pos = o.pos) : R5 (w.setCell ⟨gl, q * 9 + j, none⟩ u) h r g lv (obs.set q o') l := by
  have hm := List.mem_of_getElem? ho
  have hql := (List.getElem?_eq_some_iff.1 ho).1
  have hlb : lv.ownBlock = some gl := by rw [hlv]; rfl
  have n3 := hR.n3
  rw [hlb] at n3
  have old : ∀ p ∈ obs.set q o', ∃ p0 ∈ obs, p.fv = p0.fv ∧ p.bv = p0.bv ∧ p.F = p0.F ∧ p.B = p0.B ∧ p.pos = p0.pos := fun p hp => by
    rcases mem_set (o := o) hp with rfl | ⟨q', _, hq'⟩
    · exact ⟨o, hm, efv, ebv, eF, eB, eps⟩
    · exact ⟨p, List.mem_of_getElem? hq', rfl, rfl, rfl, rfl, rfl⟩
  have oldA : ∀ (k : Nat) (p : Ob), (obs.set q o')[k]? = some p → ∃ p0, obs[k]? = some p0 ∧ p.fv = p0.fv ∧ p.bv = p0.bv := fun k p hp => by
    rcases at_set ho hp with ⟨rfl, rfl⟩ | ⟨_, hk⟩
    · exact ⟨o, ho, efv, ebv⟩
    · exact ⟨p, hk, rfl, rfl⟩
  exact
  { row := (heap_setCell_other _ _ _ _ fun e => n3.1 (by rw [show h = gl from e])).trans hR.row
    fr := R4.far hR.fr (fun e => n3.2.1 (by rw [e])) (fun e => n3.2.2 (by rw [e]))
    ls := by
      rw [List.length_set, cellsL_set obs q o o' j u ho hj hcl]
      have := hR.ls
      rw [hlv] at this ⊢
      exact own_setL this _ (by omega) _
    fs := fun p hp => by
      obtain ⟨p0, h0, e1, e2, e3, e4, e5⟩ := old p hp
      rw [e1, e3]
      exact own_far (hR.fs p0 h0) fun e => (hR.n4 p0 h0 gl (.inl e)).2.2.2 hlb
    bs := fun p hp => by
      obtain ⟨p0, h0, e1, e2, e3, e4, e5⟩ := old p hp
      rw [e2, e4]
      exact own_far (hR.bs p0 h0) fun e => (hR.n4 p0 h0 gl (.inr e)).2.2.2 hlb
    n1 := hR.n1
    n2 := hR.n2
    n3 := hR.n3
    n4 := fun p hp k hk => by
      obtain ⟨p0, h0, e1, e2, _⟩ := old p hp
      exact hR.n4 p0 h0 k (by rw [← e1, ← e2]; exact hk)
    n5 := fun a b p p' hp hp' hne k hk => by
      obtain ⟨p0, h0, e1, e2⟩ := oldA a p hp
      obtain ⟨p1, h1, e3, e4⟩ := oldA b p' hp'
      rw [e3, e4]
      exact hR.n5 a b p0 p1 h0 h1 hne k (by rw [← e1, ← e2]; exact hk)
    n6 := fun p hp k hk => by
      obtain ⟨p0, h0, e1, e2, _⟩ := old p hp
      rw [e2]; exact hR.n6 p0 h0 k (by rw [← e1]; exact hk)
    srt := by
      have := List.pairwise_map.2 hR.srt
      rw [← pos_set obs q o o' ho eps] at this
      exact List.pairwise_map.1 this
    hi := fun p hp => by
      obtain ⟨p0, h0, _, _, _, _, e5⟩ := old p hp
      rw [e5]; exact hR.hi p0 h0
    few := by rw [List.length_set]; exact hR.few }
end
end Go.Proofs.Ytljgnmbjidkjnaa.Rf5

namespace Go.Proofs.Ytljgnmbjidkjnaa.Rf5
open Go.Proofs.Ytljgnmbjidkjnaa.Gen Go.Proofs.Ytljgnmbjidkjnaa.Base Go.Proofs.Ytljgnmbjidkjnaa.Fr Go.Proofs.Ytljgnmbjidkjnaa.Hp Go.Proofs.Ytljgnmbjidkjnaa.Rf4 Go.ChangeShapes Go.WideShapes Go.ChangeAt Go.RowKit
set_option linter.unusedVariables false
section
variable {w w' : World} {h r g : Nat} {lv : Value} {obs : List Ob} {l : List Bool}
theorem own_live {e : TypeId} {size g n cap : Nat} {xs : List Value} (h : w.ownsRow 0 e size (.slice (some ⟨g, 0, none⟩) n cap) n xs) (j : Nat) : w.frozen? ⟨g, j, none⟩ = false := by
  obtain ⟨hx, ⟨h1, h2⟩ | ⟨g', cap', cur, h3, h4, h5, h6, h7, h8, h9⟩⟩ := h
  · cases h1
  · obtain ⟨e1, -, e3⟩ := Value.slice.inj h3
    obtain rfl : g = g' := by simpa using e1
    exact frozen_of_row w g j _ _ h5
theorem idx_eq (hR : R5 w h r g lv obs l) {x i : Int} (hi : idx obs x i) {q : Nat} {o : Ob} (ho : obs[q]? = some o) (hp : (o.pos : Int) = x) : i = q := by
  rcases hi with ⟨_, hno⟩ | ⟨q', o', rfl, hq', hp'⟩
  · exact absurd hp (hno q o ho)
  · obtain ⟨h1, e1⟩ := List.getElem?_eq_some_iff.1 ho
    obtain ⟨h2, e2⟩ := List.getElem?_eq_some_iff.1 hq'
    have hs := List.pairwise_iff_getElem.1 hR.srt
    rcases Nat.lt_trichotomy q q' with c | c | c
    · have := hs q q' h1 h2 c; rw [e1, e2] at this; omega
    · rw [c]
    · have := hs q' q h2 h1 c; rw [e1, e2] at this; omega
set_option maxHeartbeats 2000000 in
set_option maxRecDepth 100000 in
theorem r5_SetClass_yes (hR : R5 w h r g lv obs l) (x : Int) (hx : (Lit.int .i64 x).wf = true) {q : Nat} {o : Ob} (ho : obs[q]? = some o) (hp : (o.pos : Int) = x) (cl : Int) (c0 : 0 ≤ cl) (c1 : cl ≤ 65536) :
    Calls Try.prog 22 #[.pointer (some ⟨h, 0, none⟩), .int .i64 x, .int .i64 cl] w fun e w' => e = .returned (.bool true) ∧ (∃ gl c, lv = .slice (some ⟨gl, 0, none⟩) obs.length c ∧ G4 gl w w') ∧ R5 w' h r g lv (obs.set q { o with cls := cl }) l := by
  have hfind := r5_find hR x hx
  obtain ⟨k0, -⟩ := hR.c0
  obtain ⟨a, cap, hlv, hcap, hc⟩ := own_obs hR.ls
  obtain ⟨gl, rfl, hcell⟩ := hc q o ho
  have hql := (List.getElem?_eq_some_iff.1 ho).1
  have hfew := hR.few
  have hls := hR.ls
  have HS := Lib.hid (hR.putL ho hlv (j := 3) (u := .int .i64 cl) (o' := { o with cls := cl }) (by omega) rfl rfl rfl rfl rfl rfl)
  have k3 := hcell 3 _ (by omega) rfl
  rw [hlv] at hls
  have fz := own_live hls (q * 9 + 3)
  rw [hlv] at k0
  have HLV := Lib.hid hlv; have HR := Lib.hid hR; have HO := Lib.hid ho
  have HG : Hid (G4 gl w (w.setCell ⟨gl, q * 9 + 3, none⟩ (.int .i64 cl))) := Lib.hid ((G4.refl gl w).set _ _)
  have t1 : (q : Int) < (obs.length : Int) := by omega
  have t0 : (0 : Int) ≤ (q : Int) := by omega
  have t2 : ¬ (q : Int) < 0 := by omega
  have t3 : ¬ cl < 0 := by omega
  have t4 : ¬ 65536 < cl := by omega
  clear hR hc hcell hls hlv ho
  go_enter Try.func22, Try.ntmps22
  go_wp2_with fail
  refine hfind.mono ?_
  rintro e u1 ⟨i, rfl, hi, rfl⟩
  obtain rfl := idx_eq HR.out hi HO.out hp
  clear hi hfind hp
  dsimp only
  go_wp2_with fail
  go_ret
  exact ⟨rfl, ⟨gl, cap, HLV.out, HG.out⟩, HS.out⟩
end
end Go.Proofs.Ytljgnmbjidkjnaa.Rf5

namespace Go.Proofs.Ytljgnmbjidkjnaa.Rf5
open Go.Proofs.Ytljgnmbjidkjnaa.Gen Go.Proofs.Ytljgnmbjidkjnaa.Base Go.Proofs.Ytljgnmbjidkjnaa.Fr Go.Proofs.Ytljgnmbjidkjnaa.Hp Go.Proofs.Ytljgnmbjidkjnaa.Rf4 Go.ChangeShapes Go.WideShapes Go.ChangeAt Go.RowKit
set_option linter.unusedVariables false
section
variable {w w' : World} {h r g : Nat} {lv : Value} {obs : List Ob} {l : List Bool}
set_option maxHeartbeats 2000000 in
set_option maxRecDepth 100000 in
theorem r5_SetClass_no (hR : R5 w h r g lv obs l) (x : Int) (hx : (Lit.int .i64 x).wf = true) (cl : Int) (hcl : (Lit.int .i64 cl).wf = true) (hno : (∀ (q : Nat) o, obs[q]? = some o → (o.pos : Int) ≠ x) ∨ cl < 0 ∨ 65536 < cl) :
    Calls Try.prog 22 #[.pointer (some ⟨h, 0, none⟩), .int .i64 x, .int .i64 cl] w fun e w' => e = .returned (.bool false) ∧ w = w' := by
  have hfind := r5_find hR x hx
  have hfew := hR.few
  have HNO := Lib.hid hno
  clear hR hno
  go_enter Try.func22, Try.ntmps22
  go_wp2_with fail
  refine hfind.mono ?_
  rintro e u1 ⟨i, rfl, hi, rfl⟩
  clear hfind
  rcases hi with ⟨rfl, _⟩ | ⟨q, o, rfl, ho, hp⟩
  · dsimp only
    go_wp2_with fail
    go_ret
    exact ⟨rfl, rfl⟩
  · have hc : cl < 0 ∨ 65536 < cl := by
      rcases HNO.out with hh | hh
      · exact absurd hp (hh q o ho)
      · exact hh
    have t2 : ¬ (q : Int) < 0 := by omega
    have hql := (List.getElem?_eq_some_iff.1 ho).1
    clear ho hp
    dsimp only
    by_cases c1 : cl < 0
    · clear hc
      go_wp2_with fail
      go_ret
      exact ⟨rfl, rfl⟩
    · have c2 : 65536 < cl := by omega
      clear hc
      go_wp2_with fail
      go_ret
      exact ⟨rfl, rfl⟩
set_option maxHeartbeats 2000000 in
set_option maxRecDepth 100000 in
theorem r5_SetMark_no (hR : R5 w h r g lv obs l) (x : Int) (hx : (Lit.int .i64 x).wf = true) (cl : Int) (hcl : (Lit.int .i64 cl).wf = true) (fb : Bool) (hno : (∀ (q : Nat) o, obs[q]? = some o → (o.pos : Int) ≠ x) ∨ cl < 0 ∨ 2 < cl) :
    Calls Try.prog 24 #[.pointer (some ⟨h, 0, none⟩), .int .i64 x, .int .i64 cl, .bool fb] w fun e w' => e = .returned (.bool false) ∧ w = w' := by
  have hfind := r5_find hR x hx
  have hfew := hR.few
  have HNO := Lib.hid hno
  clear hR hno
  go_enter Try.func24, Try.ntmps24
  go_wp2_with fail
  refine hfind.mono ?_
  rintro e u1 ⟨i, rfl, hi, rfl⟩
  clear hfind
  rcases hi with ⟨rfl, _⟩ | ⟨q, o, rfl, ho, hp⟩
  · dsimp only
    go_wp2_with fail
    go_ret
    exact ⟨rfl, rfl⟩
  · have hc : cl < 0 ∨ 2 < cl := by
      rcases HNO.out with hh | hh
      · exact absurd hp (hh q o ho)
      · exact hh
    have t2 : ¬ (q : Int) < 0 := by omega
    have hql := (List.getElem?_eq_some_iff.1 ho).1
    clear ho hp
    dsimp only
    by_cases c1 : cl < 0
    · clear hc
      go_wp2_with fail
      go_ret
      exact ⟨rfl, rfl⟩
    · have c2 : 2 < cl := by omega
      clear hc
      go_wp2_with fail
      go_ret
      exact ⟨rfl, rfl⟩
end
end Go.Proofs.Ytljgnmbjidkjnaa.Rf5
