/- A heap in memory: its words, which of them are free, where objects begin. -/
import Derived.Test.YtljgnmbjidkjnaaFree11
import Derived.Test.YtljgnmbjidkjnaaStore
import Derived.Test.YtljgnmbjidkjnaaHead3
import Derived.Test.YtljgnmbjidkjnaaWord
namespace Go.Proofs.Ytljgnmbjidkjnaa.Hp
open Go.Proofs.Ytljgnmbjidkjnaa.Gen Go.Proofs.Ytljgnmbjidkjnaa.Base Go.Proofs.Ytljgnmbjidkjnaa.Fr Go.ChangeShapes Go.WideShapes Go.ChangeAt Go.RowKit
set_option linter.unusedVariables false
structure HB where
  h : Nat
  sb : Nat
  sg : Nat
  bb : Nat
  B : FB
def own (X : HB) (k : Nat) : Prop := k = X.h ∨ k = X.sb ∨ k = X.sg ∨ k = X.bb ∨ mine X.B k
structure HpAt (w : World) (X : HB) (ws : List Int) (l bg : List Bool) : Prop where
  row : w.heap[X.h]? = some (.cells #[.pointer (some ⟨X.sb, 0, none⟩), .pointer (some ⟨X.B.r, 0, none⟩), .slice (some ⟨X.bb, 0, none⟩) bg.length bg.length] 66 (0, 0))
  sto : Sr.Sto w X.sb X.sg ws
  free : FreeAt w X.B l
  bgn : w.heap[X.bb]? = some (.cells (bools bg).toArray 4 (0, 0))
  e1 : ws.length = bg.length
  e2 : l.length = bg.length
  d1 : X.h ≠ X.sb
  d2 : X.h ≠ X.sg
  d3 : X.h ≠ X.bb
  d4 : X.sb ≠ X.bb
  d5 : X.sg ≠ X.bb
  n1 : ¬ mine X.B X.h
  n2 : ¬ mine X.B X.sb
  n3 : ¬ mine X.B X.sg
  n4 : ¬ mine X.B X.bb
  wf : ∀ x ∈ ws, 0 ≤ x ∧ x ≤ 4294967295
structure HNx (X : HB) (w : World) (X' : HB) (w' : World) : Prop where
  os : w'.os = w.os
  tape : w'.tape = w.tape
  output : w'.output = w.output
  size : w.heap.size ≤ w'.heap.size
  block : ∀ k, k < w.heap.size → ¬ own X k → w'.heap[k]? = w.heap[k]?
  own : ∀ k, own X' k → own X k ∨ w.heap.size ≤ k
  h : X'.h = X.h
theorem HNx.refl (X : HB) (w : World) : HNx X w X w := ⟨rfl, rfl, rfl, Nat.le_refl _, fun _ _ _ => rfl, fun _ h => .inl h, rfl⟩
theorem HNx.trans {X X' X'' : HB} {w w' w'' : World} (h : HNx X w X' w') (k : HNx X' w' X'' w'') : HNx X w X'' w'' :=
  ⟨k.os.trans h.os, k.tape.trans h.tape, k.output.trans h.output, Nat.le_trans h.size k.size,
   fun i hi hm => (k.block i (Nat.lt_of_lt_of_le hi h.size) fun hm' => by rcases h.own i hm' with h1 | h1; exact hm h1; omega).trans (h.block i hi hm),
   fun i hm => by
     rcases k.own i hm with h1 | h1
     · exact h.own i h1
     · exact .inr (by have := h.size; omega),
   k.h.trans h.h⟩
theorem HNx.drewN (X : HB) (w : World) (q : Nat) : HNx X w X (w.drewN q) := ⟨rfl, rfl, rfl, Nat.le_refl _, fun _ _ _ => rfl, fun _ h => .inl h, rfl⟩
/-- Only new blocks have changed, and its own are new. -/
structure HOwn (w u : World) (X : HB) : Prop where
  below : Below w.heap.size w u
  own : ∀ k, own X k → w.heap.size ≤ k
theorem HOwn.nx {w u u' : World} {X X' : HB} (h : HOwn w u X) (hn : HNx X u X' u') : HOwn w u' X' :=
  ⟨h.below.trans ⟨hn.os, hn.tape, hn.output, hn.size, fun k hk => hn.block k (by have := h.below.size; omega) fun hm => by have := h.own k hm; omega⟩, fun k hk => by
    rcases hn.own k hk with h1 | h1
    · exact h.own k h1
    · have := h.below.size; omega⟩
theorem HOwn.grow {w u u' : World} {X : HB} (h : HOwn w u X) (hb : Below u.heap.size u u') : HOwn w u' X := ⟨h.below.trans (hb.mono h.below.size), h.own⟩
section
variable {w w' : World} {X : HB} {ws : List Int} {l bg : List Bool}
theorem HpAt.sg (h : HpAt w X ws l bg) : X.sb ≠ X.sg := h.sto.2.2.1
theorem HpAt.len (h : HpAt w X ws l bg) : bg.length ≤ 65536 := by have := h.free.len; have := h.e2; omega
theorem HpAt.lt (h : HpAt w X ws l bg) {k : Nat} (hk : own X k) : k < w.heap.size := by
  rcases hk with rfl | rfl | rfl | rfl | hk
  · exact (Array.getElem?_eq_some_iff.1 h.row).1
  · exact (Array.getElem?_eq_some_iff.1 h.sto.1).1
  · exact (Array.getElem?_eq_some_iff.1 h.sto.2.1).1
  · exact (Array.getElem?_eq_some_iff.1 h.bgn).1
  · exact h.free.mine_lt hk
theorem HpAt.keep (h : HpAt w X ws l bg) (hc : ∀ k, own X k → w'.heap[k]? = w.heap[k]?) : HpAt w' X ws l bg :=
  { h with
    row := by rw [hc _ (.inl rfl)]; exact h.row
    sto := h.sto.of_blocks (hc _ (.inr (.inl rfl))) (hc _ (.inr (.inr (.inl rfl))))
    free := h.free.keep fun k hk => hc k (.inr (.inr (.inr (.inr hk))))
    bgn := by rw [hc _ (.inr (.inr (.inr (.inl rfl))))]; exact h.bgn }
theorem HpAt.below (h : HpAt w X ws l bg) (hb : Below w.heap.size w w') : HpAt w' X ws l bg := h.keep fun k hk => hb.block k (h.lt hk)
/-- The words have changed, and nothing else. -/
theorem HpAt.words {ws' : List Int} (h : HpAt w X ws l bg) (hs : Sr.Sto w' X.sb X.sg ws') (hc : Sr.Chg X.sg w w') (hl : ws'.length = ws.length) (hw : ∀ x ∈ ws', 0 ≤ x ∧ x ≤ 4294967295) : HpAt w' X ws' l bg ∧ HNx X w X w' := by
  have hk : ∀ k, own X k → k ≠ X.sg → w'.heap[k]? = w.heap[k]? := fun k hk hne => hc.2.1 k (h.lt hk) hne
  refine ⟨{ h with
    row := by rw [hk _ (.inl rfl) h.d2]; exact h.row
    sto := hs
    free := h.free.keep fun k hm => hk k (.inr (.inr (.inr (.inr hm)))) fun e => h.n3 (e ▸ hm)
    bgn := by rw [hk _ (.inr (.inr (.inr (.inl rfl)))) (Ne.symm h.d5)]; exact h.bgn
    e1 := by rw [hl]; exact h.e1
    wf := hw }, ?_⟩
  exact ⟨hc.2.2.1, hc.2.2.2.1, hc.2.2.2.2, hc.1, fun k hk' hm => hc.2.1 k hk' fun e => hm (.inr (.inr (.inl e))), fun _ hh => .inl hh, rfl⟩
/-- What is free has changed, and nothing else. -/
theorem HpAt.frees {l' : List Bool} {B' : FB} (h : HpAt w X ws l bg) (hf : FreeAt w' B' l') (hn : Nx X.B w B' w') (hl : l'.length = l.length) : HpAt w' { X with B := B' } ws l' bg ∧ HNx X w { X with B := B' } w' := by
  have hk : ∀ k, own X k → ¬ mine X.B k → w'.heap[k]? = w.heap[k]? := fun k hk hm => hn.block k (h.lt hk) hm
  have hnm : ∀ k, own X k → ¬ mine X.B k → ¬ mine B' k := fun k hk hm hm' => by
    rcases hn.own k hm' with h1 | h1
    · exact hm h1
    · have := h.lt hk; omega
  have o1 : own X X.h := .inl rfl
  have o2 : own X X.sb := .inr (.inl rfl)
  have o3 : own X X.sg := .inr (.inr (.inl rfl))
  have o4 : own X X.bb := .inr (.inr (.inr (.inl rfl)))
  refine ⟨{
    row := by
      show w'.heap[X.h]? = _
      rw [hk _ o1 h.n1, h.row]; show some (Obj.cells #[_, .pointer (some ⟨X.B.r, 0, none⟩), _] _ _) = some (Obj.cells #[_, .pointer (some ⟨B'.r, 0, none⟩), _] _ _); rw [hn.r]
    sto := h.sto.of_blocks (hk _ o2 h.n2) (hk _ o3 h.n3)
    free := hf
    bgn := by show w'.heap[X.bb]? = _; rw [hk _ o4 h.n4]; exact h.bgn
    e1 := h.e1
    e2 := by rw [hl]; exact h.e2
    d1 := h.d1
    d2 := h.d2
    d3 := h.d3
    d4 := h.d4
    d5 := h.d5
    n1 := hnm _ o1 h.n1
    n2 := hnm _ o2 h.n2
    n3 := hnm _ o3 h.n3
    n4 := hnm _ o4 h.n4
    wf := h.wf }, ?_⟩
  refine ⟨hn.os, hn.tape, hn.output, hn.size, fun k hk' hm => hn.block k hk' fun e => hm (.inr (.inr (.inr (.inr e)))), fun k hh => ?_, rfl⟩
  rcases hh with hh | hh | hh | hh | hh
  · exact .inl (.inl hh)
  · exact .inl (.inr (.inl hh))
  · exact .inl (.inr (.inr (.inl hh)))
  · exact .inl (.inr (.inr (.inr (.inl hh))))
  · rcases hn.own k hh with h1 | h1
    · exact .inl (.inr (.inr (.inr (.inr h1))))
    · exact .inr h1
/-- A beginning has changed, and nothing else. -/
theorem HpAt.begin (h : HpAt w X ws l bg) (i : Nat) (v : Bool) : HpAt (w.setCell ⟨X.bb, i, none⟩ (.bool v)) X ws l (bg.set i v) ∧ HNx X w X (w.setCell ⟨X.bb, i, none⟩ (.bool v)) := by
  have hk : ∀ k, k ≠ X.bb → (w.setCell ⟨X.bb, i, none⟩ (.bool v)).heap[k]? = w.heap[k]? := fun k hk => heap_setCell_other _ _ _ _ hk
  refine ⟨{ h with
    row := by rw [hk _ h.d3, h.row]; simp
    sto := h.sto.of_blocks (hk _ h.d4) (hk _ h.d5)
    free := h.free.keep fun k hm => hk k fun e => h.n4 (e ▸ hm)
    bgn := by rw [heap_setCell_same w X.bb i _ _ _ h.bgn, bools_set]
    e1 := by simpa using h.e1
    e2 := by simpa using h.e2 }, ?_⟩
  exact ⟨rfl, rfl, rfl, by simp, fun k hk' hm => hk k fun e => hm (.inr (.inr (.inr (.inl e)))), fun _ hh => .inl hh, rfl⟩
theorem HpAt.c0 (h : HpAt w X ws l bg) : w.cell? ⟨X.h, 0, none⟩ = some (.pointer (some ⟨X.sb, 0, none⟩)) := by rw [cell_of_row w X.h 0 _ _ _ h.row]; rfl
theorem HpAt.c1 (h : HpAt w X ws l bg) : w.cell? ⟨X.h, 1, none⟩ = some (.pointer (some ⟨X.B.r, 0, none⟩)) := by rw [cell_of_row w X.h 1 _ _ _ h.row]; rfl
theorem HpAt.c2 (h : HpAt w X ws l bg) : w.cell? ⟨X.h, 2, none⟩ = some (.slice (some ⟨X.bb, 0, none⟩) bg.length bg.length) := by rw [cell_of_row w X.h 2 _ _ _ h.row]; rfl
theorem HpAt.cb (h : HpAt w X ws l bg) (i : Nat) (hi : i < bg.length) : w.cell? ⟨X.bb, i, none⟩ = some (.bool (o bg i)) := by rw [cell_of_row w X.bb i _ _ _ h.bgn]; simp [bools, hi, o]
theorem HpAt.fb (h : HpAt w X ws l bg) (i : Nat) : w.frozen? ⟨X.bb, i, none⟩ = false := frozen_of_row w X.bb i _ _ h.bgn
end
/-- Does an object begin at a place? -/
def hasB (bg : List Bool) (x : Int) : Bool := if 1 ≤ x ∧ x ≤ bg.length then o bg (x.toNat - 1) else false
section
variable {w : World} {X : HB} {ws : List Int} {l bg : List Bool}
theorem has_any (h : HpAt w X ws l bg) (x : Int) (hw : (Lit.int .i64 x).wf = true) :
    Calls Try.prog 26 #[.pointer (some ⟨X.h, 0, none⟩), .int .i64 x] w fun e w' => e = .returned (.bool (hasB bg x)) ∧ w = w' := by
  have c2 := h.c2
  have hle := h.len
  have hb := bounds_i64 hw
  by_cases hx : 1 ≤ x ∧ x ≤ (bg.length : Int)
  · have e : hasB bg x = o bg (x.toNat - 1) := by unfold hasB; rw [if_pos hx]
    rw [e]; clear e
    obtain ⟨k, hk⟩ : ∃ k : Nat, x = (k : Int) + 1 := ⟨(x - 1).toNat, by omega⟩
    subst hk
    have hc := h.cb k (by omega)
    have h1 : (1 : Int) ≤ (k : Int) + 1 := hx.1
    have h2 : (k : Int) + 1 ≤ (bg.length : Int) := hx.2
    have h3 : (k : Int) < (bg.length : Int) := by omega
    have d2 : decide ((k : Int) + 1 ≤ (bg.length : Int)) = true := by simpa using h2
    rw [show (((k : Int) + 1).toNat - 1) = k by omega]
    generalize o bg k = V at *
    clear h hx
    go_enter Try.func26, Try.ntmps26
    go_wp2
    go_ret
    exact ⟨rfl, rfl⟩
  · have e : hasB bg x = false := by unfold hasB; rw [if_neg hx]
    rw [e]; clear e
    by_cases h0 : 1 ≤ x
    · have h1 : ¬ x ≤ (bg.length : Int) := fun hh => hx ⟨h0, hh⟩
      have d1 : decide (x ≤ (bg.length : Int)) = false := by simpa using h1
      go_enter Try.func26, Try.ntmps26
      go_wp2
      go_ret
      exact ⟨rfl, rfl⟩
    · go_enter Try.func26, Try.ntmps26
      go_wp2
      go_ret
      exact ⟨rfl, rfl⟩
end
end Go.Proofs.Ytljgnmbjidkjnaa.Hp
