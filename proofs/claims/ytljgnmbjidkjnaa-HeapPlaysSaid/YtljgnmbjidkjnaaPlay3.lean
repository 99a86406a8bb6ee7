/- The words of a heap and the reference's objects say the same. Plain lists, no program. -/
/- What an object's words say when something of it is turned; a new object's words. Plain lists, no program. -/
/- What a heap answers, by the reference's objects. -/
import Derived.Test.YtljgnmbjidkjnaaHeap8
namespace Go.Proofs.Ytljgnmbjidkjnaa.Rf5
open Go.Proofs.Ytljgnmbjidkjnaa.Gen Go.Proofs.Ytljgnmbjidkjnaa.Base Go.Proofs.Ytljgnmbjidkjnaa.Fr Go.Proofs.Ytljgnmbjidkjnaa.Hp Go.Proofs.Ytljgnmbjidkjnaa.Rf4 Go.RowKit
set_option linter.unusedVariables false
/-- Where objects lie: their places and how many words they have. -/
structure Ex (N : Nat) (l bg : List Bool) (E : List (Nat × Nat)) : Prop where
  beg : ∀ x, o bg x = true ↔ ∃ a ∈ E, a.1 = x + 1
  cov : ∀ x, x < N → (o l x = false ↔ ∃ a ∈ E, a.1 ≤ x + 1 ∧ x + 1 < a.1 + a.2)
  dis : E.Pairwise fun a b => a.1 + a.2 ≤ b.1
  fit : ∀ a ∈ E, 1 ≤ a.1 ∧ 3 ≤ a.2 ∧ a.1 + a.2 ≤ N + 1
theorem pw_ne {E : List (Nat × Nat)} (h : E.Pairwise fun a b => a.1 + a.2 ≤ b.1) {i j : Nat} {a b : Nat × Nat} (hi : E[i]? = some a) (hj : E[j]? = some b) (hne : i ≠ j) : a.1 + a.2 ≤ b.1 ∨ b.1 + b.2 ≤ a.1 := by
  obtain ⟨h1, e1⟩ := List.getElem?_eq_some_iff.1 hi
  obtain ⟨h2, e2⟩ := List.getElem?_eq_some_iff.1 hj
  have hs := List.pairwise_iff_getElem.1 h
  rcases Nat.lt_or_ge i j with c | c
  · have := hs i j h1 h2 c; rw [e1, e2] at this; exact .inl this
  · have := hs j i h2 h1 (by omega); rw [e1, e2] at this; exact .inr this
theorem mem_er {α : Type} {E : List α} {q : Nat} {a : α} : a ∈ E.eraseIdx q ↔ ∃ i : Nat, i ≠ q ∧ E[i]? = some a := by
  rw [List.mem_iff_getElem?]
  constructor
  · rintro ⟨i, hi⟩
    rw [List.getElem?_eraseIdx] at hi
    split at hi
    · exact ⟨i, by omega, hi⟩
    · exact ⟨i + 1, by omega, hi⟩
  · rintro ⟨i, hne, hi⟩
    rcases Nat.lt_or_ge i q with c | c
    · exact ⟨i, by rw [List.getElem?_eraseIdx, if_pos c]; exact hi⟩
    · exact ⟨i - 1, by rw [List.getElem?_eraseIdx, if_neg (by omega), show i - 1 + 1 = i by omega]; exact hi⟩
section
variable {N : Nat} {l bg : List Bool} {E : List (Nat × Nat)}
theorem Ex.drop (hE : Ex N l bg E) (hl : l.length = N) (hb : bg.length = N) {q A T : Nat} (hq : E[q]? = some (A + 1, T)) : Ex N (setR l A T true) (bg.set A false) (E.eraseIdx q) := by
  have hf := hE.fit _ (List.mem_of_getElem? hq)
  have hset := o_set l A T true (by simp only at hf; omega)
  simp only at hf
  have ap : ∀ (i : Nat) a, E[i]? = some a → i ≠ q → a.1 + a.2 ≤ A + 1 ∨ A + 1 + T ≤ a.1 := fun i a hi hne => by
    rcases pw_ne hE.dis hi hq hne with c | c
    · exact .inl c
    · exact .inr c
  refine ⟨fun x => ?_, fun x hx => ?_, hE.dis.sublist (List.eraseIdx_sublist ..), fun a ha => hE.fit a (List.mem_of_mem_eraseIdx ha)⟩
  · rw [o_setl (by omega)]
    constructor
    · intro hh
      split at hh
      · cases hh
      · rename_i hne
        obtain ⟨a, ha, e⟩ := (hE.beg x).1 hh
        obtain ⟨i, hi⟩ := List.mem_iff_getElem?.1 ha
        exact ⟨a, mem_er.2 ⟨i, fun e' => by subst e'; rw [hq] at hi; cases hi; simp only at e; omega, hi⟩, e⟩
    · rintro ⟨a, ha, e⟩
      obtain ⟨i, hne, hi⟩ := mem_er.1 ha
      have := hE.fit a (List.mem_of_getElem? hi)
      rw [if_neg (by have := ap i a hi hne; omega)]
      exact (hE.beg x).2 ⟨a, List.mem_of_getElem? hi, e⟩
  · rw [hset]
    constructor
    · intro hh
      split at hh
      · cases hh
      · rename_i hout
        obtain ⟨a, ha, e⟩ := (hE.cov x hx).1 hh
        obtain ⟨i, hi⟩ := List.mem_iff_getElem?.1 ha
        exact ⟨a, mem_er.2 ⟨i, fun e' => by subst e'; rw [hq] at hi; cases hi; simp only at e; omega, hi⟩, e⟩
    · rintro ⟨a, ha, e1, e2⟩
      obtain ⟨i, hne, hi⟩ := mem_er.1 ha
      rw [if_neg (by have := ap i a hi hne; omega)]
      exact (hE.cov x hx).2 ⟨a, List.mem_of_getElem? hi, e1, e2⟩
/-- Nothing lies where all is free. -/
theorem Ex.free (hE : Ex N l bg E) {A T : Nat} (hT : 3 ≤ T) (hle : A + T ≤ N) (hall : ∀ i, A ≤ i → i < A + T → o l i = true) : ∀ a ∈ E, a.1 + a.2 ≤ A + 1 ∨ A + 1 + T ≤ a.1 := fun a ha => by
  have hf := hE.fit a ha
  rcases Classical.em (a.1 - 1 + a.2 ≤ A ∨ A + T ≤ a.1 - 1) with d | d
  · omega
  · obtain ⟨x, x1, x2, x3, x4⟩ := overlap (A := A) (N := T) (a' := a.1 - 1) (n' := a.2) d (by omega) (by omega)
    have := (hE.cov x (by omega)).2 ⟨a, ha, by omega, by omega⟩
    rw [hall x x3 x4] at this; cases this
theorem Ex.make (hE : Ex N l bg E) (hl : l.length = N) (hb : bg.length = N) {k A T : Nat} (hT : 3 ≤ T) (hle : A + T ≤ N) (hall : ∀ i, A ≤ i → i < A + T → o l i = true) (f6 : ∀ a ∈ E.take k, a.1 < A + 1) (f7 : ∀ a ∈ E.drop k, A + 1 < a.1) :
    Ex N (setR l A T false) (bg.set A true) (E.take k ++ (A + 1, T) :: E.drop k) := by
  have hset := o_set l A T false (by omega)
  have ap := hE.free hT hle hall
  have hm : ∀ a, a ∈ E.take k ++ (A + 1, T) :: E.drop k ↔ a = (A + 1, T) ∨ a ∈ E := fun a => by
    have e : a ∈ E ↔ a ∈ E.take k ∨ a ∈ E.drop k := by rw [← List.mem_append, List.take_append_drop]
    rw [List.mem_append, List.mem_cons, e]
    constructor
    · rintro (h | h | h)
      · exact .inr (.inl h)
      · exact .inl h
      · exact .inr (.inr h)
    · rintro (h | h | h)
      · exact .inr (.inl h)
      · exact .inl h
      · exact .inr (.inr h)
  refine ⟨fun x => ?_, fun x hx => ?_, ?_, fun a ha => ?_⟩
  · rw [o_setl (by omega)]
    constructor
    · intro hh
      split at hh
      · rename_i e; exact ⟨_, (hm _).2 (.inl rfl), by simp only; omega⟩
      · obtain ⟨a, ha, e⟩ := (hE.beg x).1 hh
        exact ⟨a, (hm a).2 (.inr ha), e⟩
    · rintro ⟨a, ha, e⟩
      split
      · rfl
      · rename_i hne
        rcases (hm a).1 ha with rfl | ha
        · exact absurd (by simp only at e; omega) hne
        · exact (hE.beg x).2 ⟨a, ha, e⟩
  · rw [hset]
    constructor
    · intro hh
      split at hh
      · rename_i hin; exact ⟨_, (hm _).2 (.inl rfl), by simp only; omega, by simp only; omega⟩
      · obtain ⟨a, ha, e⟩ := (hE.cov x hx).1 hh
        exact ⟨a, (hm a).2 (.inr ha), e⟩
    · rintro ⟨a, ha, e1, e2⟩
      split
      · rfl
      · rename_i hout
        rcases (hm a).1 ha with rfl | ha
        · simp only at e1 e2; exact absurd ⟨by omega, by omega⟩ hout
        · exact (hE.cov x hx).2 ⟨a, ha, e1, e2⟩
  · have e := hE.dis
    rw [← List.take_append_drop k E, List.pairwise_append] at e
    rw [List.pairwise_append, List.pairwise_cons]
    refine ⟨e.1, ⟨fun b hb => ?_, e.2.1⟩, fun p hp q hq => ?_⟩
    · have := ap b (List.mem_of_mem_drop hb); have := f7 b hb; have := hE.fit b (List.mem_of_mem_drop hb); simp only; omega
    · rcases List.mem_cons.1 hq with rfl | hq
      · have := ap p (List.mem_of_mem_take hp); have := f6 p hp; have := hE.fit p (List.mem_of_mem_take hp); simp only; omega
      · exact e.2.2 p hp q hq
  · rcases (hm a).1 ha with rfl | ha
    · simp only; omega
    · exact hE.fit a ha
end
def Ob.S (p : Ob) : Nat := p.wds - 3
def Ob.O (p : Ob) : Nat := if p.fmt = 3 then p.S * 4 - p.B.length else 0
/-- An object's words. -/
structure One (ws : List Int) (p : Ob) : Prop where
  kind : ((p.fmt = 1 ∨ p.fmt = 2) ∧ p.F.length = p.S ∧ p.B = [] ∧ p.S ≤ 60) ∨ (p.fmt = 3 ∧ p.F = [] ∧ p.B.length ≤ 200 ∧ p.S = (p.B.length + 3) / 4)
  wds : 3 ≤ p.wds
  pos : 1 ≤ p.pos
  col : 0 ≤ p.col ∧ p.col ≤ 2
  cls : 0 ≤ p.cls ∧ p.cls ≤ 65536
  hash : 0 ≤ p.hash ∧ p.hash ≤ 3000
  Bw : ∀ v ∈ p.B, 0 ≤ v ∧ v ≤ 255
  w0 : ws[p.pos - 1]?.getD 0 = Hd.hput p.S p.fmt p.O p.col p.fin true
  w1 : ws[p.pos]?.getD 0 = Wd.wr p.cls
  w2 : ws[p.pos + 1]?.getD 0 = Wd.wi p.hash
  wF : ∀ j, j < p.F.length → ws[p.pos + 2 + j]?.getD 0 = p.F[j]?.getD 0
  wB : ∀ j, j < p.B.length → byt (j % 4) (ws[p.pos + 2 + j / 4]?.getD 0) = p.B[j]?.getD 0
theorem Ob.wS (p : Ob) (h : 3 ≤ p.wds) : p.wds = 3 + p.S := by unfold Ob.S; omega
theorem One.far {ws ws' : List Int} {p : Ob} (h : One ws p) (hw : ∀ x, p.pos ≤ x + 1 → x + 1 < p.pos + p.wds → ws'[x]?.getD 0 = ws[x]?.getD 0) : One ws' p := by
  have e := p.wS h.wds
  have hp := h.pos
  have hk := h.kind
  exact { h with
    w0 := (hw _ (by omega) (by omega)).trans h.w0
    w1 := (hw _ (by omega) (by omega)).trans h.w1
    w2 := (hw _ (by omega) (by omega)).trans h.w2
    wF := fun j hj => by
      rcases hk with ⟨_, k2, _⟩ | ⟨_, k2, _⟩
      · exact (hw _ (by omega) (by omega)).trans (h.wF j hj)
      · rw [k2] at hj; simp at hj
    wB := fun j hj => by
      rcases hk with ⟨_, _, k2, _⟩ | ⟨_, _, k2, k3⟩
      · rw [k2] at hj; simp at hj
      · rw [hw _ (by omega) (by omega)]; exact h.wB j hj }
def Ob.ext (p : Ob) : Nat × Nat := (p.pos, p.wds)
structure Kr (N : Nat) (ws : List Int) (l bg : List Bool) (obs : List Ob) : Prop where
  lw : ws.length = N
  ll : l.length = N
  lb : bg.length = N
  one : ∀ p ∈ obs, One ws p
  ex : Ex N l bg (obs.map Ob.ext)
section
variable {N : Nat} {ws ws' : List Int} {l bg : List Bool} {obs : List Ob}
theorem Kr.zero (N : Nat) : Kr N (List.replicate N 0) (List.replicate N true) (List.replicate N false) [] where
  lw := List.length_replicate
  ll := List.length_replicate
  lb := List.length_replicate
  one := fun p hp => by simp at hp
  ex := ⟨fun x => by
      rw [o_rep]
      constructor
      · intro hh; split at hh <;> cases hh
      · rintro ⟨a, ha, _⟩; simp at ha, fun x hx => by
      rw [o_rep, if_pos hx]
      constructor
      · intro hh; cases hh
      · rintro ⟨a, ha, _⟩; simp at ha, List.Pairwise.nil, fun a ha => by simp at ha⟩
theorem Kr.at (hK : Kr N ws l bg obs) {q : Nat} {p : Ob} (hq : obs[q]? = some p) : (obs.map Ob.ext)[q]? = some (p.pos, p.wds) := by rw [List.getElem?_map, hq]; rfl
theorem Kr.fit (hK : Kr N ws l bg obs) {p : Ob} (hp : p ∈ obs) : 1 ≤ p.pos ∧ 3 ≤ p.wds ∧ p.pos + p.wds ≤ N + 1 := hK.ex.fit (p.ext) (List.mem_map_of_mem hp)
theorem Kr.apart (hK : Kr N ws l bg obs) {q q' : Nat} {p p' : Ob} (hq : obs[q]? = some p) (hq' : obs[q']? = some p') (hne : q ≠ q') : p.pos + p.wds ≤ p'.pos ∨ p'.pos + p'.wds ≤ p.pos := pw_ne hK.ex.dis (hK.at hq) (hK.at hq') hne
/-- An object's words are turned, no others are. -/
theorem Kr.upd (hK : Kr N ws l bg obs) {q : Nat} {p p' : Ob} (hq : obs[q]? = some p) (he : p'.ext = p.ext) (h1 : One ws' p') (hl : ws'.length = ws.length) (hw : ∀ x, x + 1 < p.pos ∨ p.pos + p.wds ≤ x + 1 → ws'[x]?.getD 0 = ws[x]?.getD 0) : Kr N ws' l bg (obs.set q p') where
  lw := hl.trans hK.lw
  ll := hK.ll
  lb := hK.lb
  one := fun r hr => by
    rcases mem_set (o := p) hr with rfl | ⟨q', hne, hq'⟩
    · exact h1
    · exact (hK.one r (List.mem_of_getElem? hq')).far fun x x1 x2 => hw x (by have := hK.apart hq hq' (Ne.symm hne); omega)
  ex := by
    have e : (obs.set q p').map Ob.ext = obs.map Ob.ext := by
      rw [List.map_set, he]
      apply List.ext_getElem?
      intro i
      rw [List.getElem?_set]
      by_cases c : q = i
      · subst c; have := List.getElem?_eq_some_iff.1 (hK.at hq); simp only [if_true]; rw [if_pos this.1, hK.at hq]; rfl
      · rw [if_neg c]
    rw [e]; exact hK.ex
theorem Kr.hasno (hK : Kr N ws l bg obs) {x : Int} (hno : ∀ (q : Nat) p, obs[q]? = some p → (p.pos : Int) ≠ x) : hasB bg x = false := by
  unfold hasB
  split
  · rename_i hx
    cases hb : o bg (x.toNat - 1)
    · rfl
    · obtain ⟨a, ha, e⟩ := (hK.ex.beg _).1 hb
      obtain ⟨p, hp, rfl⟩ := List.mem_map.1 ha
      obtain ⟨q, hq⟩ := List.mem_iff_getElem?.1 hp
      exact absurd (by simp only [Ob.ext] at e; omega) (hno q p hq)
  · rfl
theorem Kr.has (hK : Kr N ws l bg obs) {q : Nat} {p : Ob} (hq : obs[q]? = some p) {x : Int} (hx : (p.pos : Int) = x) : hasB bg x = true ∧ headW ws bg x = Hd.hput p.S p.fmt p.O p.col p.fin true := by
  have hm := List.mem_of_getElem? hq
  have hf := hK.fit hm
  have h1 := hK.one p hm
  obtain ⟨A, hA⟩ : ∃ A, p.pos = A + 1 := ⟨p.pos - 1, by omega⟩
  have ex : x = (A : Int) + 1 := by omega
  have hb : hasB bg x = true := by
    rw [ex, hasB_nat _ _ (by rw [hK.lb]; omega)]
    exact (hK.ex.beg A).2 ⟨p.ext, List.mem_map_of_mem hm, hA⟩
  refine ⟨hb, ?_⟩
  rw [ex] at hb ⊢
  rw [head_at hb (by rw [hK.lw]; omega), ← h1.w0, hA, Nat.add_sub_cancel]
theorem Kr.drop (hK : Kr N ws l bg obs) {q A : Nat} {p : Ob} (hq : obs[q]? = some p) (hA : p.pos = A + 1) : Kr N ws (setR l A p.wds true) (bg.set A false) (obs.eraseIdx q) where
  lw := hK.lw
  ll := by rw [setR_len]; exact hK.ll
  lb := by simpa using hK.lb
  one := fun r hr => hK.one r (List.mem_of_mem_eraseIdx hr)
  ex := by
    have e : (obs.eraseIdx q).map Ob.ext = (obs.map Ob.ext).eraseIdx q := by simp [List.eraseIdx_eq_take_drop_succ, List.map_take, List.map_drop]
    rw [e]
    exact hK.ex.drop hK.ll hK.lb (by rw [hK.at hq, hA])
theorem Kr.make (hK : Kr N ws l bg obs) {k A : Nat} {p : Ob} (hA : p.pos = A + 1) (hle : A + p.wds ≤ N) (hall : ∀ i, A ≤ i → i < A + p.wds → o l i = true) (f6 : ∀ r ∈ obs.take k, r.pos < p.pos) (f7 : ∀ r ∈ obs.drop k, p.pos < r.pos)
    (h1 : One ws' p) (hl : ws'.length = ws.length) (hw : ∀ x, x < A ∨ A + p.wds ≤ x → ws'[x]?.getD 0 = ws[x]?.getD 0) : Kr N ws' (setR l A p.wds false) (bg.set A true) (obs.take k ++ p :: obs.drop k) where
  lw := hl.trans hK.lw
  ll := by rw [setR_len]; exact hK.ll
  lb := by simpa using hK.lb
  one := fun r hr => by
    have old : r ∈ obs → One ws' r := fun hr => (hK.one r hr).far fun x x1 x2 => hw x (by
      have := hK.ex.free h1.wds hle hall r.ext (List.mem_map_of_mem hr)
      simp only [Ob.ext] at this; omega)
    rcases List.mem_append.1 hr with e | e
    · exact old (List.mem_of_mem_take e)
    · rcases List.mem_cons.1 e with rfl | e
      · exact h1
      · exact old (List.mem_of_mem_drop e)
  ex := by
    have e : (obs.take k ++ p :: obs.drop k).map Ob.ext = (obs.map Ob.ext).take k ++ (A + 1, p.wds) :: (obs.map Ob.ext).drop k := by simp [Ob.ext, hA, List.map_take, List.map_drop]
    rw [e]
    refine hK.ex.make hK.ll hK.lb h1.wds hle hall (fun a ha => ?_) (fun a ha => ?_)
    · rw [← List.map_take] at ha
      obtain ⟨r, hr, rfl⟩ := List.mem_map.1 ha
      have := f6 r hr; simp only [Ob.ext]; omega
    · rw [← List.map_drop] at ha
      obtain ⟨r, hr, rfl⟩ := List.mem_map.1 ha
      have := f7 r hr; simp only [Ob.ext]; omega
end
end Go.Proofs.Ytljgnmbjidkjnaa.Rf5

namespace Go.Proofs.Ytljgnmbjidkjnaa.Rf5
open Go.Proofs.Ytljgnmbjidkjnaa.Gen Go.Proofs.Ytljgnmbjidkjnaa.Base Go.Proofs.Ytljgnmbjidkjnaa.Fr Go.Proofs.Ytljgnmbjidkjnaa.Hp Go.Proofs.Ytljgnmbjidkjnaa.Rf4 Go.RowKit
set_option linter.unusedVariables false
section
variable {ws : List Int} {p : Ob}
theorem One.len (h : One ws p) : p.F.length ≤ p.S ∧ p.B.length ≤ p.S * 4 ∧ p.S ≤ 60 := by
  rcases h.kind with ⟨_, k2, k3, k4⟩ | ⟨_, k2, k3, k4⟩
  · rw [k3]; simp; omega
  · rw [k2]; simp; omega
theorem One.field (h : One ws p) (hl : p.pos - 1 + p.wds ≤ ws.length) {k : Nat} (hk : k < p.F.length) (v : Int) : One (ws.set (p.pos + 2 + k) v) { p with F := p.F.set k v } := by
  have hw := p.wS h.wds
  have hp := h.pos
  have hn := h.len
  have key : p.B = [] := by
    rcases h.kind with ⟨_, k2, k3, k4⟩ | ⟨_, k2, k3, k4⟩
    · exact k3
    · rw [k2] at hk; simp at hk
  have hs := fun i => set_at ws (p.pos + 2 + k) i v (by omega)
  exact
  { kind := by
      rcases h.kind with ⟨k1, k2, k3, k4⟩ | ⟨k1, k2, k3, k4⟩
      · exact .inl ⟨k1, by simpa [Ob.S] using k2, k3, k4⟩
      · rw [k2] at hk; simp at hk
    wds := h.wds
    pos := h.pos
    col := h.col
    cls := h.cls
    hash := h.hash
    Bw := h.Bw
    w0 := (by rw [hs, if_neg (by simp only; omega)] : _ = ws[p.pos - 1]?.getD 0).trans h.w0
    w1 := (by rw [hs, if_neg (by simp only; omega)] : _ = ws[p.pos]?.getD 0).trans h.w1
    w2 := (by rw [hs, if_neg (by simp only; omega)] : _ = ws[p.pos + 1]?.getD 0).trans h.w2
    wF := fun j hj => by
      have hj' : j < p.F.length := by simpa using hj
      show (ws.set (p.pos + 2 + k) v)[p.pos + 2 + j]?.getD 0 = (p.F.set k v)[j]?.getD 0
      rw [hs, set_at p.F k j v hk, h.wF j hj']
      by_cases e : j = k
      · rw [if_pos e, if_pos (by omega)]
      · rw [if_neg e, if_neg (by omega)]
    wB := fun j hj => by rw [show (({ p with F := p.F.set k v } : Ob)).B = [] from key] at hj; simp at hj }
theorem One.byte (h : One ws p) (hl : p.pos - 1 + p.wds ≤ ws.length) (hwf : ∀ y ∈ ws, 0 ≤ y ∧ y ≤ 4294967295) {k : Nat} (hk : k < p.B.length) (v : Int) : One (ws.set (p.pos + 2 + k / 4) (setb (k % 4) (ws[p.pos + 2 + k / 4]?.getD 0) v)) { p with B := p.B.set k (v % 256) } := by
  have hw := p.wS h.wds
  have hp := h.pos
  have hn := h.len
  have key : p.fmt = 3 ∧ p.F = [] ∧ p.B.length ≤ 200 ∧ p.S = (p.B.length + 3) / 4 := by
    rcases h.kind with ⟨_, k2, k3, k4⟩ | hh
    · rw [k3] at hk; simp at hk
    · exact hh
  obtain ⟨k1, k2, k3, k4⟩ := key
  have hin : p.pos + 2 + k / 4 < ws.length := by omega
  have hs := fun i => set_at ws (p.pos + 2 + k / 4) i (setb (k % 4) (ws[p.pos + 2 + k / 4]?.getD 0) v) hin
  have hwd : 0 ≤ ws[p.pos + 2 + k / 4]?.getD 0 ∧ ws[p.pos + 2 + k / 4]?.getD 0 ≤ 4294967295 := by
    rw [List.getElem?_eq_getElem hin]; exact hwf _ (List.getElem_mem _)
  exact
  { kind := .inr ⟨k1, k2, by simpa using k3, by simpa [Ob.S] using k4⟩
    wds := h.wds
    pos := h.pos
    col := h.col
    cls := h.cls
    hash := h.hash
    Bw := fun y hy => by
      rcases List.mem_or_eq_of_mem_set hy with hy | rfl
      · exact h.Bw y hy
      · omega
    w0 := by
      have e : ({ p with B := p.B.set k (v % 256) } : Ob).O = p.O := by simp [Ob.O, Ob.S]
      rw [e]
      exact (by rw [hs, if_neg (by simp only; omega)] : _ = ws[p.pos - 1]?.getD 0).trans h.w0
    w1 := (by rw [hs, if_neg (by simp only; omega)] : _ = ws[p.pos]?.getD 0).trans h.w1
    w2 := (by rw [hs, if_neg (by simp only; omega)] : _ = ws[p.pos + 1]?.getD 0).trans h.w2
    wF := fun j hj => by rw [show (({ p with B := p.B.set k (v % 256) } : Ob)).F = [] from k2] at hj; simp at hj
    wB := fun j hj => by
      have hj' : j < p.B.length := by simpa using hj
      show byt (j % 4) ((ws.set (p.pos + 2 + k / 4) (setb (k % 4) (ws[p.pos + 2 + k / 4]?.getD 0) v))[p.pos + 2 + j / 4]?.getD 0) = (p.B.set k (v % 256))[j]?.getD 0
      rw [hs, set_at p.B k j (v % 256) hk, ← h.wB j hj']
      by_cases c : j / 4 = k / 4
      · rw [if_pos (by omega), byt_setb (k % 4) (j % 4) (by omega) (by omega) _ _ hwd.1 hwd.2, c]
        by_cases e : j = k
        · rw [if_pos e, if_pos (by omega)]
        · rw [if_neg e, if_neg (by omega)]
      · rw [if_neg (by omega), if_neg (by omega)] }
theorem One.setCls (h : One ws p) (hl : p.pos - 1 + p.wds ≤ ws.length) (c : Int) (c0 : 0 ≤ c) (c1 : c ≤ 65536) : One (ws.set p.pos (Wd.wr c)) { p with cls := c } := by
  have hw := p.wS h.wds
  have hp := h.pos
  have hn := h.len
  have hs := fun i => set_at ws p.pos i (Wd.wr c) (by omega)
  exact
  { kind := h.kind
    wds := h.wds
    pos := h.pos
    col := h.col
    cls := ⟨c0, c1⟩
    hash := h.hash
    Bw := h.Bw
    w0 := (by rw [hs, if_neg (by simp only; omega)] : _ = ws[p.pos - 1]?.getD 0).trans h.w0
    w1 := by rw [hs, if_pos rfl]
    w2 := (by rw [hs, if_neg (by simp only; omega)] : _ = ws[p.pos + 1]?.getD 0).trans h.w2
    wF := fun j hj => (by rw [hs, if_neg (by simp only; omega)] : _ = ws[p.pos + 2 + j]?.getD 0).trans (h.wF j hj)
    wB := fun j hj => by rw [hs, if_neg (by simp only; omega)]; exact h.wB j hj }
theorem One.setMark (h : One ws p) (hl : p.pos - 1 + p.wds ≤ ws.length) (c : Int) (c0 : 0 ≤ c) (c1 : c ≤ 2) (f : Bool) : One (ws.set (p.pos - 1) (Hd.hput p.S p.fmt p.O c f true)) { p with col := c, fin := f } := by
  have hw := p.wS h.wds
  have hp := h.pos
  have hn := h.len
  have hs := fun i => set_at ws (p.pos - 1) i (Hd.hput p.S p.fmt p.O c f true) (by omega)
  exact
  { kind := h.kind
    wds := h.wds
    pos := h.pos
    col := ⟨c0, c1⟩
    cls := h.cls
    hash := h.hash
    Bw := h.Bw
    w0 := by rw [hs, if_pos rfl]; rfl
    w1 := (by rw [hs, if_neg (by simp only; omega)] : _ = ws[p.pos]?.getD 0).trans h.w1
    w2 := (by rw [hs, if_neg (by simp only; omega)] : _ = ws[p.pos + 1]?.getD 0).trans h.w2
    wF := fun j hj => (by rw [hs, if_neg (by simp only; omega)] : _ = ws[p.pos + 2 + j]?.getD 0).trans (h.wF j hj)
    wB := fun j hj => by rw [hs, if_neg (by simp only; omega)]; exact h.wB j hj }
end
theorem byt_0 (c : Nat) : byt c 0 = 0 := by unfold byt; simp
/-- A new object with fields. -/
theorem One.newF (ws : List Int) (A S f c hs : Nat) (hf : f = 1 ∨ f = 2) (hS : S ≤ 60) (hc : c ≤ 65536) (hh : hs ≤ 3000) (fv bv : Value) (hl : A + 3 + S ≤ ws.length) :
    One (mkW ws A S (Hd.hput S f (0 : Nat) 0 false true) (Wd.wr c) (Wd.wi hs) 1) (mkOb (A + 1) (3 + S) f c hs fv (List.replicate S 1) bv []) := by
  have hat := fun i => mkW_at ws A S (Hd.hput S f (0 : Nat) 0 false true) (Wd.wr c) (Wd.wi hs) 1 i hl
  have hf3 : f ≠ 3 := by omega
  exact
  { kind := .inl ⟨by simpa [mkOb] using hf, by simp [mkOb, Ob.S], rfl, by simp [mkOb, Ob.S]; omega⟩
    wds := by simp [mkOb]
    pos := by simp [mkOb]
    col := by simp [mkOb]
    cls := by simp only [mkOb]; omega
    hash := by simp only [mkOb]; omega
    Bw := fun v hv => by simp [mkOb] at hv
    w0 := by simp only [mkOb, Ob.S, Ob.O, if_neg hf3, Nat.add_sub_cancel, Nat.add_sub_cancel_left]; rw [hat, if_pos rfl]
    w1 := by simp only [mkOb]; rw [hat, if_neg (by omega), if_pos rfl]
    w2 := by simp only [mkOb]; rw [hat, if_neg (by omega), if_neg (by omega), if_pos (by omega)]
    wF := fun j hj => by
      simp only [mkOb, List.length_replicate] at hj ⊢
      rw [hat, if_neg (by omega), if_neg (by omega), if_neg (by omega), if_pos (by omega)]; simp [hj]
    wB := fun j hj => by simp [mkOb] at hj }
/-- A new object with bytes. -/
theorem One.newB (ws : List Int) (A S O n c hs : Nat) (hn : n ≤ 200) (hS : S = (n + 3) / 4) (hO : O = S * 4 - n) (hc : c ≤ 65536) (hh : hs ≤ 3000) (fv bv : Value) (hl : A + 3 + S ≤ ws.length) :
    One (mkW ws A S (Hd.hput S (3 : Nat) O 0 false true) (Wd.wr c) (Wd.wi hs) 0) (mkOb (A + 1) (3 + S) 3 c hs fv [] bv (List.replicate n 0)) := by
  have hat := fun i => mkW_at ws A S (Hd.hput S (3 : Nat) O 0 false true) (Wd.wr c) (Wd.wi hs) 0 i hl
  exact
  { kind := .inr ⟨rfl, rfl, by simpa [mkOb] using hn, by simpa [mkOb, Ob.S] using hS⟩
    wds := by simp [mkOb]
    pos := by simp [mkOb]
    col := by simp [mkOb]
    cls := by simp only [mkOb]; omega
    hash := by simp only [mkOb]; omega
    Bw := fun v hv => by simp [mkOb] at hv; omega
    w0 := by simp only [mkOb, Ob.S, Ob.O, if_true, Nat.add_sub_cancel, Nat.add_sub_cancel_left, List.length_replicate]; rw [hat, if_pos rfl, hO]
    w1 := by simp only [mkOb]; rw [hat, if_neg (by omega), if_pos rfl]
    w2 := by simp only [mkOb]; rw [hat, if_neg (by omega), if_neg (by omega), if_pos (by omega)]
    wF := fun j hj => by simp [mkOb] at hj
    wB := fun j hj => by
      simp only [mkOb, List.length_replicate] at hj ⊢
      rw [hat, if_neg (by omega), if_neg (by omega), if_neg (by omega), if_pos (by omega), byt_0]; simp [hj] }
end Go.Proofs.Ytljgnmbjidkjnaa.Rf5

namespace Go.Proofs.Ytljgnmbjidkjnaa.Rf5
open Go.Proofs.Ytljgnmbjidkjnaa.Gen Go.Proofs.Ytljgnmbjidkjnaa.Base Go.Proofs.Ytljgnmbjidkjnaa.Fr Go.Proofs.Ytljgnmbjidkjnaa.Hp Go.Proofs.Ytljgnmbjidkjnaa.Rf4 Go.ChangeShapes Go.WideShapes Go.ChangeAt Go.RowKit
set_option linter.unusedVariables false
theorem hp0 (S f O c : Int) (fi lv : Bool) (hS : 0 ≤ S) (hS2 : S < 65536) (hf : 0 ≤ f) (hf2 : f < 4) (hO : 0 ≤ O) (hO2 : O < 4) (hc : 0 ≤ c) (hc2 : c < 4) :
    Hd.hsiz (Hd.hput S f O c fi lv) = S ∧ Hd.hfmt (Hd.hput S f O c fi lv) = f ∧ Hd.hodd (Hd.hput S f O c fi lv) = O ∧ Hd.hcol (Hd.hput S f O c fi lv) = c ∧ Hd.hfin (Hd.hput S f O c fi lv) = fi ∧ Hd.hliv (Hd.hput S f O c fi lv) = lv := by
  have e1 := Hd.siz_put (s := S) f O c fi lv 0 hS hS2
  have e2 := Hd.fmt_put S (f := f) O c fi lv 0 hf hf2
  have e3 := Hd.odd_put S f (o := O) c fi lv 0 hO hO2
  have e4 := Hd.col_put S f O (c := c) fi lv 0 hc hc2
  have e5 := Hd.fin_put S f O c fi lv 0
  have e6 := Hd.liv_put S f O c fi lv 0
  simp only [Int.zero_mul, Int.add_zero] at e1 e2 e3 e4 e5 e6
  exact ⟨e1, e2, e3, e4, e5, e6⟩
section
variable {w : World} {X : HB} {ws : List Int} {l bg : List Bool} {N : Nat} {obs : List Ob} {p : Ob}
theorem One.O3 (h : One ws p) : p.O < 4 ∧ (p.fmt = 1 ∨ p.fmt = 2 ∨ p.fmt = 3) := by
  rcases h.kind with ⟨k1, k2, k3, k4⟩ | ⟨k1, k2, k3, k4⟩
  · unfold Ob.O; rw [if_neg (by omega)]; omega
  · unfold Ob.O; rw [if_pos k1]; omega
theorem One.head (h : One ws p) : Hd.hsiz (Hd.hput p.S p.fmt p.O p.col p.fin true) = p.S ∧ Hd.hfmt (Hd.hput p.S p.fmt p.O p.col p.fin true) = p.fmt ∧ Hd.hodd (Hd.hput p.S p.fmt p.O p.col p.fin true) = p.O ∧ Hd.hcol (Hd.hput p.S p.fmt p.O p.col p.fin true) = p.col ∧ Hd.hfin (Hd.hput p.S p.fmt p.O p.col p.fin true) = p.fin ∧ Hd.hliv (Hd.hput p.S p.fmt p.O p.col p.fin true) = true := by
  have h1 := h.O3
  have h2 := h.len
  have h3 := h.col
  exact hp0 _ _ _ _ _ _ (by omega) (by omega) (by omega) (by omega) (by omega) (by omega) (by omega) (by omega)
theorem One.size (h : One ws p) : sizW (Hd.hput p.S p.fmt p.O p.col p.fin true) = (p.F.length : Int) + p.B.length := by
  obtain ⟨e1, e2, e3, _⟩ := h.head
  unfold sizW
  rw [e1, e2, e3]
  rcases h.kind with ⟨k1, k2, k3, k4⟩ | ⟨k1, k2, k3, k4⟩
  · rw [if_neg (by omega), k2, k3]; simp
  · rw [if_pos (by omega), k2]
    unfold Ob.O
    rw [if_pos k1]
    simp only [List.length_nil]
    omega
/-- Where nothing begins, the first word is none. -/
theorem head_no {x : Int} (h : hasB bg x = false) : headW ws bg x = 0 := by unfold headW; rw [h]; rfl
theorem hd_zero : Hd.hfmt 0 = 0 ∧ Hd.hcol 0 = 0 ∧ Hd.hfin 0 = false := by decide
theorem Got.fun {x : Int} {o o' : Ob} {b b' : Bool} (hR : obs.Pairwise fun p q => p.pos < q.pos) (h1 : Got obs x o b) (h2 : Got obs x o' b') : o = o' ∧ b = b' := by
  rcases h1 with ⟨rfl, rfl, n1⟩ | ⟨rfl, q, hq, hp⟩ <;> rcases h2 with ⟨rfl, rfl, n2⟩ | ⟨rfl, q', hq', hp'⟩
  · exact ⟨rfl, rfl⟩
  · exact absurd hp' (n1 q' _ hq')
  · exact absurd hp (n2 q _ hq)
  · obtain ⟨a1, e1⟩ := List.getElem?_eq_some_iff.1 hq
    obtain ⟨a2, e2⟩ := List.getElem?_eq_some_iff.1 hq'
    have hs := List.pairwise_iff_getElem.1 hR
    rcases Nat.lt_trichotomy q q' with c | c | c
    · have := hs q q' a1 a2 c; rw [e1, e2] at this; omega
    · subst c; rw [hq] at hq'; cases hq'; exact ⟨rfl, rfl⟩
    · have := hs q' q a2 a1 c; rw [e1, e2] at this; omega
theorem Kr.got (hK : Kr N ws l bg obs) {x : Int} {b : Bool} (hG : Got obs x p b) : hasB bg x = b ∧ Hd.hfmt (headW ws bg x) = p.fmt ∧ Hd.hcol (headW ws bg x) = p.col ∧ Hd.hfin (headW ws bg x) = p.fin ∧ (b = true → headW ws bg x = Hd.hput p.S p.fmt p.O p.col p.fin true ∧ One ws p ∧ ∃ A : Nat, p.pos = A + 1 ∧ x = (A : Int) + 1 ∧ A + p.wds ≤ N) := by
  rcases hG with ⟨rfl, rfl, hno⟩ | ⟨rfl, q, hq, hp⟩
  · have h1 := hK.hasno hno
    rw [head_no h1]
    exact ⟨h1, hd_zero.1, hd_zero.2.1, hd_zero.2.2, fun h => by cases h⟩
  · obtain ⟨h1, h2⟩ := hK.has hq hp
    have hm := List.mem_of_getElem? hq
    have ho := hK.one p hm
    have hf := hK.fit hm
    obtain ⟨e1, e2, e3, e4, e5, e6⟩ := ho.head
    rw [h2]
    exact ⟨h1, e2, e4, e5, fun _ => ⟨rfl, ho, p.pos - 1, by omega, by omega, by omega⟩⟩
variable {x : Int} {b : Bool}
theorem an_Has (h : HpAt w X ws l bg) (hK : Kr N ws l bg obs) (hG : Got obs x p b) (hw : (Lit.int .i64 x).wf = true) :
    Calls Try.prog 26 #[.pointer (some ⟨X.h, 0, none⟩), .int .i64 x] w fun e w' => e = .returned (.bool b) ∧ w = w' := by
  have := has_any h x hw; rwa [(hK.got hG).1] at this
theorem an_Size (h : HpAt w X ws l bg) (hK : Kr N ws l bg obs) (hG : Got obs x p b) (hw : (Lit.int .i64 x).wf = true) :
    Calls Try.prog 27 #[.pointer (some ⟨X.h, 0, none⟩), .int .i64 x] w fun e w' => e = .returned (.int .i64 (if b then (p.F.length : Int) + p.B.length else -1)) ∧ w = w' := by
  have h1 := hp_Size h x hw
  obtain ⟨e1, _, _, _, e5⟩ := hK.got hG
  rw [e1] at h1
  cases b
  · exact h1
  · obtain ⟨e6, e7, _⟩ := e5 rfl
    rw [e6, e7.size] at h1; exact h1
theorem an_Fmt (h : HpAt w X ws l bg) (hK : Kr N ws l bg obs) (hG : Got obs x p b) (hw : (Lit.int .i64 x).wf = true) :
    Calls Try.prog 47 #[.pointer (some ⟨X.h, 0, none⟩), .int .i64 x] w fun e w' => e = .returned (.int .i64 (p.fmt : Int)) ∧ w = w' := by
  have := hp_Fmt h x hw; rwa [(hK.got hG).2.1] at this
theorem an_Class (h : HpAt w X ws l bg) (hK : Kr N ws l bg obs) (hG : Got obs x p b) (hw : (Lit.int .i64 x).wf = true) :
    Calls Try.prog 48 #[.pointer (some ⟨X.h, 0, none⟩), .int .i64 x] w fun e w' => e = .returned (.int .i64 p.cls) ∧ w = w' := by
  obtain ⟨e1, _, _, _, e5⟩ := hK.got hG
  cases b
  · rcases hG with ⟨_, rfl, _⟩ | ⟨hh, _⟩
    · exact hp_Class_none h x hw e1
    · cases hh
  · obtain ⟨e6, e7, A, e8, e9, e10⟩ := e5 rfl
    have h3 := e7.wds
    have := hp_Class h A x e9 e1 (by rw [hK.lb]; omega)
    rw [← e8, e7.w1, Wd.rof_wr e7.cls.1 (by have := e7.cls.2; omega)] at this
    exact this
theorem an_Hash (h : HpAt w X ws l bg) (hK : Kr N ws l bg obs) (hG : Got obs x p b) (hw : (Lit.int .i64 x).wf = true) :
    Calls Try.prog 25 #[.pointer (some ⟨X.h, 0, none⟩), .int .i64 x] w fun e w' => e = .returned (.int .i64 p.hash) ∧ w = w' := by
  obtain ⟨e1, _, _, _, e5⟩ := hK.got hG
  cases b
  · rcases hG with ⟨_, rfl, _⟩ | ⟨hh, _⟩
    · exact hp_Hash_none h x hw e1
    · cases hh
  · obtain ⟨e6, e7, A, e8, e9, e10⟩ := e5 rfl
    have h3 := e7.wds
    have := hp_Hash h A x e9 (by rw [← e9]; exact e1) (by rw [hK.lb]; omega)
    have w2 := e7.w2
    rw [show p.pos + 1 = A + 2 by omega] at w2
    rw [w2, Wd.iof_wi (by have := e7.hash.1; omega) (by have := e7.hash.2; omega)] at this
    exact this
theorem an_Mark (h : HpAt w X ws l bg) (hK : Kr N ws l bg obs) (hG : Got obs x p b) (hw : (Lit.int .i64 x).wf = true) :
    Calls Try.prog 45 #[.pointer (some ⟨X.h, 0, none⟩), .int .i64 x] w fun e w' => e = .returned (.tuple #[.int .i64 p.col, .bool p.fin]) ∧ Below w.heap.size w w' := by
  have := hp_Mark h x hw; rwa [(hK.got hG).2.2.1, (hK.got hG).2.2.2.1] at this
theorem Kr.hasF (hK : Kr N ws l bg obs) (hG : Got obs x p b) (i : Int) : hasF (headW ws bg x) i = decide (0 ≤ i ∧ i < p.F.length) := by
  obtain ⟨e1, e2, _, _, e5⟩ := hK.got hG
  unfold Hp.hasF
  rw [e2]
  cases b
  · rcases hG with ⟨_, rfl, _⟩ | ⟨hh, _⟩
    · have q1 : (noOb.fmt : Int) = 0 := rfl
      have q2 : noOb.F.length = 0 := rfl
      rw [q1, q2]; simp; try omega
    · cases hh
  · obtain ⟨e6, e7, A, e8, e9, e10⟩ := e5 rfl
    rw [e6, e7.head.1]
    rcases e7.kind with ⟨k1, k2, k3, k4⟩ | ⟨k1, k2, k3, k4⟩
    · rw [k2]; simp; omega
    · rw [k2, k1]; simp; try omega
theorem an_Field (h : HpAt w X ws l bg) (hK : Kr N ws l bg obs) (hG : Got obs x p b) (i : Int) (hw : (Lit.int .i64 x).wf = true) :
    Calls Try.prog 28 #[.pointer (some ⟨X.h, 0, none⟩), .int .i64 x, .int .i64 i] w fun e w' => e = .returned (.int .u32 (elA p.F i 0)) ∧ w = w' := by
  have hF := hK.hasF hG i
  by_cases c : 0 ≤ i ∧ i < p.F.length
  · obtain ⟨k, rfl⟩ := Int.eq_ofNat_of_zero_le c.1
    have hk : k < p.F.length := by omega
    obtain ⟨e1, e2, _, _, e5⟩ := hK.got hG
    cases b
    · rcases hG with ⟨_, rfl, _⟩ | ⟨hh, _⟩
      · exact absurd hk (by show ¬ k < 0; omega)
      · cases hh
    · obtain ⟨e6, e7, A, e8, e9, e10⟩ := e5 rfl
      have h3 := e7.len
      have h4 := p.wS e7.wds
      have := hp_FieldG h A k x k e9 rfl (by rw [hF]; simp; omega) (by rw [hK.lb]; omega)
      have wF := e7.wF k hk
      rw [show p.pos + 2 + k = A + 3 + k by omega] at wF
      rw [wF] at this
      rw [elA_at hk]; exact this
  · have := hp_FieldG_no h x i hw (by rw [hF]; simpa using c)
    have e : elA p.F i 0 = 0 := by
      rcases (show i < 0 ∨ 0 ≤ i by omega) with c0 | c0
      · exact elA_lo c0
      · exact elA_hi c0 (by omega)
    rw [e]; exact this
theorem Kr.bts (hK : Kr N ws l bg obs) (hG : Got obs x p b) (h3 : p.fmt = 3) : ∃ A : Nat, p.pos = A + 1 ∧ x = (A : Int) + 1 ∧ Bts ws bg A p.B.length ∧ One ws p ∧ A + p.wds ≤ N := by
  obtain ⟨e1, e2, _, _, e5⟩ := hK.got hG
  cases b
  · rcases hG with ⟨_, rfl, _⟩ | ⟨hh, _⟩
    · simp [noOb] at h3
    · cases hh
  · obtain ⟨e6, e7, A, e8, e9, e10⟩ := e5 rfl
    refine ⟨A, e8, e9, ⟨by rw [← e9]; exact e1, by rw [← e9, e2, h3]; rfl, ?_, ?_⟩, e7, e10⟩
    · rw [← e9, e6, e7.size]
      rcases e7.kind with ⟨k1, k2, k3, k4⟩ | ⟨k1, k2, k3, k4⟩
      · omega
      · rw [k2]; simp
    · have := p.wS e7.wds
      rcases e7.kind with ⟨k1, k2, k3, k4⟩ | ⟨k1, k2, k3, k4⟩
      · omega
      · rw [hK.lb]; omega
theorem Kr.noB (hK : Kr N ws l bg obs) (hG : Got obs x p b) (h3 : p.fmt ≠ 3) : p.B = [] := by
  obtain ⟨e1, e2, _, _, e5⟩ := hK.got hG
  cases b
  · rcases hG with ⟨_, rfl, _⟩ | ⟨hh, _⟩
    · rfl
    · cases hh
  · obtain ⟨e6, e7, _⟩ := e5 rfl
    rcases e7.kind with ⟨k1, k2, k3, k4⟩ | ⟨k1, k2, k3, k4⟩
    · exact k3
    · exact absurd k1 h3
theorem an_Byte (h : HpAt w X ws l bg) (hK : Kr N ws l bg obs) (hG : Got obs x p b) (i : Int) (hw : (Lit.int .i64 x).wf = true) :
    Calls Try.prog 31 #[.pointer (some ⟨X.h, 0, none⟩), .int .i64 x, .int .i64 i] w fun e w' => e = .returned (.int .i64 (elA p.B i (-1))) ∧ w = w' := by
  by_cases h3 : p.fmt = 3
  · obtain ⟨A, e8, e9, hB, h1, hr⟩ := hK.bts hG h3
    have hle : p.B.length ≤ 200 := by
      rcases h1.kind with ⟨k1, k2, k3, k4⟩ | ⟨k1, k2, k3, k4⟩
      · omega
      · exact k3
    by_cases c : 0 ≤ i ∧ i < p.B.length
    · obtain ⟨k, rfl⟩ := Int.eq_ofNat_of_zero_le c.1
      have hk : k < p.B.length := by omega
      have := hp_Byte h A p.B.length (k / 4) (k % 4) hB x k e9 (by omega) (by omega) (by omega) hle
      have wB := h1.wB k hk
      rw [show p.pos + 2 + k / 4 = A + 3 + k / 4 by omega] at wB
      rw [wB] at this
      rw [elA_at hk]; exact this
    · have := hp_Byte_no h A p.B.length hB x i e9 c
      have e : elA p.B i (-1) = -1 := by
        rcases (show i < 0 ∨ 0 ≤ i by omega) with c0 | c0
        · exact elA_lo c0
        · exact elA_hi c0 (by omega)
      rw [e]; exact this
  · have hn := hK.noB hG h3
    have := hp_ByteF h x i hw (by rw [(hK.got hG).2.1]; omega)
    have e : elA p.B i (-1) = -1 := by
      rw [hn]; unfold elA; split <;> simp
    rw [e]; exact this
theorem an_Next (h : HpAt w X ws l bg) (hK : Kr N ws l bg obs) (hs : obs.Pairwise fun p q => p.pos < q.pos) {v : Int} (hv : nxt obs x v) (hw : (Lit.int .i64 x).wf = true) :
    Calls Try.prog 30 #[.pointer (some ⟨X.h, 0, none⟩), .int .i64 x] w fun e w' => e = .returned (.int .i64 v) ∧ w = w' := by
  have h1 := hp_Next h x hw
  have e : (nextB bg x : Int) = v := by
    unfold nextB
    rcases hv with ⟨rfl, hno⟩ | ⟨q, r, rfl, hq, hx, hlo⟩
    · rw [nextN_miss]
      · rfl
      · intro k hk
        cases hb : o bg k
        · rfl
        · obtain ⟨a, ha, e⟩ := (hK.ex.beg k).1 hb
          obtain ⟨p', hp', rfl⟩ := List.mem_map.1 ha
          obtain ⟨q, hq⟩ := List.mem_iff_getElem?.1 hp'
          have := hno q p' hq
          simp only [Ob.ext] at e; omega
    · have hm := List.mem_of_getElem? hq
      have hf := hK.fit hm
      obtain ⟨A, hA⟩ : ∃ A, r.pos = A + 1 := ⟨r.pos - 1, by omega⟩
      rw [nextN_hit (p := A) ((hK.ex.beg A).2 ⟨r.ext, List.mem_map_of_mem hm, hA⟩) _ _ (by omega) (by rw [hK.lb]; omega)]
      · omega
      · intro k k1 k2
        cases hb : o bg k
        · rfl
        · obtain ⟨a, ha, e⟩ := (hK.ex.beg k).1 hb
          obtain ⟨p', hp', rfl⟩ := List.mem_map.1 ha
          obtain ⟨q', hq'⟩ := List.mem_iff_getElem?.1 hp'
          simp only [Ob.ext] at e
          have hlt : q' < q := by
            rcases Nat.lt_or_ge q' q with c | c
            · exact c
            · rcases Nat.eq_or_lt_of_le c with c | c
              · subst c; rw [hq] at hq'; cases hq'; omega
              · obtain ⟨a1, e1⟩ := List.getElem?_eq_some_iff.1 hq
                obtain ⟨a2, e2⟩ := List.getElem?_eq_some_iff.1 hq'
                have := List.pairwise_iff_getElem.1 hs q q' a1 a2 c; rw [e1, e2] at this; omega
          have := hlo q' p' hlt hq'; omega
  rw [e] at h1; exact h1
end
end Go.Proofs.Ytljgnmbjidkjnaa.Rf5
