/- Objects that are kept: what holds of the words, of what is free, of the beginnings. Plain lists, no program. -/
import Derived.Test.YtljgnmbjidkjnaaByte3
namespace Go.Proofs.Ytljgnmbjidkjnaa.Hp
open Go.Proofs.Ytljgnmbjidkjnaa.Gen Go.Proofs.Ytljgnmbjidkjnaa.Base Go.Proofs.Ytljgnmbjidkjnaa.Fr Go.RowKit
set_option linter.unusedVariables false
/-- There is a best run, or none that has so many words. -/
theorem best_or {w : World} {B : FB} {l : List Bool} (h : FreeAt w B l) (n : Nat) : (∃ a m, Best (Run l) n a m) ∨ (∀ a m, Run l a m → m < n) := by
  obtain ⟨F, hF, h1, hL, h3⟩ := h
  cases hb : (shortS F.lng n F.ls (18 - Bt.kindOf n) (Bt.kindOf n)).2
  · exact .inr (hL.no hb)
  · obtain ⟨a, m, _, h4⟩ := hL.yes hb
    exact .inl ⟨a, m, h4⟩
/-- After i rounds: the objects T (first word, fields, hash), and nothing else. -/
structure Kp (i : Nat) (ws : List Int) (l bg : List Bool) (T : List (Nat × Nat × Nat)) : Prop where
  lw : ws.length = 600
  ll : l.length = 600
  lb : bg.length = 600
  fit : ∀ q a s h : Nat, T[q]? = some (a, s, h) → s ≤ 8 ∧ a + 3 + s ≤ 600 ∧ h < 40
  head : ∀ q a s h : Nat, T[q]? = some (a, s, h) → ws[a]?.getD 0 = Hd.hput s 1 0 0 false true
  hash : ∀ q a s h : Nat, T[q]? = some (a, s, h) → ws[a + 2]?.getD 0 = Wd.wi h
  field : ∀ q a s h : Nat, T[q]? = some (a, s, h) → ∀ j, j < s → ws[a + 3 + j]?.getD 0 = 100 * (h : Int) + j
  beg : ∀ x, o bg x = true ↔ ∃ q a s h : Nat, T[q]? = some (a, s, h) ∧ x = a
  cov : ∀ x, x < 600 → (o l x = false ↔ ∃ q a s h : Nat, T[q]? = some (a, s, h) ∧ a ≤ x ∧ x < a + 3 + s)
  dis : ∀ q q' a s h a' s' h' : Nat, T[q]? = some (a, s, h) → T[q']? = some (a', s', h') → q < q' → a + 3 + s ≤ a' ∨ a' + 3 + s' ≤ a
  high : ∀ x, 11 * i ≤ x → x < 600 → o l x = true
theorem Kp.zero : Kp 0 (List.replicate 600 0) (List.replicate 600 true) (List.replicate 600 false) [] where
  lw := List.length_replicate
  ll := List.length_replicate
  lb := List.length_replicate
  fit := fun q a s h hh => by simp at hh
  head := fun q a s h hh => by simp at hh
  hash := fun q a s h hh => by simp at hh
  field := fun q a s h hh => by simp at hh
  beg := fun x => by
    rw [o_rep]
    constructor
    · intro hh; split at hh <;> cases hh
    · rintro ⟨q, a, s, h, hh, _⟩; simp at hh
  cov := fun x hx => by
    rw [o_rep, if_pos hx]
    constructor
    · intro hh; cases hh
    · rintro ⟨q, a, s, h, hh, _⟩; simp at hh
  dis := fun q q' a s h a' s' h' hh => by simp at hh
  high := fun x _ hx => by rw [o_rep, if_pos hx]
section
variable {i : Nat} {ws : List Int} {l bg : List Bool} {T : List (Nat × Nat × Nat)}
theorem Kp.room (hK : Kp i ws l bg T) (hi : i < 40) {w : World} {B : FB} (hF : FreeAt w B l) (s : Nat) (hs : s ≤ 8) : ∃ a m, Best (Run l) (3 + s) a m ∧ a ≤ 11 * i := by
  have key : ∀ a m, Run l a m → a ≤ 11 * i := fun a m hr => by
    rcases Nat.lt_or_ge (11 * i) a with c | c
    · have hle := hr.le
      have hp := hr.pos
      rw [hK.ll] at hle
      rcases hr.lo with e | e
      · omega
      · rw [hK.high (a - 1) (by omega) (by omega)] at e; cases e
    · exact c
  rcases best_or hF (3 + s) with ⟨a, m, hb⟩ | hno
  · exact ⟨a, m, hb, key a m hb.run⟩
  · obtain ⟨a, m, hr, h1, h2⟩ := run_of (hK.high (11 * i) (Nat.le_refl _) (by omega))
    have := hno a m hr
    have hhi := hr.hi
    rw [hK.high (a + m) (by omega) (by omega)] at hhi; cases hhi
theorem snoc3 {T : List (Nat × Nat × Nat)} {p q : Nat × Nat × Nat} {i : Nat} (h : (T ++ [p])[i]? = some q) : (i < T.length ∧ T[i]? = some q) ∨ (i = T.length ∧ q = p) := by
  rcases Nat.lt_or_ge i T.length with c | c
  · rw [List.getElem?_append_left c] at h; exact .inl ⟨c, h⟩
  · rw [List.getElem?_append_right c] at h
    by_cases e : i - T.length = 0
    · rw [e] at h; simp at h; exact .inr ⟨by omega, h.symm⟩
    · rw [List.getElem?_eq_none (by simp; omega)] at h; cases h
theorem Kp.make (hK : Kp i ws l bg T) (hi : i < 40) {a m s : Nat} (hb : Best (Run l) (3 + s) a m) (ha : a ≤ 11 * i) (hs : s ≤ 8) {h : Nat} (hh : h < 40) {ws' : List Int} (hl : ws'.length = 600)
    (h1 : ws'[a]?.getD 0 = Hd.hput s 1 0 0 false true) (h2 : ws'[a + 2]?.getD 0 = Wd.wi h) (h3 : ∀ j, j < s → ws'[a + 3 + j]?.getD 0 = 100 * (h : Int) + j) (h4 : ∀ x, x < a ∨ a + 3 + s ≤ x → ws'[x]?.getD 0 = ws[x]?.getD 0) :
    Kp (i + 1) ws' (setR l a (3 + s) false) (bg.set a true) (T ++ [(a, s, h)]) := by
  have hr := hb.run
  have hfit := hb.fits
  have hle := hr.le
  rw [hK.ll] at hle
  have hset := o_set l a (3 + s) false (by rw [hK.ll]; omega)
  have apart : ∀ q a' s' h', T[q]? = some (a', s', h') → a' + 3 + s' ≤ a ∨ a + 3 + s ≤ a' := fun q a' s' h' hq => by
    have hf := hK.fit q a' s' h' hq
    rcases Classical.em (a' + (3 + s') ≤ a ∨ a + (3 + s) ≤ a') with d | d
    · omega
    · obtain ⟨x, x1, x2, x3, x4⟩ := overlap (A := a) (N := 3 + s) (a' := a') (n' := 3 + s') d (by omega) (by omega)
      have := (hK.cov x (by omega)).2 ⟨q, a', s', h', hq, x1, by omega⟩
      rw [hr.all x x3 (by omega)] at this; cases this
  exact
  { lw := hl
    ll := by rw [setR_len]; exact hK.ll
    lb := by simpa using hK.lb
    fit := fun q a' s' h' hq => by
      rcases snoc3 hq with ⟨_, e⟩ | ⟨_, e⟩
      · exact hK.fit q a' s' h' e
      · cases e; exact ⟨hs, by omega, hh⟩
    head := fun q a' s' h' hq => by
      rcases snoc3 hq with ⟨_, e⟩ | ⟨_, e⟩
      · rw [h4 a' (by have := apart q a' s' h' e; omega)]; exact hK.head q a' s' h' e
      · cases e; exact h1
    hash := fun q a' s' h' hq => by
      rcases snoc3 hq with ⟨_, e⟩ | ⟨_, e⟩
      · rw [h4 (a' + 2) (by have := apart q a' s' h' e; omega)]; exact hK.hash q a' s' h' e
      · cases e; exact h2
    field := fun q a' s' h' hq j hj => by
      rcases snoc3 hq with ⟨_, e⟩ | ⟨_, e⟩
      · rw [h4 (a' + 3 + j) (by have := apart q a' s' h' e; omega)]; exact hK.field q a' s' h' e j hj
      · cases e; exact h3 j hj
    beg := fun x => by
      rw [o_setl (by rw [hK.lb]; omega)]
      constructor
      · intro hx
        split at hx
        · rename_i e; exact ⟨T.length, a, s, h, by simp, e⟩
        · obtain ⟨q, a', s', h', hq, e⟩ := (hK.beg x).1 hx
          exact ⟨q, a', s', h', by rw [List.getElem?_append_left (List.getElem?_eq_some_iff.1 hq).1]; exact hq, e⟩
      · rintro ⟨q, a', s', h', hq, e⟩
        split
        · rfl
        · rename_i hne
          rcases snoc3 hq with ⟨_, e'⟩ | ⟨_, e'⟩
          · exact (hK.beg x).2 ⟨q, a', s', h', e', e⟩
          · cases e'; exact absurd e hne
    cov := fun x hx => by
      rw [hset]
      constructor
      · intro hh'
        split at hh'
        · rename_i hin; exact ⟨T.length, a, s, h, by simp, hin.1, by omega⟩
        · obtain ⟨q, a', s', h', hq, e⟩ := (hK.cov x hx).1 hh'
          exact ⟨q, a', s', h', by rw [List.getElem?_append_left (List.getElem?_eq_some_iff.1 hq).1]; exact hq, e⟩
      · rintro ⟨q, a', s', h', hq, e⟩
        split
        · rfl
        · rename_i hout
          rcases snoc3 hq with ⟨_, e'⟩ | ⟨_, e'⟩
          · exact (hK.cov x hx).2 ⟨q, a', s', h', e', e⟩
          · cases e'; exact absurd ⟨e.1, by omega⟩ hout
    dis := fun q q' a1 s1 g1 a2 s2 g2 hq hq' hlt => by
      rcases snoc3 hq with ⟨p1, e1⟩ | ⟨p1, e1⟩ <;> rcases snoc3 hq' with ⟨p2, e2⟩ | ⟨p2, e2⟩
      · exact hK.dis q q' a1 s1 g1 a2 s2 g2 e1 e2 hlt
      · cases e2; exact apart q a1 s1 g1 e1
      · omega
      · omega
    high := fun x hx1 hx2 => by
      rw [hset, if_neg (by omega)]; exact hK.high x (by omega) hx2 }
theorem Kp.more (hK : Kp i ws l bg T) : Kp (i + 1) ws l bg T := { hK with high := fun x h1 h2 => hK.high x (by omega) h2 }
theorem er_at {T : List (Nat × Nat × Nat)} {k q : Nat} {p : Nat × Nat × Nat} (h : (T.eraseIdx k)[q]? = some p) : ∃ q' : Nat, T[q']? = some p ∧ q' ≠ k ∧ ((q < k ∧ q' = q) ∨ (k ≤ q ∧ q' = q + 1)) := by
  rw [List.getElem?_eraseIdx] at h
  split at h
  · rename_i c; exact ⟨q, h, by omega, .inl ⟨c, rfl⟩⟩
  · rename_i c; exact ⟨q + 1, h, by omega, .inr ⟨by omega, rfl⟩⟩
theorem er_of {T : List (Nat × Nat × Nat)} {k q : Nat} {p : Nat × Nat × Nat} (h : T[q]? = some p) (hne : q ≠ k) : ∃ q' : Nat, (T.eraseIdx k)[q']? = some p := by
  rcases Nat.lt_or_ge q k with c | c
  · exact ⟨q, by rw [List.getElem?_eraseIdx, if_pos c]; exact h⟩
  · exact ⟨q - 1, by rw [List.getElem?_eraseIdx, if_neg (by omega), show q - 1 + 1 = q by omega]; exact h⟩
theorem Kp.drop (hK : Kp i ws l bg T) {k a s h : Nat} (hk : T[k]? = some (a, s, h)) : Kp i ws (setR l a (3 + s) true) (bg.set a false) (T.eraseIdx k) := by
  have hf := hK.fit k a s h hk
  have hset := o_set l a (3 + s) true (by rw [hK.ll]; omega)
  have apart : ∀ q a' s' h', T[q]? = some (a', s', h') → q ≠ k → a' + 3 + s' ≤ a ∨ a + 3 + s ≤ a' := fun q a' s' h' hq hne => by
    rcases Nat.lt_trichotomy q k with c | c | c
    · exact hK.dis q k a' s' h' a s h hq hk c
    · exact absurd c hne
    · have := hK.dis k q a s h a' s' h' hk hq c; omega
  exact
  { lw := hK.lw
    ll := by rw [setR_len]; exact hK.ll
    lb := by simpa using hK.lb
    fit := fun q a' s' h' hq => by obtain ⟨q', e, _⟩ := er_at hq; exact hK.fit q' a' s' h' e
    head := fun q a' s' h' hq => by obtain ⟨q', e, _⟩ := er_at hq; exact hK.head q' a' s' h' e
    hash := fun q a' s' h' hq => by obtain ⟨q', e, _⟩ := er_at hq; exact hK.hash q' a' s' h' e
    field := fun q a' s' h' hq => by obtain ⟨q', e, _⟩ := er_at hq; exact hK.field q' a' s' h' e
    beg := fun x => by
      rw [o_setl (by rw [hK.lb]; omega)]
      constructor
      · intro hx
        split at hx
        · cases hx
        · rename_i hne
          obtain ⟨q, a', s', h', hq, e⟩ := (hK.beg x).1 hx
          obtain ⟨q', hq'⟩ := er_of (k := k) hq (by rintro rfl; rw [hk] at hq; cases hq; exact hne e)
          exact ⟨q', a', s', h', hq', e⟩
      · rintro ⟨q, a', s', h', hq, e⟩
        obtain ⟨q', e', hne, _⟩ := er_at hq
        rw [if_neg (by have := apart q' a' s' h' e' hne; omega)]
        exact (hK.beg x).2 ⟨q', a', s', h', e', e⟩
    cov := fun x hx => by
      rw [hset]
      constructor
      · intro hh'
        split at hh'
        · cases hh'
        · rename_i hout
          obtain ⟨q, a', s', h', hq, e1, e2⟩ := (hK.cov x hx).1 hh'
          obtain ⟨q', hq'⟩ := er_of (k := k) hq (by rintro rfl; rw [hk] at hq; cases hq; exact hout ⟨e1, by omega⟩)
          exact ⟨q', a', s', h', hq', e1, e2⟩
      · rintro ⟨q, a', s', h', hq, e1, e2⟩
        obtain ⟨q', e', hne, _⟩ := er_at hq
        rw [if_neg (by have := apart q' a' s' h' e' hne; omega)]
        exact (hK.cov x hx).2 ⟨q', a', s', h', e', e1, e2⟩
    dis := fun q q' a1 s1 g1 a2 s2 g2 hq hq' hlt => by
      obtain ⟨r, e, _, c⟩ := er_at hq
      obtain ⟨r', e', _, c'⟩ := er_at hq'
      exact hK.dis r r' a1 s1 g1 a2 s2 g2 e e' (by omega)
    high := fun x hx1 hx2 => by
      rw [hset]; split
      · rfl
      · exact hK.high x hx1 hx2 }
theorem Kp.nil (hK : Kp i ws l bg []) : l = List.replicate 600 true ∧ bg = List.replicate 600 false := by
  refine ⟨list_o (by rw [hK.ll, List.length_replicate]) fun x hx => ?_, list_o (by rw [hK.lb, List.length_replicate]) fun x hx => ?_⟩
  · rw [hK.ll] at hx
    rw [o_rep, if_pos hx]
    cases hb : o l x
    · obtain ⟨q, a, s, h, hq, _⟩ := (hK.cov x hx).1 hb; simp at hq
    · rfl
  · rw [o_rep]
    cases hb : o bg x
    · split <;> rfl
    · obtain ⟨q, a, s, h, hq, _⟩ := (hK.beg x).1 hb; simp at hq
/-- Fields set one after the other. -/
def fldW (ws : List Int) (a h : Nat) : Nat → List Int
  | 0 => ws
  | j + 1 => (fldW ws a h j).set (a + 3 + j) (100 * (h : Int) + j)
theorem fldW_len (ws : List Int) (a h j : Nat) : (fldW ws a h j).length = ws.length := by
  induction j with
  | zero => rfl
  | succ j ih => simp [fldW, ih]
theorem fldW_at (ws : List Int) (a h j x : Nat) (hl : a + 3 + j ≤ ws.length) : (fldW ws a h j)[x]?.getD 0 = if a + 3 ≤ x ∧ x < a + 3 + j then 100 * (h : Int) + (x - (a + 3) : Nat) else ws[x]?.getD 0 := by
  induction j with
  | zero => rw [if_neg (by omega)]; rfl
  | succ j ih =>
    unfold fldW
    rw [set_at _ _ _ _ (by rw [fldW_len]; omega)]
    by_cases e : x = a + 3 + j
    · rw [if_pos e, if_pos (by omega), show x - (a + 3) = j by omega]
    · rw [if_neg e, ih (by omega)]
      by_cases c : a + 3 ≤ x ∧ x < a + 3 + j
      · rw [if_pos c, if_pos (by omega)]
      · rw [if_neg c, if_neg (by omega)]
end
end Go.Proofs.Ytljgnmbjidkjnaa.Hp
