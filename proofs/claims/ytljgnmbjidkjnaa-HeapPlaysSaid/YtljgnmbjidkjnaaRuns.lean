/- Runs of free words, and the lists that tell them: plain lists, no program. -/
import Derived.Test.YtljgnmbjidkjnaaFree9
namespace Go.Proofs.Ytljgnmbjidkjnaa.Fr
open Go.Shelf Go.RowKit
set_option linter.unusedVariables false
/-- Is place i free? -/
def o (l : List Bool) (i : Nat) : Bool := l[i]?.getD false
theorem o_lt {l : List Bool} {i : Nat} (h : o l i = true) : i < l.length := by
  unfold o at h
  rcases Nat.lt_or_ge i l.length with h1 | h1
  · exact h1
  · rw [List.getElem?_eq_none h1] at h; cases h
theorem o_set (l : List Bool) (a n : Nat) (v : Bool) (h : a + n ≤ l.length) (i : Nat) : o (setR l a n v) i = if a ≤ i ∧ i < a + n then v else o l i := by
  unfold o
  split
  · rename_i hh; rw [setR_in l a n i v hh.1 hh.2 (by omega)]; rfl
  · rename_i hh; rw [setR_out l a n i v (by omega)]
structure Run (l : List Bool) (a n : Nat) : Prop where
  pos : 1 ≤ n
  all : ∀ i, a ≤ i → i < a + n → o l i = true
  lo : a = 0 ∨ o l (a - 1) = false
  hi : o l (a + n) = false
theorem Run.le {l : List Bool} {a n : Nat} (h : Run l a n) : a + n ≤ l.length := by
  have := o_lt (h.all (a + n - 1) (by have := h.pos; omega) (by have := h.pos; omega)); have := h.pos; omega
theorem Run.eq {l : List Bool} {a n a' n' x : Nat} (h : Run l a n) (h' : Run l a' n') (h1 : a ≤ x) (h2 : x < a + n) (h3 : a' ≤ x) (h4 : x < a' + n') : a = a' ∧ n = n' := by
  have e : a = a' := by
    rcases Nat.lt_trichotomy a a' with c | c | c
    · rcases h'.lo with e | e
      · omega
      · have := h.all (a' - 1) (by omega) (by omega); rw [this] at e; cases e
    · exact c
    · rcases h.lo with e | e
      · omega
      · have := h'.all (a - 1) (by omega) (by omega); rw [this] at e; cases e
  subst e
  refine ⟨rfl, ?_⟩
  rcases Nat.lt_trichotomy n n' with c | c | c
  · have := h'.all (a + n) (by omega) (by omega); rw [h.hi] at this; cases this
  · exact c
  · have := h.all (a + n') (by omega) (by omega); rw [h'.hi] at this; cases this
theorem run_left {l : List Bool} : ∀ x, o l x = true → ∃ b, b ≤ x ∧ (∀ i, b ≤ i → i ≤ x → o l i = true) ∧ (b = 0 ∨ o l (b - 1) = false) := by
  intro x
  induction x with
  | zero => intro h; exact ⟨0, by omega, (fun i _ hi => by rw [show i = 0 by omega]; exact h), .inl rfl⟩
  | succ x ih =>
    intro h
    cases hx : o l x
    · exact ⟨x + 1, by omega, (fun i h1 h2 => by rw [show i = x + 1 by omega]; exact h), .inr (by simpa using hx)⟩
    · obtain ⟨b, hb, hall, hlo⟩ := ih hx
      refine ⟨b, by omega, fun i h1 h2 => ?_, hlo⟩
      by_cases e : i = x + 1
      · subst e; exact h
      · exact hall i h1 (by omega)
theorem run_right {l : List Bool} : ∀ k x, l.length - x ≤ k → o l x = true → ∃ e, x < e ∧ (∀ i, x ≤ i → i < e → o l i = true) ∧ o l e = false := by
  intro k
  induction k with
  | zero => intro x hk h; have := o_lt h; omega
  | succ k ih =>
    intro x hk h
    have hl := o_lt h
    cases hx : o l (x + 1)
    · exact ⟨x + 1, by omega, (fun i h1 h2 => by rw [show i = x by omega]; exact h), hx⟩
    · obtain ⟨e, he, hall, hhi⟩ := ih (x + 1) (by omega) hx
      refine ⟨e, by omega, fun i h1 h2 => ?_, hhi⟩
      by_cases e' : i = x
      · subst e'; exact h
      · exact hall i (by omega) h2
theorem run_of {l : List Bool} {x : Nat} (h : o l x = true) : ∃ a n, Run l a n ∧ a ≤ x ∧ x < a + n := by
  obtain ⟨b, hb, h1, h2⟩ := run_left x h
  obtain ⟨e, he, h3, h4⟩ := run_right l.length x (by omega) h
  refine ⟨b, e - b, ⟨by omega, fun i h5 h6 => ?_, h2, by rw [show b + (e - b) = e by omega]; exact h4⟩, hb, by omega⟩
  by_cases c : i ≤ x
  · exact h1 i h5 c
  · exact h3 i (by omega) (by omega)
/-- What is taken from the head of a run: the other runs, and what is left of it. -/
theorem run_take {l : List Bool} {a m n : Nat} (h : Run l a m) (h1 : 1 ≤ n) (h2 : n ≤ m) (a' n' : Nat) :
    Run (setR l a n false) a' n' ↔ (Run l a' n' ∧ a' ≠ a) ∨ (a' = a + n ∧ n' = m - n ∧ 1 ≤ m - n) := by
  have hle := h.le
  have hs := o_set l a n false (by omega)
  have hrest : 1 ≤ m - n → Run (setR l a n false) (a + n) (m - n) := fun hm =>
    ⟨hm, fun i h5 h6 => by rw [hs, if_neg (by omega)]; exact h.all i (by omega) (by omega), .inr (by rw [hs, if_pos (by omega)]), by rw [hs, if_neg (by omega), show a + n + (m - n) = a + m by omega]; exact h.hi⟩
  constructor
  · intro hr
    by_cases hc : a + n ≤ a' ∧ a' < a + m
    · obtain ⟨e1, e2⟩ := hr.eq (hrest (by omega)) (x := a') (by omega) (by have := hr.pos; omega) (by omega) (by omega)
      exact .inr ⟨e1, e2, by omega⟩
    · have hp := hr.pos
      have hin : ∀ i, a' ≤ i → i < a' + n' → (i < a ∨ a + n ≤ i) ∧ o l i = true := fun i h5 h6 => by
        have := hr.all i h5 h6
        rw [hs] at this
        split at this
        · cases this
        · exact ⟨by omega, this⟩
      have h0 := hin a' (by omega) (by omega)
      have hne : a' ≠ a := by omega
      refine .inl ⟨⟨hp, fun i h5 h6 => (hin i h5 h6).2, ?_, ?_⟩, hne⟩
      · rcases hr.lo with e | e
        · exact .inl e
        · rw [hs] at e
          split at e
          · rename_i hh
            have : a' = a + m := by omega
            rw [this, h.hi] at h0; cases h0.2
          · exact .inr e
      · have e := hr.hi
        rw [hs] at e
        split at e
        · rename_i hh
          by_cases c : a' + n' = a
          · rcases h.lo with e2 | e2
            · omega
            · have := (hin (a - 1) (by omega) (by omega)).2; rw [this] at e2; cases e2
          · have := (hin a (by omega) (by omega)).1; omega
        · exact e
  · rintro (⟨hr, hne⟩ | ⟨rfl, rfl, hm⟩)
    · have hdis : ∀ i, a' ≤ i → i < a' + n' → ¬ (a ≤ i ∧ i < a + m) := fun i h5 h6 hh => hne (hr.eq h h5 h6 hh.1 hh.2).1
      have hp := hr.pos
      refine ⟨hp, fun i h5 h6 => by rw [hs, if_neg (fun hh => hdis i h5 h6 (by omega))]; exact hr.all i h5 h6, ?_, ?_⟩
      · rcases hr.lo with e | e
        · exact .inl e
        · exact .inr (by rw [hs]; split; rfl; exact e)
      · rw [hs]; split
        · rfl
        · exact hr.hi
    · exact hrest hm
/-- What is given back and joined: the new run, and those that lie apart from it. -/
theorem run_give {l : List Bool} {a n A N : Nat} (hle : a + n ≤ l.length) (hA : A ≤ a) (hN : a + n ≤ A + N) (h : Run (setR l a n true) A N) (hc : ∀ i, a ≤ i → i < a + n → o l i = false) (a' n' : Nat) :
    Run (setR l a n true) a' n' ↔ (a' = A ∧ n' = N) ∨ (Run l a' n' ∧ (a' + n' ≤ A ∨ A + N ≤ a')) := by
  have hs := o_set l a n true hle
  constructor
  · intro hr
    have hp := hr.pos
    by_cases c : a' + n' ≤ A ∨ A + N ≤ a'
    · refine .inr ⟨⟨hp, fun i h5 h6 => ?_, ?_, ?_⟩, c⟩
      · have := hr.all i h5 h6
        rw [hs, if_neg (by omega)] at this; exact this
      · rcases hr.lo with e | e
        · exact .inl e
        · rw [hs] at e; split at e
          · cases e
          · exact .inr e
      · have e := hr.hi
        rw [hs] at e; split at e
        · cases e
        · exact e
    · have hpN := h.pos
      have hx : ∃ x, a' ≤ x ∧ x < a' + n' ∧ A ≤ x ∧ x < A + N := ⟨max a' A, by omega, by omega, by omega, by omega⟩
      obtain ⟨x, x1, x2, x3, x4⟩ := hx
      exact .inl (hr.eq h x1 x2 x3 x4)
  · rintro (⟨rfl, rfl⟩ | ⟨hr, hd⟩)
    · exact h
    · have hp := hr.pos
      refine ⟨hp, fun i h5 h6 => by rw [hs]; split; rfl; exact hr.all i h5 h6, ?_, ?_⟩
      · rcases hr.lo with e | e
        · exact .inl e
        · by_cases h0 : a' = 0
          · exact .inl h0
          · refine .inr ?_
            rw [hs]; split
            · rename_i hh
              have : A + N = a' := by omega
              have h7 := h.hi
              rw [hs, this, if_neg (by omega), hr.all a' (by omega) (by omega)] at h7; cases h7
            · exact e
      · rw [hs]; split
        · rename_i hh
          have : a' + n' = A := by omega
          have h8 : A = a := by omega
          rcases h.lo with e | e
          · omega
          · rw [hs, if_neg (by omega), hr.all (A - 1) (by omega) (by omega)] at e; cases e
        · exact hr.hi
end Go.Proofs.Ytljgnmbjidkjnaa.Fr
