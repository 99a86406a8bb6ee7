/- Lists of so many places told by a rule; one with a hole; blocks of one size: plain lists, no program. -/
import Derived.Test.YtljgnmbjidkjnaaFree12
namespace Go.Proofs.Ytljgnmbjidkjnaa.Fr
open Go.Proofs.Ytljgnmbjidkjnaa.Gen Go.Proofs.Ytljgnmbjidkjnaa.Base Go.RowKit
set_option linter.unusedVariables false
def mk (N : Nat) (p : Nat → Bool) : List Bool := (List.range N).map p
theorem mk_len (N : Nat) (p : Nat → Bool) : (mk N p).length = N := by simp [mk]
theorem o_mk (N : Nat) (p : Nat → Bool) (x : Nat) : o (mk N p) x = if x < N then p x else false := by
  unfold o mk
  by_cases h : x < N
  · rw [if_pos h, List.getElem?_map, List.getElem?_range h]; rfl
  · rw [if_neg h, List.getElem?_eq_none (by simp; omega)]; rfl
theorem mk_congr {N : Nat} {p q : Nat → Bool} (h : ∀ x, x < N → p x = q x) : mk N p = mk N q :=
  list_o (by simp [mk]) fun i hi => by
    rw [mk_len] at hi
    rw [o_mk, o_mk, if_pos hi, if_pos hi, h i hi]
theorem mk_set {N a n : Nat} {p q : Nat → Bool} {v : Bool} (h : a + n ≤ N) (hq : ∀ x, x < N → q x = if a ≤ x ∧ x < a + n then v else p x) : setR (mk N p) a n v = mk N q :=
  list_o (by simp [mk, setR_len]) fun i hi => by
    rw [setR_len, mk_len] at hi
    rw [o_set _ _ _ _ (by rw [mk_len]; exact h), o_mk, o_mk, if_pos hi, if_pos hi, hq i hi]
theorem rep_mk (N : Nat) : List.replicate N true = mk N (fun _ => true) :=
  list_o (by simp [mk]) fun i hi => by
    rw [List.length_replicate] at hi
    rw [o_mk, o_rep]
theorem sorted_ext : ∀ {R R' : List (Nat × Nat)}, R.Pairwise (fun p q => p.1 < q.1) → R'.Pairwise (fun p q => p.1 < q.1) → (∀ p, p ∈ R ↔ p ∈ R') → R = R' := by
  intro R
  induction R with
  | nil =>
    intro R' _ _ h
    cases R' with
    | nil => rfl
    | cons p R' => have := (h p).2 (by simp); cases this
  | cons p R ih =>
    intro R' h1 h2 h
    cases R' with
    | nil => have := (h p).1 (by simp); cases this
    | cons q R' =>
      rw [List.pairwise_cons] at h1 h2
      have e : p = q := by
        rcases List.mem_cons.1 ((h p).1 (by simp)) with e | e
        · exact e
        · rcases List.mem_cons.1 ((h q).2 (by simp)) with e' | e'
          · exact e'.symm
          · have := h1.1 q e'; have := h2.1 p e; omega
      subst e
      congr 1
      refine ih h1.2 h2.2 fun x => ?_
      constructor
      · intro hx
        rcases List.mem_cons.1 ((h x).1 (List.mem_cons_of_mem _ hx)) with e | e
        · subst e; have := h1.1 x hx; omega
        · exact e
      · intro hx
        rcases List.mem_cons.1 ((h x).2 (List.mem_cons_of_mem _ hx)) with e | e
        · subst e; have := h2.1 x hx; omega
        · exact e
theorem Upto.eq {l : List Bool} {R R' : List (Nat × Nat)} (h : Upto l l.length R) (hs : R'.Pairwise (fun p q => p.1 < q.1)) (hm : ∀ x n, (x, n) ∈ R' ↔ Run l x n) : R = R' :=
  sorted_ext h.sorted hs fun p => by
    rw [h.mem p.1 p.2, hm p.1 p.2]
    constructor
    · exact fun q => q.1
    · exact fun q => ⟨q, by have := q.le; have := q.pos; omega⟩
/-- All is one run. -/
theorem upto_all {N : Nat} {R : List (Nat × Nat)} (hN : 1 ≤ N) (h : Upto (List.replicate N true) (List.replicate N true).length R) : R = [(0, N)] :=
  h.eq (by simp) fun x n => by rw [run_rep hN]; simp
theorem upto_none {R : List (Nat × Nat)} (h : Upto (List.replicate 0 true) (List.replicate 0 true).length R) : R = [] :=
  h.eq (by simp) fun x n => by
    constructor
    · intro q; cases q
    · intro q; have := q.le; have := q.pos; simp at *; omega
/-- All but a hole from p to q. -/
def hole (N p q : Nat) : List Bool := mk N (fun x => !(decide (p ≤ x) && decide (x < q)))
theorem o_hole {N p q x : Nat} : o (hole N p q) x = true ↔ x < N ∧ ¬ (p ≤ x ∧ x < q) := by
  unfold hole; rw [o_mk]
  by_cases h : x < N
  · simp [h]; omega
  · simp [h]
theorem o_hole' {N p q x : Nat} : o (hole N p q) x = false ↔ ¬ (x < N ∧ ¬ (p ≤ x ∧ x < q)) := by
  rw [← o_hole (N := N) (p := p) (q := q) (x := x), Bool.not_eq_true]
theorem run_hole {N p q : Nat} (h1 : p < q) (h2 : q ≤ N) (a n : Nat) : Run (hole N p q) a n ↔ (a = 0 ∧ n = p ∧ 0 < p) ∨ (a = q ∧ n = N - q ∧ q < N) := by
  have ra : 0 < p → Run (hole N p q) 0 p := fun hp => ⟨hp, fun i _ hi => o_hole.2 ⟨by omega, by omega⟩, .inl rfl, o_hole'.2 (by omega)⟩
  have rb : q < N → Run (hole N p q) q (N - q) := fun hp => ⟨by omega, fun i h3 hi => o_hole.2 ⟨by omega, by omega⟩, .inr (o_hole'.2 (by omega)), o_hole'.2 (by omega)⟩
  constructor
  · intro h
    have h0 := o_hole.1 (h.all a (Nat.le_refl _) (by have := h.pos; omega))
    have := h.pos
    by_cases c : a < p
    · obtain ⟨rfl, rfl⟩ := h.eq (ra (by omega)) (x := a) (by omega) (by omega) (by omega) (by omega)
      exact .inl ⟨rfl, rfl, by omega⟩
    · obtain ⟨rfl, rfl⟩ := h.eq (rb (by omega)) (x := a) (by omega) (by omega) (by omega) (by omega)
      exact .inr ⟨rfl, rfl, by omega⟩
  · rintro (⟨rfl, rfl, h⟩ | ⟨rfl, rfl, h⟩)
    · exact ra h
    · exact rb h
theorem most_hole {N p q m : Nat} (h1 : p < q) (h2 : q ≤ N) (h : Most (Run (hole N p q)) m) : m = max p (N - q) := by
  have hl := h.le; have hi := h.is
  have a1 : 0 < p → p ≤ m := fun hp => hl 0 p ((run_hole h1 h2 _ _).2 (.inl ⟨rfl, rfl, hp⟩))
  have a2 : q < N → N - q ≤ m := fun hp => hl q (N - q) ((run_hole h1 h2 _ _).2 (.inr ⟨rfl, rfl, hp⟩))
  rcases hi with hi | ⟨a, hi⟩
  · omega
  · rcases (run_hole h1 h2 _ _).1 hi with ⟨_, e, _⟩ | ⟨_, e, _⟩ <;> omega
theorem upto_hole {N p q : Nat} {R : List (Nat × Nat)} (h1 : p < q) (h2 : q ≤ N) (h : Upto (hole N p q) (hole N p q).length R) : R.length = (if 0 < p then 1 else 0) + (if q < N then 1 else 0) := by
  have e : R = (if 0 < p then [(0, p)] else []) ++ (if q < N then [(q, N - q)] else []) := by
    refine h.eq ?_ fun x n => ?_
    · by_cases c1 : 0 < p <;> by_cases c2 : q < N <;> simp [c1, c2]; omega
    · rw [run_hole h1 h2]
      by_cases c1 : 0 < p <;> by_cases c2 : q < N <;> simp [c1, c2]
  rw [e]
  by_cases c1 : 0 < p <;> by_cases c2 : q < N <;> simp [c1, c2]
theorem hole_give {N p q : Nat} (h1 : p < q) (h2 : q ≤ N) : setR (hole N p q) p (q - p) true = List.replicate N true := by
  rw [rep_mk]
  exact mk_set (by omega) fun x hx => by
    split
    · rfl
    · have : ¬ (p ≤ x ∧ x < q) := by omega
      by_cases c : p ≤ x <;> simp [c] <;> omega
theorem cnt_hole {N p q : Nat} (h1 : p < q) (h2 : q ≤ N) : cnt (hole N p q) = N - (q - p) := by
  have := cnt_give (l := hole N p q) (a := p) (q - p) (by unfold hole; rw [mk_len]; omega) (fun i h3 h4 => o_hole'.2 (by omega))
  rw [hole_give h1 h2, cnt_rep] at this
  omega
/-- What is left when the first x places are taken. -/
def tail (N x : Nat) : List Bool := mk N (fun i => decide (x ≤ i))
theorem tail_0 (N : Nat) : List.replicate N true = tail N 0 := by rw [rep_mk]; exact mk_congr fun x _ => by simp
theorem o_tail {N x i : Nat} : o (tail N x) i = true ↔ i < N ∧ x ≤ i := by
  unfold tail; rw [o_mk]
  by_cases h : i < N <;> simp [h]
theorem run_tail {N x : Nat} (h : x < N) (a n : Nat) : Run (tail N x) a n ↔ a = x ∧ n = N - x := by
  have r0 : Run (tail N x) x (N - x) := ⟨by omega, fun i h1 h2 => o_tail.2 ⟨by omega, h1⟩, by
    by_cases c : x = 0
    · exact .inl c
    · refine .inr ?_
      rw [← Bool.not_eq_true, o_tail]; omega, by rw [← Bool.not_eq_true, o_tail]; omega⟩
  constructor
  · intro hr
    have h0 := o_tail.1 (hr.all a (Nat.le_refl _) (by have := hr.pos; omega))
    have := hr.pos
    exact hr.eq r0 (x := a) (by omega) (by omega) h0.2 (by omega)
  · rintro ⟨rfl, rfl⟩; exact r0
theorem best_tail {N x n : Nat} (h1 : 1 ≤ n) (h2 : x + n ≤ N) : Best (Run (tail N x)) n x (N - x) :=
  ⟨(run_tail (by omega) _ _).2 ⟨rfl, rfl⟩, by omega, fun a' m' hr _ => by
    obtain ⟨rfl, rfl⟩ := (run_tail (by omega) _ _).1 hr; exact .inr ⟨rfl, Nat.le_refl _⟩⟩
theorem tail_take {N x n : Nat} (h : x + n ≤ N) : setR (tail N x) x n false = tail N (x + n) :=
  mk_set h fun i hi => by
    split
    · simp; omega
    · by_cases c : x ≤ i <;> simp [c] <;> omega
theorem div_iff {x j m : Nat} (h : 0 < m) : x / m = j ↔ j * m ≤ x ∧ x < j * m + m := by
  rw [Nat.div_eq_iff h]
  constructor <;> intro h2 <;> omega
/-- Blocks of size m: those of which S says so are free. -/
def blocks (N m : Nat) (S : Nat → Bool) : List Bool := mk N (fun x => S (x / m))
theorem blocks_none {N m : Nat} : tail N N = blocks N m (fun _ => false) := mk_congr fun x hx => by simp; omega
theorem blocks_shut {N m j : Nat} {S : Nat → Bool} (hm : 0 < m) (hj : S j = false) : ∀ i, j * m ≤ i → i < j * m + m → o (blocks N m S) i = false := fun i h1 h2 => by
  unfold blocks; rw [o_mk, (div_iff hm).2 ⟨h1, h2⟩, hj]; split <;> rfl
theorem blocks_give {N m j : Nat} {S : Nat → Bool} (hm : 0 < m) (hj : j * m + m ≤ N) : setR (blocks N m S) (j * m) m true = blocks N m (fun i => if i = j then true else S i) :=
  mk_set hj fun x hx => by
    have := div_iff (x := x) (j := j) hm
    show (if x / m = j then true else S (x / m)) = _
    by_cases c : x / m = j
    · rw [if_pos c, if_pos (this.1 c)]
    · rw [if_neg c, if_neg (fun hh => c (this.2 hh))]
theorem blocks_hole {k m j : Nat} {S : Nat → Bool} (hm : 0 < m) (hS : ∀ i, i < k → S i = !decide (i = j)) : blocks (k * m) m S = hole (k * m) (j * m) (j * m + m) :=
  mk_congr fun x hx => by
    have h1 : x / m < k := (Nat.div_lt_iff_lt_mul hm).2 hx
    rw [hS _ h1]
    have := div_iff (x := x) (j := j) hm
    by_cases c : x / m = j
    · have := this.1 c; simp [c, this]
    · have h2 : ¬ (j * m ≤ x ∧ x < j * m + m) := fun hh => c (this.2 hh)
      by_cases c2 : j * m ≤ x <;> simp [c, c2]; omega
/-- The order in which they are given back. -/
def jj (k c i : Nat) : Nat := if k % 7 = 0 then (i + c) % k else (i * 7 + c) % k
theorem jj_inj : ∀ k, k < 21 → ∀ c, c < k → ∀ i, i < k → ∀ i', i' < k → jj k c i = jj k c i' → i = i' := by decide +kernel
theorem jj_onto : ∀ k, k < 21 → ∀ c, c < k → ∀ j, j < k → ∃ i, i < k ∧ jj k c i = j := by
  have h : ∀ k, k < 21 → ∀ c, c < k → ∀ j, j < k → (List.range k).any (fun i => jj k c i == j) = true := by decide +kernel
  intro k hk c hc j hj
  have := h k hk c hc j hj
  rw [List.any_eq_true] at this
  obtain ⟨i, h1, h2⟩ := this
  exact ⟨i, List.mem_range.1 h1, by simpa using h2⟩
end Go.Proofs.Ytljgnmbjidkjnaa.Fr
