/- Rows of numbers beside what is free; holes of given sizes with a word between. -/
import Derived.Test.YticdoijeonkoaaaL04
namespace Go.Proofs.Yticdoijeonkoaaa.Fr
open Go.Proofs.Yticdoijeonkoaaa.Gen Go.Proofs.Yticdoijeonkoaaa.Base Go.ChangeShapes Go.WideShapes Go.ChangeAt Go.RowKit
set_option linter.unusedVariables false
theorem wpl_app1 {ops : Array Oper} {rest : List Oper} {o : Oper} {a : Act} {w : World} {Q : Exit → Act → World → Prop} (hgd : o.guard = none) (s x : Operand)
    (ho : o.op = .call { callee := .builtin .append, args := #[s, x], argTypes := #[22, 22] })
    (v : Value) (n : Nat) (xs : List Value) (hs : a.eval s = v) (hown : w.ownsRow 0 3 1 v n xs) (ad : Addr) (c : Nat) (y : Int) (hx : a.eval x = .slice (some ad) 1 c) (hy : w.cell? ad = some (.int .i64 y)) (hn : n ≤ 1000000)
    (h : ∀ v' w', w'.ownsRow 0 3 1 v' (n + 1) (xs ++ [.int .i64 y]) → w.grownBy w' v.ownBlock → (v'.ownBlock = v.ownBlock ∨ v'.ownBlock = some w.heap.size) → wpList Try.prog ops Q rest (a.put o.dst v') w') : wpList Try.prog ops Q (o :: rest) a w :=
  wpList_plain hgd fun _ hK => wp_app1 s x ho v n xs hs hown ad c y hx hy hn fun v' w' h1 h2 h3 => hK _ _ (h v' w' h1 h2 h3)
/-- A row of numbers of one's own, in new memory, beside what is free. -/
structure Beside (W : Nat) (u : World) (B : FB) (v : Value) (xs : List Int) : Prop where
  row : u.ownsRow 0 3 1 v xs.length (ints xs)
  apart : ∀ k, v.ownBlock = some k → W ≤ k ∧ ¬ mine B k
theorem Beside.lt {W : Nat} {u : World} {B : FB} {v : Value} {xs : List Int} (h : Beside W u B v xs) {k : Nat} (hk : v.ownBlock = some k) : k < u.heap.size := (h.row.lt k hk).2
theorem Beside.nil (W : Nat) (u : World) (B : FB) : Beside W u B (.slice none 0 0) [] := ⟨⟨rfl, .inl ⟨rfl, rfl⟩⟩, fun k hk => by simp [Value.ownBlock] at hk⟩
theorem Beside.nx {W : Nat} {u u' : World} {B B' : FB} {v : Value} {xs : List Int} (h : Beside W u B v xs) (hn : Nx B u B' u') : Beside W u' B' v xs :=
  ⟨owns_keep h.row fun k hk => hn.block k (h.lt hk) (h.apart k hk).2, fun k hk => ⟨(h.apart k hk).1, fun hm => by
    rcases hn.own k hm with h1 | h1
    · exact (h.apart k hk).2 h1
    · have := h.lt hk; omega⟩⟩
theorem Beside.keep {W : Nat} {u u' : World} {B : FB} {v : Value} {xs : List Int} (h : Beside W u B v xs) (hb : ∀ k, k < u.heap.size → v.ownBlock = some k → u'.heap[k]? = u.heap[k]?) : Beside W u' B v xs :=
  ⟨owns_keep h.row fun k hk => hb k (h.lt hk) hk, h.apart⟩
theorem Beside.form {W : Nat} {u : World} {B : FB} {v : Value} {xs : List Int} (h : Beside W u B v xs) : ∃ a cap, v = .slice a xs.length cap ∧ xs.length ≤ cap ∧ cap ≤ 9223372036854775807 ∧ ∀ i, i < xs.length → ∃ g, a = some ⟨g, 0, none⟩ ∧ u.cell? ⟨g, i, none⟩ = some (.int .i64 (xs[i]?.getD 0)) := by
  rcases Nat.eq_zero_or_pos xs.length with h0 | h0
  · obtain ⟨_, ⟨h1, h2⟩ | ⟨g, cap, cur, h3, h4, h5, h6, h7, _⟩⟩ := h.row
    · exact ⟨none, 0, by rw [h1, h0], by omega, by omega, fun i hi => by omega⟩
    · exact ⟨_, cap, h3, h6, by unfold maxLen at h7; omega, fun i hi => by omega⟩
  · obtain ⟨g, cap, hv, hc, hc2⟩ := own_form h.row h0
    have hr := h.row
    rw [hv] at hr
    obtain ⟨hcell, _, _⟩ := own_cells hr
    exact ⟨_, cap, hv, hc, hc2, fun i hi => ⟨g, rfl, hcell i hi⟩⟩
/-- Two rows of numbers beside what is free. -/
structure Two (W : Nat) (u : World) (B : FB) (l : List Bool) (va : Value) (xs : List Int) (vb : Value) (ys : List Int) : Prop where
  free : FreeAt u B l
  a : Beside W u B va xs
  b : Beside W u B vb ys
  ab : ∀ k, va.ownBlock = some k → vb.ownBlock ≠ some k
theorem Two.nx {W : Nat} {u u' : World} {B B' : FB} {l l' : List Bool} {va vb : Value} {xs ys : List Int} (h : Two W u B l va xs vb ys) (hf : FreeAt u' B' l') (hn : Nx B u B' u') : Two W u' B' l' va xs vb ys :=
  ⟨hf, h.a.nx hn, h.b.nx hn, h.ab⟩
theorem Two.grow {W : Nat} {u u' : World} {B : FB} {l : List Bool} {va vb : Value} {xs ys : List Int} (h : Two W u B l va xs vb ys) (hb : Below u.heap.size u u') : Two W u' B l va xs vb ys :=
  ⟨h.free.below hb, h.a.keep fun k hk _ => hb.block k hk, h.b.keep fun k hk _ => hb.block k hk, h.ab⟩
theorem Two.drewN {W : Nat} {u : World} {B : FB} {l : List Bool} {va vb : Value} {xs ys : List Int} (h : Two W u B l va xs vb ys) (q : Nat) : Two W (u.drewN q) B l va xs vb ys :=
  h.grow ⟨rfl, rfl, rfl, Nat.le_refl _, fun _ _ => rfl⟩
theorem Two.swap {W : Nat} {u : World} {B : FB} {l : List Bool} {va vb : Value} {xs ys : List Int} (h : Two W u B l va xs vb ys) : Two W u B l vb ys va xs :=
  ⟨h.free, h.b, h.a, fun k hk hk' => h.ab k hk' hk⟩
theorem Two.app {W : Nat} {u u' : World} {c : Obj} {B : FB} {l : List Bool} {va va' vb : Value} {xs ys : List Int} {y : Int} (h : Two W u B l va xs vb ys) (hW : W ≤ u.heap.size)
    (hg : (u.alloc c).grownBy u' va.ownBlock) (ho : u'.ownsRow 0 3 1 va' (xs.length + 1) (ints xs ++ [.int .i64 y])) (hv : va'.ownBlock = va.ownBlock ∨ va'.ownBlock = some (u.alloc c).heap.size) :
    Two W u' B l va' (xs ++ [y]) vb ys ∧ Below W u u' := by
  have hkp : ∀ k, k < u.heap.size → va.ownBlock ≠ some k → u'.heap[k]? = u.heap[k]? := fun k hk hne => by
    rw [hg.block k (by simp; omega) (fun e => hne e.symm)]; exact heap_alloc_old _ _ hk
  have hnew : ∀ k, va'.ownBlock = some k → va.ownBlock = some k ∨ u.heap.size ≤ k := fun k hk => by
    rcases hv with e | e
    · exact .inl (by rw [← e]; exact hk)
    · rw [e] at hk; simp at hk; exact .inr (by omega)
  refine ⟨⟨h.free.keep fun k hk => hkp k (h.free.mine_lt hk) fun e => (h.a.apart k e).2 hk, ⟨by simpa [ints] using ho, fun k hk => ?_⟩, h.b.keep fun k hk e => hkp k hk fun e' => h.ab k e' e, fun k hk hk' => ?_⟩, ?_⟩
  · rcases hnew k hk with e | e
    · exact h.a.apart k e
    · exact ⟨by omega, fun hm => by have := h.free.mine_lt hm; omega⟩
  · rcases hnew k hk with e | e
    · exact h.ab k e hk'
    · have := h.b.lt hk'; omega
  · exact Below.grown ((Below.refl W u).alloc hW c) hg (by simp; omega) (fun k hk => (h.a.apart k hk).1)
/-- Where holes of these sizes begin, a word between any two. -/
def ps (sz : Nat → Nat) : Nat → Nat
  | 0 => 0
  | j + 1 => ps sz j + sz j + 1
theorem ps_mono (sz : Nat → Nat) {q q' : Nat} (h : q < q') : ps sz q + sz q + 1 ≤ ps sz q' := by
  induction q' with
  | zero => omega
  | succ q' ih =>
    by_cases e : q = q'
    · subst e; exact Nat.le_refl _
    · have := ih (by omega); show _ ≤ ps sz q' + sz q' + 1; omega
theorem ps_le (sz : Nat → Nat) (h : ∀ q, sz q ≤ 12) (n : Nat) : ps sz n ≤ 13 * n := by
  induction n with
  | zero => exact Nat.le_refl _
  | succ n ih => have := h n; show ps sz n + sz n + 1 ≤ _; omega
def gaps (N : Nat) (sz : Nat → Nat) (j : Nat) : List Bool := mk N fun x => (List.range j).any fun q => decide (ps sz q ≤ x) && decide (x < ps sz q + sz q)
theorem o_gaps {N : Nat} {sz : Nat → Nat} {j x : Nat} : o (gaps N sz j) x = true ↔ x < N ∧ ∃ q, q < j ∧ ps sz q ≤ x ∧ x < ps sz q + sz q := by
  unfold gaps; rw [o_mk]
  by_cases h : x < N <;> simp [h]
theorem gaps_0 {N : Nat} {sz : Nat → Nat} : tail N N = gaps N sz 0 := mk_congr fun x hx => by simp; omega
theorem gaps_shut {N : Nat} {sz : Nat → Nat} {j : Nat} : ∀ i, ps sz j ≤ i → i < ps sz j + sz j → o (gaps N sz j) i = false := fun i h1 h2 => by
  rw [← Bool.not_eq_true, o_gaps]
  rintro ⟨_, q, q1, q2, q3⟩
  have := ps_mono sz q1; omega
theorem gaps_give {N : Nat} {sz : Nat → Nat} {j : Nat} (h : ps sz j + sz j ≤ N) : setR (gaps N sz j) (ps sz j) (sz j) true = gaps N sz (j + 1) :=
  list_o (by simp [gaps, setR_len, mk_len]) fun x hx => by
    have hN : (gaps N sz j).length = N := mk_len _ _
    rw [setR_len, hN] at hx
    rw [o_set _ _ _ _ (by rw [hN]; exact h)]
    rw [Bool.eq_iff_iff, o_gaps]
    split
    · rename_i hh
      exact ⟨fun _ => ⟨hx, j, by omega, hh⟩, fun _ => rfl⟩
    · rename_i hh
      rw [o_gaps]
      constructor
      · rintro ⟨_, q, q1, q2⟩; exact ⟨hx, q, by omega, q2⟩
      · rintro ⟨_, q, q1, q2⟩
        refine ⟨hx, q, ?_, q2⟩
        rcases Nat.lt_or_ge q j with c | c
        · exact c
        · obtain rfl : q = j := by omega
          exact absurd q2 hh
theorem run_gaps {N n : Nat} {sz : Nat → Nat} (h1 : ∀ q, 1 ≤ sz q) (h2 : ∀ q, q < n → ps sz q + sz q ≤ N) (a m : Nat) : Run (gaps N sz n) a m ↔ ∃ q, q < n ∧ a = ps sz q ∧ m = sz q := by
  have hr : ∀ q, q < n → Run (gaps N sz n) (ps sz q) (sz q) := fun q hq => by
    have hle := h2 q hq
    refine ⟨h1 q, fun i i1 i2 => o_gaps.2 ⟨by omega, q, hq, i1, i2⟩, ?_, ?_⟩
    · by_cases c : ps sz q = 0
      · exact .inl c
      · refine .inr ?_
        rw [← Bool.not_eq_true, o_gaps]
        rintro ⟨_, q', p1, p2, p3⟩
        rcases Nat.lt_trichotomy q q' with d | d | d
        · have := ps_mono sz d; omega
        · subst d; omega
        · have := ps_mono sz d; omega
    · rw [← Bool.not_eq_true, o_gaps]
      rintro ⟨_, q', p1, p2, p3⟩
      rcases Nat.lt_trichotomy q q' with d | d | d
      · have := ps_mono sz d; omega
      · subst d; omega
      · have := ps_mono sz d; have := h1 q; omega
  constructor
  · intro h
    obtain ⟨_, q, q1, q2, q3⟩ := o_gaps.1 (h.all a (Nat.le_refl _) (by have := h.pos; omega))
    obtain ⟨e1, e2⟩ := h.eq (hr q q1) (x := a) (Nat.le_refl _) (by have := h.pos; omega) q2 q3
    exact ⟨q, q1, e1, e2⟩
  · rintro ⟨q, q1, rfl, rfl⟩; exact hr q q1
theorem best_gaps {N n m b : Nat} {sz : Nat → Nat} (h1 : ∀ q, 1 ≤ sz q) (h2 : ∀ q, q < n → ps sz q + sz q ≤ N) (hb : b < n) (hm : m ≤ sz b) (hl : ∀ q, q < n → m ≤ sz q → sz b < sz q ∨ (sz b = sz q ∧ b ≤ q)) : Best (Run (gaps N sz n)) m (ps sz b) (sz b) :=
  ⟨(run_gaps h1 h2 _ _).2 ⟨b, hb, rfl, rfl⟩, hm, fun a' m' hr hm' => by
    obtain ⟨q, q1, rfl, rfl⟩ := (run_gaps h1 h2 _ _).1 hr
    rcases hl q q1 hm' with c | ⟨c, c2⟩
    · exact .inl c
    · refine .inr ⟨c, ?_⟩
      rcases Nat.lt_or_ge b q with d | d
      · have := ps_mono sz d; omega
      · rw [show b = q by omega]; exact Nat.le_refl _⟩
def psL (sz : Nat → Nat) (n : Nat) : List Int := (List.range n).map fun q => (ps sz q : Int)
def szL (sz : Nat → Nat) (n : Nat) : List Int := (List.range n).map fun q => (sz q : Int)
theorem psL_succ (sz : Nat → Nat) (n : Nat) : psL sz n ++ [(ps sz n : Int)] = psL sz (n + 1) := by simp [psL, List.range_succ]
theorem szL_succ (sz : Nat → Nat) (n : Nat) : szL sz n ++ [(sz n : Int)] = szL sz (n + 1) := by simp [szL, List.range_succ]
theorem psL_len (sz : Nat → Nat) (n : Nat) : (psL sz n).length = n := by simp [psL]
theorem szL_len (sz : Nat → Nat) (n : Nat) : (szL sz n).length = n := by simp [szL]
theorem psL_at (sz : Nat → Nat) {n i : Nat} (h : i < n) : (psL sz n)[i]?.getD 0 = (ps sz i : Int) := by simp [psL, h]
theorem szL_at (sz : Nat → Nat) {n i : Nat} (h : i < n) : (szL sz n)[i]?.getD 0 = (sz i : Int) := by simp [szL, h]
theorem most_tail {N x m : Nat} (h : x < N) (hm : Most (Run (tail N x)) m) : m = N - x := by
  have h1 := hm.le x (N - x) ((run_tail h _ _).2 ⟨rfl, rfl⟩)
  rcases hm.is with h2 | ⟨a, h2⟩
  · omega
  · exact ((run_tail h _ _).1 h2).2
end Go.Proofs.Yticdoijeonkoaaa.Fr
