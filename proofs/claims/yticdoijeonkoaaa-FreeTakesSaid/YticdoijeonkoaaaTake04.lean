/- What has been taken, and is given back in turn; a row of truths in one block. -/
import Derived.Test.YticdoijeonkoaaaRow04
namespace Go.Proofs.Yticdoijeonkoaaa.Fr
open Go.Proofs.Yticdoijeonkoaaa.Gen Go.Proofs.Yticdoijeonkoaaa.Base Go.ChangeShapes Go.WideShapes Go.ChangeAt Go.RowKit
set_option linter.unusedVariables false
/-- There is a best run, or none that has so many words. -/
theorem FreeAt.best {w : World} {B : FB} {l : List Bool} (h : FreeAt w B l) (n : Nat) : (∃ a m, Best (Run l) n a m) ∨ (∀ a m, Run l a m → m < n) := by
  obtain ⟨F, hF, h1, hL, h3⟩ := h
  cases hb : (shortS F.lng n F.ls (18 - Bt.kindOf n) (Bt.kindOf n)).2
  · exact .inr (hL.no hb)
  · obtain ⟨a, m, _, h4⟩ := hL.yes hb
    exact .inl ⟨a, m, h4⟩
/-- Taken, in this order; nothing else is. -/
structure Tk (k : Nat) (l : List Bool) (T : List (Nat × Nat)) : Prop where
  len : l.length = k
  fit : ∀ i a s : Nat, T[i]? = some (a, s) → 1 ≤ s ∧ s ≤ 20 ∧ a + s ≤ k
  cov : ∀ x, x < k → (o l x = false ↔ ∃ i a s : Nat, T[i]? = some (a, s) ∧ a ≤ x ∧ x < a + s)
  dis : ∀ i j a s b t : Nat, T[i]? = some (a, s) → T[j]? = some (b, t) → i < j → a + s ≤ b ∨ b + t ≤ a
theorem Tk.zero (k : Nat) : Tk k (List.replicate k true) [] :=
  ⟨by simp, fun i a s h => by simp at h, fun x hx => by rw [o_rep, if_pos hx]; simp, fun i j a s b t h => by simp at h⟩
theorem snoc_at {T : List (Nat × Nat)} {p q : Nat × Nat} {i : Nat} (h : (T ++ [p])[i]? = some q) : (i < T.length ∧ T[i]? = some q) ∨ (i = T.length ∧ q = p) := by
  rcases Nat.lt_or_ge i T.length with c | c
  · rw [List.getElem?_append_left c] at h; exact .inl ⟨c, h⟩
  · rw [List.getElem?_append_right c] at h
    by_cases e : i - T.length = 0
    · rw [e] at h; simp at h; exact .inr ⟨by omega, h.symm⟩
    · rw [List.getElem?_eq_none (by simp; omega)] at h; cases h
theorem Tk.step {k : Nat} {l : List Bool} {T : List (Nat × Nat)} (h : Tk k l T) {a m s : Nat} (hr : Run l a m) (h1 : 1 ≤ s) (h2 : s ≤ 20) (h3 : s ≤ m) : Tk k (setR l a s false) (T ++ [(a, s)]) := by
  have hle := hr.le
  have hlen := h.len
  have hs := o_set l a s false (by omega)
  refine ⟨by rw [setR_len]; exact h.len, fun i b t hb => ?_, fun x hx => ?_, fun i j b t c u hb hc hij => ?_⟩
  · rcases snoc_at hb with ⟨_, q⟩ | ⟨_, q⟩
    · exact h.fit i b t q
    · cases q; exact ⟨h1, h2, by omega⟩
  · rw [hs]
    constructor
    · intro hh
      split at hh
      · rename_i hin
        exact ⟨T.length, a, s, by simp, hin.1, hin.2⟩
      · obtain ⟨i, b, t, q1, q2, q3⟩ := (h.cov x hx).1 hh
        refine ⟨i, b, t, ?_, q2, q3⟩
        rw [List.getElem?_append_left (List.getElem?_eq_some_iff.1 q1).1]; exact q1
    · rintro ⟨i, b, t, q1, q2, q3⟩
      split
      · rfl
      · rename_i hout
        rcases snoc_at q1 with ⟨_, q⟩ | ⟨_, q⟩
        · exact (h.cov x hx).2 ⟨i, b, t, q, q2, q3⟩
        · cases q; exact absurd ⟨q2, q3⟩ hout
  · rcases snoc_at hb with ⟨p1, q1⟩ | ⟨p1, q1⟩ <;> rcases snoc_at hc with ⟨p2, q2⟩ | ⟨p2, q2⟩
    · exact h.dis i j b t c u q1 q2 hij
    · cases q2
      have hf := h.fit i b t q1
      rcases Classical.em (b + t ≤ a ∨ a + s ≤ b) with d | d
      · exact d
      · obtain ⟨x, x1, x2, x3, x4⟩ := overlap (A := a) (N := s) (a' := b) (n' := t) d hf.1 h1
        have := (h.cov x (by omega)).2 ⟨i, b, t, q1, x1, x2⟩
        rw [hr.all x x3 (by omega)] at this; cases this
    · omega
    · omega
/-- Of these so many, from place c on, have been given back. -/
structure Gv (k : Nat) (l : List Bool) (T : List (Nat × Nat)) (c i : Nat) : Prop where
  len : l.length = k
  cov : ∀ x, x < k → (o l x = false ↔ ∃ q a s : Nat, T[q]? = some (a, s) ∧ a ≤ x ∧ x < a + s ∧ ∀ i', i' < i → (i' + c) % T.length ≠ q)
theorem Gv.zero {k : Nat} {l : List Bool} {T : List (Nat × Nat)} (h : Tk k l T) (c : Nat) : Gv k l T c 0 :=
  ⟨h.len, fun x hx => by
    rw [h.cov x hx]
    constructor
    · rintro ⟨q, a, s, h1, h2, h3⟩; exact ⟨q, a, s, h1, h2, h3, fun i' hi' => by omega⟩
    · rintro ⟨q, a, s, h1, h2, h3, _⟩; exact ⟨q, a, s, h1, h2, h3⟩⟩
theorem mod_two {n i c : Nat} (hi : i < n) (hc : c ≤ n) : (i + c) % n = if i + c < n then i + c else i + c - n := by
  split
  · rename_i h; exact Nat.mod_eq_of_lt h
  · rename_i h; rw [Nat.mod_eq_sub_mod (by omega), Nat.mod_eq_of_lt (by omega)]
section
variable {k : Nat} {l l0 : List Bool} {T : List (Nat × Nat)} {c i a s : Nat}
theorem Gv.shut (h : Gv k l T c i) (hT : Tk k l0 T) (hi : i < T.length) (hc : c ≤ T.length) (hq : T[(i + c) % T.length]? = some (a, s)) : ∀ x, a ≤ x → x < a + s → o l x = false := fun x h1 h2 => by
  have hf := hT.fit _ a s hq
  refine (h.cov x (by omega)).2 ⟨_, a, s, hq, h1, h2, fun i' hi' => ?_⟩
  rw [mod_two hi hc, mod_two (by omega : i' < T.length) hc]
  split <;> split <;> omega
theorem Gv.step (h : Gv k l T c i) (hT : Tk k l0 T) (hi : i < T.length) (hc : c ≤ T.length) (hq : T[(i + c) % T.length]? = some (a, s)) : Gv k (setR l a s true) T c (i + 1) := by
  have hf := hT.fit _ a s hq
  have hlen := h.len
  refine ⟨by rw [setR_len]; exact h.len, fun x hx => ?_⟩
  rw [o_set l a s true (by omega)]
  constructor
  · intro hh
    split at hh
    · cases hh
    · rename_i hout
      obtain ⟨q, b, t, q1, q2, q3, q4⟩ := (h.cov x hx).1 hh
      refine ⟨q, b, t, q1, q2, q3, fun i' hi' => ?_⟩
      by_cases e : i' = i
      · subst e
        rintro rfl
        rw [hq] at q1; cases q1; exact hout ⟨q2, q3⟩
      · exact q4 i' (by omega)
  · rintro ⟨q, b, t, q1, q2, q3, q4⟩
    have hne := q4 i (by omega)
    split
    · rename_i hin
      exfalso
      rcases Nat.lt_trichotomy ((i + c) % T.length) q with d | d | d
      · have := hT.dis _ _ a s b t hq q1 d; omega
      · exact hne d
      · have := hT.dis _ _ b t a s q1 hq d; omega
    · exact (h.cov x hx).2 ⟨q, b, t, q1, q2, q3, fun i' hi' => q4 i' (by omega)⟩
theorem Gv.all (h : Gv k l T c T.length) (hc : c ≤ T.length) : l = List.replicate k true :=
  list_o (by simp [h.len]) fun x hx => by
    rw [h.len] at hx
    rw [o_rep, if_pos hx]
    cases hb : o l x
    · obtain ⟨q, b, t, q1, q2, q3, q4⟩ := (h.cov x hx).1 hb
      have hql := (List.getElem?_eq_some_iff.1 q1).1
      exfalso
      by_cases d : c ≤ q
      · refine q4 (q - c) (by omega) ?_
        rw [mod_two (by omega) hc, if_pos (by omega)]; omega
      · refine q4 (q + T.length - c) (by omega) ?_
        rw [mod_two (by omega) hc, if_neg (by omega)]; omega
    · rfl
end
def isL (k : Nat) (l : List Bool) : List Bool := mk 300 fun x => decide (x < k) && !o l x
theorem isL_0 (k : Nat) : isL k (List.replicate k true) = List.replicate 300 false :=
  list_o (by rw [List.length_replicate]; exact mk_len _ _) fun x hx => by
    rw [show (isL k (List.replicate k true)).length = 300 from mk_len _ _] at hx
    unfold isL
    rw [o_mk, o_rep, o_rep, if_pos hx, if_pos hx]
    by_cases c : x < k <;> simp [c]
theorem isL_set {k a s : Nat} {l : List Bool} (hk : k ≤ 300) (hl : l.length = k) (h : a + s ≤ k) : setR (isL k l) a s true = isL k (setR l a s false) :=
  mk_set (by omega) fun x hx => by
    rw [o_set l a s false (by omega)]
    split
    · simp; omega
    · rfl
theorem isL_at {k a j : Nat} {l : List Bool} (hk : k ≤ 300) (h : a + j < k) (ho : o l (a + j) = true) : (setR (isL k l) a j true)[a + j]?.getD false = false := by
  show o (setR (isL k l) a j true) (a + j) = false
  rw [o_set _ _ _ _ (by unfold isL; rw [mk_len]; omega), if_neg (by omega)]
  unfold isL; rw [o_mk, if_pos (by omega), ho]; simp
/-- Two rows beside what is free, and a row of truths in a block of its own. -/
structure Three (W : Nat) (u : World) (B : FB) (l : List Bool) (va : Value) (xs : List Int) (vb : Value) (ys : List Int) (d : Nat) (I : List Bool) : Prop where
  two : Two W u B l va xs vb ys
  is : u.heap[d]? = some (.cells (bools I).toArray 26 (0, 0))
  dW : W ≤ d
  dm : ¬ mine B d
  da : va.ownBlock ≠ some d
  db : vb.ownBlock ≠ some d
section
variable {W : Nat} {u u' : World} {B B' : FB} {l l' : List Bool} {va vb : Value} {xs ys : List Int} {d : Nat} {I : List Bool}
theorem Three.lt (h : Three W u B l va xs vb ys d I) : d < u.heap.size := (Array.getElem?_eq_some_iff.1 h.is).1
theorem Three.nx (h : Three W u B l va xs vb ys d I) (hf : FreeAt u' B' l') (hn : Nx B u B' u') : Three W u' B' l' va xs vb ys d I :=
  ⟨h.two.nx hf hn, by rw [hn.block d h.lt h.dm]; exact h.is, h.dW, fun hm => by
    rcases hn.own d hm with h1 | h1
    · exact h.dm h1
    · have := h.lt; omega, h.da, h.db⟩
theorem Three.drewN (h : Three W u B l va xs vb ys d I) (q : Nat) : Three W (u.drewN q) B l va xs vb ys d I := ⟨h.two.drewN q, h.is, h.dW, h.dm, h.da, h.db⟩
theorem Three.swap (h : Three W u B l va xs vb ys d I) : Three W u B l vb ys va xs d I := ⟨h.two.swap, h.is, h.dW, h.dm, h.db, h.da⟩
theorem Three.app {c : Obj} {va' : Value} {y : Int} (h : Three W u B l va xs vb ys d I) (hW : W ≤ u.heap.size)
    (hg : (u.alloc c).grownBy u' va.ownBlock) (ho : u'.ownsRow 0 3 1 va' (xs.length + 1) (ints xs ++ [.int .i64 y])) (hv : va'.ownBlock = va.ownBlock ∨ va'.ownBlock = some (u.alloc c).heap.size) :
    Three W u' B l va' (xs ++ [y]) vb ys d I ∧ Below W u u' := by
  obtain ⟨h1, h2⟩ := h.two.app hW hg ho hv
  refine ⟨⟨h1, ?_, h.dW, h.dm, ?_, h.db⟩, h2⟩
  · rw [hg.block d (by have := h.lt; simp; omega) (fun e => h.da e.symm), heap_alloc_old _ _ h.lt]; exact h.is
  · rcases hv with e | e
    · rw [e]; exact h.da
    · rw [e]; have := h.lt; simp; omega
theorem Three.store (h : Three W u B l va xs vb ys d I) (i : Nat) (v : Bool) : Three W (u.setCell ⟨d, i, none⟩ (.bool v)) B l va xs vb ys d (I.set i v) := by
  have hk : ∀ k, k ≠ d → (u.setCell ⟨d, i, none⟩ (.bool v)).heap[k]? = u.heap[k]? := fun k hk => heap_setCell_other _ _ _ _ hk
  refine ⟨⟨h.two.free.keep fun k hm => hk k fun e => h.dm (e ▸ hm), h.two.a.keep fun k _ e => hk k fun e' => h.da (e' ▸ e), h.two.b.keep fun k _ e => hk k fun e' => h.db (e' ▸ e), h.two.ab⟩, ?_, h.dW, h.dm, h.da, h.db⟩
  rw [heap_setCell_same u d i _ _ _ h.is, bools_set]
theorem Three.cell (h : Three W u B l va xs vb ys d I) (i : Nat) (hi : i < I.length) : u.cell? ⟨d, i, none⟩ = some (.bool (I[i]?.getD false)) := by rw [cell_of_row u d i _ _ _ h.is]; simp [bools, hi]
theorem Three.fz (h : Three W u B l va xs vb ys d I) (i : Nat) : u.frozen? ⟨d, i, none⟩ = false := frozen_of_row u d i _ _ h.is
end
def fstL (T : List (Nat × Nat)) : List Int := T.map fun p => (p.1 : Int)
def sndL (T : List (Nat × Nat)) : List Int := T.map fun p => (p.2 : Int)
theorem fstL_len (T : List (Nat × Nat)) : (fstL T).length = T.length := by simp [fstL]
theorem sndL_len (T : List (Nat × Nat)) : (sndL T).length = T.length := by simp [sndL]
theorem fstL_app (T : List (Nat × Nat)) (a s : Nat) : fstL T ++ [(a : Int)] = fstL (T ++ [(a, s)]) := by simp [fstL]
theorem sndL_app (T : List (Nat × Nat)) (a s : Nat) : sndL T ++ [(s : Int)] = sndL (T ++ [(a, s)]) := by simp [sndL]
theorem fstL_at {T : List (Nat × Nat)} {i a s : Nat} (h : T[i]? = some (a, s)) : (fstL T)[i]?.getD 0 = (a : Int) := by simp [fstL, h]
theorem sndL_at {T : List (Nat × Nat)} {i a s : Nat} (h : T[i]? = some (a, s)) : (sndL T)[i]?.getD 0 = (s : Int) := by simp [sndL, h]
theorem most_rep {k m : Nat} (h : Most (Run (List.replicate k true)) m) : m = k := by
  rcases Nat.eq_zero_or_pos k with e | e
  · subst e
    rcases h.is with h1 | ⟨a, h1⟩
    · exact h1
    · have := h1.le; simp at this; omega
  · have h1 := h.le 0 k ((run_rep e _ _).2 ⟨rfl, rfl⟩)
    rcases h.is with h2 | ⟨a, h2⟩
    · omega
    · exact ((run_rep e _ _).1 h2).2
/-- The first two numbers of a row of pairs. -/
theorem pair_cells {u : World} {W g cap k : Nat} {e : TypeId} (h : u.ownsRow W e 2 (.slice (some ⟨g, 0, none⟩) 1 cap) 1 (pairs [(0, k)])) : u.cell? ⟨g, 0, none⟩ = some (.int .i64 0) ∧ u.cell? ⟨g, 1, none⟩ = some (.int .i64 k) := by
  obtain ⟨_, ⟨h1, _⟩ | ⟨g', cap', cur, h3, _, h5, _, _, _, h9⟩⟩ := h
  · cases h1
  · obtain ⟨e1, _, _⟩ := Value.slice.inj h3
    obtain rfl : g = g' := by simpa using e1
    have h10 : cur.toList.take 2 = [.int .i64 0, .int .i64 (k : Int)] := h9
    refine ⟨?_, ?_⟩
    · rw [cell_of_row u g 0 _ _ _ h5, ← Array.getElem?_toList, ← List.getElem?_take_of_lt (i := 0) (j := 2) (by omega), h10]; rfl
    · rw [cell_of_row u g 1 _ _ _ h5, ← Array.getElem?_toList, ← List.getElem?_take_of_lt (i := 1) (j := 2) (by omega), h10]; rfl
end Go.Proofs.Yticdoijeonkoaaa.Fr
