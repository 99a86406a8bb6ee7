/- Things in a list, in memory: package object. -/
import Derived.Test.YtoklohfpkaiidaaGreatBase2
import Derived.Deep.MidRow
import Derived.Deep.WholeRow
import Derived.Maps.AppendAt
import Derived.Deep.RegionHeld3
import Derived.Deep.DeepCutAuto
import Derived.OwnWalk
namespace Go.Proofs.YtoklohfpkaiidaaGreat.Obj
open Go.Proofs.YtoklohfpkaiidaaGreat.Gen Go.Proofs.YtoklohfpkaiidaaGreat.Base Go.ChangeShapes Go.WideShapes Go.ChangeAt Go.RowKit
set_option linter.unusedVariables false
theorem cell_row (w : World) (b i : Nat) (cs : Array Value) (t : TypeId) (v : Nat × Nat) (h : w.heap[b]? = some (.cells cs t v)) : w.cell? ⟨b, i, none⟩ = cs[i]? := by simp [World.cell?, h]
theorem live_row (w : World) (b i : Nat) (cs : Array Value) (t : TypeId) (h : w.heap[b]? = some (.cells cs t (0, 0))) : w.frozen? ⟨b, i, none⟩ = false := by simp [World.frozen?, h]
/-- A value, as its two cells. -/
abbrev V := Bool × Int
def vcells (p : V) : List Value := [.bool p.1, .int .i64 p.2]
def vals (F : List V) : List Value := F.flatMap vcells
theorem vals_len (F : List V) : (vals F).length = F.length * 2 := by
  induction F with
  | nil => rfl
  | cons p F ih =>
    have e : vals (p :: F) = vcells p ++ vals F := rfl
    rw [e, List.length_append, ih, List.length_cons]
    have : (vcells p).length = 2 := rfl
    omega
/-- Cells of elements of one size, one behind the other. -/
theorem flat_at {α : Type} (f : α → List Value) (s : Nat) (hf : ∀ a, (f a).length = s) (l : List α) : ∀ q a, l[q]? = some a → ∀ j, j < s → (l.flatMap f)[q * s + j]? = (f a)[j]? := by
  induction l with
  | nil => intro q a hq; simp at hq
  | cons p l ih =>
    intro q a hq j hj
    have e : (p :: l).flatMap f = f p ++ l.flatMap f := rfl
    have hl := hf p
    rw [e]
    cases q with
    | zero =>
      obtain rfl : p = a := by simpa using hq
      rw [Nat.zero_mul, Nat.zero_add, List.getElem?_append_left (by omega)]
    | succ q =>
      rw [List.getElem?_append_right (by rw [hl, Nat.succ_mul]; omega), hl, show (q + 1) * s + j - s = q * s + j by rw [Nat.succ_mul]; omega]
      exact ih q a (by simpa using hq) j hj
theorem flat_len {α : Type} (f : α → List Value) (s : Nat) (hf : ∀ a, (f a).length = s) (l : List α) : (l.flatMap f).length = l.length * s := by
  induction l with
  | nil => simp
  | cons p l ih => rw [List.flatMap_cons, List.length_append, ih, hf, List.length_cons, Nat.succ_mul]; omega
/-- One element turned. -/
theorem flat_set {α : Type} (f : α → List Value) (s : Nat) (hf : ∀ a, (f a).length = s) (l : List α) : ∀ (q : Nat) (a a' : α) (j : Nat) (u : Value), l[q]? = some a → j < s → f a' = (f a).set j u → (l.set q a').flatMap f = (l.flatMap f).set (q * s + j) u := by
  induction l with
  | nil => intro q a a' j u hq; simp at hq
  | cons p l ih =>
    intro q a a' j u hq hj he
    have hl := hf p
    cases q with
    | zero =>
      obtain rfl : p = a := by simpa using hq
      show f a' ++ l.flatMap f = (f p ++ l.flatMap f).set (0 * s + j) u
      rw [he, Nat.zero_mul, Nat.zero_add, List.set_append_left _ _ (by omega)]
    | succ q =>
      show f p ++ (l.set q a').flatMap f = (f p ++ l.flatMap f).set ((q + 1) * s + j) u
      rw [ih q a a' j u (by simpa using hq) hj he, List.set_append_right _ _ (by rw [hl, Nat.succ_mul]; omega), hl, show (q + 1) * s + j - s = q * s + j by rw [Nat.succ_mul]; omega]
theorem flat_same {α : Type} (f : α → List Value) (l : List α) (q : Nat) (a a' : α) (hq : l[q]? = some a) (he : f a' = f a) : (l.set q a').flatMap f = l.flatMap f := by
  induction l generalizing q with
  | nil => rfl
  | cons p l ih =>
    cases q with
    | zero => obtain rfl : p = a := by simpa using hq
              show f a' ++ l.flatMap f = f p ++ l.flatMap f
              rw [he]
    | succ q =>
      show f p ++ (l.set q a').flatMap f = f p ++ l.flatMap f
      rw [ih q (by simpa using hq)]
/-- A row that is read and stored into, not grown: where it is empty its address says nothing. -/
def RowV (w : World) (e : TypeId) (s : Nat) (v : Value) (n : Nat) (xs : List Value) : Prop :=
  (n = 0 ∧ xs = [] ∧ ∃ a c, v = .slice a 0 c) ∨ (0 < n ∧ xs.length = n * s ∧ ∃ g cap cur fz, v = .slice (some ⟨g, 0, none⟩) n cap ∧ w.heap[g]? = some (.cells cur e fz) ∧ (fz = (0, 0) ∨ cur.size ≤ fz.1) ∧ n ≤ cap ∧ cap ≤ maxLen ∧ cur.size = cap * s ∧ cur.toList.take (n * s) = xs)
def blk (v : Value) (n : Nat) : Option Nat := if n = 0 then none else v.ownBlock
section
variable {w w' : World} {e : TypeId} {s n : Nat} {v : Value} {xs : List Value}
theorem RowV.own (h0 : 0 < n) (h : w.ownsRow 0 e s v n xs) : RowV w e s v n xs := by
  obtain ⟨hx, ⟨h1, h2⟩ | ⟨g, cap, cur, h3, h4, h5, h6, h7, h8, h9⟩⟩ := h
  · omega
  · exact .inr ⟨h0, hx, g, cap, cur, (0, 0), h3, h5, .inl rfl, h6, h7, h8, h9⟩
theorem live_fz (w : World) (b i : Nat) (cs : Array Value) (t : TypeId) (fz : Nat × Nat) (h : w.heap[b]? = some (.cells cs t fz)) (hf : fz = (0, 0) ∨ cs.size ≤ fz.1) (hi : i < cs.size) : w.frozen? ⟨b, i, none⟩ = false := by
  obtain ⟨f1, f2⟩ := fz
  rcases hf with e | e
  · cases e; simp [World.frozen?, h]
  · simp only at e
    simp [World.frozen?, h]
    omega
theorem RowV.lt (h : RowV w e s v n xs) (k : Nat) (hk : blk v n = some k) : k < w.heap.size := by
  unfold blk at hk
  split at hk
  · cases hk
  · rcases h with ⟨h, _⟩ | ⟨_, _, g, cap, cur, fz, rfl, h5, _⟩
    · omega
    · obtain rfl : g = k := by simpa [Value.ownBlock] using hk
      exact (Array.getElem?_eq_some_iff.1 h5).1
theorem RowV.keep (h : RowV w e s v n xs) (hb : ∀ k, blk v n = some k → w'.heap[k]? = w.heap[k]?) : RowV w' e s v n xs := by
  rcases h with h | ⟨h0, hx, g, cap, cur, fz, h3, h5, h6⟩
  · exact .inl h
  · refine .inr ⟨h0, hx, g, cap, cur, fz, h3, ?_, h6⟩
    rw [hb g (by unfold blk; rw [if_neg (by omega), h3]; rfl)]; exact h5
theorem RowV.slice (h : RowV w e s v n xs) : ∃ a c, v = .slice a n c := by
  rcases h with ⟨rfl, _, h⟩ | ⟨_, _, g, cap, cur, fz, h3, _⟩
  · exact h
  · exact ⟨_, cap, h3⟩
theorem RowV.cells (h : RowV w e s v n xs) : ∃ a c, v = .slice a n c ∧ (n : Int) ≤ 9223372036854775807 ∧ ∀ j, j < n * s → ∃ g, a = some ⟨g, 0, none⟩ ∧ w.cell? ⟨g, j, none⟩ = xs[j]? ∧ w.frozen? ⟨g, j, none⟩ = false := by
  rcases h with ⟨rfl, _, a, c, rfl⟩ | ⟨h0, hx, g, cap, cur, fz, h3, h5, hf, h6, h7, h8, h9⟩
  · exact ⟨a, c, rfl, by omega, fun j hj => by simp at hj⟩
  · refine ⟨_, cap, h3, by unfold maxLen at h7; omega, fun j hj => ⟨g, rfl, ?_, live_fz w g j _ _ _ h5 hf (by rw [h8]; exact Nat.lt_of_lt_of_le hj (Nat.mul_le_mul_right s h6))⟩⟩
    rw [cell_row w g j _ _ _ h5, ← h9, List.getElem?_take, if_pos hj]
    simp
theorem RowV.set {g : Nat} {c : Nat} (h : RowV w e s (.slice (some ⟨g, 0, none⟩) n c) n xs) (j : Nat) (hj : j < n * s) (u : Value) : RowV (w.setCell ⟨g, j, none⟩ u) e s (.slice (some ⟨g, 0, none⟩) n c) n (xs.set j u) := by
  rcases h with ⟨rfl, _⟩ | ⟨h0, hx, g', cap, cur, fz, h3, h5, hf, h6, h7, h8, h9⟩
  · simp at hj
  · obtain ⟨e1, -, e3⟩ := Value.slice.inj h3
    obtain rfl : g = g' := by simpa using e1
    subst e3
    refine .inr ⟨h0, by simpa using hx, g, c, cur.setIfInBounds j u, fz, rfl, ?_, by simpa using hf, h6, h7, by simpa using h8, ?_⟩
    · rw [setCell_eq_setRow w g j cur e fz u h5]
      exact setRow_heap w g cur _ e _ h5
    · rw [← h9]
      simp [List.take_set]
theorem RowV.far {g j : Nat} {u : Value} (h : RowV w e s v n xs) (hne : blk v n ≠ some g) : RowV (w.setCell ⟨g, j, none⟩ u) e s v n xs :=
  h.keep fun k hk => heap_setCell_other _ _ _ _ fun e => hne (by rw [hk, show k = g from e])
end
/-- A thing as the list keeps it. -/
structure Bd where
  cls : Int
  fmt : Int
  hash : Int
  col : Int
  fin : Bool
  fv : Value
  F : List V
  bv : Value
  B : List Int
def Bd.cells (b : Bd) : List Value := [.int .i64 b.cls, .int .i64 b.fmt, .int .i64 b.hash, .int .i64 b.col, .bool b.fin, b.fv, b.bv]
def cellsB (bs : List Bd) : List Value := bs.flatMap Bd.cells
theorem cellsB_at (bs : List Bd) : ∀ q b, bs[q]? = some b → ∀ j, j < 7 → (cellsB bs)[q * 7 + j]? = b.cells[j]? := flat_at Bd.cells 7 (fun _ => rfl) bs
def Bd.own (b : Bd) (k : Nat) : Prop := blk b.fv b.F.length = some k ∨ blk b.bv b.B.length = some k
def Apt (b b' : Bd) : Prop := ∀ k, b.own k → ¬ b'.own k
theorem Apt.symm {b b' : Bd} (h : Apt b b') : Apt b' b := fun k h1 h2 => h k h2 h1
/-- The list in memory. -/
structure ListAt (w : World) (li : Nat) (lv : Value) (bs : List Bd) : Prop where
  row : w.heap[li]? = some (.cells #[lv] 106 (0, 0))
  ls : w.ownsRow 0 110 7 lv bs.length (cellsB bs)
  fs : ∀ b ∈ bs, RowV w 54 2 b.fv b.F.length (vals b.F)
  ys : ∀ b ∈ bs, RowV w 5 1 b.bv b.B.length (b.B.map (Value.int .u8))
  n1 : lv.ownBlock ≠ some li
  n2 : ∀ b ∈ bs, ∀ k, b.own k → k ≠ li ∧ lv.ownBlock ≠ some k
  ap : bs.Pairwise Apt
  n6 : ∀ b ∈ bs, ∀ k, blk b.fv b.F.length = some k → blk b.bv b.B.length ≠ some k
  few : bs.length ≤ 100000
def ownL (li : Nat) (lv : Value) (bs : List Bd) (k : Nat) : Prop := k = li ∨ lv.ownBlock = some k ∨ ∃ b ∈ bs, b.own k
section
variable {w w' : World} {li : Nat} {lv : Value} {bs : List Bd}
theorem ListAt.lt (h : ListAt w li lv bs) {k : Nat} (hk : ownL li lv bs k) : k < w.heap.size := by
  rcases hk with rfl | e | ⟨b, hb, e | e⟩
  · exact (Array.getElem?_eq_some_iff.1 h.row).1
  · exact (h.ls.lt k e).2
  · exact (h.fs b hb).lt k e
  · exact (h.ys b hb).lt k e
theorem owns_at {base : Nat} {e : TypeId} {s n : Nat} {v : Value} {xs : List Value} (h : w.ownsRow base e s v n xs) (hb : ∀ k, v.ownBlock = some k → w'.heap[k]? = w.heap[k]?) : w'.ownsRow base e s v n xs := by
  obtain ⟨hx, ⟨h1, h2⟩ | ⟨g, cap, cur, h3, h4, h5, h6, h7, h8, h9⟩⟩ := h
  · exact ⟨hx, .inl ⟨h1, h2⟩⟩
  · refine ⟨hx, .inr ⟨g, cap, cur, h3, h4, ?_, h6, h7, h8, h9⟩⟩
    rw [hb g (by rw [h3]; rfl)]; exact h5
theorem ListAt.keep (h : ListAt w li lv bs) (hb : ∀ k, ownL li lv bs k → w'.heap[k]? = w.heap[k]?) : ListAt w' li lv bs :=
  { h with
    row := (hb li (.inl rfl)).trans h.row
    ls := owns_at h.ls fun k hk => hb k (.inr (.inl hk))
    fs := fun b hm => (h.fs b hm).keep fun k hk => hb k (.inr (.inr ⟨b, hm, .inl hk⟩))
    ys := fun b hm => (h.ys b hm).keep fun k hk => hb k (.inr (.inr ⟨b, hm, .inr hk⟩)) }
theorem ListAt.below (h : ListAt w li lv bs) (hb : Below w.heap.size w w') : ListAt w' li lv bs := h.keep fun k hk => hb.block k (h.lt hk)
theorem ListAt.c0 (h : ListAt w li lv bs) : w.cell? ⟨li, 0, none⟩ = some lv := by rw [cell_row w li 0 _ _ _ h.row]; rfl
/-- Where the things lie. -/
theorem ListAt.at (h : ListAt w li lv bs) : ∃ a cap, lv = .slice a bs.length cap ∧ bs.length ≤ cap ∧ ∀ q b, bs[q]? = some b → ∃ g, a = some ⟨g, 0, none⟩ ∧ ∀ j u, j < 7 → b.cells[j]? = some u → w.cell? ⟨g, q * 7 + j, none⟩ = some u ∧ w.frozen? ⟨g, q * 7 + j, none⟩ = false := by
  obtain ⟨hx, ⟨h1, h2⟩ | ⟨g, cap, cur, h3, h4, h5, h6, h7, h8, h9⟩⟩ := h.ls
  · exact ⟨none, 0, by rw [h1, h2], by omega, fun q b hq => by have := (List.getElem?_eq_some_iff.1 hq).1; omega⟩
  · refine ⟨_, cap, h3, h6, fun q b hq => ⟨g, rfl, fun j u hj hu => ⟨?_, live_row w g _ _ _ h5⟩⟩⟩
    have hl := (List.getElem?_eq_some_iff.1 hq).1
    rw [← cellsB_at bs q b hq j hj] at hu
    rw [cell_row w g _ _ _ _ h5]
    rw [← h9, List.getElem?_take] at hu
    have hlt : q * 7 + j < bs.length * 7 := by omega
    simpa [hlt] using hu
end
end Go.Proofs.YtoklohfpkaiidaaGreat.Obj
