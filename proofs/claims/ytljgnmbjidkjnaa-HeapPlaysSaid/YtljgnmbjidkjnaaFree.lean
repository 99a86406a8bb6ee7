/- A Free in memory: the struct, its three rows, and eighteen lists that each own a row. -/
import Derived.Test.YtljgnmbjidkjnaaBits
import Derived.RegionTactic
import Derived.Laws.Rows
import Derived.Deep.RegionHeld3
import Derived.Deep.AppendLies
import Derived.Maps.AppendAt
import Derived.OwnWalk
import Derived.Deep.DeepCutAuto
import Derived.StillTailTactics
namespace Go.Proofs.Ytljgnmbjidkjnaa.Fr
open Go.Proofs.Ytljgnmbjidkjnaa.Gen Go.Proofs.Ytljgnmbjidkjnaa.Base Go.Proofs.Ytljgnmbjidkjnaa.Bt Go.ChangeShapes Go.WideShapes Go.ChangeAt Go.RowKit
set_option linter.unusedVariables false
def ints (l : List Int) : List Value := l.map (Value.int .i64)
def bools (l : List Bool) : List Value := l.map Value.bool
theorem ints_len (l : List Int) : (ints l).length = l.length := by simp [ints]
/-- Where it lies. -/
structure FB where
  r : Nat
  bo : Nat
  bl : Nat
  bb : Nat
  vs : Nat → Value
/-- What it holds. -/
structure FS where
  opn : List Bool
  lng : List Int
  bgn : List Int
  ls : Nat → List Int
  words : Int
def upd {α : Type} (f : Nat → α) (j : Nat) (v : α) : Nat → α := fun i => if i = j then v else f i
theorem upd_same {α : Type} (f : Nat → α) (j : Nat) (v : α) : upd f j v j = v := by simp [upd]
theorem upd_other {α : Type} (f : Nat → α) {i j : Nat} (v : α) (h : i ≠ j) : upd f j v i = f i := by simp [upd, h]
def rowOf (B : FB) (F : FS) : Array Value :=
  (([.slice (some ⟨B.bo, 0, none⟩) F.opn.length F.opn.length, .slice (some ⟨B.bl, 0, none⟩) F.lng.length F.lng.length, .slice (some ⟨B.bb, 0, none⟩) F.bgn.length F.bgn.length] : List Value) ++ ((List.range 18).map B.vs ++ [Value.int .i64 F.words])).toArray
theorem row_list (B : FB) (F : FS) (j : Nat) (h : j < 18) : (rowOf B F)[3 + j]? = some (B.vs j) := by
  unfold rowOf
  rw [List.getElem?_toArray, List.getElem?_append_right (by simp)]
  simp only [List.length_cons, List.length_nil, Nat.zero_add, Nat.reduceAdd, Nat.add_sub_cancel_left]
  rw [List.getElem?_append_left (by simpa using h)]
  simp [h]
theorem row_words (B : FB) (F : FS) : (rowOf B F)[21]? = some (.int .i64 F.words) := by
  simp [rowOf]
theorem row_set_words (B : FB) (F : FS) (x : Int) : (rowOf B F).setIfInBounds 21 (.int .i64 x) = rowOf B { F with words := x } := by
  apply Array.ext'
  simp [rowOf]
theorem row_set_list (B : FB) (F : FS) (j : Nat) (v : Value) (l : List Int) (h : j < 18) : (rowOf B F).setIfInBounds (3 + j) v = rowOf { B with vs := upd B.vs j v } { F with ls := upd F.ls j l } := by
  apply Array.ext'
  simp only [rowOf, List.setIfInBounds_toArray]
  rw [List.set_append_right _ _ (by simp)]
  simp only [List.length_cons, List.length_nil, Nat.zero_add, Nat.reduceAdd, Nat.add_sub_cancel_left]
  rw [List.set_append_left _ _ (by simpa using h)]
  congr 2
  apply List.ext_getElem?
  intro i
  by_cases hi : i = j
  · subst hi; simp [h, upd]
  · rw [List.getElem?_set_ne (by omega)]
    by_cases h18 : i < 18 <;> simp [h18, upd, hi]
def mine (B : FB) (k : Nat) : Prop := k = B.r ∨ k = B.bo ∨ k = B.bl ∨ k = B.bb ∨ ∃ j, j < 18 ∧ (B.vs j).ownBlock = some k
structure Fr (w : World) (B : FB) (F : FS) : Prop where
  row : w.heap[B.r]? = some (.cells (rowOf B F) 84 (0, 0))
  opn : w.heap[B.bo]? = some (.cells (bools F.opn).toArray 4 (0, 0))
  lng : w.heap[B.bl]? = some (.cells (ints F.lng).toArray 3 (0, 0))
  bgn : w.heap[B.bb]? = some (.cells (ints F.bgn).toArray 3 (0, 0))
  ls : ∀ j, j < 18 → w.ownsRow 0 3 1 (B.vs j) (F.ls j).length (ints (F.ls j))
  d1 : B.r ≠ B.bo
  d2 : B.r ≠ B.bl
  d3 : B.r ≠ B.bb
  d4 : B.bo ≠ B.bl
  d5 : B.bo ≠ B.bb
  d6 : B.bl ≠ B.bb
  dl : ∀ j k, j < 18 → (B.vs j).ownBlock = some k → k ≠ B.r ∧ k ≠ B.bo ∧ k ≠ B.bl ∧ k ≠ B.bb
  dd : ∀ i j k, i < 18 → j < 18 → i ≠ j → (B.vs i).ownBlock = some k → (B.vs j).ownBlock ≠ some k
  e1 : F.lng.length = F.opn.length
  e2 : F.bgn.length = F.opn.length
  le : F.opn.length ≤ 65536
theorem owns_keep {w w' : World} {base : Nat} {e : TypeId} {size : Nat} {v : Value} {n : Nat} {xs : List Value} (h : w.ownsRow base e size v n xs) (hb : ∀ k, v.ownBlock = some k → w'.heap[k]? = w.heap[k]?) : w'.ownsRow base e size v n xs := by
  obtain ⟨h1, h2 | ⟨g, cap, cur, rfl, h4, h5, h6⟩⟩ := h
  · exact ⟨h1, .inl h2⟩
  · exact ⟨h1, .inr ⟨g, cap, cur, rfl, h4, by rw [hb g rfl]; exact h5, h6⟩⟩
/-- What leaves its blocks alone leaves it as it is. -/
theorem Fr.keep {w w' : World} {B : FB} {F : FS} (h : Fr w B F) (hc : ∀ k, mine B k → w'.heap[k]? = w.heap[k]?) : Fr w' B F :=
  { h with
    row := by rw [hc _ (.inl rfl)]; exact h.row
    opn := by rw [hc _ (.inr (.inl rfl))]; exact h.opn
    lng := by rw [hc _ (.inr (.inr (.inl rfl)))]; exact h.lng
    bgn := by rw [hc _ (.inr (.inr (.inr (.inl rfl))))]; exact h.bgn
    ls := fun j hj => owns_keep (h.ls j hj) fun k hk => hc k (.inr (.inr (.inr (.inr ⟨j, hj, hk⟩)))) }
theorem Fr.mine_lt {w : World} {B : FB} {F : FS} (h : Fr w B F) {k : Nat} (hk : mine B k) : k < w.heap.size := by
  rcases hk with rfl | rfl | rfl | rfl | ⟨j, hj, hk⟩
  · exact (Array.getElem?_eq_some_iff.1 h.row).1
  · exact (Array.getElem?_eq_some_iff.1 h.opn).1
  · exact (Array.getElem?_eq_some_iff.1 h.lng).1
  · exact (Array.getElem?_eq_some_iff.1 h.bgn).1
  · exact ((h.ls j hj).lt k hk).2
/-- Only its own blocks may have changed; what is its own now was so, or is new. -/
structure Nx (B : FB) (w : World) (B' : FB) (w' : World) : Prop where
  os : w'.os = w.os
  tape : w'.tape = w.tape
  output : w'.output = w.output
  size : w.heap.size ≤ w'.heap.size
  block : ∀ k, k < w.heap.size → ¬ mine B k → w'.heap[k]? = w.heap[k]?
  own : ∀ k, mine B' k → mine B k ∨ w.heap.size ≤ k
  r : B'.r = B.r
theorem Nx.refl (B : FB) (w : World) : Nx B w B w := ⟨rfl, rfl, rfl, Nat.le_refl _, fun _ _ _ => rfl, fun _ h => .inl h, rfl⟩
theorem Nx.trans {B B' B'' : FB} {w w' w'' : World} (h : Nx B w B' w') (k : Nx B' w' B'' w'') : Nx B w B'' w'' :=
  ⟨k.os.trans h.os, k.tape.trans h.tape, k.output.trans h.output, Nat.le_trans h.size k.size,
   fun i hi hm => (k.block i (Nat.lt_of_lt_of_le hi h.size) fun hm' => by rcases h.own i hm' with h1 | h1; exact hm h1; omega).trans (h.block i hi hm),
   fun i hm => by
     rcases k.own i hm with h1 | h1
     · exact h.own i h1
     · exact .inr (by have := h.size; omega),
   k.r.trans h.r⟩
theorem Nx.drew {B B' : FB} {w w' : World} (h : Nx B w B' w') : Nx B w B' w'.drew := ⟨h.os, h.tape, h.output, h.size, h.block, h.own, h.r⟩
theorem Nx.setCell {B B' : FB} {w w' : World} (h : Nx B w B' w') (k i : Nat) (v : Value) (hk : mine B k) : Nx B w B' (w'.setCell ⟨k, i, none⟩ v) :=
  ⟨h.os, h.tape, h.output, by simpa using h.size, fun j hj hm => by rw [heap_setCell_other _ _ _ _ (fun e => hm (by rw [e]; exact hk))]; exact h.block j hj hm, h.own, h.r⟩
theorem Nx.below {B B' : FB} {w w' : World} {b : Nat} (h : Nx B w B' w') (hb : ∀ k, mine B k → b ≤ k) (hs : b ≤ w.heap.size) : Below b w w' :=
  ⟨h.os, h.tape, h.output, h.size, fun k hk => h.block k (by omega) fun hm => by have := hb k hm; omega⟩
theorem Fr.setWords {w : World} {B : FB} {F : FS} (h : Fr w B F) (x : Int) : Fr (w.setCell ⟨B.r, 21, none⟩ (.int .i64 x)) B { F with words := x } :=
  { h with
    row := by rw [heap_setCell_same w B.r 21 _ _ _ h.row, row_set_words]
    opn := by rw [heap_setCell_other _ _ _ _ (Ne.symm h.d1)]; exact h.opn
    lng := by rw [heap_setCell_other _ _ _ _ (Ne.symm h.d2)]; exact h.lng
    bgn := by rw [heap_setCell_other _ _ _ _ (Ne.symm h.d3)]; exact h.bgn
    ls := fun j hj => owns_keep (h.ls j hj) fun k hk => heap_setCell_other _ _ _ _ (h.dl j k hj hk).1 }
theorem bools_set (l : List Bool) (i : Nat) (v : Bool) : (bools l).toArray.setIfInBounds i (.bool v) = (bools (l.set i v)).toArray := by
  apply Array.ext'; simp [bools, List.map_set]
theorem ints_set (l : List Int) (i : Nat) (v : Int) : (ints l).toArray.setIfInBounds i (.int .i64 v) = (ints (l.set i v)).toArray := by
  apply Array.ext'; simp [ints, List.map_set]
theorem Fr.setOpn {w : World} {B : FB} {F : FS} (h : Fr w B F) (i : Nat) (v : Bool) : Fr (w.setCell ⟨B.bo, i, none⟩ (.bool v)) B { F with opn := F.opn.set i v } :=
  { h with
    row := by rw [heap_setCell_other _ _ _ _ h.d1, h.row]; simp [rowOf]
    opn := by rw [heap_setCell_same w B.bo i _ _ _ h.opn, bools_set]
    lng := by rw [heap_setCell_other _ _ _ _ (Ne.symm h.d4)]; exact h.lng
    bgn := by rw [heap_setCell_other _ _ _ _ (Ne.symm h.d5)]; exact h.bgn
    ls := fun j hj => owns_keep (h.ls j hj) fun k hk => heap_setCell_other _ _ _ _ (h.dl j k hj hk).2.1
    e1 := by simpa using h.e1
    e2 := by simpa using h.e2
    le := by simpa using h.le }
theorem Fr.setLng {w : World} {B : FB} {F : FS} (h : Fr w B F) (i : Nat) (v : Int) : Fr (w.setCell ⟨B.bl, i, none⟩ (.int .i64 v)) B { F with lng := F.lng.set i v } :=
  { h with
    row := by rw [heap_setCell_other _ _ _ _ h.d2, h.row]; simp [rowOf]
    opn := by rw [heap_setCell_other _ _ _ _ h.d4]; exact h.opn
    lng := by rw [heap_setCell_same w B.bl i _ _ _ h.lng, ints_set]
    bgn := by rw [heap_setCell_other _ _ _ _ (Ne.symm h.d6)]; exact h.bgn
    ls := fun j hj => owns_keep (h.ls j hj) fun k hk => heap_setCell_other _ _ _ _ (h.dl j k hj hk).2.2.1
    e1 := by simpa using h.e1 }
theorem Fr.setBgn {w : World} {B : FB} {F : FS} (h : Fr w B F) (i : Nat) (v : Int) : Fr (w.setCell ⟨B.bb, i, none⟩ (.int .i64 v)) B { F with bgn := F.bgn.set i v } :=
  { h with
    row := by rw [heap_setCell_other _ _ _ _ h.d3, h.row]; simp [rowOf]
    opn := by rw [heap_setCell_other _ _ _ _ h.d5]; exact h.opn
    lng := by rw [heap_setCell_other _ _ _ _ h.d6]; exact h.lng
    bgn := by rw [heap_setCell_same w B.bb i _ _ _ h.bgn, ints_set]
    ls := fun j hj => owns_keep (h.ls j hj) fun k hk => heap_setCell_other _ _ _ _ (h.dl j k hj hk).2.2.2
    e2 := by simpa using h.e2 }
/-- A list is put in the place of another one: its row is its own; the old one's row may have changed. -/
theorem Fr.newList {w w2 : World} {B : FB} {F : FS} (h : Fr w B F) (j : Nat) (hj : j < 18) (hkp : ∀ k, mine B k → (B.vs j).ownBlock ≠ some k → w2.heap[k]? = w.heap[k]?)
    (v : Value) (l : List Int) (hv : w2.ownsRow 0 3 1 v l.length (ints l))
    (h1 : ∀ k, v.ownBlock = some k → k ≠ B.r ∧ k ≠ B.bo ∧ k ≠ B.bl ∧ k ≠ B.bb) (h2 : ∀ i k, i < 18 → i ≠ j → (B.vs i).ownBlock = some k → v.ownBlock ≠ some k) :
    Fr (w2.setCell ⟨B.r, 3 + j, none⟩ v) { B with vs := upd B.vs j v } { F with ls := upd F.ls j l } :=
  { h with
    row := by
      show (w2.setCell ⟨B.r, 3 + j, none⟩ v).heap[B.r]? = _
      rw [heap_setCell_same w2 B.r (3 + j) _ _ _ ((hkp B.r (.inl rfl) fun e => (h.dl j _ hj e).1 rfl).trans h.row), row_set_list B F j v l hj]
    opn := by
      show (w2.setCell ⟨B.r, 3 + j, none⟩ v).heap[B.bo]? = _
      rw [heap_setCell_other _ _ _ _ (Ne.symm h.d1)]; exact (hkp B.bo (.inr (.inl rfl)) fun e => (h.dl j _ hj e).2.1 rfl).trans h.opn
    lng := by
      show (w2.setCell ⟨B.r, 3 + j, none⟩ v).heap[B.bl]? = _
      rw [heap_setCell_other _ _ _ _ (Ne.symm h.d2)]; exact (hkp B.bl (.inr (.inr (.inl rfl))) fun e => (h.dl j _ hj e).2.2.1 rfl).trans h.lng
    bgn := by
      show (w2.setCell ⟨B.r, 3 + j, none⟩ v).heap[B.bb]? = _
      rw [heap_setCell_other _ _ _ _ (Ne.symm h.d3)]; exact (hkp B.bb (.inr (.inr (.inr (.inl rfl)))) fun e => (h.dl j _ hj e).2.2.2 rfl).trans h.bgn
    ls := fun i hi => by
      show World.ownsRow _ 0 _ 1 (upd B.vs j v i) (upd F.ls j l i).length (ints (upd F.ls j l i))
      by_cases e : i = j
      · subst e; rw [upd_same, upd_same]
        exact owns_keep hv fun k hk => heap_setCell_other _ _ _ _ (h1 k hk).1
      · rw [upd_other _ _ e, upd_other _ _ e]
        exact owns_keep (h.ls i hi) fun k hk' => by
          rw [heap_setCell_other _ _ _ _ (h.dl i k hi hk').1]
          exact hkp k (.inr (.inr (.inr (.inr ⟨i, hi, hk'⟩)))) (h.dd i j k hi hj e hk')
    dl := fun i k hi hk => by
      dsimp only at hk ⊢
      by_cases e : i = j
      · subst e; rw [upd_same] at hk; exact h1 k hk
      · rw [upd_other _ _ e] at hk; exact h.dl i k hi hk
    dd := fun a b k ha hb hab hk => by
      dsimp only at hk ⊢
      by_cases e : a = j
      · subst e; rw [upd_same] at hk; rw [upd_other _ _ (Ne.symm hab)]
        exact fun h3 => h2 b k hb (Ne.symm hab) h3 hk
      · rw [upd_other _ _ e] at hk
        by_cases e2 : b = j
        · subst e2; rw [upd_same]; exact h2 a k ha e hk
        · rw [upd_other _ _ e2]; exact h.dd a b k ha hb hab hk }
theorem mine_upd {B : FB} {j : Nat} {v : Value} {k : Nat} (h : mine { B with vs := upd B.vs j v } k) : mine B k ∨ v.ownBlock = some k := by
  rcases h with h | h | h | h | ⟨i, hi, h⟩
  · exact .inl (.inl h)
  · exact .inl (.inr (.inl h))
  · exact .inl (.inr (.inr (.inl h)))
  · exact .inl (.inr (.inr (.inr (.inl h))))
  · dsimp only at h
    by_cases e : i = j
    · subst e; rw [upd_same] at h; exact .inr h
    · rw [upd_other _ _ e] at h; exact .inl (.inr (.inr (.inr (.inr ⟨i, hi, h⟩))))
section
variable {w : World} {B : FB} {F : FS}
theorem Fr.c0 (h : Fr w B F) : w.cell? ⟨B.r, 0, none⟩ = some (.slice (some ⟨B.bo, 0, none⟩) F.opn.length F.opn.length) := by rw [cell_of_row w B.r 0 _ _ _ h.row]; simp [rowOf]
theorem Fr.c1 (h : Fr w B F) : w.cell? ⟨B.r, 1, none⟩ = some (.slice (some ⟨B.bl, 0, none⟩) F.opn.length F.opn.length) := by rw [cell_of_row w B.r 1 _ _ _ h.row]; simp [rowOf, h.e1]
theorem Fr.c2 (h : Fr w B F) : w.cell? ⟨B.r, 2, none⟩ = some (.slice (some ⟨B.bb, 0, none⟩) F.opn.length F.opn.length) := by rw [cell_of_row w B.r 2 _ _ _ h.row]; simp [rowOf, h.e2]
theorem Fr.cl (h : Fr w B F) (j : Nat) (hj : j < 18) : w.cell? ⟨B.r, 3 + j, none⟩ = some (B.vs j) := by rw [cell_of_row w B.r (3 + j) _ _ _ h.row, row_list B F j hj]
theorem Fr.cw (h : Fr w B F) : w.cell? ⟨B.r, 21, none⟩ = some (.int .i64 F.words) := by rw [cell_of_row w B.r 21 _ _ _ h.row, row_words]
theorem Fr.fz (h : Fr w B F) (i : Nat) : w.frozen? ⟨B.r, i, none⟩ = false := frozen_of_row w B.r i _ _ h.row
theorem Fr.co (h : Fr w B F) (i : Nat) (hi : i < F.opn.length) : w.cell? ⟨B.bo, i, none⟩ = some (.bool (F.opn[i]?.getD false)) := by rw [cell_of_row w B.bo i _ _ _ h.opn]; simp [bools, hi]
theorem Fr.fo (h : Fr w B F) (i : Nat) : w.frozen? ⟨B.bo, i, none⟩ = false := frozen_of_row w B.bo i _ _ h.opn
theorem Fr.ci (h : Fr w B F) (i : Nat) (hi : i < F.opn.length) : w.cell? ⟨B.bl, i, none⟩ = some (.int .i64 (F.lng[i]?.getD 0)) := by
  have := h.e1
  rw [cell_of_row w B.bl i _ _ _ h.lng]; simp [ints, show i < F.lng.length by omega]
theorem Fr.fi (h : Fr w B F) (i : Nat) : w.frozen? ⟨B.bl, i, none⟩ = false := frozen_of_row w B.bl i _ _ h.lng
theorem Fr.cb (h : Fr w B F) (i : Nat) (hi : i < F.opn.length) : w.cell? ⟨B.bb, i, none⟩ = some (.int .i64 (F.bgn[i]?.getD 0)) := by
  have := h.e2
  rw [cell_of_row w B.bb i _ _ _ h.bgn]; simp [ints, show i < F.bgn.length by omega]
theorem Fr.fb (h : Fr w B F) (i : Nat) : w.frozen? ⟨B.bb, i, none⟩ = false := frozen_of_row w B.bb i _ _ h.bgn
/-- A list as a value, and its cells. -/
theorem Fr.form (h : Fr w B F) (j : Nat) (hj : j < 18) : ∃ (a : Option Addr) (cap : Nat), B.vs j = .slice a (F.ls j).length cap ∧ (F.ls j).length ≤ cap ∧ cap ≤ 9223372036854775807 := by
  obtain ⟨_, ⟨h1, h2⟩ | ⟨g, cap, cur, h3, h4, h5, h6, h7, _⟩⟩ := h.ls j hj
  · exact ⟨none, 0, by rw [h1, h2], by omega, by omega⟩
  · exact ⟨_, cap, h3, h6, by unfold maxLen at h7; omega⟩
end
end Go.Proofs.Ytljgnmbjidkjnaa.Fr
