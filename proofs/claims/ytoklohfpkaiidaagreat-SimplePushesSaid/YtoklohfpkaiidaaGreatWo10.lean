/- A world's things as a list: newList. -/
import Derived.Test.YtoklohfpkaiidaaGreatWo9
import Derived.Deep.RegionHeld3
namespace Go.Proofs.YtoklohfpkaiidaaGreat.Obj
open Go.Proofs.YtoklohfpkaiidaaGreat.Gen Go.Proofs.YtoklohfpkaiidaaGreat.Base Go.ChangeShapes Go.WideShapes Go.ChangeAt Go.RowKit
set_option linter.unusedVariables false
abbrev tc6P (w : World) (g : Nat) (cls fmt hash : Int) (fin : Bool) (fv : Value) (B : ByteArray) : Prop := w.cell? ⟨g, 0, none⟩ = some (.int .i64 cls) ∧ w.cell? ⟨g, 1, none⟩ = some (.int .i64 fmt) ∧ w.cell? ⟨g, 2, none⟩ = some (.int .i64 hash) ∧ w.cell? ⟨g, 3, none⟩ = some (.bool fin) ∧ w.cell? ⟨g, 4, none⟩ = some (fv) ∧ w.cell? ⟨g, 5, none⟩ = some (.string B)
theorem tc6 {w : World} {g : Nat} {cls fmt hash : Int} {fin : Bool} {fv : Value} {B : ByteArray} {t : TypeId} (h : w.heap[g]? = some (.cells #[.int .i64 cls, .int .i64 fmt, .int .i64 hash, .bool fin, fv, .string B] t (0, 0))) : tc6P w g cls fmt hash fin fv B := by
  refine ⟨?_, ?_, ?_, ?_, ?_, ?_⟩ <;> rw [cell_row _ _ _ _ _ _ h] <;> rfl
set_option maxRecDepth 100000 in
theorem wp_conv {w : World} {o : Oper} {a : Act} {K : Act → World → Prop} {Q : Exit → Act → World → Prop} (B : ByteArray) (hB : B.size ≤ 100000) (x : Operand) (ho : o.op = .convert 9 108 x) (hx : a.eval x = .string B)
    (h : ∀ ca cc w', RowV w' 5 1 (.slice ca B.size cc) (bytesOf B).length ((bytesOf B).map (Value.int .u8)) → (∀ k, blk (.slice ca B.size cc) (bytesOf B).length = some k → w.heap.size ≤ k) → Below w.heap.size w w' → K (a.put o.dst (.slice ca B.size cc)) w') : o.wp Tryz.prog a w K Q := by
  have hr := conv_run B w
  unfold Oper.wp execOp
  simp only [ho, hx, Sem.run_bind, Sem.run_pure, hr, Result.andThen_ok]
  refine h _ _ _ (conv_row B w hB) (fun k hk => ?_) (bw_below B w)
  unfold blk at hk
  split at hk
  · cases hk
  · simp [Value.ownBlock] at hk; omega
structure Ml (X u : World) : Prop where
  bel : Below X.heap.size X u
structure Mf (X u : World) (F : List V) (fv : Value) : Prop where
  bel : Below X.heap.size X u
  f : RowV u 54 2 fv F.length (vals F)
  fn : ∀ k, blk fv F.length = some k → X.heap.size ≤ k
structure My (X u : World) (B : ByteArray) (bv : Value) : Prop where
  bel : Below X.heap.size X u
  y : RowV u 5 1 bv (bytesOf B).length ((bytesOf B).map (Value.int .u8))
  yn : ∀ k, blk bv (bytesOf B).length = some k → X.heap.size ≤ k
structure Mfy (X u : World) (F : List V) (fv : Value) (B : ByteArray) (bv : Value) : Prop where
  bel : Below X.heap.size X u
  f : RowV u 54 2 fv F.length (vals F)
  fn : ∀ k, blk fv F.length = some k → X.heap.size ≤ k
  y : RowV u 5 1 bv (bytesOf B).length ((bytesOf B).map (Value.int .u8))
  yn : ∀ k, blk bv (bytesOf B).length = some k → X.heap.size ≤ k
  d : ∀ k, blk fv F.length = some k → blk bv (bytesOf B).length ≠ some k
section
variable {X u u' w wr u8 : World} {F : List V} {fv bv : Value} {B : ByteArray}
theorem Ml.f (h : Ml X u) (hf : RowV u' 54 2 fv F.length (vals F)) (hn : ∀ k, blk fv F.length = some k → u.heap.size ≤ k) (hb : Below u.heap.size u u') : Mf X u' F fv :=
  ⟨h.bel.trans (hb.mono h.bel.size), hf, fun k hk => Nat.le_trans h.bel.size (hn k hk)⟩
theorem Ml.y (h : Ml X u) (hy : RowV u' 5 1 bv (bytesOf B).length ((bytesOf B).map (Value.int .u8))) (hn : ∀ k, blk bv (bytesOf B).length = some k → u.heap.size ≤ k) (hb : Below u.heap.size u u') : My X u' B bv :=
  ⟨h.bel.trans (hb.mono h.bel.size), hy, fun k hk => Nat.le_trans h.bel.size (hn k hk)⟩
theorem Mf.y (h : Mf X u F fv) (hy : RowV u' 5 1 bv (bytesOf B).length ((bytesOf B).map (Value.int .u8))) (hn : ∀ k, blk bv (bytesOf B).length = some k → u.heap.size ≤ k) (hb : Below u.heap.size u u') : Mfy X u' F fv B bv :=
  ⟨h.bel.trans (hb.mono h.bel.size), h.f.keep fun k hk => hb.block k (h.f.lt k hk), h.fn, hy, fun k hk => Nat.le_trans h.bel.size (hn k hk), fun k h1 h2 => by have := h.f.lt k h1; have := hn k h2; omega⟩
theorem My.f (h : My X u B bv) (hf : RowV u' 54 2 fv F.length (vals F)) (hn : ∀ k, blk fv F.length = some k → u.heap.size ≤ k) (hb : Below u.heap.size u u') : Mfy X u' F fv B bv :=
  ⟨h.bel.trans (hb.mono h.bel.size), hf, fun k hk => Nat.le_trans h.bel.size (hn k hk), h.y.keep fun k hk => hb.block k (h.y.lt k hk), h.yn, fun k h1 h2 => by have := h.y.lt k h2; have := hn k h1; omega⟩
/-- So many things are in the list. -/
structure Nl (w wr : World) (L : List Th) (lv : Value) (bs : List Bd) (k : Nat) : Prop where
  bel : Below w.heap.size w wr
  list : ListAt wr (w.heap.size + 1) lv bs
  bare : bs.map Bd.bare = (L.take k).map Th.bare
  new : ∀ j, ownL (w.heap.size + 1) lv bs j → w.heap.size < j
theorem Nl.len {L : List Th} {lv : Value} {bs : List Bd} {k : Nat} (h : Nl w wr L lv bs k) (hk : k ≤ L.length) : bs.length = k := by
  have := congrArg List.length h.bare
  simpa [Nat.min_eq_left hk] using this
theorem Nl.step {L : List Th} {lv v' : Value} {bs : List Bd} {k : Nat} {T R : Obj} {t : Th} {cls fmt hash : Int} {fin : Bool} (h : Nl w wr L lv bs k) (ht : L[k]? = some t ∧ t.bare = ⟨cls, fmt, hash, 0, fin, .slice none 0 0, F, .slice none 0 0, bytesOf B⟩ ∧ bs.length + 1 ≤ 100000)
    (hF : Mfy (wr.alloc T).drew u F fv B bv) (own : u8.ownsRow 0 110 7 v' (bs.length + 1) (cellsB bs ++ Bd.cells ⟨cls, fmt, hash, 0, fin, fv, F, bv, bytesOf B⟩)) (g : (u.alloc R).grownBy u8 lv.ownBlock) (e : v'.ownBlock = lv.ownBlock ∨ v'.ownBlock = some (u.alloc R).heap.size) :
    Nl w (u8.setCell ⟨w.heap.size + 1, 0, none⟩ v') L v' (bs ++ [⟨cls, fmt, hash, 0, fin, fv, F, bv, bytesOf B⟩]) (k + 1) := by
  obtain ⟨ht1, ht2, ht3⟩ := ht
  have hs1 := hF.bel.size
  simp only [World.size_drew, World.size_alloc] at hs1
  have hsR : (u.alloc R).heap.size = u.heap.size + 1 := World.size_alloc _ _
  rw [hsR] at e
  have hbelu : Below wr.heap.size wr u := ((show Below wr.heap.size wr (wr.alloc T).drew from (below_drew ((Below.refl _ wr).alloc (Nat.le_refl _) T))).trans (hF.bel.mono (by simp)))
  have hblk : ∀ j, j < u.heap.size → lv.ownBlock ≠ some j → u8.heap[j]? = u.heap[j]? := fun j hj hn => (g.block j (by omega) fun e => hn e.symm).trans (heap_alloc_old _ _ hj)
  have hlv : ∀ j, lv.ownBlock = some j → w.heap.size < j ∧ j < wr.heap.size := fun j hj => ⟨h.new j (.inr (.inl hj)), h.list.lt (.inr (.inl hj))⟩
  have hnf : ∀ j, Bd.own ⟨cls, fmt, hash, 0, fin, fv, F, bv, bytesOf B⟩ j → wr.heap.size < j ∧ j < u.heap.size := fun j hj => by
    rcases hj with hj | hj
    · have := hF.fn j hj; have := hF.f.lt j hj; simp only [World.size_drew, World.size_alloc] at *; omega
    · have := hF.yn j hj; have := hF.y.lt j hj; simp only [World.size_drew, World.size_alloc] at *; omega
  have hvne : ∀ j, Bd.own ⟨cls, fmt, hash, 0, fin, fv, F, bv, bytesOf B⟩ j → v'.ownBlock ≠ some j := fun j hj hc => by
    have h1 := hnf j hj
    rcases e with e | e
    · rw [e] at hc; have := hlv j hc; omega
    · rw [e] at hc; simp at hc; omega
  have hlne : ∀ j, Bd.own ⟨cls, fmt, hash, 0, fin, fv, F, bv, bytesOf B⟩ j → lv.ownBlock ≠ some j := fun j hj hc => by have h1 := hnf j hj; have := hlv j hc; omega
  refine ⟨?_, ?_, ?_, ?_⟩
  · have hw := h.bel.size
    refine Below.setCell ?_ (by simp) _
    exact (((h.bel.trans (hbelu.mono hw)).alloc (by have := hbelu.size; omega) R)).grown g (by rw [hsR]; have := hbelu.size; omega) (fun j hj => by have := hlv j hj; omega)
  · refine h.list.push ⟨cls, fmt, hash, 0, fin, fv, F, bv, bytesOf B⟩ (fun j hj hn => ?_) own ?_ ?_ ?_ (fun j hj => ⟨by have := hnf j hj; omega, hvne j hj⟩) hF.d ht3
    · have hjl := h.list.lt hj
      exact (hblk j (by omega) hn).trans (hbelu.block j hjl)
    · rcases e with e | e
      · exact .inl e
      · exact .inr ⟨_, e, by omega⟩
    · exact hF.f.keep fun j hj => hblk j (hnf j (.inl hj)).2 (hlne j (.inl hj))
    · exact hF.y.keep fun j hj => hblk j (hnf j (.inr hj)).2 (hlne j (.inr hj))
  · rw [List.take_add_one, ht1, List.map_append, List.map_append, h.bare]
    simp [ht2, Bd.bare]
  · intro j hj
    have hw := h.bel.size
    rcases hj with rfl | hj | ⟨p, hp, hj⟩
    · omega
    · rcases e with e | e
      · rw [e] at hj; exact (hlv j hj).1
      · rw [e] at hj; simp at hj; omega
    · rcases List.mem_append.1 hp with hp | hp
      · exact h.new j (.inr (.inr ⟨p, hp, hj⟩))
      · obtain rfl := List.mem_singleton.1 hp
        have := hnf j hj; omega
end
end Go.Proofs.YtoklohfpkaiidaaGreat.Obj
