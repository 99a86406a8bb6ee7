/- A body more in a list; a string's bytes in new memory. -/
import Derived.Test.YtoklohfpkaiidaaGreatWo8
import Derived.Lib.ConvBytes
import Derived.Lib.SmallJoins
namespace Go.Proofs.YtoklohfpkaiidaaGreat.Obj
open Go.Proofs.YtoklohfpkaiidaaGreat.Gen Go.Proofs.YtoklohfpkaiidaaGreat.Base Go.ChangeShapes Go.WideShapes Go.ChangeAt Go.RowKit
set_option linter.unusedVariables false
def bytesOf (B : ByteArray) : List Int := B.data.toList.map fun b => (b.toNat : Int)
theorem bytesOf_len (B : ByteArray) : (bytesOf B).length = B.size := by unfold bytesOf; rw [List.length_map, Array.length_toList]; rfl
/-- A thing, but for where its rows lie. -/
def Bd.bare (b : Bd) : Bd := { b with fv := .slice none 0 0, bv := .slice none 0 0 }
def Th.bare (t : Th) : Bd := ⟨t.cls, t.fmt, t.hash, 0, t.fin, .slice none 0 0, t.F, .slice none 0 0, bytesOf t.B⟩
theorem conv_run (B : ByteArray) (u : World) : Sem.run Tryz.prog (convert 9 108 (.string B)) u = .ok (.slice (some ⟨u.heap.size, 0, none⟩) B.size (grownCap u B.size 0 5)) (Lib.bytesWorld u 5 B) :=
  Lib.run_convert_string_bytes u _ _ _ B Tryz.underlying9 Tryz.underlying108 Tryz.underlying5
theorem conv_row (B : ByteArray) (u : World) (hB : B.size ≤ 100000) : RowV (Lib.bytesWorld u 5 B) 5 1 (.slice (some ⟨u.heap.size, 0, none⟩) B.size (grownCap u B.size 0 5)) (bytesOf B).length ((bytesOf B).map (Value.int .u8)) := by
  rw [bytesOf_len]
  rcases Nat.eq_zero_or_pos B.size with h | h
  · refine .inl ⟨h, ?_, ⟨_, _, by rw [h]⟩⟩
    rw [List.eq_nil_of_length_eq_zero (l := bytesOf B) (by rw [bytesOf_len, h])]; rfl
  · have hge := grownCap_ge u B.size 0 5
    have hle := grownCap_le_maxLen u B.size 0 5 (by unfold maxLen; omega)
    have hsz : B.data.size = B.size := rfl
    refine .inr ⟨h, by simp [bytesOf_len], _, _, _, _, rfl, Lib.bytesWorld_at_new u _ B, .inr (Nat.le_refl _), hge, hle, ?_, ?_⟩
    · simp [Lib.bytesCells, hsz]; omega
    · rw [Nat.mul_one]
      have e : (Lib.bytesCells u 5 B).toList = (bytesOf B).map (Value.int .u8) ++ List.replicate (grownCap u B.size 0 5 - B.size) (Value.int .u8 0) := by
        unfold Lib.bytesCells bytesOf
        rw [Array.toList_append, Array.toList_map, List.map_map, Array.toList_replicate]
        rfl
      rw [e, List.take_left' (by rw [List.length_map, bytesOf_len])]
theorem bw_below (B : ByteArray) (u : World) : Below u.heap.size u (Lib.bytesWorld u 5 B) := Joins.below_bytesWorld _ u _ B (Nat.le_refl _)
theorem bw_size (B : ByteArray) (u : World) : u.heap.size < (Lib.bytesWorld u 5 B).heap.size := by rw [Lib.bytesWorld_size]; omega
def zB7 : Value := .agg #[.int .i64 0, .int .i64 0, .int .i64 0, .int .i64 0, .bool false, .slice none 0 0, .slice none 0 0]
theorem infoBd : (Tryz.prog.info? 110).map (fun i => (i.zero, i.size, i.bytes)) = some (some zB7, 7, 88) := by kernel_rfl
/-- A body more at the end of a row of one's own. -/
theorem wp_appB {w : World} {o : Oper} {a : Act} {K : Act → World → Prop} {Q : Exit → Act → World → Prop} (s x : Operand)
    (ho : o.op = .call { callee := .builtin .append, args := #[s, x], argTypes := #[104, 104] })
    (v : Value) (n : Nat) (xs : List Value) (hs : a.eval s = v) (hown : w.ownsRow 0 110 7 v n xs) (ad : Addr) (m c : Nat) (hx : a.eval x = .slice (some ad) m c) (ys : List Value) (hl : ys.length = m * 7) (hc : ∀ j u, ys[j]? = some u → w.cell? (ad.add j) = some u) (h1 : ∀ u ∈ ys, u.oneCell' = true) (hn : n + m ≤ 1000000)
    (h : ∀ v' w', w'.ownsRow 0 110 7 v' (n + m) (xs ++ ys) → w.grownBy w' v.ownBlock → (v'.ownBlock = v.ownBlock ∨ v'.ownBlock = some w.heap.size) → K (a.put o.dst v') w') : o.wp Tryz.prog a w K Q := by
  obtain ⟨i0, hi, hz0, hz1, hz2⟩ := info_parts infoBd
  obtain ⟨v', w', hr, h2, h3, _, h5⟩ := run_append_own_at (P := Tryz.prog) (w := w) 0 104 o.type 110 i0 zB7 7 88 Tryz.underlying104 hi hz0 hz1 hz2 rfl (by decide) v n xs hown ad m c ys hl hc h1 (by unfold maxLen; omega) (by omega) (Nat.zero_le _)
  unfold Oper.wp execOp
  simp only [ho, resolve, invoke, builtin, Sem.run_bind, Sem.run_pure, Result.andThen_ok, List.map_toArray, List.map_cons, List.map_nil, hs, hx, hr]
  exact h v' w' h2 h3 h5
theorem one7 (b : Bd) {a1 c1 a2 c2} {n1 n2 : Nat} (h1 : b.fv = .slice a1 n1 c1) (h2 : b.bv = .slice a2 n2 c2) : ∀ u ∈ b.cells, u.oneCell' = true := fun u hu => by
  unfold Bd.cells at hu
  rw [h1, h2] at hu
  simp only [List.mem_cons, List.not_mem_nil, or_false] at hu
  rcases hu with rfl | rfl | rfl | rfl | rfl | rfl | rfl <;> rfl
section
variable {w u u2 : World} {li : Nat} {lv v' : Value} {bs : List Bd}
/-- One thing more at the list's end. -/
theorem ListAt.push (h : ListAt u li lv bs) (b : Bd) (hb : ∀ k, ownL li lv bs k → lv.ownBlock ≠ some k → u2.heap[k]? = u.heap[k]?)
    (own : u2.ownsRow 0 110 7 v' (bs.length + 1) (cellsB bs ++ b.cells)) (hv : v'.ownBlock = lv.ownBlock ∨ ∃ k, v'.ownBlock = some k ∧ u.heap.size ≤ k)
    (hf : RowV u2 54 2 b.fv b.F.length (vals b.F)) (hy : RowV u2 5 1 b.bv b.B.length (b.B.map (Value.int .u8)))
    (hn : ∀ k, b.own k → u.heap.size ≤ k ∧ v'.ownBlock ≠ some k) (hd : ∀ k, blk b.fv b.F.length = some k → blk b.bv b.B.length ≠ some k) (hfew : bs.length + 1 ≤ 100000) :
    ListAt (u2.setCell ⟨li, 0, none⟩ v') li v' (bs ++ [b]) := by
  have hli : li < u.heap.size := h.lt (.inl rfl)
  have hvli : v'.ownBlock ≠ some li := by
    rcases hv with e | ⟨k, e, hk⟩
    · rw [e]; exact h.n1
    · rw [e]; intro c; simp at c; omega
  have hold : ∀ p ∈ bs, ∀ k, p.own k → k ≠ li ∧ lv.ownBlock ≠ some k ∧ v'.ownBlock ≠ some k ∧ k < u.heap.size := fun p hp k hk => by
    have hlt := h.lt (.inr (.inr ⟨p, hp, hk⟩))
    obtain ⟨q1, q2⟩ := h.n2 p hp k hk
    refine ⟨q1, q2, ?_, hlt⟩
    rcases hv with e | ⟨k', e, hk'⟩
    · rw [e]; exact q2
    · rw [e]; intro c; simp at c; omega
  have hrow2 : u2.heap[li]? = some (.cells #[lv] 106 (0, 0)) := (hb li (.inl rfl) h.n1).trans h.row
  have hfar : ∀ k, k ≠ li → (u2.setCell ⟨li, 0, none⟩ v').heap[k]? = u2.heap[k]? := fun k hk => heap_setCell_other _ _ _ _ (fun e => hk e)
  have hnew : ∀ k, b.own k → k ≠ li := fun k hk => by have := (hn k hk).1; omega
  refine { row := ?_, ls := ?_, fs := ?_, ys := ?_, n1 := hvli, n2 := ?_, ap := ?_, n6 := ?_, few := by simpa using hfew }
  · rw [heap_setCell_same u2 li 0 _ _ _ hrow2]; rfl
  · have he : cellsB (bs ++ [b]) = cellsB bs ++ b.cells := by simp [cellsB]
    rw [he, List.length_append]
    exact owns_at own fun k hk => hfar k fun e => hvli (e ▸ hk)
  · intro p hp
    rcases List.mem_append.1 hp with hp | hp
    · exact (h.fs p hp).keep fun k hk => (hfar k (hold p hp k (.inl hk)).1).trans (hb k (.inr (.inr ⟨p, hp, .inl hk⟩)) (hold p hp k (.inl hk)).2.1)
    · obtain rfl : p = b := by simpa using hp
      exact hf.keep fun k hk => hfar k (hnew k (.inl hk))
  · intro p hp
    rcases List.mem_append.1 hp with hp | hp
    · exact (h.ys p hp).keep fun k hk => (hfar k (hold p hp k (.inr hk)).1).trans (hb k (.inr (.inr ⟨p, hp, .inr hk⟩)) (hold p hp k (.inr hk)).2.1)
    · obtain rfl : p = b := by simpa using hp
      exact hy.keep fun k hk => hfar k (hnew k (.inr hk))
  · intro p hp k hk
    rcases List.mem_append.1 hp with hp | hp
    · exact ⟨(hold p hp k hk).1, (hold p hp k hk).2.2.1⟩
    · obtain rfl : p = b := by simpa using hp
      exact ⟨hnew k hk, (hn k hk).2⟩
  · refine List.pairwise_append.2 ⟨h.ap, List.pairwise_singleton _ _, fun p hp q hq => ?_⟩
    obtain rfl : q = b := by simpa using hq
    intro k h1 h2
    have := (hold p hp k h1).2.2.2
    have := (hn k h2).1
    omega
  · intro p hp
    rcases List.mem_append.1 hp with hp | hp
    · exact h.n6 p hp
    · obtain rfl : p = b := by simpa using hp
      exact hd
end
end Go.Proofs.YtoklohfpkaiidaaGreat.Obj
