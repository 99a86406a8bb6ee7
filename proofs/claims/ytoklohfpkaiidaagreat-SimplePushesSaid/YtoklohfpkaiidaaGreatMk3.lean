/- A thing more in a list: list.Make. -/
import Derived.Test.YtoklohfpkaiidaaGreatMk2
namespace Go.Proofs.YtoklohfpkaiidaaGreat.Obj
open Go.Proofs.YtoklohfpkaiidaaGreat.Gen Go.Proofs.YtoklohfpkaiidaaGreat.Base Go.ChangeShapes Go.WideShapes Go.ChangeAt Go.RowKit
set_option linter.unusedVariables false
abbrev tc7P (w : World) (b : Nat) (cls fmt hash : Int) (fv : Value) : Prop := w.cell? ⟨b, 0, none⟩ = some (.int .i64 cls) ∧ w.cell? ⟨b, 1, none⟩ = some (.int .i64 fmt) ∧ w.cell? ⟨b, 2, none⟩ = some (.int .i64 hash) ∧ w.cell? ⟨b, 3, none⟩ = some (.int .i64 0) ∧ w.cell? ⟨b, 4, none⟩ = some (.bool false) ∧ w.cell? ⟨b, 5, none⟩ = some (fv) ∧ w.cell? ⟨b, 6, none⟩ = some (.slice none 0 0)
theorem tc7 {w : World} {b : Nat} {cls fmt hash : Int} {fv : Value} {t : TypeId} (h : w.heap[b]? = some (.cells #[.int .i64 cls, .int .i64 fmt, .int .i64 hash, .int .i64 0, .bool false, fv, .slice none 0 0] t (0, 0))) : tc7P w b cls fmt hash fv := by
  refine ⟨?_, ?_, ?_, ?_, ?_, ?_, ?_⟩ <;> rw [cell_row _ _ _ _ _ _ h] <;> rfl
theorem info7 : (Tryz.prog.info? 110).map (·.size) = some 7 := by kernel_rfl
/-- A thing that is being made, in block w.heap.size, its fields in block g. -/
structure Mk (w u : World) (cls fmt hash : Int) (g n : Nat) : Prop where
  bel : Below w.heap.size w u
  row : u.heap[w.heap.size]? = some (.cells #[.int .i64 cls, .int .i64 fmt, .int .i64 hash, .int .i64 0, .bool false, .slice (some ⟨g, 0, none⟩) n n, .slice none 0 0] 110 (0, 0))
  f : u.heap[g]? = some (.cells (vals (nilF n)).toArray 54 (0, 0))
  hg : w.heap.size < g
  hn : n ≤ 60000
section
variable {w u u8 : World} {cls fmt hash : Int} {g n li : Nat} {lv v' : Value} {bs : List Bd} {R : Obj}
theorem Mk.lt (h : Mk w u cls fmt hash g n) : g < u.heap.size := (Array.getElem?_eq_some_iff.1 h.f).1
theorem Mk.old (h : Mk w u cls fmt hash g n) (H : ListAt w li lv bs) (g8 : (u.alloc R).grownBy u8 lv.ownBlock) {k : Nat} (hk : k < u.heap.size) (hne : lv.ownBlock ≠ some k) : u8.heap[k]? = u.heap[k]? :=
  (g8.block k (by simp; omega) (fun e => hne e.symm)).trans (heap_alloc_old _ _ hk)
theorem Mk.lvlt (H : ListAt w li lv bs) {k : Nat} (hk : w.heap.size ≤ k) : lv.ownBlock ≠ some k := fun e => by have := H.lt (.inr (.inl e)); omega
theorem Mk.row8 (h : Mk w u cls fmt hash g n) (H : ListAt w li lv bs) (g8 : (u.alloc R).grownBy u8 lv.ownBlock) : u8.heap[w.heap.size]? = some (.cells #[.int .i64 cls, .int .i64 fmt, .int .i64 hash, .int .i64 0, .bool false, .slice (some ⟨g, 0, none⟩) n n, .slice none 0 0] 110 (0, 0)) :=
  (h.old H g8 (by have := h.lt; have := h.hg; omega) (Mk.lvlt H (Nat.le_refl _))).trans h.row
theorem Mk.list8 (h : Mk w u cls fmt hash g n) (H : ListAt w li lv bs) (g8 : (u.alloc R).grownBy u8 lv.ownBlock) : u8.heap[li]? = some (.cells #[lv] 106 (0, 0)) :=
  (h.old H g8 (Nat.lt_of_lt_of_le (H.lt (.inl rfl)) h.bel.size) H.n1).trans ((h.bel.block li (H.lt (.inl rfl))).trans H.row)
theorem Mk.fin (h : Mk w u cls fmt hash g n) (H : ListAt w li lv bs) (own : u8.ownsRow 0 110 7 v' (bs.length + 1) (cellsB bs ++ Bd.cells ⟨cls, fmt, hash, 0, false, .slice (some ⟨g, 0, none⟩) n n, nilF n, .slice none 0 0, []⟩)) (g8 : (u.alloc R).grownBy u8 lv.ownBlock) (e : v'.ownBlock = lv.ownBlock ∨ v'.ownBlock = some (u.alloc R).heap.size) (hfew : bs.length + 1 ≤ 100000) :
    ListAt (u8.setCell ⟨li, 0, none⟩ v') li v' (bs ++ [⟨cls, fmt, hash, 0, false, .slice (some ⟨g, 0, none⟩) n n, nilF n, .slice none 0 0, []⟩]) ∧ Nx (ownL li lv bs) w (ownL li v' (bs ++ [⟨cls, fmt, hash, 0, false, .slice (some ⟨g, 0, none⟩) n n, nilF n, .slice none 0 0, []⟩])) (u8.setCell ⟨li, 0, none⟩ v') := by
  have hli := H.lt (.inl rfl)
  have hlt := h.lt
  have hws := h.bel.size
  rw [World.size_alloc] at e
  have hbo : ∀ k, Bd.own ⟨cls, fmt, hash, 0, false, .slice (some ⟨g, 0, none⟩) n n, nilF n, .slice none 0 0, []⟩ k → k = g := fun k hk => by
    rcases hk with hk | hk
    · unfold blk at hk
      split at hk
      · cases hk
      · simpa [Value.ownBlock] using hk.symm
    · simp [blk] at hk
  have hvg : v'.ownBlock ≠ some g := by
    rcases e with e | e
    · rw [e]; exact Mk.lvlt H (by have := h.hg; omega)
    · rw [e]; intro c; simp at c; omega
  have hg8 : u8.heap[g]? = some (.cells (vals (nilF n)).toArray 54 (0, 0)) := (h.old H g8 hlt (Mk.lvlt H (by have := h.hg; omega))).trans h.f
  have hf : RowV u8 54 2 (.slice (some ⟨g, 0, none⟩) n n) (nilF n).length (vals (nilF n)) := by
    rw [nilF_len]
    rcases Nat.eq_zero_or_pos n with h0 | h0
    · subst h0; exact .inl ⟨rfl, rfl, _, _, rfl⟩
    · have := h.hn
      exact .inr ⟨h0, by rw [vals_len, nilF_len], g, n, _, (0, 0), rfl, hg8, .inl rfl, Nat.le_refl _, by unfold maxLen; omega, by rw [List.size_toArray, vals_len, nilF_len], by rw [List.take_of_length_le (by simp [vals_len, nilF_len])]⟩
  have hL := H.push ⟨cls, fmt, hash, 0, false, .slice (some ⟨g, 0, none⟩) n n, nilF n, .slice none 0 0, []⟩ (fun k hk hne => (h.old H g8 (Nat.lt_of_lt_of_le (H.lt hk) hws) hne).trans (h.bel.block k (H.lt hk))) own
    (by rcases e with e | e
        · exact .inl e
        · exact .inr ⟨_, e, by omega⟩) hf (.inl ⟨rfl, rfl, _, _, rfl⟩) (fun k hk => by rw [hbo k hk]; exact ⟨by have := h.hg; omega, hvg⟩) (fun k hk => by simp [blk]) hfew
  refine ⟨hL, g8.os.trans h.bel.os, g8.tape.trans h.bel.tape, g8.output.trans h.bel.output, ?_, fun k hk hn => ?_, fun k hk => ?_⟩
  · have := g8.size; simp at this ⊢; omega
  · have hne : k ≠ li := fun e => hn (.inl e)
    refine (heap_setCell_other _ _ _ _ (fun e => hne e)).trans ((h.old H g8 (by omega) fun e => hn (.inr (.inl e))).trans (h.bel.block k hk))
  · rcases hk with rfl | hk | ⟨p, hp, hk⟩
    · exact .inl (.inl rfl)
    · rcases e with e | e
      · exact .inl (.inr (.inl (e ▸ hk)))
      · rw [e] at hk; simp at hk; exact .inr (by omega)
    · rcases List.mem_append.1 hp with hp | hp
      · exact .inl (.inr (.inr ⟨p, hp, hk⟩))
      · obtain rfl := List.mem_singleton.1 hp
        exact .inr (by rw [hbo k hk]; have := h.hg; omega)
set_option maxHeartbeats 4000000 in
set_option maxRecDepth 100000 in
theorem li_Make (h : ListAt w li lv bs) (hn : n ≤ 60000) (hfew : bs.length ≤ 3000) (hfmt : ¬ fmt = 3) : Calls Tryz.prog 170 #[.pointer (some ⟨li, 0, none⟩), .int .i64 cls, .int .i64 fmt, .int .i64 (n : Int), .int .i64 hash] w fun e w' => e = .returned (.bool true) ∧ ∃ v' fv, ListAt w' li v' (bs ++ [⟨cls, fmt, hash, 0, false, fv, nilF n, .slice none 0 0, []⟩]) ∧ Nx (ownL li lv bs) w (ownL li v' (bs ++ [⟨cls, fmt, hash, 0, false, fv, nilF n, .slice none 0 0, []⟩])) w' := by
  have hzb := zB7_run
  unfold zB7 at hzb
  have hzv := zV
  have hli := h.lt (.inl rfl)
  obtain ⟨la, lc, rfl⟩ := own_sl h.ls
  have H := Lib.hid h
  have hB1 : Below w.heap.size w ((w.alloc (.cells #[.int .i64 cls, .int .i64 fmt, .int .i64 hash, .int .i64 0, .bool false, .slice none 0 0, .slice none 0 0] 110)).alloc (.cells #[.bool true, .int .i64 0] 54)) := ((Below.refl _ _).alloc (Nat.le_refl _) _).alloc (by simp) _
  have hrp := sl_Repeat n (w.heap.size + 1) hn ((w.alloc (.cells #[.int .i64 cls, .int .i64 fmt, .int .i64 hash, .int .i64 0, .bool false, .slice none 0 0, .slice none 0 0] 110)).alloc (.cells #[.bool true, .int .i64 0] 54)) (fun j v hj => by
    have := new_cell (w.alloc (.cells #[.int .i64 cls, .int .i64 fmt, .int .i64 hash, .int .i64 0, .bool false, .slice none 0 0, .slice none 0 0] 110)) #[.bool true, .int .i64 0] 54 (i := j) (v := v) (by simpa [vcells] using hj)
    rw [World.size_alloc] at this
    exact this)
  rw [show ((w.alloc (.cells #[.int .i64 cls, .int .i64 fmt, .int .i64 hash, .int .i64 0, .bool false, .slice none 0 0, .slice none 0 0] 110)).alloc (.cells #[.bool true, .int .i64 0] 54)).heap.size = w.heap.size + 2 by simp] at hrp
  have HRP := Lib.hid hrp
  clear hrp
  have HB1 := Lib.hid hB1
  have HXR : Hid (((w.alloc (.cells #[.int .i64 cls, .int .i64 fmt, .int .i64 hash, .int .i64 0, .bool false, .slice none 0 0, .slice none 0 0] 110)).alloc (.cells #[.bool true, .int .i64 0] 54)).heap[w.heap.size]? = some (.cells #[.int .i64 cls, .int .i64 fmt, .int .i64 hash, .int .i64 0, .bool false, .slice none 0 0, .slice none 0 0] 110)) := Lib.hid ((heap_alloc_old _ _ (by simp)).trans (heap_alloc_new _ _))
  clear h hB1
  go_enter Tryz.func170, Tryz.ntmps170
  go_upto_region 5 with (first
    | (refine wpList_store_row rfl 110 (Operand.tmp 11) (Operand.tmp 15) rfl w.heap.size _ rfl rfl _ _ (heap_alloc_new w _) info7 rfl rfl ?_; rw [World.setRow_alloc_new])
    | (go_at_call 175; (with_reducible refine HRP.out.mono ?_); rintro e u4 ⟨rfl, hf4, hb4⟩; have HB4 := Lib.hid (HB1.out.trans (hb4.mono (by omega))); have HR4 := Lib.hid ((hb4.block w.heap.size (by omega)).trans HXR.out); have HF4 := Lib.hid hf4; have c5 : u4.cell? ⟨w.heap.size, 5, none⟩ = some (.slice none 0 0) := (by rw [cell_row _ _ _ _ _ _ HR4.out]; rfl); have f5 := frozen_of_row u4 w.heap.size 5 _ _ HR4.out; clear hf4 hb4; dsimp only))
  have HU := Lib.hid (Mk.mk (w := w) (u := (u4.setCell ⟨w.heap.size, 5, none⟩ (.slice (some ⟨w.heap.size + 2, 0, none⟩) n n))) (cls := cls) (fmt := fmt) (hash := hash) (g := w.heap.size + 2) (n := n) (HB4.out.setCell (Nat.le_refl _) _) (by rw [heap_setCell_same u4 w.heap.size 5 _ _ _ HR4.out]; rfl) ((heap_setCell_other _ _ _ _ (fun e => by dsimp only at e; omega)).trans HF4.out) (by omega) hn)
  have HUR := Lib.hid HU.out.row
  have HXU : Hid (w.heap.size < (u4.setCell ⟨w.heap.size, 5, none⟩ (.slice (some ⟨w.heap.size + 2, 0, none⟩) n n)).heap.size) := Lib.hid (Array.getElem?_eq_some_iff.1 HU.out.row).1
  have HLU : Hid (li < (u4.setCell ⟨w.heap.size, 5, none⟩ (.slice (some ⟨w.heap.size + 2, 0, none⟩) n n)).heap.size) := Lib.hid (Nat.lt_trans hli HXU.out)
  have HNW : Hid (w.heap.size ≠ li) := Lib.hid (by omega)
  have HLS := Lib.hid (H.out.below HU.out.bel).ls
  have c0 := (H.out.below HU.out.bel).c0
  clear c5 f5
  refine wp_region_held_drew (S := (fun w' => w'.cell? ⟨w.heap.size, 0, none⟩ = some (.int .i64 cls) ∧ w'.cell? ⟨w.heap.size, 1, none⟩ = some (.int .i64 fmt) ∧ w'.cell? ⟨w.heap.size, 2, none⟩ = some (.int .i64 hash) ∧ w'.cell? ⟨w.heap.size, 3, none⟩ = some (.int .i64 0) ∧ w'.cell? ⟨w.heap.size, 4, none⟩ = some (.bool false) ∧ w'.cell? ⟨w.heap.size, 5, none⟩ = some (.slice (some ⟨w.heap.size + 2, 0, none⟩) n n) ∧ w'.cell? ⟨w.heap.size, 6, none⟩ = some (.slice none 0 0))) (by kernel_rfl) ?_ (fun hH0 => ?_)
  · (try dsimp only); exact tc7 HUR.out
  refine wpAnyH_take (i := 0) (oi := { dst := some 26, op := Op.move (Operand.tmp 0), type := 72, pos := "space.go:100", after := #[], guard := none }) (v := ?v1) rfl (by kernel_rfl) (by kernel_rfl) (by kernel_rfl) (fun _ _ _ h => h) (Or.inl ⟨by rfl, ?hy1⟩) (by assumption) ?_
  case hy1 => intro w hSw; (try dsimp only at hSw); go_simp; (try with_reducible rfl)
  try simp only [Act.put, List.setIfInBounds_toArray, List.set_cons_zero, List.set_cons_succ]
  refine wpAnyH_take (i := 1) (oi := { dst := some 27, op := Op.move (Operand.tmp 0), type := 72, pos := "space.go:100", after := #[], guard := none }) (v := ?v2) rfl (by kernel_rfl) (by kernel_rfl) (by kernel_rfl) (fun _ _ _ h => h) (Or.inl ⟨by rfl, ?hy2⟩) (by assumption) ?_
  case hy2 => intro w hSw; (try dsimp only at hSw); go_simp; (try with_reducible rfl)
  try simp only [Act.put, List.setIfInBounds_toArray, List.set_cons_zero, List.set_cons_succ]
  refine wpAnyH_take (i := 2) (oi := { dst := some 28, op := Op.nilCheck (Operand.tmp 27), type := 0, pos := "space.go:100", after := #[{ on := 1, ground := Ground.data }], guard := none }) (v := ?v3) rfl (by kernel_rfl) (by kernel_rfl) (by kernel_rfl) (fun _ _ _ h => h) (Or.inl ⟨by rfl, ?hy3⟩) (by assumption) ?_
  case hy3 => intro w hSw; (try dsimp only at hSw); go_simp; (try with_reducible rfl)
  try simp only [Act.put, List.setIfInBounds_toArray, List.set_cons_zero, List.set_cons_succ]
  refine wpAnyH_take (i := 3) (oi := { dst := some 29, op := Op.fieldAddr 106 (Operand.tmp 28) 0, type := 0, pos := "space.go:100", after := #[{ on := 2, ground := Ground.data }], guard := none }) (v := ?v4) rfl (by kernel_rfl) (by kernel_rfl) (by kernel_rfl) (fun _ _ _ h => h) (Or.inl ⟨by rfl, ?hy4⟩) (by assumption) ?_
  case hy4 => intro w hSw; (try dsimp only at hSw); go_simp; (try with_reducible rfl)
  try simp only [Act.put, List.setIfInBounds_toArray, List.set_cons_zero, List.set_cons_succ]
  refine wpAnyH_take (i := 5) (oi := { dst := some 31, op := Op.load 110 (Operand.tmp 11), type := 110, pos := "space.go:100", after := #[], guard := none }) (v := ?v5) rfl (by kernel_rfl) (by kernel_rfl) (by kernel_rfl) (fun _ _ _ h => h) (Or.inl ⟨by rfl, ?hy5⟩) (by assumption) ?_
  case hy5 => intro w hSw; (try dsimp only at hSw); go_simp; (try with_reducible rfl)
  try simp only [Act.put, List.setIfInBounds_toArray, List.set_cons_zero, List.set_cons_succ]
  refine wpAnyH_ready (rs := [4, 6]) (by kernel_rfl) (by simp) ?_
  refine (AllReadyH.cons (o := { dst := some 30, op := Op.load 104 (Operand.tmp 29), type := 104, pos := "space.go:100", after := #[{ on := 3, ground := Ground.data }], guard := none }) rfl (fun K hK => ?_) (AllReadyH.cons (o := { dst := some 32, op := Op.buildSlice 104 1 #[(0, Operand.tmp 31)], type := 104, pos := "space.go:100", after := #[{ on := 5, ground := Ground.data }], guard := none }) rfl (fun K hK => ?_) AllReadyH.nil))
  · go_simp
    refine hK.out _ _ ?_ (fun hH1 => ?_)
    · (try dsimp only); (first | exact HT8.out | exact HT9.out | exact tc7 (HUR.out) | exact tc7 ((heap_alloc_old _ _ HXU.out).trans HUR.out))
    clear hK K
    clear hH0
    try simp only [Act.put, List.setIfInBounds_toArray, List.set_cons_zero, List.set_cons_succ]
    refine wpAnyH_ready (rs := [6]) (by kernel_rfl) (by simp) ?_
    refine (AllReadyH.cons (o := { dst := some 32, op := Op.buildSlice 104 1 #[(0, Operand.tmp 31)], type := 104, pos := "space.go:100", after := #[{ on := 5, ground := Ground.data }], guard := none }) rfl (fun K hK => ?_) AllReadyH.nil)
    go_simp
    have c0 := fun x => (World.cell?_alloc_lt _ x _ HLU.out).trans c0
    refine hK.out _ _ ?_ (fun hH2 => ?_)
    · (try dsimp only); (first | exact HT8.out | exact HT9.out | exact tc7 (HUR.out) | exact tc7 ((heap_alloc_old _ _ HXU.out).trans HUR.out))
    clear hK K
    clear hH1
    try simp only [Act.put, List.setIfInBounds_toArray, List.set_cons_zero, List.set_cons_succ]
    refine wpAnyH_ready (rs := [7]) (by kernel_rfl) (by simp) ?_
    refine (AllReadyH.cons (o := { dst := some 33, op := Op.call { callee := Callee.builtin Builtin.append, args := #[Operand.tmp 30, Operand.tmp 32], argTypes := #[104, 104] }, type := 104, pos := "space.go:100", after := #[{ on := 4, ground := Ground.data }, { on := 6, ground := Ground.data }], guard := none }) rfl (fun K hK => ?_) AllReadyH.nil)
    rw [if_pos (by rfl)]; refine wp_appB (.tmp 30) (.tmp 32) (by rfl) (.slice la bs.length lc) bs.length _ (by rfl) (World.ownsRow.alloc HLS.out _) ⟨_, 0, none⟩ 1 1 (by rfl) (Bd.cells ⟨cls, fmt, hash, 0, false, .slice (some ⟨w.heap.size + 2, 0, none⟩) n n, nilF n, .slice none 0 0, []⟩) rfl (fun j u hu => by rw [Addr.add_lit, Nat.zero_add]; exact new_cellD _ #[.int .i64 cls, .int .i64 fmt, .int .i64 hash, .int .i64 0, .bool false, .slice (some ⟨w.heap.size + 2, 0, none⟩) n n, .slice none 0 0] _ (by first | rfl | simp) (by simpa [Bd.cells] using hu)) (one7 _ rfl rfl) (by omega) ?_
    intro v8 u8 own8 g8 e8
    have g8 := grown_undrew g8
    obtain ⟨va, vc, rfl⟩ := own_sl own8
    have HF := Lib.hid (HU.out.fin H.out own8 g8 e8 (by omega))
    have h8 : u8.heap[w.heap.size]? = some (.cells #[.int .i64 cls, .int .i64 fmt, .int .i64 hash, .int .i64 0, .bool false, .slice (some ⟨w.heap.size + 2, 0, none⟩) n n, .slice none 0 0] 110 (0, 0)) := HU.out.row8 H.out g8
    have h8l : u8.heap[li]? = some (.cells #[.slice la bs.length lc] 106 (0, 0)) := HU.out.list8 H.out g8
    have c8 : u8.cell? ⟨li, 0, none⟩ = some (.slice la bs.length lc) := by rw [cell_row _ _ _ _ _ _ h8l]; rfl
    have fz8 := frozen_of_row u8 li 0 _ _ h8l
    have HT8 := Lib.hid (tc7 h8)
    have HT9 := Lib.hid (tc7 ((heap_setCell_other u8 ⟨li, 0, none⟩ _ (.slice va (bs.length + 1) vc) HNW.out).trans h8))
    clear h8 h8l own8 g8 e8
    refine hK.out _ _ ?_ (fun hH3 => ?_)
    · (try dsimp only); (first | exact HT8.out | exact HT9.out | exact tc7 (HUR.out) | exact tc7 ((heap_alloc_old _ _ HXU.out).trans HUR.out))
    clear hK K
    clear hH2
    try simp only [Act.put, List.setIfInBounds_toArray, List.set_cons_zero, List.set_cons_succ]
    refine wpAnyH_take (i := 8) (oi := { dst := some 34, op := Op.nilCheck (Operand.tmp 26), type := 0, pos := "space.go:100", after := #[{ on := 0, ground := Ground.data }, { on := 0, ground := Ground.phase }, { on := 1, ground := Ground.phase }, { on := 2, ground := Ground.phase }, { on := 3, ground := Ground.phase }, { on := 4, ground := Ground.phase }, { on := 5, ground := Ground.phase }, { on := 6, ground := Ground.phase }, { on := 7, ground := Ground.phase }], guard := none }) (v := ?v6) rfl (by kernel_rfl) (by kernel_rfl) (by kernel_rfl) (fun _ _ _ h => h) (Or.inl ⟨by rfl, ?hy6⟩) (by assumption) ?_
    case hy6 => intro w hSw; (try dsimp only at hSw); go_simp; (try with_reducible rfl)
    try simp only [Act.put, List.setIfInBounds_toArray, List.set_cons_zero, List.set_cons_succ]
    refine wpAnyH_take (i := 9) (oi := { dst := some 35, op := Op.fieldAddr 106 (Operand.tmp 34) 0, type := 0, pos := "space.go:100", after := #[{ on := 8, ground := Ground.data }, { on := 0, ground := Ground.phase }, { on := 1, ground := Ground.phase }, { on := 2, ground := Ground.phase }, { on := 3, ground := Ground.phase }, { on := 4, ground := Ground.phase }, { on := 5, ground := Ground.phase }, { on := 6, ground := Ground.phase }, { on := 7, ground := Ground.phase }], guard := none }) (v := ?v7) rfl (by kernel_rfl) (by kernel_rfl) (by kernel_rfl) (fun _ _ _ h => h) (Or.inl ⟨by rfl, ?hy7⟩) (by assumption) ?_
    case hy7 => intro w hSw; (try dsimp only at hSw); go_simp; (try with_reducible rfl)
    try simp only [Act.put, List.setIfInBounds_toArray, List.set_cons_zero, List.set_cons_succ]
    refine wpAnyH_ready (rs := [10]) (by kernel_rfl) (by simp) ?_
    refine (AllReadyH.cons (o := { dst := none, op := Op.store 104 (Operand.tmp 35) (Operand.tmp 33), type := 0, pos := "space.go:100", after := #[{ on := 9, ground := Ground.data }, { on := 7, ground := Ground.data }, { on := 7, ground := Ground.chain }, { on := 0, ground := Ground.phase }, { on := 1, ground := Ground.phase }, { on := 2, ground := Ground.phase }, { on := 3, ground := Ground.phase }, { on := 4, ground := Ground.phase }, { on := 5, ground := Ground.phase }, { on := 6, ground := Ground.phase }, { on := 7, ground := Ground.phase }], guard := none }) rfl (fun K hK => ?_) AllReadyH.nil)
    go_simp
    refine hK.out _ _ ?_ (fun hH4 => ?_)
    · (try dsimp only); (first | exact HT8.out | exact HT9.out | exact tc7 (HUR.out) | exact tc7 ((heap_alloc_old _ _ HXU.out).trans HUR.out))
    clear hK K
    clear hH3
    try simp only [Act.put, List.setIfInBounds_toArray, List.set_cons_zero, List.set_cons_succ]
    refine wpAnyH_done (by kernel_rfl) ?_ _
    go_wp2_with fail
    go_ret
    exact ⟨rfl, _, _, HF.out.1, HF.out.2⟩
  · go_simp
    have c0 := fun x => (World.cell?_alloc_lt _ x _ HLU.out).trans c0
    refine hK.out _ _ ?_ (fun hH1 => ?_)
    · (try dsimp only); (first | exact HT8.out | exact HT9.out | exact tc7 (HUR.out) | exact tc7 ((heap_alloc_old _ _ HXU.out).trans HUR.out))
    clear hK K
    clear hH0
    try simp only [Act.put, List.setIfInBounds_toArray, List.set_cons_zero, List.set_cons_succ]
    refine wpAnyH_ready (rs := [4]) (by kernel_rfl) (by simp) ?_
    refine (AllReadyH.cons (o := { dst := some 30, op := Op.load 104 (Operand.tmp 29), type := 104, pos := "space.go:100", after := #[{ on := 3, ground := Ground.data }], guard := none }) rfl (fun K hK => ?_) AllReadyH.nil)
    go_simp
    refine hK.out _ _ ?_ (fun hH2 => ?_)
    · (try dsimp only); (first | exact HT8.out | exact HT9.out | exact tc7 (HUR.out) | exact tc7 ((heap_alloc_old _ _ HXU.out).trans HUR.out))
    clear hK K
    clear hH1
    try simp only [Act.put, List.setIfInBounds_toArray, List.set_cons_zero, List.set_cons_succ]
    refine wpAnyH_ready (rs := [7]) (by kernel_rfl) (by simp) ?_
    refine (AllReadyH.cons (o := { dst := some 33, op := Op.call { callee := Callee.builtin Builtin.append, args := #[Operand.tmp 30, Operand.tmp 32], argTypes := #[104, 104] }, type := 104, pos := "space.go:100", after := #[{ on := 4, ground := Ground.data }, { on := 6, ground := Ground.data }], guard := none }) rfl (fun K hK => ?_) AllReadyH.nil)
    rw [if_pos (by rfl)]; refine wp_appB (.tmp 30) (.tmp 32) (by rfl) (.slice la bs.length lc) bs.length _ (by rfl) (World.ownsRow.alloc HLS.out _) ⟨_, 0, none⟩ 1 1 (by rfl) (Bd.cells ⟨cls, fmt, hash, 0, false, .slice (some ⟨w.heap.size + 2, 0, none⟩) n n, nilF n, .slice none 0 0, []⟩) rfl (fun j u hu => by rw [Addr.add_lit, Nat.zero_add]; exact new_cellD _ #[.int .i64 cls, .int .i64 fmt, .int .i64 hash, .int .i64 0, .bool false, .slice (some ⟨w.heap.size + 2, 0, none⟩) n n, .slice none 0 0] _ (by first | rfl | simp) (by simpa [Bd.cells] using hu)) (one7 _ rfl rfl) (by omega) ?_
    intro v8 u8 own8 g8 e8
    have g8 := grown_undrew g8
    obtain ⟨va, vc, rfl⟩ := own_sl own8
    have HF := Lib.hid (HU.out.fin H.out own8 g8 e8 (by omega))
    have h8 : u8.heap[w.heap.size]? = some (.cells #[.int .i64 cls, .int .i64 fmt, .int .i64 hash, .int .i64 0, .bool false, .slice (some ⟨w.heap.size + 2, 0, none⟩) n n, .slice none 0 0] 110 (0, 0)) := HU.out.row8 H.out g8
    have h8l : u8.heap[li]? = some (.cells #[.slice la bs.length lc] 106 (0, 0)) := HU.out.list8 H.out g8
    have c8 : u8.cell? ⟨li, 0, none⟩ = some (.slice la bs.length lc) := by rw [cell_row _ _ _ _ _ _ h8l]; rfl
    have fz8 := frozen_of_row u8 li 0 _ _ h8l
    have HT8 := Lib.hid (tc7 h8)
    have HT9 := Lib.hid (tc7 ((heap_setCell_other u8 ⟨li, 0, none⟩ _ (.slice va (bs.length + 1) vc) HNW.out).trans h8))
    clear h8 h8l own8 g8 e8
    refine hK.out _ _ ?_ (fun hH3 => ?_)
    · (try dsimp only); (first | exact HT8.out | exact HT9.out | exact tc7 (HUR.out) | exact tc7 ((heap_alloc_old _ _ HXU.out).trans HUR.out))
    clear hK K
    clear hH2
    try simp only [Act.put, List.setIfInBounds_toArray, List.set_cons_zero, List.set_cons_succ]
    refine wpAnyH_take (i := 8) (oi := { dst := some 34, op := Op.nilCheck (Operand.tmp 26), type := 0, pos := "space.go:100", after := #[{ on := 0, ground := Ground.data }, { on := 0, ground := Ground.phase }, { on := 1, ground := Ground.phase }, { on := 2, ground := Ground.phase }, { on := 3, ground := Ground.phase }, { on := 4, ground := Ground.phase }, { on := 5, ground := Ground.phase }, { on := 6, ground := Ground.phase }, { on := 7, ground := Ground.phase }], guard := none }) (v := ?v8) rfl (by kernel_rfl) (by kernel_rfl) (by kernel_rfl) (fun _ _ _ h => h) (Or.inl ⟨by rfl, ?hy8⟩) (by assumption) ?_
    case hy8 => intro w hSw; (try dsimp only at hSw); go_simp; (try with_reducible rfl)
    try simp only [Act.put, List.setIfInBounds_toArray, List.set_cons_zero, List.set_cons_succ]
    refine wpAnyH_take (i := 9) (oi := { dst := some 35, op := Op.fieldAddr 106 (Operand.tmp 34) 0, type := 0, pos := "space.go:100", after := #[{ on := 8, ground := Ground.data }, { on := 0, ground := Ground.phase }, { on := 1, ground := Ground.phase }, { on := 2, ground := Ground.phase }, { on := 3, ground := Ground.phase }, { on := 4, ground := Ground.phase }, { on := 5, ground := Ground.phase }, { on := 6, ground := Ground.phase }, { on := 7, ground := Ground.phase }], guard := none }) (v := ?v9) rfl (by kernel_rfl) (by kernel_rfl) (by kernel_rfl) (fun _ _ _ h => h) (Or.inl ⟨by rfl, ?hy9⟩) (by assumption) ?_
    case hy9 => intro w hSw; (try dsimp only at hSw); go_simp; (try with_reducible rfl)
    try simp only [Act.put, List.setIfInBounds_toArray, List.set_cons_zero, List.set_cons_succ]
    refine wpAnyH_ready (rs := [10]) (by kernel_rfl) (by simp) ?_
    refine (AllReadyH.cons (o := { dst := none, op := Op.store 104 (Operand.tmp 35) (Operand.tmp 33), type := 0, pos := "space.go:100", after := #[{ on := 9, ground := Ground.data }, { on := 7, ground := Ground.data }, { on := 7, ground := Ground.chain }, { on := 0, ground := Ground.phase }, { on := 1, ground := Ground.phase }, { on := 2, ground := Ground.phase }, { on := 3, ground := Ground.phase }, { on := 4, ground := Ground.phase }, { on := 5, ground := Ground.phase }, { on := 6, ground := Ground.phase }, { on := 7, ground := Ground.phase }], guard := none }) rfl (fun K hK => ?_) AllReadyH.nil)
    go_simp
    refine hK.out _ _ ?_ (fun hH4 => ?_)
    · (try dsimp only); (first | exact HT8.out | exact HT9.out | exact tc7 (HUR.out) | exact tc7 ((heap_alloc_old _ _ HXU.out).trans HUR.out))
    clear hK K
    clear hH3
    try simp only [Act.put, List.setIfInBounds_toArray, List.set_cons_zero, List.set_cons_succ]
    refine wpAnyH_done (by kernel_rfl) ?_ _
    go_wp2_with fail
    go_ret
    exact ⟨rfl, _, _, HF.out.1, HF.out.2⟩

end
end Go.Proofs.YtoklohfpkaiidaaGreat.Obj
