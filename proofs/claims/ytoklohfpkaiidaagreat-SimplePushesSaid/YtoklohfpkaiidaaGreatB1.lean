/- A world that is being built. -/
import Derived.Test.YtoklohfpkaiidaaGreatWo12
import Derived.Deep.RegionHeld3
namespace Go.Proofs.YtoklohfpkaiidaaGreat.Obj
open Go.Proofs.YtoklohfpkaiidaaGreat.Gen Go.Proofs.YtoklohfpkaiidaaGreat.Base Go.ChangeShapes Go.WideShapes Go.ChangeAt Go.RowKit
set_option linter.unusedVariables false
def zT6 : Value := .agg #[.int .i64 0, .int .i64 0, .int .i64 0, .bool false, .slice none 0 0, .string ByteArray.empty]
theorem infoTh : (Tryz.prog.info? 64).map (fun i => (i.zero, i.size, i.bytes)) = some (some zT6, 6, 72) := by kernel_rfl
set_option maxRecDepth 100000 in
theorem wp_appT {w : World} {o : Oper} {a : Act} {K : Act → World → Prop} {Q : Exit → Act → World → Prop} (s x : Operand)
    (ho : o.op = .call { callee := .builtin .append, args := #[s, x], argTypes := #[22, 22] })
    (v : Value) (n : Nat) (xs : List Value) (hs : a.eval s = v) (hown : w.ownsRow 0 64 6 v n xs) (ad : Addr) (m c : Nat) (hx : a.eval x = .slice (some ad) m c) (ys : List Value) (hl : ys.length = m * 6) (hc : ∀ j u, ys[j]? = some u → w.cell? (ad.add j) = some u) (h1 : ∀ u ∈ ys, u.oneCell' = true) (hn : n + m ≤ 1000000)
    (h : ∀ v' w', w'.ownsRow 0 64 6 v' (n + m) (xs ++ ys) → w.grownBy w' v.ownBlock → (v'.ownBlock = v.ownBlock ∨ v'.ownBlock = some w.heap.size) → K (a.put o.dst v') w') : o.wp Tryz.prog a w K Q := by
  obtain ⟨i0, hi, hz0, hz1, hz2⟩ := info_parts infoTh
  obtain ⟨v', w', hr, h2, h3, _, h5⟩ := run_append_own_at (P := Tryz.prog) (w := w) 0 22 o.type 64 i0 zT6 6 72 Tryz.underlying22 hi hz0 hz1 hz2 rfl (by decide) v n xs hown ad m c ys hl hc h1 (by unfold maxLen; omega) (by omega) (Nat.zero_le _)
  unfold Oper.wp execOp
  simp only [ho, resolve, invoke, builtin, Sem.run_bind, Sem.run_pure, Result.andThen_ok, List.map_toArray, List.map_cons, List.map_nil, hs, hx, hr]
  exact h v' w' h2 h3 h5
theorem new_cellD (w : World) (c : Array Value) (t : TypeId) {s i : Nat} {v : Value} (hs : s = w.heap.size) (h : c[i]? = some v) : (w.alloc (.cells c t)).drew.cell? ⟨s, i, none⟩ = some v := by
  subst hs; exact new_cell w c t h
theorem grown_undrew {w w' : World} {r : Option Nat} (h : w.drew.grownBy w' r) : w.grownBy w' r := ⟨h.os, h.tape, h.output, h.size, h.block⟩
theorem one6 (t : Th) {a1 c1 n1} (h1 : t.fv = .slice a1 n1 c1) : ∀ u ∈ t.cells, u.oneCell' = true := fun u hu => by
  unfold Th.cells at hu
  rw [h1] at hu
  simp only [List.mem_cons, List.not_mem_nil, or_false] at hu
  rcases hu with rfl | rfl | rfl | rfl | rfl | rfl <;> rfl
theorem own_slT {w : World} {base : Nat} {e : TypeId} {s n : Nat} {v : Value} {xs : List Value} (h : w.ownsRow base e s v n xs) : ∃ a c, v = .slice a n c := own_sl h
theorem RowV.read {w : World} {e : TypeId} {s n : Nat} {v : Value} {xs : List Value} (h : RowV w e s v n xs) (hc : ∃ a c, v = .slice a n c ∧ n ≤ c ∧ (c : Int) ≤ 9223372036854775807) : RowR w s v n xs := by
  obtain ⟨a, c, rfl, hc1, hc2⟩ := hc
  rcases h with ⟨rfl, rfl, _⟩ | ⟨h0, hx, g, cap, cur, fz, h3, h5, hf, h6, h7, h8, h9⟩
  · exact ⟨by simp, a, c, rfl, hc1, hc2, fun j hj => by simp at hj⟩
  · obtain ⟨e1, -, e3⟩ := Value.slice.inj h3
    subst e1; subst e3
    refine ⟨hx, _, c, rfl, hc1, hc2, fun j hj => ⟨g, 0, rfl, ?_⟩⟩
    rw [Nat.zero_add, cell_row w g j _ _ _ h5, ← h9, List.getElem?_take, if_pos hj]
    simp
/-- A world that is being built, in block b. -/
structure LB (w u : World) (b : Nat) (tb : TypeId) (lv : Value) (L : List Th) (last : Int) : Prop where
  bel : Below w.heap.size w u
  hb : w.heap.size ≤ b
  row : u.heap[b]? = some (.cells #[lv, .slice none 0 0, .int .i64 last, .int .i64 0, .int .i64 0, .slice none 0 0, .slice none 0 0, .slice none 0 0, .string ByteArray.empty, .string ByteArray.empty, .int .i64 0, .int .i64 0, .slice none 0 0] tb (0, 0))
  ls : u.ownsRow 0 64 6 lv L.length (L.flatMap Th.cells)
  fs : ∀ t ∈ L, RowV u 54 2 t.fv t.F.length (vals t.F)
  fc : ∀ t ∈ L, ∃ a c, t.fv = .slice a t.F.length c ∧ t.F.length ≤ c ∧ (c : Int) ≤ 9223372036854775807
  nb : lv.ownBlock ≠ some b
  nl : ∀ k, lv.ownBlock = some k → w.heap.size ≤ k
  nf : ∀ t ∈ L, ∀ k, blk t.fv t.F.length = some k → k ≠ b ∧ lv.ownBlock ≠ some k
section
variable {w u u' ux u8 : World} {b : Nat} {tb : TypeId} {lv v' : Value} {L : List Th} {last : Int}
theorem LB.lt (h : LB w u b tb lv L last) : b < u.heap.size := (Array.getElem?_eq_some_iff.1 h.row).1
theorem LB.more (h : LB w u b tb lv L last) (hb : Below u.heap.size u u') : LB w u' b tb lv L last :=
  { h with
    bel := h.bel.trans (hb.mono h.bel.size)
    row := (hb.block b h.lt).trans h.row
    ls := owns_at h.ls fun k hk => hb.block k (h.ls.lt k hk).2
    fs := fun t ht => (h.fs t ht).keep fun k hk => hb.block k ((h.fs t ht).lt k hk) }
theorem LB.cell (h : LB w u b tb lv L last) {j : Nat} {v : Value} (hv : (#[lv, .slice none 0 0, .int .i64 last, .int .i64 0, .int .i64 0, .slice none 0 0, .slice none 0 0, .slice none 0 0, .string ByteArray.empty, .string ByteArray.empty, .int .i64 0, .int .i64 0, .slice none 0 0] : Array Value)[j]? = some v) : u.cell? ⟨b, j, none⟩ = some v := by rw [cell_row u b j _ _ _ h.row]; exact hv
theorem LB.c0 (h : LB w u b tb lv L last) : u.cell? ⟨b, 0, none⟩ = some lv := h.cell rfl
theorem LB.c2 (h : LB w u b tb lv L last) : u.cell? ⟨b, 2, none⟩ = some (.int .i64 last) := h.cell rfl
theorem LB.lat (h : LB w u b tb lv L last) : LAt u lv L := by
  refine ⟨?_, fun t ht => (h.fs t ht).read (h.fc t ht)⟩
  obtain ⟨hx, ⟨h1, h2⟩ | ⟨g, cap, cur, h3, h4, h5, h6, h7, h8, h9⟩⟩ := h.ls
  · exact ⟨hx, none, 0, by rw [h1, h2], by omega, by omega, fun j hj => by rw [h2] at hj; simp at hj⟩
  · refine ⟨hx, _, cap, h3, h6, by unfold maxLen at h7; omega, fun j hj => ⟨g, 0, rfl, ?_⟩⟩
    rw [Nat.zero_add, cell_row u g j _ _ _ h5, ← h9, List.getElem?_take, if_pos hj]
    simp
theorem LB.set2 (h : LB w u b tb lv L last) (l2 : Int) : LB w (u.setCell ⟨b, 2, none⟩ (.int .i64 l2)) b tb lv L l2 := by
  have hfar : ∀ k, k ≠ b → (u.setCell ⟨b, 2, none⟩ (.int .i64 l2)).heap[k]? = u.heap[k]? := fun k hk => heap_setCell_other _ _ _ _ (fun e => hk e)
  exact { h with
    bel := h.bel.setCell h.hb _
    row := by rw [heap_setCell_same u b 2 _ _ _ h.row]; rfl
    ls := owns_at h.ls fun k hk => hfar k fun e => h.nb (e ▸ hk)
    fs := fun t ht => (h.fs t ht).keep fun k hk => hfar k (h.nf t ht k hk).1 }
/-- One thing more. -/
theorem LB.push {R : Obj} (h : LB w u b tb lv L last) (t : Th) (hf : RowV u 54 2 t.fv t.F.length (vals t.F)) (hn : (∀ k, blk t.fv t.F.length = some k → k ≠ b ∧ lv.ownBlock ≠ some k) ∧ ∃ a c, t.fv = .slice a t.F.length c ∧ t.F.length ≤ c ∧ (c : Int) ≤ 9223372036854775807)
    (own : u8.ownsRow 0 64 6 v' (L.length + 1) (L.flatMap Th.cells ++ t.cells)) (g : (u.alloc R).grownBy u8 lv.ownBlock) (e : v'.ownBlock = lv.ownBlock ∨ v'.ownBlock = some (u.alloc R).heap.size) :
    LB w (u8.setCell ⟨b, 0, none⟩ v') b tb v' (L ++ [t]) last := by
  have hsR : (u.alloc R).heap.size = u.heap.size + 1 := World.size_alloc _ _
  rw [hsR] at e
  have hbl := h.lt
  have hw := h.bel.size
  have hblk : ∀ j, j < u.heap.size → lv.ownBlock ≠ some j → u8.heap[j]? = u.heap[j]? := fun j hj hn => (g.block j (by omega) fun e => hn e.symm).trans (heap_alloc_old _ _ hj)
  have hfar : ∀ k, k ≠ b → (u8.setCell ⟨b, 0, none⟩ v').heap[k]? = u8.heap[k]? := fun k hk => heap_setCell_other _ _ _ _ (fun e => hk e)
  have hvb : v'.ownBlock ≠ some b := by
    rcases e with e | e
    · rw [e]; exact h.nb
    · rw [e]; intro c; simp at c; omega
  have hvn : ∀ k, k < u.heap.size → lv.ownBlock ≠ some k → v'.ownBlock ≠ some k := fun k hk hne => by
    rcases e with e | e
    · rw [e]; exact hne
    · rw [e]; intro c; simp at c; omega
  have hall : ∀ p ∈ L ++ [t], RowV u 54 2 p.fv p.F.length (vals p.F) ∧ (∀ k, blk p.fv p.F.length = some k → k ≠ b ∧ lv.ownBlock ≠ some k) ∧ ∃ a c, p.fv = .slice a p.F.length c ∧ p.F.length ≤ c ∧ (c : Int) ≤ 9223372036854775807 := fun p hp => by
    rcases List.mem_append.1 hp with hp | hp
    · exact ⟨h.fs p hp, h.nf p hp, h.fc p hp⟩
    · obtain rfl : p = t := by simpa using hp
      exact ⟨hf, hn.1, hn.2⟩
  refine { bel := ?_, hb := h.hb, row := ?_, ls := ?_, fs := ?_, fc := fun p hp => (hall p hp).2.2, nb := hvb, nl := ?_, nf := ?_ }
  · refine Below.setCell ?_ h.hb _
    exact (h.bel.alloc hw R).grown g (by omega) (fun j hj => h.nl j hj)
  · rw [heap_setCell_same u8 b 0 _ _ _ ((hblk b hbl h.nb).trans h.row)]; rfl
  · rw [List.length_append, List.flatMap_append]
    have he : [t].flatMap Th.cells = t.cells := by simp
    rw [he]
    exact owns_at own fun k hk => hfar k fun e => hvb (e ▸ hk)
  · intro p hp
    obtain ⟨q1, q2, q3⟩ := hall p hp
    exact q1.keep fun k hk => (hfar k (q2 k hk).1).trans (hblk k (q1.lt k hk) (q2 k hk).2)
  · intro k hk
    rcases e with e | e
    · rw [e] at hk; exact h.nl k hk
    · rw [e] at hk; simp at hk; omega
  · intro p hp k hk
    obtain ⟨q1, q2, q3⟩ := hall p hp
    exact ⟨(q2 k hk).1, hvn k (q1.lt k hk) (q2 k hk).2⟩
theorem LB.drew (h : LB w u b tb lv L last) : LB w u.drew b tb lv L last := h.more ⟨rfl, rfl, rfl, Nat.le_refl _, fun _ _ => rfl⟩
set_option maxRecDepth 100000 in
set_option maxHeartbeats 8000000 in
theorem b_Add {fa : Option Addr} {fc : Nat} {F : List V} (h : LB w u b 51 lv L last) (hn : L.length ≤ 3000) (hl : 0 ≤ last ∧ last ≤ 3000) (cls fmt : Int) (hF : RowV u 54 2 (.slice fa F.length fc) F.length (vals F)) (hFb : (∀ k, blk (.slice fa F.length fc) F.length = some k → k ≠ b ∧ lv.ownBlock ≠ some k) ∧ F.length ≤ fc ∧ (fc : Int) ≤ 9223372036854775807) (B : ByteArray) :
    Calls Tryz.prog 18 #[.pointer (some ⟨b, 0, none⟩), .int .i64 cls, .int .i64 fmt, .slice fa F.length fc, .string B] u fun e w' => e = .returned (.int .i64 L.length) ∧ ∃ va vc, LB w w' b 51 (.slice va (L.length + 1) vc) (L ++ [⟨cls, fmt, last + 1, false, .slice fa F.length fc, F, B⟩]) (last + 1) := by
  have hzt := zT
  obtain ⟨la, lc, rfl⟩ := own_sl h.ls
  have h2 := h.set2 (last + 1)
  have k2 := h.c2
  have kf := frozen_of_row u b 2 _ _ h.row
  have c0 := (h.set2 (last + 1)).c0
  have c2 := (h.set2 (last + 1)).c2
  have HL := Lib.hid h2
  have HLT : Hid (b < (u.setCell ⟨b, 2, none⟩ (.int .i64 (last + 1))).heap.size) := Lib.hid h2.lt
  have HFR : Hid (RowV (u.setCell ⟨b, 2, none⟩ (.int .i64 (last + 1))) 54 2 (.slice fa F.length fc) F.length (vals F)) := Lib.hid (hF.keep fun k hk => heap_setCell_other _ _ _ _ fun e => (hFb.1 k hk).1 e)
  have HFN : Hid ((∀ k, blk (.slice fa F.length fc) F.length = some k → k ≠ b ∧ (Value.slice la L.length lc).ownBlock ≠ some k) ∧ ∃ a c, Value.slice fa F.length fc = .slice a F.length c ∧ F.length ≤ c ∧ (c : Int) ≤ 9223372036854775807) := Lib.hid ⟨hFb.1, _, _, rfl, hFb.2⟩
  have t1 : ¬ last + 1 < -9223372036854775808 := by omega
  clear h h2 hF hFb
  go_enter Tryz.func18, Tryz.ntmps18
  go_upto_region 2 with fail
  refine wp_region_held_drew (S := (fun w' => w'.cell? ⟨b, 2, none⟩ = some (.int .i64 (last + 1)))) (by kernel_rfl) ?_ (fun hH0 => ?_)
  · (try dsimp only); exact c2
  refine wpAnyH_take (i := 0) (oi := { dst := some 20, op := Op.move (Operand.tmp 0), type := 48, pos := "law.go:111", after := #[], guard := none }) (v := ?v1) rfl (by kernel_rfl) (by kernel_rfl) (by kernel_rfl) (fun _ _ _ h => h) (Or.inl ⟨by rfl, ?hy1⟩) (by assumption) ?_
  case hy1 => intro w hSw; (try dsimp only at hSw); go_simp; (try with_reducible rfl)
  try simp only [Act.put, List.setIfInBounds_toArray, List.set_cons_zero, List.set_cons_succ]
  refine wpAnyH_take (i := 1) (oi := { dst := some 21, op := Op.move (Operand.tmp 0), type := 48, pos := "law.go:111", after := #[], guard := none }) (v := ?v2) rfl (by kernel_rfl) (by kernel_rfl) (by kernel_rfl) (fun _ _ _ h => h) (Or.inl ⟨by rfl, ?hy2⟩) (by assumption) ?_
  case hy2 => intro w hSw; (try dsimp only at hSw); go_simp; (try with_reducible rfl)
  try simp only [Act.put, List.setIfInBounds_toArray, List.set_cons_zero, List.set_cons_succ]
  refine wpAnyH_take (i := 2) (oi := { dst := some 22, op := Op.nilCheck (Operand.tmp 21), type := 0, pos := "law.go:111", after := #[{ on := 1, ground := Ground.data }], guard := none }) (v := ?v3) rfl (by kernel_rfl) (by kernel_rfl) (by kernel_rfl) (fun _ _ _ h => h) (Or.inl ⟨by rfl, ?hy3⟩) (by assumption) ?_
  case hy3 => intro w hSw; (try dsimp only at hSw); go_simp; (try with_reducible rfl)
  try simp only [Act.put, List.setIfInBounds_toArray, List.set_cons_zero, List.set_cons_succ]
  refine wpAnyH_take (i := 3) (oi := { dst := some 23, op := Op.fieldAddr 51 (Operand.tmp 22) 0, type := 0, pos := "law.go:111", after := #[{ on := 2, ground := Ground.data }], guard := none }) (v := ?v4) rfl (by kernel_rfl) (by kernel_rfl) (by kernel_rfl) (fun _ _ _ h => h) (Or.inl ⟨by rfl, ?hy4⟩) (by assumption) ?_
  case hy4 => intro w hSw; (try dsimp only at hSw); go_simp; (try with_reducible rfl)
  try simp only [Act.put, List.setIfInBounds_toArray, List.set_cons_zero, List.set_cons_succ]
  refine wpAnyH_take (i := 4) (oi := { dst := some 24, op := Op.fieldAddr 30 (Operand.tmp 23) 0, type := 0, pos := "law.go:111", after := #[{ on := 3, ground := Ground.data }], guard := none }) (v := ?v5) rfl (by kernel_rfl) (by kernel_rfl) (by kernel_rfl) (fun _ _ _ h => h) (Or.inl ⟨by rfl, ?hy5⟩) (by assumption) ?_
  case hy5 => intro w hSw; (try dsimp only at hSw); go_simp; (try with_reducible rfl)
  try simp only [Act.put, List.setIfInBounds_toArray, List.set_cons_zero, List.set_cons_succ]
  refine wpAnyH_take (i := 6) (oi := { dst := some 26, op := Op.move (Operand.tmp 1), type := 3, pos := "law.go:111", after := #[], guard := none }) (v := ?v6) rfl (by kernel_rfl) (by kernel_rfl) (by kernel_rfl) (fun _ _ _ h => h) (Or.inl ⟨by rfl, ?hy6⟩) (by assumption) ?_
  case hy6 => intro w hSw; (try dsimp only at hSw); go_simp; (try with_reducible rfl)
  try simp only [Act.put, List.setIfInBounds_toArray, List.set_cons_zero, List.set_cons_succ]
  refine wpAnyH_take (i := 7) (oi := { dst := some 27, op := Op.move (Operand.tmp 2), type := 3, pos := "law.go:111", after := #[], guard := none }) (v := ?v7) rfl (by kernel_rfl) (by kernel_rfl) (by kernel_rfl) (fun _ _ _ h => h) (Or.inl ⟨by rfl, ?hy7⟩) (by assumption) ?_
  case hy7 => intro w hSw; (try dsimp only at hSw); go_simp; (try with_reducible rfl)
  try simp only [Act.put, List.setIfInBounds_toArray, List.set_cons_zero, List.set_cons_succ]
  refine wpAnyH_take (i := 8) (oi := { dst := some 28, op := Op.move (Operand.tmp 0), type := 48, pos := "law.go:111", after := #[], guard := none }) (v := ?v8) rfl (by kernel_rfl) (by kernel_rfl) (by kernel_rfl) (fun _ _ _ h => h) (Or.inl ⟨by rfl, ?hy8⟩) (by assumption) ?_
  case hy8 => intro w hSw; (try dsimp only at hSw); go_simp; (try with_reducible rfl)
  try simp only [Act.put, List.setIfInBounds_toArray, List.set_cons_zero, List.set_cons_succ]
  refine wpAnyH_take (i := 9) (oi := { dst := some 29, op := Op.nilCheck (Operand.tmp 28), type := 0, pos := "law.go:111", after := #[{ on := 8, ground := Ground.data }], guard := none }) (v := ?v9) rfl (by kernel_rfl) (by kernel_rfl) (by kernel_rfl) (fun _ _ _ h => h) (Or.inl ⟨by rfl, ?hy9⟩) (by assumption) ?_
  case hy9 => intro w hSw; (try dsimp only at hSw); go_simp; (try with_reducible rfl)
  try simp only [Act.put, List.setIfInBounds_toArray, List.set_cons_zero, List.set_cons_succ]
  refine wpAnyH_take (i := 10) (oi := { dst := some 30, op := Op.fieldAddr 51 (Operand.tmp 29) 0, type := 0, pos := "law.go:111", after := #[{ on := 9, ground := Ground.data }], guard := none }) (v := ?v10) rfl (by kernel_rfl) (by kernel_rfl) (by kernel_rfl) (fun _ _ _ h => h) (Or.inl ⟨by rfl, ?hy10⟩) (by assumption) ?_
  case hy10 => intro w hSw; (try dsimp only at hSw); go_simp; (try with_reducible rfl)
  try simp only [Act.put, List.setIfInBounds_toArray, List.set_cons_zero, List.set_cons_succ]
  refine wpAnyH_take (i := 11) (oi := { dst := some 31, op := Op.fieldAddr 30 (Operand.tmp 30) 2, type := 0, pos := "law.go:111", after := #[{ on := 10, ground := Ground.data }], guard := none }) (v := ?v11) rfl (by kernel_rfl) (by kernel_rfl) (by kernel_rfl) (fun _ _ _ h => h) (Or.inl ⟨by rfl, ?hy11⟩) (by assumption) ?_
  case hy11 => intro w hSw; (try dsimp only at hSw); go_simp; (try with_reducible rfl)
  try simp only [Act.put, List.setIfInBounds_toArray, List.set_cons_zero, List.set_cons_succ]
  refine wpAnyH_take (i := 12) (oi := { dst := some 32, op := Op.load 3 (Operand.tmp 31), type := 3, pos := "law.go:111", after := #[{ on := 11, ground := Ground.data }], guard := none }) (v := ?v12) rfl (by kernel_rfl) (by kernel_rfl) (by kernel_rfl) (fun _ _ _ h => h) (Or.inl ⟨by rfl, ?hy12⟩) (by assumption) ?_
  case hy12 => intro w hSw; (try dsimp only at hSw); go_simp; (try with_reducible rfl)
  try simp only [Act.put, List.setIfInBounds_toArray, List.set_cons_zero, List.set_cons_succ]
  refine wpAnyH_take (i := 13) (oi := { dst := some 33, op := Op.move (Operand.tmp 3), type := 56, pos := "law.go:111", after := #[], guard := none }) (v := ?v13) rfl (by kernel_rfl) (by kernel_rfl) (by kernel_rfl) (fun _ _ _ h => h) (Or.inl ⟨by rfl, ?hy13⟩) (by assumption) ?_
  case hy13 => intro w hSw; (try dsimp only at hSw); go_simp; (try with_reducible rfl)
  try simp only [Act.put, List.setIfInBounds_toArray, List.set_cons_zero, List.set_cons_succ]
  refine wpAnyH_take (i := 14) (oi := { dst := some 34, op := Op.move (Operand.tmp 4), type := 9, pos := "law.go:111", after := #[], guard := none }) (v := ?v14) rfl (by kernel_rfl) (by kernel_rfl) (by kernel_rfl) (fun _ _ _ h => h) (Or.inl ⟨by rfl, ?hy14⟩) (by assumption) ?_
  case hy14 => intro w hSw; (try dsimp only at hSw); go_simp; (try with_reducible rfl)
  try simp only [Act.put, List.setIfInBounds_toArray, List.set_cons_zero, List.set_cons_succ]
  refine wpAnyH_take (i := 15) (oi := { dst := some 35, op := Op.build 64 #[(0, Operand.tmp 26), (1, Operand.tmp 27), (2, Operand.tmp 32), (4, Operand.tmp 33), (5, Operand.tmp 34)], type := 64, pos := "law.go:111", after := #[{ on := 6, ground := Ground.data }, { on := 7, ground := Ground.data }, { on := 12, ground := Ground.data }, { on := 13, ground := Ground.data }, { on := 14, ground := Ground.data }], guard := none }) (v := ?v15) rfl (by kernel_rfl) (by kernel_rfl) (by kernel_rfl) (fun _ _ _ h => h) (Or.inl ⟨by rfl, ?hy15⟩) (by assumption) ?_
  case hy15 => intro w hSw; (try dsimp only at hSw); go_simp; (try with_reducible rfl)
  try simp only [Act.put, List.setIfInBounds_toArray, List.set_cons_zero, List.set_cons_succ]
  refine wpAnyH_ready (rs := [5, 16]) (by kernel_rfl) (by simp) ?_
  refine (AllReadyH.cons (o := { dst := some 25, op := Op.load 22 (Operand.tmp 24), type := 22, pos := "law.go:111", after := #[{ on := 4, ground := Ground.data }], guard := none }) rfl (fun K hK => ?_) (AllReadyH.cons (o := { dst := some 36, op := Op.buildSlice 22 1 #[(0, Operand.tmp 35)], type := 22, pos := "law.go:111", after := #[{ on := 15, ground := Ground.data }], guard := none }) rfl (fun K hK => ?_) AllReadyH.nil))
  · go_simp
    refine hK.out _ _ ?_ (fun hH1 => ?_)
    · (try dsimp only); (first | exact d2 | exact (World.cell?_setCell_other _ _ _ _ (fun e => by injection e; omega)).trans d2 | exact c2 | exact (World.cell?_alloc_lt _ _ _ HLT.out).trans c2)
    clear hK K
    clear hH0
    try simp only [Act.put, List.setIfInBounds_toArray, List.set_cons_zero, List.set_cons_succ]
    refine wpAnyH_ready (rs := [16]) (by kernel_rfl) (by simp) ?_
    refine (AllReadyH.cons (o := { dst := some 36, op := Op.buildSlice 22 1 #[(0, Operand.tmp 35)], type := 22, pos := "law.go:111", after := #[{ on := 15, ground := Ground.data }], guard := none }) rfl (fun K hK => ?_) AllReadyH.nil)
    go_simp
    have c0 := fun x => (World.cell?_alloc_lt _ x _ HLT.out).trans c0
    refine hK.out _ _ ?_ (fun hH2 => ?_)
    · (try dsimp only); (first | exact d2 | exact (World.cell?_setCell_other _ _ _ _ (fun e => by injection e; omega)).trans d2 | exact c2 | exact (World.cell?_alloc_lt _ _ _ HLT.out).trans c2)
    clear hK K
    clear hH1
    try simp only [Act.put, List.setIfInBounds_toArray, List.set_cons_zero, List.set_cons_succ]
    refine wpAnyH_ready (rs := [17]) (by kernel_rfl) (by simp) ?_
    refine (AllReadyH.cons (o := { dst := some 37, op := Op.call { callee := Callee.builtin Builtin.append, args := #[Operand.tmp 25, Operand.tmp 36], argTypes := #[22, 22] }, type := 22, pos := "law.go:111", after := #[{ on := 5, ground := Ground.data }, { on := 16, ground := Ground.data }], guard := none }) rfl (fun K hK => ?_) AllReadyH.nil)
    rw [if_pos (by rfl)]; refine wp_appT (.tmp 25) (.tmp 36) (by rfl) (.slice la L.length lc) L.length _ (by rfl) (World.ownsRow.alloc HL.out.ls _) ⟨_, 0, none⟩ 1 1 (by rfl) (Th.cells ⟨cls, fmt, last + 1, false, .slice fa F.length fc, F, B⟩) rfl (fun j u hu => by rw [Addr.add_lit, Nat.zero_add]; exact new_cellD _ #[.int .i64 cls, .int .i64 fmt, .int .i64 (last + 1), .bool false, .slice fa F.length fc, .string B] _ (by first | rfl | simp) (by simpa [Th.cells] using hu)) (one6 _ rfl) (by omega) ?_
    intro v8 u8 own8 g8 e8
    have g8 := grown_undrew g8
    obtain ⟨va, vc, rfl⟩ := own_slT own8
    have HP := Lib.hid (HL.out.push ⟨cls, fmt, last + 1, false, .slice fa F.length fc, F, B⟩ HFR.out HFN.out own8 g8 e8)
    have h8 : u8.heap[b]? = _ := (g8.block b (by have := HLT.out; simp at this ⊢; omega) (fun e => HL.out.nb e.symm)).trans ((heap_alloc_old _ _ HLT.out).trans HL.out.row)
    have c8 : u8.cell? ⟨b, 0, none⟩ = some (.slice la L.length lc) := by rw [cell_row _ _ _ _ _ _ h8]; rfl
    have fz8 := frozen_of_row u8 b 0 _ _ h8
    have d2 : u8.cell? ⟨b, 2, none⟩ = some (.int .i64 (last + 1)) := by rw [cell_row _ _ _ _ _ _ h8]; rfl
    clear h8 own8 g8 e8
    refine hK.out _ _ ?_ (fun hH3 => ?_)
    · (try dsimp only); (first | exact d2 | exact (World.cell?_setCell_other _ _ _ _ (fun e => by injection e; omega)).trans d2 | exact c2 | exact (World.cell?_alloc_lt _ _ _ HLT.out).trans c2)
    clear hK K
    clear hH2
    try simp only [Act.put, List.setIfInBounds_toArray, List.set_cons_zero, List.set_cons_succ]
    refine wpAnyH_take (i := 18) (oi := { dst := some 38, op := Op.nilCheck (Operand.tmp 20), type := 0, pos := "law.go:111", after := #[{ on := 0, ground := Ground.data }, { on := 0, ground := Ground.phase }, { on := 1, ground := Ground.phase }, { on := 2, ground := Ground.phase }, { on := 3, ground := Ground.phase }, { on := 4, ground := Ground.phase }, { on := 5, ground := Ground.phase }, { on := 6, ground := Ground.phase }, { on := 7, ground := Ground.phase }, { on := 8, ground := Ground.phase }, { on := 9, ground := Ground.phase }, { on := 10, ground := Ground.phase }, { on := 11, ground := Ground.phase }, { on := 12, ground := Ground.phase }, { on := 13, ground := Ground.phase }, { on := 14, ground := Ground.phase }, { on := 15, ground := Ground.phase }, { on := 16, ground := Ground.phase }, { on := 17, ground := Ground.phase }], guard := none }) (v := ?v16) rfl (by kernel_rfl) (by kernel_rfl) (by kernel_rfl) (fun _ _ _ h => h) (Or.inl ⟨by rfl, ?hy16⟩) (by assumption) ?_
    case hy16 => intro w hSw; (try dsimp only at hSw); go_simp; (try with_reducible rfl)
    try simp only [Act.put, List.setIfInBounds_toArray, List.set_cons_zero, List.set_cons_succ]
    refine wpAnyH_take (i := 19) (oi := { dst := some 39, op := Op.fieldAddr 51 (Operand.tmp 38) 0, type := 0, pos := "law.go:111", after := #[{ on := 18, ground := Ground.data }, { on := 0, ground := Ground.phase }, { on := 1, ground := Ground.phase }, { on := 2, ground := Ground.phase }, { on := 3, ground := Ground.phase }, { on := 4, ground := Ground.phase }, { on := 5, ground := Ground.phase }, { on := 6, ground := Ground.phase }, { on := 7, ground := Ground.phase }, { on := 8, ground := Ground.phase }, { on := 9, ground := Ground.phase }, { on := 10, ground := Ground.phase }, { on := 11, ground := Ground.phase }, { on := 12, ground := Ground.phase }, { on := 13, ground := Ground.phase }, { on := 14, ground := Ground.phase }, { on := 15, ground := Ground.phase }, { on := 16, ground := Ground.phase }, { on := 17, ground := Ground.phase }], guard := none }) (v := ?v17) rfl (by kernel_rfl) (by kernel_rfl) (by kernel_rfl) (fun _ _ _ h => h) (Or.inl ⟨by rfl, ?hy17⟩) (by assumption) ?_
    case hy17 => intro w hSw; (try dsimp only at hSw); go_simp; (try with_reducible rfl)
    try simp only [Act.put, List.setIfInBounds_toArray, List.set_cons_zero, List.set_cons_succ]
    refine wpAnyH_take (i := 20) (oi := { dst := some 40, op := Op.fieldAddr 30 (Operand.tmp 39) 0, type := 0, pos := "law.go:111", after := #[{ on := 19, ground := Ground.data }, { on := 0, ground := Ground.phase }, { on := 1, ground := Ground.phase }, { on := 2, ground := Ground.phase }, { on := 3, ground := Ground.phase }, { on := 4, ground := Ground.phase }, { on := 5, ground := Ground.phase }, { on := 6, ground := Ground.phase }, { on := 7, ground := Ground.phase }, { on := 8, ground := Ground.phase }, { on := 9, ground := Ground.phase }, { on := 10, ground := Ground.phase }, { on := 11, ground := Ground.phase }, { on := 12, ground := Ground.phase }, { on := 13, ground := Ground.phase }, { on := 14, ground := Ground.phase }, { on := 15, ground := Ground.phase }, { on := 16, ground := Ground.phase }, { on := 17, ground := Ground.phase }], guard := none }) (v := ?v18) rfl (by kernel_rfl) (by kernel_rfl) (by kernel_rfl) (fun _ _ _ h => h) (Or.inl ⟨by rfl, ?hy18⟩) (by assumption) ?_
    case hy18 => intro w hSw; (try dsimp only at hSw); go_simp; (try with_reducible rfl)
    try simp only [Act.put, List.setIfInBounds_toArray, List.set_cons_zero, List.set_cons_succ]
    refine wpAnyH_ready (rs := [21]) (by kernel_rfl) (by simp) ?_
    refine (AllReadyH.cons (o := { dst := none, op := Op.store 22 (Operand.tmp 40) (Operand.tmp 37), type := 0, pos := "law.go:111", after := #[{ on := 20, ground := Ground.data }, { on := 17, ground := Ground.data }, { on := 17, ground := Ground.chain }, { on := 0, ground := Ground.phase }, { on := 1, ground := Ground.phase }, { on := 2, ground := Ground.phase }, { on := 3, ground := Ground.phase }, { on := 4, ground := Ground.phase }, { on := 5, ground := Ground.phase }, { on := 6, ground := Ground.phase }, { on := 7, ground := Ground.phase }, { on := 8, ground := Ground.phase }, { on := 9, ground := Ground.phase }, { on := 10, ground := Ground.phase }, { on := 11, ground := Ground.phase }, { on := 12, ground := Ground.phase }, { on := 13, ground := Ground.phase }, { on := 14, ground := Ground.phase }, { on := 15, ground := Ground.phase }, { on := 16, ground := Ground.phase }, { on := 17, ground := Ground.phase }], guard := none }) rfl (fun K hK => ?_) AllReadyH.nil)
    go_simp
    refine hK.out _ _ ?_ (fun hH4 => ?_)
    · (try dsimp only); (first | exact d2 | exact (World.cell?_setCell_other _ _ _ _ (fun e => by injection e; omega)).trans d2 | exact c2 | exact (World.cell?_alloc_lt _ _ _ HLT.out).trans c2)
    clear hK K
    clear hH3
    try simp only [Act.put, List.setIfInBounds_toArray, List.set_cons_zero, List.set_cons_succ]
    refine wpAnyH_done (by kernel_rfl) ?_ _
    have c9 := HP.out.c0
    go_wp2_with fail
    go_ret
    exact ⟨by simp, va, vc, HP.out⟩
  · go_simp
    have c0 := fun x => (World.cell?_alloc_lt _ x _ HLT.out).trans c0
    refine hK.out _ _ ?_ (fun hH1 => ?_)
    · (try dsimp only); (first | exact d2 | exact (World.cell?_setCell_other _ _ _ _ (fun e => by injection e; omega)).trans d2 | exact c2 | exact (World.cell?_alloc_lt _ _ _ HLT.out).trans c2)
    clear hK K
    clear hH0
    try simp only [Act.put, List.setIfInBounds_toArray, List.set_cons_zero, List.set_cons_succ]
    refine wpAnyH_ready (rs := [5]) (by kernel_rfl) (by simp) ?_
    refine (AllReadyH.cons (o := { dst := some 25, op := Op.load 22 (Operand.tmp 24), type := 22, pos := "law.go:111", after := #[{ on := 4, ground := Ground.data }], guard := none }) rfl (fun K hK => ?_) AllReadyH.nil)
    go_simp
    refine hK.out _ _ ?_ (fun hH2 => ?_)
    · (try dsimp only); (first | exact d2 | exact (World.cell?_setCell_other _ _ _ _ (fun e => by injection e; omega)).trans d2 | exact c2 | exact (World.cell?_alloc_lt _ _ _ HLT.out).trans c2)
    clear hK K
    clear hH1
    try simp only [Act.put, List.setIfInBounds_toArray, List.set_cons_zero, List.set_cons_succ]
    refine wpAnyH_ready (rs := [17]) (by kernel_rfl) (by simp) ?_
    refine (AllReadyH.cons (o := { dst := some 37, op := Op.call { callee := Callee.builtin Builtin.append, args := #[Operand.tmp 25, Operand.tmp 36], argTypes := #[22, 22] }, type := 22, pos := "law.go:111", after := #[{ on := 5, ground := Ground.data }, { on := 16, ground := Ground.data }], guard := none }) rfl (fun K hK => ?_) AllReadyH.nil)
    rw [if_pos (by rfl)]; refine wp_appT (.tmp 25) (.tmp 36) (by rfl) (.slice la L.length lc) L.length _ (by rfl) (World.ownsRow.alloc HL.out.ls _) ⟨_, 0, none⟩ 1 1 (by rfl) (Th.cells ⟨cls, fmt, last + 1, false, .slice fa F.length fc, F, B⟩) rfl (fun j u hu => by rw [Addr.add_lit, Nat.zero_add]; exact new_cellD _ #[.int .i64 cls, .int .i64 fmt, .int .i64 (last + 1), .bool false, .slice fa F.length fc, .string B] _ (by first | rfl | simp) (by simpa [Th.cells] using hu)) (one6 _ rfl) (by omega) ?_
    intro v8 u8 own8 g8 e8
    have g8 := grown_undrew g8
    obtain ⟨va, vc, rfl⟩ := own_slT own8
    have HP := Lib.hid (HL.out.push ⟨cls, fmt, last + 1, false, .slice fa F.length fc, F, B⟩ HFR.out HFN.out own8 g8 e8)
    have h8 : u8.heap[b]? = _ := (g8.block b (by have := HLT.out; simp at this ⊢; omega) (fun e => HL.out.nb e.symm)).trans ((heap_alloc_old _ _ HLT.out).trans HL.out.row)
    have c8 : u8.cell? ⟨b, 0, none⟩ = some (.slice la L.length lc) := by rw [cell_row _ _ _ _ _ _ h8]; rfl
    have fz8 := frozen_of_row u8 b 0 _ _ h8
    have d2 : u8.cell? ⟨b, 2, none⟩ = some (.int .i64 (last + 1)) := by rw [cell_row _ _ _ _ _ _ h8]; rfl
    clear h8 own8 g8 e8
    refine hK.out _ _ ?_ (fun hH3 => ?_)
    · (try dsimp only); (first | exact d2 | exact (World.cell?_setCell_other _ _ _ _ (fun e => by injection e; omega)).trans d2 | exact c2 | exact (World.cell?_alloc_lt _ _ _ HLT.out).trans c2)
    clear hK K
    clear hH2
    try simp only [Act.put, List.setIfInBounds_toArray, List.set_cons_zero, List.set_cons_succ]
    refine wpAnyH_take (i := 18) (oi := { dst := some 38, op := Op.nilCheck (Operand.tmp 20), type := 0, pos := "law.go:111", after := #[{ on := 0, ground := Ground.data }, { on := 0, ground := Ground.phase }, { on := 1, ground := Ground.phase }, { on := 2, ground := Ground.phase }, { on := 3, ground := Ground.phase }, { on := 4, ground := Ground.phase }, { on := 5, ground := Ground.phase }, { on := 6, ground := Ground.phase }, { on := 7, ground := Ground.phase }, { on := 8, ground := Ground.phase }, { on := 9, ground := Ground.phase }, { on := 10, ground := Ground.phase }, { on := 11, ground := Ground.phase }, { on := 12, ground := Ground.phase }, { on := 13, ground := Ground.phase }, { on := 14, ground := Ground.phase }, { on := 15, ground := Ground.phase }, { on := 16, ground := Ground.phase }, { on := 17, ground := Ground.phase }], guard := none }) (v := ?v19) rfl (by kernel_rfl) (by kernel_rfl) (by kernel_rfl) (fun _ _ _ h => h) (Or.inl ⟨by rfl, ?hy19⟩) (by assumption) ?_
    case hy19 => intro w hSw; (try dsimp only at hSw); go_simp; (try with_reducible rfl)
    try simp only [Act.put, List.setIfInBounds_toArray, List.set_cons_zero, List.set_cons_succ]
    refine wpAnyH_take (i := 19) (oi := { dst := some 39, op := Op.fieldAddr 51 (Operand.tmp 38) 0, type := 0, pos := "law.go:111", after := #[{ on := 18, ground := Ground.data }, { on := 0, ground := Ground.phase }, { on := 1, ground := Ground.phase }, { on := 2, ground := Ground.phase }, { on := 3, ground := Ground.phase }, { on := 4, ground := Ground.phase }, { on := 5, ground := Ground.phase }, { on := 6, ground := Ground.phase }, { on := 7, ground := Ground.phase }, { on := 8, ground := Ground.phase }, { on := 9, ground := Ground.phase }, { on := 10, ground := Ground.phase }, { on := 11, ground := Ground.phase }, { on := 12, ground := Ground.phase }, { on := 13, ground := Ground.phase }, { on := 14, ground := Ground.phase }, { on := 15, ground := Ground.phase }, { on := 16, ground := Ground.phase }, { on := 17, ground := Ground.phase }], guard := none }) (v := ?v20) rfl (by kernel_rfl) (by kernel_rfl) (by kernel_rfl) (fun _ _ _ h => h) (Or.inl ⟨by rfl, ?hy20⟩) (by assumption) ?_
    case hy20 => intro w hSw; (try dsimp only at hSw); go_simp; (try with_reducible rfl)
    try simp only [Act.put, List.setIfInBounds_toArray, List.set_cons_zero, List.set_cons_succ]
    refine wpAnyH_take (i := 20) (oi := { dst := some 40, op := Op.fieldAddr 30 (Operand.tmp 39) 0, type := 0, pos := "law.go:111", after := #[{ on := 19, ground := Ground.data }, { on := 0, ground := Ground.phase }, { on := 1, ground := Ground.phase }, { on := 2, ground := Ground.phase }, { on := 3, ground := Ground.phase }, { on := 4, ground := Ground.phase }, { on := 5, ground := Ground.phase }, { on := 6, ground := Ground.phase }, { on := 7, ground := Ground.phase }, { on := 8, ground := Ground.phase }, { on := 9, ground := Ground.phase }, { on := 10, ground := Ground.phase }, { on := 11, ground := Ground.phase }, { on := 12, ground := Ground.phase }, { on := 13, ground := Ground.phase }, { on := 14, ground := Ground.phase }, { on := 15, ground := Ground.phase }, { on := 16, ground := Ground.phase }, { on := 17, ground := Ground.phase }], guard := none }) (v := ?v21) rfl (by kernel_rfl) (by kernel_rfl) (by kernel_rfl) (fun _ _ _ h => h) (Or.inl ⟨by rfl, ?hy21⟩) (by assumption) ?_
    case hy21 => intro w hSw; (try dsimp only at hSw); go_simp; (try with_reducible rfl)
    try simp only [Act.put, List.setIfInBounds_toArray, List.set_cons_zero, List.set_cons_succ]
    refine wpAnyH_ready (rs := [21]) (by kernel_rfl) (by simp) ?_
    refine (AllReadyH.cons (o := { dst := none, op := Op.store 22 (Operand.tmp 40) (Operand.tmp 37), type := 0, pos := "law.go:111", after := #[{ on := 20, ground := Ground.data }, { on := 17, ground := Ground.data }, { on := 17, ground := Ground.chain }, { on := 0, ground := Ground.phase }, { on := 1, ground := Ground.phase }, { on := 2, ground := Ground.phase }, { on := 3, ground := Ground.phase }, { on := 4, ground := Ground.phase }, { on := 5, ground := Ground.phase }, { on := 6, ground := Ground.phase }, { on := 7, ground := Ground.phase }, { on := 8, ground := Ground.phase }, { on := 9, ground := Ground.phase }, { on := 10, ground := Ground.phase }, { on := 11, ground := Ground.phase }, { on := 12, ground := Ground.phase }, { on := 13, ground := Ground.phase }, { on := 14, ground := Ground.phase }, { on := 15, ground := Ground.phase }, { on := 16, ground := Ground.phase }, { on := 17, ground := Ground.phase }], guard := none }) rfl (fun K hK => ?_) AllReadyH.nil)
    go_simp
    refine hK.out _ _ ?_ (fun hH4 => ?_)
    · (try dsimp only); (first | exact d2 | exact (World.cell?_setCell_other _ _ _ _ (fun e => by injection e; omega)).trans d2 | exact c2 | exact (World.cell?_alloc_lt _ _ _ HLT.out).trans c2)
    clear hK K
    clear hH3
    try simp only [Act.put, List.setIfInBounds_toArray, List.set_cons_zero, List.set_cons_succ]
    refine wpAnyH_done (by kernel_rfl) ?_ _
    have c9 := HP.out.c0
    go_wp2_with fail
    go_ret
    exact ⟨by simp, va, vc, HP.out⟩
end
end Go.Proofs.YtoklohfpkaiidaaGreat.Obj
