/- A world that is turned: object.New. -/
import Derived.Test.YtoklohfpkaiidaaGreatWo11
import Derived.Laws.CopyOwn
import Derived.Laws.IdiomCopy
namespace Go.Proofs.YtoklohfpkaiidaaGreat.Obj
open Go.Proofs.YtoklohfpkaiidaaGreat.Gen Go.Proofs.YtoklohfpkaiidaaGreat.Base Go.ChangeShapes Go.WideShapes Go.ChangeAt Go.RowKit
set_option linter.unusedVariables false
section
variable {w u u9 : World} {a : Option Addr} {c : Nat} {L : List Th} {last : Int}
theorem Wk.regs (h : Wk w u a c L last) : u.rangeAt w.heap.size 3 [.int .i64 0, .int .i64 0, .slice none 0 0, .slice none 0 0, .slice none 0 0, .string ByteArray.empty, .string ByteArray.empty, .int .i64 0, .int .i64 0, .slice none 0 0] := fun j v hv => by
  have hj := (List.getElem?_eq_some_iff.1 hv).1
  simp only [List.length_cons, List.length_nil] at hj
  rw [cell_row _ _ _ _ _ _ h.box]
  have : j = 0 ∨ j = 1 ∨ j = 2 ∨ j = 3 ∨ j = 4 ∨ j = 5 ∨ j = 6 ∨ j = 7 ∨ j = 8 ∨ j = 9 := by omega
  rcases this with rfl | rfl | rfl | rfl | rfl | rfl | rfl | rfl | rfl | rfl <;> simpa using hv
theorem Wk.drew (h : Wk w u a c L last) : Wk w u.drew a c L last := h.more ⟨rfl, rfl, rfl, Nat.le_refl _, fun _ _ => rfl⟩
def MS.first (bs : List Bd) (last : Int) (stk : Value) : MS := ⟨bs, nos bs.length, false, last, [.int .i64 0, .int .i64 0, .slice none 0 0, .slice none 0 0, .slice none 0 0, .string ByteArray.empty, .string ByteArray.empty, .int .i64 0, .int .i64 0, .slice none 0 0], 0, stk, .slice none 0 0, false⟩
/-- A world that was just turned. -/
structure New (w u : World) (L : List Th) (last : Int) (m li : Nat) (lv dv : Value) (M : MS) : Prop where
  me : MemAt u m li lv dv M
  bare : M.bs.map Bd.bare = L.map Th.bare
  dead : M.dead = nos L.length
  last : M.last = last
  new : ∀ k, ownM m li lv dv M k → w.heap.size ≤ k
  row : u.heap[m]? = some (.cells (M.cells li dv).toArray 78 (0, 0))
theorem Nl.over {lv dv stk : Value} {bs : List Bd} {m : Nat} (hN : Nl w u L lv bs L.length) (hF : ∀ t ∈ L, t.F.length ≤ 100000 ∧ t.B.size ≤ 100000) (hm : u.heap.size ≤ m) (hr : u9.heap[m]? = some (.cells #[.iface 72 (.pointer (some ⟨w.heap.size + 1, 0, none⟩)), dv, .bool false, .int .i64 last, .int .i64 0, .int .i64 0, .slice none 0 0, .slice none 0 0, .slice none 0 0, .string ByteArray.empty, .string ByteArray.empty, .int .i64 0, .int .i64 0, .slice none 0 0, .int .i64 0, stk, .slice none 0 0, .bool false] 78 (0, 0))) (hd : Ovd u u9 bs.length dv) (hdm : dv.ownBlock ≠ some m) :
    New w u9 L last m (w.heap.size + 1) lv dv (MS.first bs last stk) := by
  have hl := hN.len (Nat.le_refl _)
  have hfb : ∀ b ∈ bs, ∃ t ∈ L, b.F = t.F ∧ b.B = bytesOf t.B := fun b hb => by
    have : b.bare ∈ bs.map Bd.bare := List.mem_map_of_mem hb
    rw [hN.bare, List.take_length] at this
    obtain ⟨t, ht, e⟩ := List.mem_map.1 this
    refine ⟨t, ht, ?_, ?_⟩
    · have := congrArg Bd.F e; exact this.symm
    · have := congrArg Bd.B e; exact this.symm
  have hw := hN.bel.size
  have hol : ∀ k, ownL (w.heap.size + 1) lv bs k → k < u.heap.size := fun k hk => hN.list.lt hk
  refine ⟨⟨hr, rfl, ?_, hN.list.below hd.bel, ?_, ?_, ?_, ?_, ?_, ?_, ?_, rfl⟩, ?_, ?_, rfl, ?_, hr⟩
  · have := hd.ds
    show u9.ownsRow 0 _ 1 dv (nos bs.length).length (bools (nos bs.length))
    rw [nos_len]; exact this
  · exact nos_len _
  · have := hol _ (.inl rfl); omega
  · intro e; have := hol _ (.inr (.inl e)); omega
  · intro b hb e; have := hol _ (.inr (.inr ⟨b, hb, e⟩)); omega
  · intro k hk
    refine ⟨fun e => hdm (e ▸ hk), fun e => ?_⟩
    have := hol k e; have := hd.new k hk; omega
  · intro b hb
    obtain ⟨t, ht, e1, e2⟩ := hfb b hb
    rw [e1, e2, bytesOf_len]; exact hF t ht
  · intro b hb v hv
    obtain ⟨t, ht, e1, e2⟩ := hfb b hb
    rw [e2] at hv
    obtain ⟨x, _, rfl⟩ := List.mem_map.1 hv
    have := x.toNat_lt
    omega
  · show bs.map Bd.bare = _
    rw [hN.bare, List.take_length]
  · show nos bs.length = _
    rw [hl]
  · rintro k (rfl | hk | hk)
    · omega
    · have := hd.new k hk; omega
    · have := hN.new k hk; omega
theorem New.fin {w0 : World} {m li : Nat} {lv dv stk : Value} {bs : List Bd} {l2 : Int} (hw : w0.heap.size ≤ w.heap.size) (hb : Below w0.heap.size w0 u) (h : New w u L last m li lv dv (MS.first bs l2 stk)) :
    Below w0.heap.size w0 (u.drew.setCell ⟨m, 2, none⟩ (.bool false)) ∧ New w0 (u.drew.setCell ⟨m, 2, none⟩ (.bool false)) L last m li lv dv (MS.first bs l2 stk) := by
  have hh : ∀ k, (u.drew.setCell ⟨m, 2, none⟩ (.bool false)).heap[k]? = u.heap[k]? := fun k => by
    by_cases e : k = m
    · subst e
      rw [heap_setCell_same u.drew k 2 _ _ _ h.row, h.row]
      rfl
    · exact heap_setCell_other u.drew _ _ _ (by simpa using e)
  have hm : w.heap.size ≤ m := h.new m (.inl rfl)
  exact ⟨(below_drew hb).setCell (by show w0.heap.size ≤ m; omega) _, h.me.keep fun k _ => hh k, h.bare, h.dead, h.last, fun k hk => Nat.le_trans hw (h.new k hk), (hh m).trans h.row⟩
set_option maxRecDepth 100000 in
set_option maxHeartbeats 8000000 in
theorem ob_New (h : LAt w (.slice a L.length c) L) (hL : okL last L = true) (hF : ∀ t ∈ L, t.F.length ≤ 100000 ∧ t.B.size ≤ 100000) (most : Int) : Calls Tryz.prog 11 #[.agg #[.slice a L.length c, .slice none 0 0, .int .i64 last, .int .i64 0, .int .i64 0, .slice none 0 0, .slice none 0 0, .slice none 0 0, .string ByteArray.empty, .string ByteArray.empty, .int .i64 0, .int .i64 0, .slice none 0 0], .int .i64 most] w fun e w' => ∃ m li lv dv M, e = .returned (.tuple #[.pointer (some ⟨m, 0, none⟩), .int .i64 0]) ∧ Below w.heap.size w w' ∧ New w w' L last m li lv dv M := by
  obtain ⟨⟨l0, l1⟩, -⟩ := okL_parts hL
  have HK := Lib.hid (Wk.start (last := last) h)
  have HL := Lib.hid hL; have HTF := Lib.hid hF
  clear h hL hF
  have hcp : ∀ u d n cp, Sem.run Tryz.prog (Builtin.copy_ #[23, 23] 3 #[.slice d n cp, .slice none 0 0]) u = .ok (goInt 0) u := fun u d n cp => run_copy_none u _ _ _ 4 d none n cp 0 0 Tryz.underlying23 (by kernel_rfl) (by simp)
  go_enter Tryz.func11, Tryz.ntmps11
  go_wp2_with (first
    | (refine wpList_load_mid (by rfl) 30 (Operand.tmp 2) (by rfl) w.heap.size 0 (by rfl) _ _ HK.out.rng Tryz.underlying30 rfl info13 ?_)
    | (go_at_call 26; (with_reducible refine (im_Check HK.out.la HL.out).mono ?_); rintro e u2 ⟨rfl, hb2⟩; have HK := Lib.hid (HK.out.more hb2); clear hb2; dsimp only))
  have HK := Lib.hid HK.out.drew
  have HW2 : Hid (w.heap.size ≤ u2.drew.heap.size) := Lib.hid HK.out.bel.size
  refine wp_region_held_drew (S := (fun w' => w'.cell? ⟨w.heap.size, 2, none⟩ = some (.int .i64 last))) (by kernel_rfl) ?_ (fun hH0 => ?_)
  · (try dsimp only); exact HK.out.cell (j := 2) rfl
  refine wpAnyH_take (i := 3) (oi := { dst := some 13, op := Op.fieldAddr 30 (Operand.tmp 2) 3, type := 0, pos := "object.go:32", after := #[], guard := none }) (v := ?v1) rfl (by kernel_rfl) (by kernel_rfl) (by kernel_rfl) (fun _ _ _ h => h) (Or.inl ⟨by rfl, ?hy1⟩) (by assumption) ?_
  case hy1 => intro w hSw; (try dsimp only at hSw); go_simp; (try with_reducible rfl)
  try simp only [Act.put, List.setIfInBounds_toArray, List.set_cons_zero, List.set_cons_succ]
  refine wpAnyH_take (i := 5) (oi := { dst := some 15, op := Op.fieldAddr 30 (Operand.tmp 2) 2, type := 0, pos := "object.go:32", after := #[], guard := none }) (v := ?v2) rfl (by kernel_rfl) (by kernel_rfl) (by kernel_rfl) (fun _ _ _ h => h) (Or.inl ⟨by rfl, ?hy2⟩) (by assumption) ?_
  case hy2 => intro w hSw; (try dsimp only at hSw); go_simp; (try with_reducible rfl)
  try simp only [Act.put, List.setIfInBounds_toArray, List.set_cons_zero, List.set_cons_succ]
  refine wpAnyH_take (i := 6) (oi := { dst := some 16, op := Op.load 3 (Operand.tmp 15), type := 3, pos := "object.go:32", after := #[{ on := 5, ground := Ground.data }], guard := none }) (v := ?v3) rfl (by kernel_rfl) (by kernel_rfl) (by kernel_rfl) (fun _ _ _ h => h) (Or.inl ⟨by rfl, ?hy3⟩) (by assumption) ?_
  case hy3 => intro w hSw; (try dsimp only at hSw); go_simp; (try with_reducible rfl)
  try simp only [Act.put, List.setIfInBounds_toArray, List.set_cons_zero, List.set_cons_succ]
  refine wpAnyH_take (i := 7) (oi := { dst := some 17, op := Op.move (Operand.tmp 1), type := 3, pos := "object.go:32", after := #[], guard := none }) (v := ?v4) rfl (by kernel_rfl) (by kernel_rfl) (by kernel_rfl) (fun _ _ _ h => h) (Or.inl ⟨by rfl, ?hy4⟩) (by assumption) ?_
  case hy4 => intro w hSw; (try dsimp only at hSw); go_simp; (try with_reducible rfl)
  try simp only [Act.put, List.setIfInBounds_toArray, List.set_cons_zero, List.set_cons_succ]
  refine wpAnyH_ready (rs := [0, 4]) (by kernel_rfl) (by simp) ?_
  refine (AllReadyH.cons (o := { dst := some 10, op := Op.load 30 (Operand.tmp 2), type := 30, pos := "object.go:32", after := #[], guard := none }) rfl (fun K hK => ?_) (AllReadyH.cons (o := { dst := some 14, op := Op.load 28 (Operand.tmp 13), type := 28, pos := "object.go:32", after := #[{ on := 3, ground := Ground.data }], guard := none }) rfl (fun K hK => ?_) AllReadyH.nil))
  · rw [if_pos (by rfl)]; refine wp_load_row 30 (.tmp 2) (by rfl) w.heap.size (by rfl) 30 #[.slice a L.length c, .slice none 0 0, .int .i64 last, .int .i64 0, .int .i64 0, .slice none 0 0, .slice none 0 0, .slice none 0 0, .string ByteArray.empty, .string ByteArray.empty, .int .i64 0, .int .i64 0, .slice none 0 0] (0, 0) _ HK.out.box Tryz.underlying30 rfl info13 ?_
    refine hK.out _ _ ?_ (fun hH1 => ?_)
    · (try dsimp only); exact HK.out.cell (j := 2) rfl
    clear hK K
    clear hH0
    try simp only [Act.put, List.setIfInBounds_toArray, List.set_cons_zero, List.set_cons_succ]
    refine wpAnyH_ready (rs := [1, 4]) (by kernel_rfl) (by simp) ?_
    refine (AllReadyH.cons (o := { dst := some 11, op := Op.call { callee := Callee.value (Operand.func 28), args := #[Operand.tmp 10], argTypes := #[30] }, type := 72, pos := "object.go:32", after := #[{ on := 0, ground := Ground.data }], guard := none }) rfl (fun K hK => ?_) (AllReadyH.cons (o := { dst := some 14, op := Op.load 28 (Operand.tmp 13), type := 28, pos := "object.go:32", after := #[{ on := 3, ground := Ground.data }], guard := none }) rfl (fun K hK => ?_) AllReadyH.nil))
    · go_simp; go_at_call 28; (with_reducible refine (new_List HK.out.la (by omega) HTF.out).mono ?_); rintro e u5 ⟨rfl, lv, bs, hN⟩
      have HN := Lib.hid hN
      have HK := Lib.hid (HK.out.more hN.bel)
      clear hN; dsimp only
      refine hK.out _ _ ?_ (fun hH2 => ?_)
      · (try dsimp only); exact HK.out.cell (j := 2) rfl
      clear hK K
      clear hH1
      try simp only [Act.put, List.setIfInBounds_toArray, List.set_cons_zero, List.set_cons_succ]
      refine wpAnyH_take (i := 2) (oi := { dst := some 12, op := Op.makeInterface 72 (Operand.tmp 11), type := 75, pos := "object.go:32", after := #[{ on := 1, ground := Ground.data }], guard := none }) (v := ?v5) rfl (by kernel_rfl) (by kernel_rfl) (by kernel_rfl) (fun _ _ _ h => h) (Or.inl ⟨by rfl, ?hy5⟩) (by assumption) ?_
      case hy5 => intro w hSw; (try dsimp only at hSw); go_simp; (try with_reducible rfl)
      try simp only [Act.put, List.setIfInBounds_toArray, List.set_cons_zero, List.set_cons_succ]
      refine wpAnyH_ready (rs := [4]) (by kernel_rfl) (by simp) ?_
      refine (AllReadyH.cons (o := { dst := some 14, op := Op.load 28 (Operand.tmp 13), type := 28, pos := "object.go:32", after := #[{ on := 3, ground := Ground.data }], guard := none }) rfl (fun K hK => ?_) AllReadyH.nil)
      rw [if_pos (by rfl)]; refine wp_load_mid 28 (.tmp 13) (by rfl) w.heap.size 3 (by rfl) [.int .i64 0, .int .i64 0, .slice none 0 0, .slice none 0 0, .slice none 0 0, .string ByteArray.empty, .string ByteArray.empty, .int .i64 0, .int .i64 0, .slice none 0 0] _ HK.out.regs Tryz.underlying28 rfl info10 ?_
      refine hK.out _ _ ?_ (fun hH3 => ?_)
      · (try dsimp only); exact HK.out.cell (j := 2) rfl
      clear hK K
      clear hH2
      try simp only [Act.put, List.setIfInBounds_toArray, List.set_cons_zero, List.set_cons_succ]
      refine wpAnyH_ready (rs := [8]) (by kernel_rfl) (by simp) ?_
      refine (AllReadyH.cons (o := { dst := some 18, op := Op.call { callee := Callee.value (Operand.func 27), args := #[Operand.tmp 12, Operand.tmp 14, Operand.tmp 16, Operand.tmp 17], argTypes := #[75, 28, 3, 3] }, type := 35, pos := "object.go:32", after := #[{ on := 2, ground := Ground.data }, { on := 4, ground := Ground.data }, { on := 6, ground := Ground.data }, { on := 7, ground := Ground.data }, { on := 1, ground := Ground.chain }], guard := none }) rfl (fun K hK => ?_) AllReadyH.nil)
      go_simp; go_at_call 27; have hli := HN.out.list; simp only [World.size_drew] at hli; (with_reducible refine (ov_Over _ hli (by have := HN.out.len (Nat.le_refl _); omega) last most).mono ?_); rintro e u9 ⟨m, dv, stk, rfl, h1, h2, h3, h4⟩
      have HO := Lib.hid (HN.out.over HTF.out h1 h2 h3 h4)
      have HK := Lib.hid (HK.out.more h3.bel)
      have y1 := cell_row _ m 1 _ _ _ h2
      have y2 := cell_row _ m 2 _ _ _ h2
      have yf := frozen_of_row u9 m 2 _ _ h2
      have hdvs := h3.ds
      obtain ⟨da, dc, rfl⟩ := own_sl hdvs
      have x1 := HK.out.cell (j := 1) rfl
      have x2 := HK.out.cell (j := 2) rfl
      clear h1 h2 h3 h4 hdvs hli; dsimp only
      refine hK.out _ _ ?_ (fun hH4 => ?_)
      · (try dsimp only); exact HK.out.cell (j := 2) rfl
      clear hK K
      clear hH3
      try simp only [Act.put, List.setIfInBounds_toArray, List.set_cons_zero, List.set_cons_succ]
      refine wpAnyH_take (i := 9) (oi := { dst := some 6, op := Op.assign (Operand.tmp 18), type := 35, pos := "object.go:32", after := #[{ on := 8, ground := Ground.data }, { on := 8, ground := Ground.chain }, { on := 0, ground := Ground.phase }, { on := 1, ground := Ground.phase }, { on := 2, ground := Ground.phase }, { on := 3, ground := Ground.phase }, { on := 4, ground := Ground.phase }, { on := 5, ground := Ground.phase }, { on := 6, ground := Ground.phase }, { on := 7, ground := Ground.phase }, { on := 8, ground := Ground.phase }], guard := none }) (v := ?v6) rfl (by kernel_rfl) (by kernel_rfl) (by kernel_rfl) (fun _ _ _ h => h) (Or.inl ⟨by rfl, ?hy6⟩) (by assumption) ?_
      case hy6 => intro w hSw; (try dsimp only at hSw); go_simp; (try with_reducible rfl)
      try simp only [Act.put, List.setIfInBounds_toArray, List.set_cons_zero, List.set_cons_succ]
      refine wpAnyH_done (by kernel_rfl) ?_ _
      go_upto_region 4 with fail
      refine wp_region_held_drew (S := (fun w' => w'.cell? ⟨m, 1, none⟩ = some (.slice da bs.length dc) ∧ w'.cell? ⟨w.heap.size, 1, none⟩ = some (.slice none 0 0))) (by kernel_rfl) ?_ (fun hH0 => ?_)
      · (try dsimp only); exact ⟨y1, x1⟩
      refine wpAnyH_take (i := 0) (oi := { dst := some 19, op := Op.move (Operand.tmp 6), type := 35, pos := "object.go:33", after := #[], guard := none }) (v := ?v11) rfl (by kernel_rfl) (by kernel_rfl) (by kernel_rfl) (fun _ _ _ h => h) (Or.inl ⟨by rfl, ?hy11⟩) (by assumption) ?_
      case hy11 => intro w hSw; (try dsimp only at hSw); go_simp; (try with_reducible rfl)
      try simp only [Act.put, List.setIfInBounds_toArray, List.set_cons_zero, List.set_cons_succ]
      refine wpAnyH_take (i := 1) (oi := { dst := some 20, op := Op.nilCheck (Operand.tmp 19), type := 0, pos := "object.go:33", after := #[{ on := 0, ground := Ground.data }], guard := none }) (v := ?v12) rfl (by kernel_rfl) (by kernel_rfl) (by kernel_rfl) (fun _ _ _ h => h) (Or.inl ⟨by rfl, ?hy12⟩) (by assumption) ?_
      case hy12 => intro w hSw; (try dsimp only at hSw); go_simp; (try with_reducible rfl)
      try simp only [Act.put, List.setIfInBounds_toArray, List.set_cons_zero, List.set_cons_succ]
      refine wpAnyH_take (i := 2) (oi := { dst := some 21, op := Op.fieldAddr 78 (Operand.tmp 20) 1, type := 0, pos := "object.go:33", after := #[{ on := 1, ground := Ground.data }], guard := none }) (v := ?v13) rfl (by kernel_rfl) (by kernel_rfl) (by kernel_rfl) (fun _ _ _ h => h) (Or.inl ⟨by rfl, ?hy13⟩) (by assumption) ?_
      case hy13 => intro w hSw; (try dsimp only at hSw); go_simp; (try with_reducible rfl)
      try simp only [Act.put, List.setIfInBounds_toArray, List.set_cons_zero, List.set_cons_succ]
      refine wpAnyH_take (i := 3) (oi := { dst := some 22, op := Op.load 23 (Operand.tmp 21), type := 23, pos := "object.go:33", after := #[{ on := 2, ground := Ground.data }], guard := none }) (v := ?v14) rfl (by kernel_rfl) (by kernel_rfl) (by kernel_rfl) (fun _ _ _ h => h) (Or.inl ⟨by rfl, ?hy14⟩) (by assumption) ?_
      case hy14 => intro w hSw; (try dsimp only at hSw); go_simp; (try with_reducible rfl)
      try simp only [Act.put, List.setIfInBounds_toArray, List.set_cons_zero, List.set_cons_succ]
      refine wpAnyH_take (i := 4) (oi := { dst := some 23, op := Op.fieldAddr 30 (Operand.tmp 2) 1, type := 0, pos := "object.go:33", after := #[], guard := none }) (v := ?v15) rfl (by kernel_rfl) (by kernel_rfl) (by kernel_rfl) (fun _ _ _ h => h) (Or.inl ⟨by rfl, ?hy15⟩) (by assumption) ?_
      case hy15 => intro w hSw; (try dsimp only at hSw); go_simp; (try with_reducible rfl)
      try simp only [Act.put, List.setIfInBounds_toArray, List.set_cons_zero, List.set_cons_succ]
      refine wpAnyH_take (i := 5) (oi := { dst := some 24, op := Op.load 23 (Operand.tmp 23), type := 23, pos := "object.go:33", after := #[{ on := 4, ground := Ground.data }], guard := none }) (v := ?v16) rfl (by kernel_rfl) (by kernel_rfl) (by kernel_rfl) (fun _ _ _ h => h) (Or.inl ⟨by rfl, ?hy16⟩) (by assumption) ?_
      case hy16 => intro w hSw; (try dsimp only at hSw); go_simp; (try with_reducible rfl)
      try simp only [Act.put, List.setIfInBounds_toArray, List.set_cons_zero, List.set_cons_succ]
      refine wpAnyH_ready (rs := [6]) (by kernel_rfl) (by simp) ?_
      refine AllReadyH.cons (o := { dst := some 25, op := Op.call { callee := Callee.builtin Builtin.copy, args := #[Operand.tmp 22, Operand.tmp 24], argTypes := #[23, 23] }, type := 3, pos := "object.go:33", after := #[{ on := 3, ground := Ground.data }, { on := 5, ground := Ground.data }], guard := none }) rfl (fun K hK => ?_) AllReadyH.nil
      go_simp
      refine hK.out _ _ ?_ (fun hH1 => ?_)
      · (try dsimp only); exact ⟨y1, x1⟩
      clear hK K
      clear hH0
      try simp only [Act.put, List.setIfInBounds_toArray, List.set_cons_zero, List.set_cons_succ]
      refine wpAnyH_done (by kernel_rfl) ?_ _
      go_wp2_with fail
      go_ret2
      exact ⟨m, _, _, _, _, rfl, New.fin HW2.out HK.out.bel HO.out⟩
    · rw [if_pos (by rfl)]; refine wp_load_mid 28 (.tmp 13) (by rfl) w.heap.size 3 (by rfl) [.int .i64 0, .int .i64 0, .slice none 0 0, .slice none 0 0, .slice none 0 0, .string ByteArray.empty, .string ByteArray.empty, .int .i64 0, .int .i64 0, .slice none 0 0] _ HK.out.regs Tryz.underlying28 rfl info10 ?_
      refine hK.out _ _ ?_ (fun hH2 => ?_)
      · (try dsimp only); exact HK.out.cell (j := 2) rfl
      clear hK K
      clear hH1
      try simp only [Act.put, List.setIfInBounds_toArray, List.set_cons_zero, List.set_cons_succ]
      refine wpAnyH_ready (rs := [1]) (by kernel_rfl) (by simp) ?_
      refine (AllReadyH.cons (o := { dst := some 11, op := Op.call { callee := Callee.value (Operand.func 28), args := #[Operand.tmp 10], argTypes := #[30] }, type := 72, pos := "object.go:32", after := #[{ on := 0, ground := Ground.data }], guard := none }) rfl (fun K hK => ?_) AllReadyH.nil)
      go_simp; go_at_call 28; (with_reducible refine (new_List HK.out.la (by omega) HTF.out).mono ?_); rintro e u5 ⟨rfl, lv, bs, hN⟩
      have HN := Lib.hid hN
      have HK := Lib.hid (HK.out.more hN.bel)
      clear hN; dsimp only
      refine hK.out _ _ ?_ (fun hH3 => ?_)
      · (try dsimp only); exact HK.out.cell (j := 2) rfl
      clear hK K
      clear hH2
      try simp only [Act.put, List.setIfInBounds_toArray, List.set_cons_zero, List.set_cons_succ]
      refine wpAnyH_take (i := 2) (oi := { dst := some 12, op := Op.makeInterface 72 (Operand.tmp 11), type := 75, pos := "object.go:32", after := #[{ on := 1, ground := Ground.data }], guard := none }) (v := ?v7) rfl (by kernel_rfl) (by kernel_rfl) (by kernel_rfl) (fun _ _ _ h => h) (Or.inl ⟨by rfl, ?hy7⟩) (by assumption) ?_
      case hy7 => intro w hSw; (try dsimp only at hSw); go_simp; (try with_reducible rfl)
      try simp only [Act.put, List.setIfInBounds_toArray, List.set_cons_zero, List.set_cons_succ]
      refine wpAnyH_ready (rs := [8]) (by kernel_rfl) (by simp) ?_
      refine (AllReadyH.cons (o := { dst := some 18, op := Op.call { callee := Callee.value (Operand.func 27), args := #[Operand.tmp 12, Operand.tmp 14, Operand.tmp 16, Operand.tmp 17], argTypes := #[75, 28, 3, 3] }, type := 35, pos := "object.go:32", after := #[{ on := 2, ground := Ground.data }, { on := 4, ground := Ground.data }, { on := 6, ground := Ground.data }, { on := 7, ground := Ground.data }, { on := 1, ground := Ground.chain }], guard := none }) rfl (fun K hK => ?_) AllReadyH.nil)
      go_simp; go_at_call 27; have hli := HN.out.list; simp only [World.size_drew] at hli; (with_reducible refine (ov_Over _ hli (by have := HN.out.len (Nat.le_refl _); omega) last most).mono ?_); rintro e u9 ⟨m, dv, stk, rfl, h1, h2, h3, h4⟩
      have HO := Lib.hid (HN.out.over HTF.out h1 h2 h3 h4)
      have HK := Lib.hid (HK.out.more h3.bel)
      have y1 := cell_row _ m 1 _ _ _ h2
      have y2 := cell_row _ m 2 _ _ _ h2
      have yf := frozen_of_row u9 m 2 _ _ h2
      have hdvs := h3.ds
      obtain ⟨da, dc, rfl⟩ := own_sl hdvs
      have x1 := HK.out.cell (j := 1) rfl
      have x2 := HK.out.cell (j := 2) rfl
      clear h1 h2 h3 h4 hdvs hli; dsimp only
      refine hK.out _ _ ?_ (fun hH4 => ?_)
      · (try dsimp only); exact HK.out.cell (j := 2) rfl
      clear hK K
      clear hH3
      try simp only [Act.put, List.setIfInBounds_toArray, List.set_cons_zero, List.set_cons_succ]
      refine wpAnyH_take (i := 9) (oi := { dst := some 6, op := Op.assign (Operand.tmp 18), type := 35, pos := "object.go:32", after := #[{ on := 8, ground := Ground.data }, { on := 8, ground := Ground.chain }, { on := 0, ground := Ground.phase }, { on := 1, ground := Ground.phase }, { on := 2, ground := Ground.phase }, { on := 3, ground := Ground.phase }, { on := 4, ground := Ground.phase }, { on := 5, ground := Ground.phase }, { on := 6, ground := Ground.phase }, { on := 7, ground := Ground.phase }, { on := 8, ground := Ground.phase }], guard := none }) (v := ?v8) rfl (by kernel_rfl) (by kernel_rfl) (by kernel_rfl) (fun _ _ _ h => h) (Or.inl ⟨by rfl, ?hy8⟩) (by assumption) ?_
      case hy8 => intro w hSw; (try dsimp only at hSw); go_simp; (try with_reducible rfl)
      try simp only [Act.put, List.setIfInBounds_toArray, List.set_cons_zero, List.set_cons_succ]
      refine wpAnyH_done (by kernel_rfl) ?_ _
      go_upto_region 4 with fail
      refine wp_region_held_drew (S := (fun w' => w'.cell? ⟨m, 1, none⟩ = some (.slice da bs.length dc) ∧ w'.cell? ⟨w.heap.size, 1, none⟩ = some (.slice none 0 0))) (by kernel_rfl) ?_ (fun hH0 => ?_)
      · (try dsimp only); exact ⟨y1, x1⟩
      refine wpAnyH_take (i := 0) (oi := { dst := some 19, op := Op.move (Operand.tmp 6), type := 35, pos := "object.go:33", after := #[], guard := none }) (v := ?v18) rfl (by kernel_rfl) (by kernel_rfl) (by kernel_rfl) (fun _ _ _ h => h) (Or.inl ⟨by rfl, ?hy18⟩) (by assumption) ?_
      case hy18 => intro w hSw; (try dsimp only at hSw); go_simp; (try with_reducible rfl)
      try simp only [Act.put, List.setIfInBounds_toArray, List.set_cons_zero, List.set_cons_succ]
      refine wpAnyH_take (i := 1) (oi := { dst := some 20, op := Op.nilCheck (Operand.tmp 19), type := 0, pos := "object.go:33", after := #[{ on := 0, ground := Ground.data }], guard := none }) (v := ?v19) rfl (by kernel_rfl) (by kernel_rfl) (by kernel_rfl) (fun _ _ _ h => h) (Or.inl ⟨by rfl, ?hy19⟩) (by assumption) ?_
      case hy19 => intro w hSw; (try dsimp only at hSw); go_simp; (try with_reducible rfl)
      try simp only [Act.put, List.setIfInBounds_toArray, List.set_cons_zero, List.set_cons_succ]
      refine wpAnyH_take (i := 2) (oi := { dst := some 21, op := Op.fieldAddr 78 (Operand.tmp 20) 1, type := 0, pos := "object.go:33", after := #[{ on := 1, ground := Ground.data }], guard := none }) (v := ?v20) rfl (by kernel_rfl) (by kernel_rfl) (by kernel_rfl) (fun _ _ _ h => h) (Or.inl ⟨by rfl, ?hy20⟩) (by assumption) ?_
      case hy20 => intro w hSw; (try dsimp only at hSw); go_simp; (try with_reducible rfl)
      try simp only [Act.put, List.setIfInBounds_toArray, List.set_cons_zero, List.set_cons_succ]
      refine wpAnyH_take (i := 3) (oi := { dst := some 22, op := Op.load 23 (Operand.tmp 21), type := 23, pos := "object.go:33", after := #[{ on := 2, ground := Ground.data }], guard := none }) (v := ?v21) rfl (by kernel_rfl) (by kernel_rfl) (by kernel_rfl) (fun _ _ _ h => h) (Or.inl ⟨by rfl, ?hy21⟩) (by assumption) ?_
      case hy21 => intro w hSw; (try dsimp only at hSw); go_simp; (try with_reducible rfl)
      try simp only [Act.put, List.setIfInBounds_toArray, List.set_cons_zero, List.set_cons_succ]
      refine wpAnyH_take (i := 4) (oi := { dst := some 23, op := Op.fieldAddr 30 (Operand.tmp 2) 1, type := 0, pos := "object.go:33", after := #[], guard := none }) (v := ?v22) rfl (by kernel_rfl) (by kernel_rfl) (by kernel_rfl) (fun _ _ _ h => h) (Or.inl ⟨by rfl, ?hy22⟩) (by assumption) ?_
      case hy22 => intro w hSw; (try dsimp only at hSw); go_simp; (try with_reducible rfl)
      try simp only [Act.put, List.setIfInBounds_toArray, List.set_cons_zero, List.set_cons_succ]
      refine wpAnyH_take (i := 5) (oi := { dst := some 24, op := Op.load 23 (Operand.tmp 23), type := 23, pos := "object.go:33", after := #[{ on := 4, ground := Ground.data }], guard := none }) (v := ?v23) rfl (by kernel_rfl) (by kernel_rfl) (by kernel_rfl) (fun _ _ _ h => h) (Or.inl ⟨by rfl, ?hy23⟩) (by assumption) ?_
      case hy23 => intro w hSw; (try dsimp only at hSw); go_simp; (try with_reducible rfl)
      try simp only [Act.put, List.setIfInBounds_toArray, List.set_cons_zero, List.set_cons_succ]
      refine wpAnyH_ready (rs := [6]) (by kernel_rfl) (by simp) ?_
      refine AllReadyH.cons (o := { dst := some 25, op := Op.call { callee := Callee.builtin Builtin.copy, args := #[Operand.tmp 22, Operand.tmp 24], argTypes := #[23, 23] }, type := 3, pos := "object.go:33", after := #[{ on := 3, ground := Ground.data }, { on := 5, ground := Ground.data }], guard := none }) rfl (fun K hK => ?_) AllReadyH.nil
      go_simp
      refine hK.out _ _ ?_ (fun hH1 => ?_)
      · (try dsimp only); exact ⟨y1, x1⟩
      clear hK K
      clear hH0
      try simp only [Act.put, List.setIfInBounds_toArray, List.set_cons_zero, List.set_cons_succ]
      refine wpAnyH_done (by kernel_rfl) ?_ _
      go_wp2_with fail
      go_ret2
      exact ⟨m, _, _, _, _, rfl, New.fin HW2.out HK.out.bel HO.out⟩
  · rw [if_pos (by rfl)]; refine wp_load_mid 28 (.tmp 13) (by rfl) w.heap.size 3 (by rfl) [.int .i64 0, .int .i64 0, .slice none 0 0, .slice none 0 0, .slice none 0 0, .string ByteArray.empty, .string ByteArray.empty, .int .i64 0, .int .i64 0, .slice none 0 0] _ HK.out.regs Tryz.underlying28 rfl info10 ?_
    refine hK.out _ _ ?_ (fun hH1 => ?_)
    · (try dsimp only); exact HK.out.cell (j := 2) rfl
    clear hK K
    clear hH0
    try simp only [Act.put, List.setIfInBounds_toArray, List.set_cons_zero, List.set_cons_succ]
    refine wpAnyH_ready (rs := [0]) (by kernel_rfl) (by simp) ?_
    refine (AllReadyH.cons (o := { dst := some 10, op := Op.load 30 (Operand.tmp 2), type := 30, pos := "object.go:32", after := #[], guard := none }) rfl (fun K hK => ?_) AllReadyH.nil)
    rw [if_pos (by rfl)]; refine wp_load_row 30 (.tmp 2) (by rfl) w.heap.size (by rfl) 30 #[.slice a L.length c, .slice none 0 0, .int .i64 last, .int .i64 0, .int .i64 0, .slice none 0 0, .slice none 0 0, .slice none 0 0, .string ByteArray.empty, .string ByteArray.empty, .int .i64 0, .int .i64 0, .slice none 0 0] (0, 0) _ HK.out.box Tryz.underlying30 rfl info13 ?_
    refine hK.out _ _ ?_ (fun hH2 => ?_)
    · (try dsimp only); exact HK.out.cell (j := 2) rfl
    clear hK K
    clear hH1
    try simp only [Act.put, List.setIfInBounds_toArray, List.set_cons_zero, List.set_cons_succ]
    refine wpAnyH_ready (rs := [1]) (by kernel_rfl) (by simp) ?_
    refine (AllReadyH.cons (o := { dst := some 11, op := Op.call { callee := Callee.value (Operand.func 28), args := #[Operand.tmp 10], argTypes := #[30] }, type := 72, pos := "object.go:32", after := #[{ on := 0, ground := Ground.data }], guard := none }) rfl (fun K hK => ?_) AllReadyH.nil)
    go_simp; go_at_call 28; (with_reducible refine (new_List HK.out.la (by omega) HTF.out).mono ?_); rintro e u5 ⟨rfl, lv, bs, hN⟩
    have HN := Lib.hid hN
    have HK := Lib.hid (HK.out.more hN.bel)
    clear hN; dsimp only
    refine hK.out _ _ ?_ (fun hH3 => ?_)
    · (try dsimp only); exact HK.out.cell (j := 2) rfl
    clear hK K
    clear hH2
    try simp only [Act.put, List.setIfInBounds_toArray, List.set_cons_zero, List.set_cons_succ]
    refine wpAnyH_take (i := 2) (oi := { dst := some 12, op := Op.makeInterface 72 (Operand.tmp 11), type := 75, pos := "object.go:32", after := #[{ on := 1, ground := Ground.data }], guard := none }) (v := ?v9) rfl (by kernel_rfl) (by kernel_rfl) (by kernel_rfl) (fun _ _ _ h => h) (Or.inl ⟨by rfl, ?hy9⟩) (by assumption) ?_
    case hy9 => intro w hSw; (try dsimp only at hSw); go_simp; (try with_reducible rfl)
    try simp only [Act.put, List.setIfInBounds_toArray, List.set_cons_zero, List.set_cons_succ]
    refine wpAnyH_ready (rs := [8]) (by kernel_rfl) (by simp) ?_
    refine (AllReadyH.cons (o := { dst := some 18, op := Op.call { callee := Callee.value (Operand.func 27), args := #[Operand.tmp 12, Operand.tmp 14, Operand.tmp 16, Operand.tmp 17], argTypes := #[75, 28, 3, 3] }, type := 35, pos := "object.go:32", after := #[{ on := 2, ground := Ground.data }, { on := 4, ground := Ground.data }, { on := 6, ground := Ground.data }, { on := 7, ground := Ground.data }, { on := 1, ground := Ground.chain }], guard := none }) rfl (fun K hK => ?_) AllReadyH.nil)
    go_simp; go_at_call 27; have hli := HN.out.list; simp only [World.size_drew] at hli; (with_reducible refine (ov_Over _ hli (by have := HN.out.len (Nat.le_refl _); omega) last most).mono ?_); rintro e u9 ⟨m, dv, stk, rfl, h1, h2, h3, h4⟩
    have HO := Lib.hid (HN.out.over HTF.out h1 h2 h3 h4)
    have HK := Lib.hid (HK.out.more h3.bel)
    have y1 := cell_row _ m 1 _ _ _ h2
    have y2 := cell_row _ m 2 _ _ _ h2
    have yf := frozen_of_row u9 m 2 _ _ h2
    have hdvs := h3.ds
    obtain ⟨da, dc, rfl⟩ := own_sl hdvs
    have x1 := HK.out.cell (j := 1) rfl
    have x2 := HK.out.cell (j := 2) rfl
    clear h1 h2 h3 h4 hdvs hli; dsimp only
    refine hK.out _ _ ?_ (fun hH4 => ?_)
    · (try dsimp only); exact HK.out.cell (j := 2) rfl
    clear hK K
    clear hH3
    try simp only [Act.put, List.setIfInBounds_toArray, List.set_cons_zero, List.set_cons_succ]
    refine wpAnyH_take (i := 9) (oi := { dst := some 6, op := Op.assign (Operand.tmp 18), type := 35, pos := "object.go:32", after := #[{ on := 8, ground := Ground.data }, { on := 8, ground := Ground.chain }, { on := 0, ground := Ground.phase }, { on := 1, ground := Ground.phase }, { on := 2, ground := Ground.phase }, { on := 3, ground := Ground.phase }, { on := 4, ground := Ground.phase }, { on := 5, ground := Ground.phase }, { on := 6, ground := Ground.phase }, { on := 7, ground := Ground.phase }, { on := 8, ground := Ground.phase }], guard := none }) (v := ?v10) rfl (by kernel_rfl) (by kernel_rfl) (by kernel_rfl) (fun _ _ _ h => h) (Or.inl ⟨by rfl, ?hy10⟩) (by assumption) ?_
    case hy10 => intro w hSw; (try dsimp only at hSw); go_simp; (try with_reducible rfl)
    try simp only [Act.put, List.setIfInBounds_toArray, List.set_cons_zero, List.set_cons_succ]
    refine wpAnyH_done (by kernel_rfl) ?_ _
    go_upto_region 4 with fail
    refine wp_region_held_drew (S := (fun w' => w'.cell? ⟨m, 1, none⟩ = some (.slice da bs.length dc) ∧ w'.cell? ⟨w.heap.size, 1, none⟩ = some (.slice none 0 0))) (by kernel_rfl) ?_ (fun hH0 => ?_)
    · (try dsimp only); exact ⟨y1, x1⟩
    refine wpAnyH_take (i := 0) (oi := { dst := some 19, op := Op.move (Operand.tmp 6), type := 35, pos := "object.go:33", after := #[], guard := none }) (v := ?v25) rfl (by kernel_rfl) (by kernel_rfl) (by kernel_rfl) (fun _ _ _ h => h) (Or.inl ⟨by rfl, ?hy25⟩) (by assumption) ?_
    case hy25 => intro w hSw; (try dsimp only at hSw); go_simp; (try with_reducible rfl)
    try simp only [Act.put, List.setIfInBounds_toArray, List.set_cons_zero, List.set_cons_succ]
    refine wpAnyH_take (i := 1) (oi := { dst := some 20, op := Op.nilCheck (Operand.tmp 19), type := 0, pos := "object.go:33", after := #[{ on := 0, ground := Ground.data }], guard := none }) (v := ?v26) rfl (by kernel_rfl) (by kernel_rfl) (by kernel_rfl) (fun _ _ _ h => h) (Or.inl ⟨by rfl, ?hy26⟩) (by assumption) ?_
    case hy26 => intro w hSw; (try dsimp only at hSw); go_simp; (try with_reducible rfl)
    try simp only [Act.put, List.setIfInBounds_toArray, List.set_cons_zero, List.set_cons_succ]
    refine wpAnyH_take (i := 2) (oi := { dst := some 21, op := Op.fieldAddr 78 (Operand.tmp 20) 1, type := 0, pos := "object.go:33", after := #[{ on := 1, ground := Ground.data }], guard := none }) (v := ?v27) rfl (by kernel_rfl) (by kernel_rfl) (by kernel_rfl) (fun _ _ _ h => h) (Or.inl ⟨by rfl, ?hy27⟩) (by assumption) ?_
    case hy27 => intro w hSw; (try dsimp only at hSw); go_simp; (try with_reducible rfl)
    try simp only [Act.put, List.setIfInBounds_toArray, List.set_cons_zero, List.set_cons_succ]
    refine wpAnyH_take (i := 3) (oi := { dst := some 22, op := Op.load 23 (Operand.tmp 21), type := 23, pos := "object.go:33", after := #[{ on := 2, ground := Ground.data }], guard := none }) (v := ?v28) rfl (by kernel_rfl) (by kernel_rfl) (by kernel_rfl) (fun _ _ _ h => h) (Or.inl ⟨by rfl, ?hy28⟩) (by assumption) ?_
    case hy28 => intro w hSw; (try dsimp only at hSw); go_simp; (try with_reducible rfl)
    try simp only [Act.put, List.setIfInBounds_toArray, List.set_cons_zero, List.set_cons_succ]
    refine wpAnyH_take (i := 4) (oi := { dst := some 23, op := Op.fieldAddr 30 (Operand.tmp 2) 1, type := 0, pos := "object.go:33", after := #[], guard := none }) (v := ?v29) rfl (by kernel_rfl) (by kernel_rfl) (by kernel_rfl) (fun _ _ _ h => h) (Or.inl ⟨by rfl, ?hy29⟩) (by assumption) ?_
    case hy29 => intro w hSw; (try dsimp only at hSw); go_simp; (try with_reducible rfl)
    try simp only [Act.put, List.setIfInBounds_toArray, List.set_cons_zero, List.set_cons_succ]
    refine wpAnyH_take (i := 5) (oi := { dst := some 24, op := Op.load 23 (Operand.tmp 23), type := 23, pos := "object.go:33", after := #[{ on := 4, ground := Ground.data }], guard := none }) (v := ?v30) rfl (by kernel_rfl) (by kernel_rfl) (by kernel_rfl) (fun _ _ _ h => h) (Or.inl ⟨by rfl, ?hy30⟩) (by assumption) ?_
    case hy30 => intro w hSw; (try dsimp only at hSw); go_simp; (try with_reducible rfl)
    try simp only [Act.put, List.setIfInBounds_toArray, List.set_cons_zero, List.set_cons_succ]
    refine wpAnyH_ready (rs := [6]) (by kernel_rfl) (by simp) ?_
    refine AllReadyH.cons (o := { dst := some 25, op := Op.call { callee := Callee.builtin Builtin.copy, args := #[Operand.tmp 22, Operand.tmp 24], argTypes := #[23, 23] }, type := 3, pos := "object.go:33", after := #[{ on := 3, ground := Ground.data }, { on := 5, ground := Ground.data }], guard := none }) rfl (fun K hK => ?_) AllReadyH.nil
    go_simp
    refine hK.out _ _ ?_ (fun hH1 => ?_)
    · (try dsimp only); exact ⟨y1, x1⟩
    clear hK K
    clear hH0
    try simp only [Act.put, List.setIfInBounds_toArray, List.set_cons_zero, List.set_cons_succ]
    refine wpAnyH_done (by kernel_rfl) ?_ _
    go_wp2_with fail
    go_ret2
    exact ⟨m, _, _, _, _, rfl, New.fin HW2.out HK.out.bel HO.out⟩
end
end Go.Proofs.YtoklohfpkaiidaaGreat.Obj
