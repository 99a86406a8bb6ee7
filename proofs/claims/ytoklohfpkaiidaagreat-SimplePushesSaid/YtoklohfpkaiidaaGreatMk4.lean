/- A thing more: Mem.Make. -/
import Derived.Test.YtoklohfpkaiidaaGreatMk3
namespace Go.Proofs.YtoklohfpkaiidaaGreat.Obj
open Go.Proofs.YtoklohfpkaiidaaGreat.Gen Go.Proofs.YtoklohfpkaiidaaGreat.Base Go.ChangeShapes Go.WideShapes Go.ChangeAt Go.RowKit
set_option linter.unusedVariables false
theorem inv_Make (li : Nat) (u : World) : Sem.run Tryz.prog (method 293 72 (.pointer (some ⟨li, 0, none⟩)) "Make") u = .ok (170, .pointer (some ⟨li, 0, none⟩)) u := by kernel_rfl
def MS.mk1 (M : MS) (cls fmt : Int) (k : Nat) (fv : Value) : MS := { M with bs := M.bs ++ [⟨cls, fmt, M.last + 1, 0, false, fv, nilF k, .slice none 0 0, []⟩], dead := M.dead ++ [false], last := M.last + 1 }
set_option maxRecDepth 100000 in
theorem wpl_appBo {ops : Array Oper} {rest : List Oper} {w : World} {o : Oper} {a : Act} {Q : Exit → Act → World → Prop} (hgd : o.guard = none) (s x : Operand)
    (ho : o.op = .call { callee := .builtin .append, args := #[s, x], argTypes := #[23, 23] })
    (v : Value) (n : Nat) (xs : List Value) (hs : a.eval s = v) (hown : w.ownsRow 0 4 1 v n xs) (ad : Addr) (m c : Nat) (hx : a.eval x = .slice (some ad) m c) (ys : List Value) (hl : ys.length = m * 1) (hc : ∀ j u, ys[j]? = some u → w.cell? (ad.add j) = some u) (h1 : ∀ u ∈ ys, u.oneCell' = true) (hn : n + m ≤ 1000000)
    (h : ∀ v' w', w'.ownsRow 0 4 1 v' (n + m) (xs ++ ys) → w.grownBy w' v.ownBlock → (v'.ownBlock = v.ownBlock ∨ v'.ownBlock = some w.heap.size) → wpList Tryz.prog ops Q rest (a.put o.dst v') w') : wpList Tryz.prog ops Q (o :: rest) a w := by
  refine wpList_plain hgd fun _ hK => ?_
  obtain ⟨i0, hi, hz0, hz1, hz2⟩ := info_parts infoBo
  obtain ⟨v', w', hr, h2, h3, _, h5⟩ := run_append_own_at (P := Tryz.prog) (w := w) 0 23 o.type 4 i0 (.bool false) 1 1 Tryz.underlying23 hi hz0 hz1 hz2 rfl (by decide) v n xs hown ad m c ys hl hc h1 (by unfold maxLen; omega) (by omega) (Nat.zero_le _)
  unfold Oper.wp execOp
  simp only [ho, resolve, invoke, builtin, Sem.run_bind, Sem.run_pure, Result.andThen_ok, List.map_toArray, List.map_cons, List.map_nil, hs, hx, hr]
  exact hK _ _ (h v' w' h2 h3 h5)
section
variable {w u u8 : World} {cls fmt own : Int} {k m li : Nat} {lv dv v' dv' fv : Value} {M : MS} {R : Obj}
theorem nx_undrew {P Q : Nat → Prop} {a b : World} (h : Nx P a.drew Q b) : Nx P a Q b := ⟨h.os, h.tape, h.output, h.size, h.block, h.own⟩
theorem MemAt.notL (h : MemAt w m li lv dv M) : ¬ ownL li lv M.bs m := by
  rintro (e | e | ⟨b, hb, e⟩)
  · exact h.n1 e
  · exact h.n2 e
  · exact h.n3 b hb e
theorem MemAt.made_row (h : MemAt w m li lv dv M) {bs' : List Bd} (hN : Nx (ownL li lv M.bs) w (ownL li v' bs') u) : u.heap[m]? = some (.cells (M.cells li dv).toArray 78 (0, 0)) :=
  (hN.block m (h.lt (.inl rfl)) h.notL).trans h.row
theorem MemAt.made_cells (h : MemAt w m li lv dv M) {bs' : List Bd} (hN : Nx (ownL li lv M.bs) w (ownL li v' bs') u) : u.cell? ⟨m, 0, none⟩ = some (.iface 72 (.pointer (some ⟨li, 0, none⟩))) ∧ u.cell? ⟨m, 3, none⟩ = some (.int .i64 M.last) ∧ u.cell? ⟨m, 1, none⟩ = some dv := by
  have hr := h.made_row hN
  refine ⟨?_, ?_, ?_⟩ <;> rw [cell_row _ _ _ _ _ _ hr] <;> rfl
theorem MemAt.made_ds (h : MemAt w m li lv dv M) {bs' : List Bd} (hN : Nx (ownL li lv M.bs) w (ownL li v' bs') u) : u.ownsRow 0 4 1 dv M.dead.length (bools M.dead) :=
  owns_at h.ds fun j hj => hN.block j (h.lt (.inr (.inl hj))) (h.n4 j hj).2
/-- The row of m behind Make. -/
theorem MemAt.mk_row (h : MemAt w m li lv dv M) {bs' : List Bd} (hN : Nx (ownL li lv M.bs) w (ownL li v' bs') u) (g8 : (u.alloc R).grownBy u8 dv.ownBlock) : u8.heap[m]? = some (.cells (M.cells li dv).toArray 78 (0, 0)) :=
  have hm := h.lt (.inl rfl)
  (g8.block m (by have := hN.size; simp; omega) (fun e => (h.n4 m e.symm).1 rfl)).trans ((heap_alloc_old _ _ (by have := hN.size; omega)).trans (h.made_row hN))
theorem MemAt.made (h : MemAt w m li lv dv M) (hL : ListAt u li v' (M.mk1 cls fmt k fv).bs) (hN : Nx (ownL li lv M.bs) w (ownL li v' (M.mk1 cls fmt k fv).bs) u) (hk : k ≤ 60)
    (own8 : u8.ownsRow 0 4 1 dv' (M.dead.length + 1) (bools M.dead ++ [.bool false])) (g8 : (u.alloc R).grownBy u8 dv.ownBlock) (e : dv'.ownBlock = dv.ownBlock ∨ dv'.ownBlock = some (u.alloc R).heap.size) :
    MemAt ((u8.setCell ⟨m, 1, none⟩ dv').setCell ⟨m, 3, none⟩ (.int .i64 (M.last + 1))) m li v' dv' (M.mk1 cls fmt k fv) ∧ Nx (ownM m li lv dv M) w (ownM m li v' dv' (M.mk1 cls fmt k fv)) ((u8.setCell ⟨m, 1, none⟩ dv').setCell ⟨m, 3, none⟩ (.int .i64 (M.last + 1))) := by
  rw [World.size_alloc] at e
  have hm := h.lt (.inl rfl)
  have hws := hN.size
  have hr8 := h.mk_row hN g8
  have hdl : ∀ j, dv.ownBlock = some j → j < w.heap.size := fun j hj => h.lt (.inr (.inl hj))
  have hdm : dv'.ownBlock ≠ some m := by
    rcases e with e | e
    · rw [e]; intro c; exact (h.n4 m c).1 rfl
    · rw [e]; intro c; simp at c; omega
  have hfar : ∀ j, j ≠ m → ((u8.setCell ⟨m, 1, none⟩ dv').setCell ⟨m, 3, none⟩ (.int .i64 (M.last + 1))).heap[j]? = u8.heap[j]? := fun j hj => (heap_setCell_other _ _ _ _ (fun e => hj e)).trans (heap_setCell_other _ _ _ _ (fun e => hj e))
  have hold : ∀ j, j < u.heap.size → dv.ownBlock ≠ some j → u8.heap[j]? = u.heap[j]? := fun j hj hn => (g8.block j (by simp; omega) fun e => hn e.symm).trans (heap_alloc_old _ _ hj)
  have hnotm : ∀ j, ownL li v' (M.mk1 cls fmt k fv).bs j → j ≠ m ∧ dv.ownBlock ≠ some j := fun j hj => by
    rcases hN.own j hj with c | c
    · exact ⟨fun e => h.notL (e ▸ c), fun e => (h.n4 j e).2 c⟩
    · exact ⟨by omega, fun e => by have := hdl j e; omega⟩
  have hnd : ∀ j, ownL li v' (M.mk1 cls fmt k fv).bs j → dv'.ownBlock ≠ some j := fun j hj => by
    have hlt := hL.lt hj
    rcases e with e | e
    · rw [e]; exact (hnotm j hj).2
    · rw [e]; intro c; simp at c; omega
  refine ⟨{ row := ?_, rg := h.rg, ds := ?_, list := ?_, len := ?_, n1 := h.n1, n2 := ?_, n3 := ?_, n4 := ?_, few := ?_, byt := ?_, idl := h.idl }, ?_⟩
  · rw [heap_setCell_same _ m 3 _ _ _ (heap_setCell_same u8 m 1 _ _ _ hr8)]
    simp [MS.cells, MS.mk1]
  · have hb : bools (M.dead ++ [false]) = bools M.dead ++ [.bool false] := by simp [bools]
    show World.ownsRow _ _ _ _ _ (M.dead ++ [false]).length (bools (M.dead ++ [false]))
    rw [hb, List.length_append]
    exact owns_at own8 fun j hj => hfar j fun e => hdm (e ▸ hj)
  · exact hL.keep fun j hj => (hfar j (hnotm j hj).1).trans (hold j (hL.lt hj) (hnotm j hj).2)
  · show (M.dead ++ [false]).length = (M.bs ++ [_]).length
    rw [List.length_append, List.length_append, h.len]; rfl
  · exact fun e => (hnotm m (.inr (.inl e))).1 rfl
  · exact fun b hb e => (hnotm m (.inr (.inr ⟨b, hb, e⟩))).1 rfl
  · exact fun j hj => ⟨fun e => hdm (e ▸ hj), fun c => hnd j c hj⟩
  · intro b hb
    rcases List.mem_append.1 hb with hb | hb
    · exact h.few b hb
    · obtain rfl := List.mem_singleton.1 hb
      exact ⟨by show (nilF k).length ≤ _; rw [nilF_len]; omega, Nat.zero_le _⟩
  · intro b hb
    rcases List.mem_append.1 hb with hb | hb
    · exact h.byt b hb
    · obtain rfl := List.mem_singleton.1 hb
      intro v hv; cases hv
  · refine ⟨g8.os.trans hN.os, g8.tape.trans hN.tape, g8.output.trans hN.output, ?_, fun j hj hn => ?_, fun j hj => ?_⟩
    · have := g8.size; simp at this ⊢; omega
    · refine (hfar j fun e => hn (.inl e)).trans ((hold j (by omega) fun e => hn (.inr (.inl e))).trans (hN.block j hj fun c => hn (.inr (.inr c))))
    · rcases hj with rfl | hj | hj
      · exact .inl (.inl rfl)
      · rcases e with e | e
        · exact .inl (.inr (.inl (e ▸ hj)))
        · rw [e] at hj; simp at hj; exact .inr (by omega)
      · rcases hN.own j hj with c | c
        · exact .inl (.inr (.inr c))
        · exact .inr c
set_option maxHeartbeats 4000000 in
set_option maxRecDepth 100000 in
theorem me_Make (h : MemAt w m li lv dv M) (hc : M.isClass cls = true) (hs : M.shape cls = (own, fmt)) (hfmt : ¬ fmt = 3) (n : Int) (hn : 0 ≤ n) (hk : own + n = (k : Int)) (hk60 : k ≤ 60) (h0 : 0 ≤ own) (hlast : 0 ≤ M.last ∧ M.last < 3000) (hlen : M.bs.length ≤ 3000) :
    Calls Tryz.prog 90 #[.pointer (some ⟨m, 0, none⟩), .int .i64 cls, .int .i64 n] w fun e w' => e = .returned (.tuple #[.int .i64 (M.dead.length : Int), .bool true]) ∧ ∃ lv' dv' fv, MemAt w' m li lv' dv' (M.mk1 cls fmt k fv) ∧ Nx (ownM m li lv dv M) w (ownM m li lv' dv' (M.mk1 cls fmt k fv)) w' := by
  have hinv := inv_Make li
  have HIC := Lib.hid (me_IsClass h cls)
  have HSH := Lib.hid fun u (hb : Below w.heap.size w u) => me_Shape (h.below hb) cls
  rw [hc] at HIC
  rw [hs] at HSH
  dsimp only at HSH
  have HM := Lib.hid h
  have HLM : Hid (∀ u, Below w.heap.size w u → Calls Tryz.prog 170 #[.pointer (some ⟨li, 0, none⟩), .int .i64 cls, .int .i64 fmt, .int .i64 (k : Int), .int .i64 (M.last + 1)] u fun e w' => e = .returned (.bool true) ∧ ∃ v' fv, ListAt w' li v' (M.mk1 cls fmt k fv).bs ∧ Nx (ownL li lv M.bs) u (ownL li v' (M.mk1 cls fmt k fv).bs) w') := Lib.hid fun u hb => by
    exact li_Make (h.below hb).list (by omega) hlen hfmt
  have HW1 : Hid (IntKind.i64.wrap (k : Int) = (k : Int)) := Lib.hid (IntWalk.i64_in _ ⟨by omega, by omega⟩)
  have HW2 : Hid (IntKind.i64.wrap (M.last + 1) = M.last + 1) := Lib.hid (IntWalk.i64_in _ ⟨by omega, by omega⟩)
  have HDS := Lib.hid h.len
  have c3 := h.c3
  obtain ⟨hl0, hl1⟩ := hlast
  have b1 : ¬ n < 0 := by omega
  have b2 : ¬ 3000 ≤ M.last := by omega
  have b3 : ¬ 60 - own < n := by omega
  clear h hc hs
  go_enter Tryz.func90, Tryz.ntmps90
  go_upto_region 9 with (first
    | (go_at_call 125; (with_reducible refine HIC.out.mono ?_); rintro e u1 ⟨rfl, hb1⟩; have c3 := (HM.out.below hb1).c3; have HB1 := Lib.hid hb1; clear hb1; dsimp only)
    | (go_at_call 122; (with_reducible refine (HSH.out _ HB1.out).mono ?_); rintro e u2 ⟨rfl, hb2⟩; have HB2 := Lib.hid (HB1.out.trans (hb2.mono HB1.out.size)); clear hb2; dsimp only))
  have HME := Lib.hid ((HM.out.below HB2.out).keep (w' := u2.drew) fun _ _ => rfl)
  clear c3
  refine wp_region_held_drew (S := (fun w' => w'.cell? ⟨m, 0, none⟩ = some (.iface 72 (.pointer (some ⟨li, 0, none⟩))) ∧ w'.cell? ⟨m, 3, none⟩ = some (.int .i64 M.last))) (by kernel_rfl) ?_ (fun hH0 => ?_)
  · (try dsimp only); exact ⟨HME.out.c0, HME.out.c3⟩
  refine wpAnyH_take (i := 0) (oi := { dst := some 40, op := Op.move (Operand.tmp 0), type := 35, pos := "turn.go:64", after := #[], guard := none }) (v := ?v1) rfl (by kernel_rfl) (by kernel_rfl) (by kernel_rfl) (fun _ _ _ h => h) (Or.inl ⟨by rfl, ?hy1⟩) (by assumption) ?_
  case hy1 => intro w hSw; (try dsimp only at hSw); go_simp; (try with_reducible rfl)
  try simp only [Act.put, List.setIfInBounds_toArray, List.set_cons_zero, List.set_cons_succ]
  refine wpAnyH_take (i := 1) (oi := { dst := some 41, op := Op.nilCheck (Operand.tmp 40), type := 0, pos := "turn.go:64", after := #[{ on := 0, ground := Ground.data }], guard := none }) (v := ?v2) rfl (by kernel_rfl) (by kernel_rfl) (by kernel_rfl) (fun _ _ _ h => h) (Or.inl ⟨by rfl, ?hy2⟩) (by assumption) ?_
  case hy2 => intro w hSw; (try dsimp only at hSw); go_simp; (try with_reducible rfl)
  try simp only [Act.put, List.setIfInBounds_toArray, List.set_cons_zero, List.set_cons_succ]
  refine wpAnyH_take (i := 2) (oi := { dst := some 42, op := Op.fieldAddr 78 (Operand.tmp 41) 0, type := 0, pos := "turn.go:64", after := #[{ on := 1, ground := Ground.data }], guard := none }) (v := ?v3) rfl (by kernel_rfl) (by kernel_rfl) (by kernel_rfl) (fun _ _ _ h => h) (Or.inl ⟨by rfl, ?hy3⟩) (by assumption) ?_
  case hy3 => intro w hSw; (try dsimp only at hSw); go_simp; (try with_reducible rfl)
  try simp only [Act.put, List.setIfInBounds_toArray, List.set_cons_zero, List.set_cons_succ]
  refine wpAnyH_take (i := 3) (oi := { dst := some 43, op := Op.load 75 (Operand.tmp 42), type := 75, pos := "turn.go:64", after := #[{ on := 2, ground := Ground.data }], guard := none }) (v := ?v4) rfl (by kernel_rfl) (by kernel_rfl) (by kernel_rfl) (fun _ _ _ h => h) (Or.inl ⟨by rfl, ?hy4⟩) (by assumption) ?_
  case hy4 => intro w hSw; (try dsimp only at hSw); go_simp; (try with_reducible rfl)
  try simp only [Act.put, List.setIfInBounds_toArray, List.set_cons_zero, List.set_cons_succ]
  refine wpAnyH_take (i := 4) (oi := { dst := some 44, op := Op.move (Operand.tmp 1), type := 3, pos := "turn.go:64", after := #[], guard := none }) (v := ?v5) rfl (by kernel_rfl) (by kernel_rfl) (by kernel_rfl) (fun _ _ _ h => h) (Or.inl ⟨by rfl, ?hy5⟩) (by assumption) ?_
  case hy5 => intro w hSw; (try dsimp only at hSw); go_simp; (try with_reducible rfl)
  try simp only [Act.put, List.setIfInBounds_toArray, List.set_cons_zero, List.set_cons_succ]
  refine wpAnyH_take (i := 5) (oi := { dst := some 45, op := Op.move (Operand.tmp 10), type := 3, pos := "turn.go:64", after := #[], guard := none }) (v := ?v6) rfl (by kernel_rfl) (by kernel_rfl) (by kernel_rfl) (fun _ _ _ h => h) (Or.inl ⟨by rfl, ?hy6⟩) (by assumption) ?_
  case hy6 => intro w hSw; (try dsimp only at hSw); go_simp; (try with_reducible rfl)
  try simp only [Act.put, List.setIfInBounds_toArray, List.set_cons_zero, List.set_cons_succ]
  refine wpAnyH_take (i := 6) (oi := { dst := some 46, op := Op.move (Operand.tmp 9), type := 3, pos := "turn.go:64", after := #[], guard := none }) (v := ?v7) rfl (by kernel_rfl) (by kernel_rfl) (by kernel_rfl) (fun _ _ _ h => h) (Or.inl ⟨by rfl, ?hy7⟩) (by assumption) ?_
  case hy7 => intro w hSw; (try dsimp only at hSw); go_simp; (try with_reducible rfl)
  try simp only [Act.put, List.setIfInBounds_toArray, List.set_cons_zero, List.set_cons_succ]
  refine wpAnyH_take (i := 7) (oi := { dst := some 47, op := Op.move (Operand.tmp 2), type := 3, pos := "turn.go:64", after := #[], guard := none }) (v := ?v8) rfl (by kernel_rfl) (by kernel_rfl) (by kernel_rfl) (fun _ _ _ h => h) (Or.inl ⟨by rfl, ?hy8⟩) (by assumption) ?_
  case hy8 => intro w hSw; (try dsimp only at hSw); go_simp; (try with_reducible rfl)
  try simp only [Act.put, List.setIfInBounds_toArray, List.set_cons_zero, List.set_cons_succ]
  refine wpAnyH_take (i := 8) (oi := { dst := some 48, op := Op.binOp BinOp.add 3 (Operand.tmp 46) (Operand.tmp 47) 3, type := 3, pos := "turn.go:64", after := #[{ on := 6, ground := Ground.data }, { on := 7, ground := Ground.data }], guard := none }) (v := ?v9) rfl (by kernel_rfl) (by kernel_rfl) (by kernel_rfl) (fun _ _ _ h => h) (Or.inl ⟨by rfl, ?hy9⟩) (by assumption) ?_
  case hy9 => intro w hSw; (try dsimp only at hSw); go_simp; (try with_reducible rfl)
  try simp only [Act.put, List.setIfInBounds_toArray, List.set_cons_zero, List.set_cons_succ]
  refine wpAnyH_take (i := 9) (oi := { dst := some 49, op := Op.move (Operand.tmp 0), type := 35, pos := "turn.go:64", after := #[], guard := none }) (v := ?v10) rfl (by kernel_rfl) (by kernel_rfl) (by kernel_rfl) (fun _ _ _ h => h) (Or.inl ⟨by rfl, ?hy10⟩) (by assumption) ?_
  case hy10 => intro w hSw; (try dsimp only at hSw); go_simp; (try with_reducible rfl)
  try simp only [Act.put, List.setIfInBounds_toArray, List.set_cons_zero, List.set_cons_succ]
  refine wpAnyH_take (i := 10) (oi := { dst := some 50, op := Op.nilCheck (Operand.tmp 49), type := 0, pos := "turn.go:64", after := #[{ on := 9, ground := Ground.data }], guard := none }) (v := ?v11) rfl (by kernel_rfl) (by kernel_rfl) (by kernel_rfl) (fun _ _ _ h => h) (Or.inl ⟨by rfl, ?hy11⟩) (by assumption) ?_
  case hy11 => intro w hSw; (try dsimp only at hSw); go_simp; (try with_reducible rfl)
  try simp only [Act.put, List.setIfInBounds_toArray, List.set_cons_zero, List.set_cons_succ]
  refine wpAnyH_take (i := 11) (oi := { dst := some 51, op := Op.fieldAddr 78 (Operand.tmp 50) 3, type := 0, pos := "turn.go:64", after := #[{ on := 10, ground := Ground.data }], guard := none }) (v := ?v12) rfl (by kernel_rfl) (by kernel_rfl) (by kernel_rfl) (fun _ _ _ h => h) (Or.inl ⟨by rfl, ?hy12⟩) (by assumption) ?_
  case hy12 => intro w hSw; (try dsimp only at hSw); go_simp; (try with_reducible rfl)
  try simp only [Act.put, List.setIfInBounds_toArray, List.set_cons_zero, List.set_cons_succ]
  refine wpAnyH_take (i := 12) (oi := { dst := some 52, op := Op.load 3 (Operand.tmp 51), type := 3, pos := "turn.go:64", after := #[{ on := 11, ground := Ground.data }], guard := none }) (v := ?v13) rfl (by kernel_rfl) (by kernel_rfl) (by kernel_rfl) (fun _ _ _ h => h) (Or.inl ⟨by rfl, ?hy13⟩) (by assumption) ?_
  case hy13 => intro w hSw; (try dsimp only at hSw); go_simp; (try with_reducible rfl)
  try simp only [Act.put, List.setIfInBounds_toArray, List.set_cons_zero, List.set_cons_succ]
  refine wpAnyH_take (i := 13) (oi := { dst := some 53, op := Op.binOp BinOp.add 3 (Operand.tmp 52) (Operand.const (Value.int IntKind.i64 1)) 3, type := 3, pos := "turn.go:64", after := #[{ on := 12, ground := Ground.data }], guard := none }) (v := ?v14) rfl (by kernel_rfl) (by kernel_rfl) (by kernel_rfl) (fun _ _ _ h => h) (Or.inl ⟨by rfl, ?hy14⟩) (by assumption) ?_
  case hy14 => intro w hSw; (try dsimp only at hSw); go_simp; (try with_reducible rfl)
  try simp only [Act.put, List.setIfInBounds_toArray, List.set_cons_zero, List.set_cons_succ]
  refine wpAnyH_take (i := 14) (oi := { dst := some 54, op := Op.nilCheck (Operand.tmp 43), type := 75, pos := "turn.go:64", after := #[{ on := 3, ground := Ground.data }], guard := none }) (v := ?v15) rfl (by kernel_rfl) (by kernel_rfl) (by kernel_rfl) (fun _ _ _ h => h) (Or.inl ⟨by rfl, ?hy15⟩) (by assumption) ?_
  case hy15 => intro w hSw; (try dsimp only at hSw); go_simp; (try with_reducible rfl)
  try simp only [Act.put, List.setIfInBounds_toArray, List.set_cons_zero, List.set_cons_succ]
  refine wpAnyH_take (i := 15) (oi := { dst := some 55, op := Op.move (Operand.tmp 43), type := 75, pos := "turn.go:64", after := #[{ on := 3, ground := Ground.data }, { on := 14, ground := Ground.data }], guard := none }) (v := ?v16) rfl (by kernel_rfl) (by kernel_rfl) (by kernel_rfl) (fun _ _ _ h => h) (Or.inl ⟨by rfl, ?hy16⟩) (by assumption) ?_
  case hy16 => intro w hSw; (try dsimp only at hSw); go_simp; (try with_reducible rfl)
  try simp only [Act.put, List.setIfInBounds_toArray, List.set_cons_zero, List.set_cons_succ]
  refine wpAnyH_ready (rs := [16]) (by kernel_rfl) (by simp) ?_
  refine AllReadyH.cons (o := { dst := some 56, op := Op.call { callee := Callee.invoke (Operand.tmp 55) "Make", args := #[Operand.tmp 44, Operand.tmp 45, Operand.tmp 48, Operand.tmp 53], argTypes := #[3, 3, 3, 3] }, type := 4, pos := "turn.go:64", after := #[{ on := 15, ground := Ground.data }, { on := 4, ground := Ground.data }, { on := 5, ground := Ground.data }, { on := 8, ground := Ground.data }, { on := 13, ground := Ground.data }], guard := none }) rfl (fun K hK => ?_) AllReadyH.nil
  go_simp; simp only [HW1.out, HW2.out]; go_at_call 170; with_reducible refine (HLM.out _ (below_drew HB2.out)).mono ?_
  rintro e u3 ⟨rfl, v', fv, hL3, hN3⟩
  have HL3 := Lib.hid hL3; have HN3 := Lib.hid hN3
  clear hL3 hN3
  have hS3 := HME.out.made_cells HN3.out
  have k1 := (hS3).2.2
  dsimp only
  refine hK.out _ _ ?_ (fun hH1 => ?_)
  · (try dsimp only); exact ⟨hS3.1, hS3.2.1⟩
  clear hK K
  clear hH0
  try simp only [Act.put, List.setIfInBounds_toArray, List.set_cons_zero, List.set_cons_succ]
  refine wpAnyH_take (i := 17) (oi := { dst := some 57, op := Op.unOp UnOp.not 4 (Operand.tmp 56), type := 4, pos := "turn.go:64", after := #[{ on := 16, ground := Ground.data }], guard := none }) (v := ?v18) rfl (by kernel_rfl) (by kernel_rfl) (by kernel_rfl) (fun _ _ _ h => h) (Or.inl ⟨by rfl, ?hy18⟩) (by assumption) ?_
  case hy18 => intro w hSw; (try dsimp only at hSw); go_simp; (try with_reducible rfl)
  try simp only [Act.put, List.setIfInBounds_toArray, List.set_cons_zero, List.set_cons_succ]
  refine wpAnyH_done (by kernel_rfl) ?_ _

  obtain ⟨da, dc, hdv⟩ := own_sl (HM.out.ds)
  subst hdv
  go_wp2_with (at_builtin; go_loud (refine wpl_appBo rfl (.tmp 70) (.tmp 71) (by rfl) (.slice da M.dead.length dc) M.dead.length (bools M.dead) (by rfl) (World.ownsRow.alloc (HME.out.made_ds HN3.out) _) ⟨_, 0, none⟩ 1 1 (by rfl) [.bool false] rfl (fun j u hu => by rw [Addr.add_lit, Nat.zero_add]; exact new_cell _ #[.bool false] _ (by simpa using hu)) (fun u hu => by obtain rfl := List.mem_singleton.1 hu; rfl) (by have := HDS.out; omega) ?_))
  intro v8 u8 own8 g8 e8
  obtain ⟨va, vc, rfl⟩ := own_sl own8
  have HF := Lib.hid (HME.out.made HL3.out HN3.out hk60 own8 g8 (by rw [World.size_alloc]; exact e8))
  have h8 := HME.out.mk_row HN3.out g8
  have d1 : u8.cell? ⟨m, 1, none⟩ = some (.slice da M.dead.length dc) := by rw [cell_row _ _ _ _ _ _ h8]; rfl
  have f1 := frozen_of_row u8 m 1 _ _ h8
  have d3 : u8.cell? ⟨m, 3, none⟩ = some (.int .i64 M.last) := by rw [cell_row _ _ _ _ _ _ h8]; rfl
  have f3 := frozen_of_row u8 m 3 _ _ h8
  have d14 := HF.out.1.c14
  clear h8 own8 g8 e8
  go_wp2_with (go_at_call 124; (with_reducible refine (me_meet HF.out.1 cls).mono ?_); rintro e u9 ⟨rfl, rfl⟩; dsimp only)
  go_ret2
  exact ⟨rfl, _, _, fv, HF.out.1, nx_bel (below_drew HB2.out) HF.out.2⟩
end
end Go.Proofs.YtoklohfpkaiidaaGreat.Obj
