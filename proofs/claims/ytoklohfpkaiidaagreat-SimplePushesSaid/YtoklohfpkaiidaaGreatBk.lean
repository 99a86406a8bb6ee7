/- A world that is being built: what stays beside it. -/
import Derived.Test.YtoklohfpkaiidaaGreatB5
namespace Go.Proofs.YtoklohfpkaiidaaGreat.Obj
open Go.Proofs.YtoklohfpkaiidaaGreat.Gen Go.Proofs.YtoklohfpkaiidaaGreat.Base Go.ChangeShapes Go.WideShapes Go.ChangeAt Go.RowKit
set_option linter.unusedVariables false
/-- What is neither the box nor the row of things stays; the row stays, or is new. -/
structure Kx (b : Nat) (lv : Value) (u : World) (lv' : Value) (w' : World) : Prop where
  size : u.heap.size ≤ w'.heap.size
  block : ∀ k, k < u.heap.size → k ≠ b → lv.ownBlock ≠ some k → w'.heap[k]? = u.heap[k]?
  own : ∀ k, lv'.ownBlock = some k → lv.ownBlock = some k ∨ u.heap.size ≤ k
theorem Kx.trans {b : Nat} {lv lv1 lv2 : Value} {u u1 u2 : World} (h : Kx b lv u lv1 u1) (h2 : Kx b lv1 u1 lv2 u2) : Kx b lv u lv2 u2 :=
  ⟨Nat.le_trans h.size h2.size, fun k hk hb hl => (h2.block k (Nat.lt_of_lt_of_le hk h.size) hb (fun c => by rcases h.own k c with c | c; exact hl c; omega)).trans (h.block k hk hb hl), fun k hk => by
    rcases h2.own k hk with c | c
    · exact h.own k c
    · exact .inr (Nat.le_trans h.size c)⟩
theorem Kx.more {b : Nat} {lv lv1 : Value} {u u1 u2 : World} (h : Kx b lv u lv1 u1) (hb : Below u1.heap.size u1 u2) (hl : ∀ k, lv1.ownBlock = some k → k < u1.heap.size) : Kx b lv u lv1 u2 :=
  ⟨Nat.le_trans h.size hb.size, fun k hk hkb hkl => (hb.block k (Nat.lt_of_lt_of_le hk h.size)).trans (h.block k hk hkb hkl), h.own⟩
theorem Kx.al {b : Nat} {lv lv1 : Value} {u u1 u2 : World} (hb : Below u.heap.size u u1) (hl : ∀ k, lv.ownBlock = some k → k < u.heap.size) (h : Kx b lv u1 lv1 u2) : Kx b lv u lv1 u2 :=
  ⟨Nat.le_trans hb.size h.size, fun k hk hkb hkl => (h.block k (Nat.lt_of_lt_of_le hk hb.size) hkb hkl).trans (hb.block k hk), fun k hk => by rcases h.own k hk with c | c; exact .inl c; exact .inr (Nat.le_trans hb.size c)⟩
theorem Kx.push {b : Nat} {lv v' : Value} {u u8 : World} {x y : Value} {R : Obj} (g : ((u.setCell ⟨b, 2, none⟩ x).alloc R).grownBy u8 lv.ownBlock) (e : v'.ownBlock = lv.ownBlock ∨ v'.ownBlock = some ((u.setCell ⟨b, 2, none⟩ x).alloc R).heap.size) : Kx b lv u v' (u8.setCell ⟨b, 0, none⟩ y) := by
  have hs : (u.setCell ⟨b, 2, none⟩ x).heap.size = u.heap.size := by simp [World.setCell]
  have hs2 : ((u.setCell ⟨b, 2, none⟩ x).alloc R).heap.size = u.heap.size + 1 := by rw [World.size_alloc, hs]
  have gs := g.size
  rw [hs2] at gs e
  refine ⟨by simp [World.setCell]; omega, fun k hk hb hl => ?_, fun k hk => ?_⟩
  · rw [heap_setCell_other _ _ _ _ hb, g.block k (by omega) (fun c => hl c.symm), heap_alloc_old _ _ (by omega), heap_setCell_other _ _ _ _ hb]
  · rcases e with e | e
    · exact .inl (e ▸ hk)
    · rw [e] at hk; simp at hk; exact .inr (by omega)
section
variable {w u u' : World} {b : Nat} {lv : Value} {L : List Th} {last : Int}
set_option maxRecDepth 100000 in
set_option maxHeartbeats 8000000 in
theorem b_AddK {fa : Option Addr} {fc : Nat} {F : List V} (h : LB w u b 51 lv L last) (hn : L.length ≤ 3000) (hl : 0 ≤ last ∧ last ≤ 3000) (cls fmt : Int) (hF : RowV u 54 2 (.slice fa F.length fc) F.length (vals F)) (hFb : (∀ k, blk (.slice fa F.length fc) F.length = some k → k ≠ b ∧ lv.ownBlock ≠ some k) ∧ F.length ≤ fc ∧ (fc : Int) ≤ 9223372036854775807) (B : ByteArray) :
    Calls Tryz.prog 18 #[.pointer (some ⟨b, 0, none⟩), .int .i64 cls, .int .i64 fmt, .slice fa F.length fc, .string B] u fun e w' => e = .returned (.int .i64 L.length) ∧ ∃ va vc, LB w w' b 51 (.slice va (L.length + 1) vc) (L ++ [⟨cls, fmt, last + 1, false, .slice fa F.length fc, F, B⟩]) (last + 1) ∧ Kx b lv u (.slice va (L.length + 1) vc) w' := by
  have hzt := zT
  obtain ⟨la, lc, rfl⟩ := own_sl h.ls
  have h2 := h.set2 (last + 1)
  have k2 := h.c2
  have kf := frozen_of_row u b 2 _ _ h.row
  have c0 := (h.set2 (last + 1)).c0
  have c2 := (h.set2 (last + 1)).c2
  have HL := Lib.hid h2
  have HLT : Hid (b < (u.setCell ⟨b, 2, none⟩ (.int .i64 (last + 1))).heap.size) := Lib.hid h2.lt
  have HFR : Hid (RowV (u.setCell ⟨b, 2, none⟩ (.int .i64 (last + 1))) 54 2 (.slice fa F.length fc) F.length (vals F)) := Lib.hid (hF.keep fun k hk => heap_setCell_other _ _ _ _ fun e => (hFb.1 k hk).1 e)
  have HFN : Hid ((∀ k, blk (.slice fa F.length fc) F.length = some k → k ≠ b ∧ (Value.slice la L.length lc).ownBlock ≠ some k) ∧ ∃ a c, Value.slice fa F.length fc = .slice a F.length c ∧ F.length ≤ c ∧ (c : Int) ≤ 9223372036854775807) := Lib.hid ⟨hFb.1, _, _, rfl, hFb.2⟩
  have t1 : ¬ last + 1 < -9223372036854775808 := by omega
  clear h h2 hF hFb
  go_enter Tryz.func18, Tryz.ntmps18
  go_upto_region 2 with fail
  refine wp_region_held_drew (S := (fun w' => w'.cell? ⟨b, 2, none⟩ = some (.int .i64 (last + 1)))) (by kernel_rfl) ?_ (fun hH0 => ?_)
  · (try dsimp only); exact c2
  refine wpAnyH_take (i := 0) (oi := { dst := some 20, op := Op.move (Operand.tmp 0), type := 48, pos := "law.go:111", after := #[], guard := none }) (v := ?v1) rfl (by kernel_rfl) (by kernel_rfl) (by kernel_rfl) (fun _ _ _ h => h) (Or.inl ⟨by rfl, ?hy1⟩) (by assumption) ?_
  case hy1 => intro w hSw; (try dsimp only at hSw); go_simp; (try with_reducible rfl)
  try simp only [Act.put, List.setIfInBounds_toArray, List.set_cons_zero, List.set_cons_succ]
  refine wpAnyH_take (i := 1) (oi := { dst := some 21, op := Op.move (Operand.tmp 0), type := 48, pos := "law.go:111", after := #[], guard := none }) (v := ?v2) rfl (by kernel_rfl) (by kernel_rfl) (by kernel_rfl) (fun _ _ _ h => h) (Or.inl ⟨by rfl, ?hy2⟩) (by assumption) ?_
  case hy2 => intro w hSw; (try dsimp only at hSw); go_simp; (try with_reducible rfl)
  try simp only [Act.put, List.setIfInBounds_toArray, List.set_cons_zero, List.set_cons_succ]
  refine wpAnyH_take (i := 2) (oi := { dst := some 22, op := Op.nilCheck (Operand.tmp 21), type := 0, pos := "law.go:111", after := #[{ on := 1, ground := Ground.data }], guard := none }) (v := ?v3) rfl (by kernel_rfl) (by kernel_rfl) (by kernel_rfl) (fun _ _ _ h => h) (Or.inl ⟨by rfl, ?hy3⟩) (by assumption) ?_
  case hy3 => intro w hSw; (try dsimp only at hSw); go_simp; (try with_reducible rfl)
  try simp only [Act.put, List.setIfInBounds_toArray, List.set_cons_zero, List.set_cons_succ]
  refine wpAnyH_take (i := 3) (oi := { dst := some 23, op := Op.fieldAddr 51 (Operand.tmp 22) 0, type := 0, pos := "law.go:111", after := #[{ on := 2, ground := Ground.data }], guard := none }) (v := ?v4) rfl (by kernel_rfl) (by kernel_rfl) (by kernel_rfl) (fun _ _ _ h => h) (Or.inl ⟨by rfl, ?hy4⟩) (by assumption) ?_
  case hy4 => intro w hSw; (try dsimp only at hSw); go_simp; (try with_reducible rfl)
  try simp only [Act.put, List.setIfInBounds_toArray, List.set_cons_zero, List.set_cons_succ]
  refine wpAnyH_take (i := 4) (oi := { dst := some 24, op := Op.fieldAddr 30 (Operand.tmp 23) 0, type := 0, pos := "law.go:111", after := #[{ on := 3, ground := Ground.data }], guard := none }) (v := ?v5) rfl (by kernel_rfl) (by kernel_rfl) (by kernel_rfl) (fun _ _ _ h => h) (Or.inl ⟨by rfl, ?hy5⟩) (by assumption) ?_
  case hy5 => intro w hSw; (try dsimp only at hSw); go_simp; (try with_reducible rfl)
  try simp only [Act.put, List.setIfInBounds_toArray, List.set_cons_zero, List.set_cons_succ]
  refine wpAnyH_take (i := 6) (oi := { dst := some 26, op := Op.move (Operand.tmp 1), type := 3, pos := "law.go:111", after := #[], guard := none }) (v := ?v6) rfl (by kernel_rfl) (by kernel_rfl) (by kernel_rfl) (fun _ _ _ h => h) (Or.inl ⟨by rfl, ?hy6⟩) (by assumption) ?_
  case hy6 => intro w hSw; (try dsimp only at hSw); go_simp; (try with_reducible rfl)
  try simp only [Act.put, List.setIfInBounds_toArray, List.set_cons_zero, List.set_cons_succ]
  refine wpAnyH_take (i := 7) (oi := { dst := some 27, op := Op.move (Operand.tmp 2), type := 3, pos := "law.go:111", after := #[], guard := none }) (v := ?v7) rfl (by kernel_rfl) (by kernel_rfl) (by kernel_rfl) (fun _ _ _ h => h) (Or.inl ⟨by rfl, ?hy7⟩) (by assumption) ?_
  case hy7 => intro w hSw; (try dsimp only at hSw); go_simp; (try with_reducible rfl)
  try simp only [Act.put, List.setIfInBounds_toArray, List.set_cons_zero, List.set_cons_succ]
  refine wpAnyH_take (i := 8) (oi := { dst := some 28, op := Op.move (Operand.tmp 0), type := 48, pos := "law.go:111", after := #[], guard := none }) (v := ?v8) rfl (by kernel_rfl) (by kernel_rfl) (by kernel_rfl) (fun _ _ _ h => h) (Or.inl ⟨by rfl, ?hy8⟩) (by assumption) ?_
  case hy8 => intro w hSw; (try dsimp only at hSw); go_simp; (try with_reducible rfl)
  try simp only [Act.put, List.setIfInBounds_toArray, List.set_cons_zero, List.set_cons_succ]
  refine wpAnyH_take (i := 9) (oi := { dst := some 29, op := Op.nilCheck (Operand.tmp 28), type := 0, pos := "law.go:111", after := #[{ on := 8, ground := Ground.data }], guard := none }) (v := ?v9) rfl (by kernel_rfl) (by kernel_rfl) (by kernel_rfl) (fun _ _ _ h => h) (Or.inl ⟨by rfl, ?hy9⟩) (by assumption) ?_
  case hy9 => intro w hSw; (try dsimp only at hSw); go_simp; (try with_reducible rfl)
  try simp only [Act.put, List.setIfInBounds_toArray, List.set_cons_zero, List.set_cons_succ]
  refine wpAnyH_take (i := 10) (oi := { dst := some 30, op := Op.fieldAddr 51 (Operand.tmp 29) 0, type := 0, pos := "law.go:111", after := #[{ on := 9, ground := Ground.data }], guard := none }) (v := ?v10) rfl (by kernel_rfl) (by kernel_rfl) (by kernel_rfl) (fun _ _ _ h => h) (Or.inl ⟨by rfl, ?hy10⟩) (by assumption) ?_
  case hy10 => intro w hSw; (try dsimp only at hSw); go_simp; (try with_reducible rfl)
  try simp only [Act.put, List.setIfInBounds_toArray, List.set_cons_zero, List.set_cons_succ]
  refine wpAnyH_take (i := 11) (oi := { dst := some 31, op := Op.fieldAddr 30 (Operand.tmp 30) 2, type := 0, pos := "law.go:111", after := #[{ on := 10, ground := Ground.data }], guard := none }) (v := ?v11) rfl (by kernel_rfl) (by kernel_rfl) (by kernel_rfl) (fun _ _ _ h => h) (Or.inl ⟨by rfl, ?hy11⟩) (by assumption) ?_
  case hy11 => intro w hSw; (try dsimp only at hSw); go_simp; (try with_reducible rfl)
  try simp only [Act.put, List.setIfInBounds_toArray, List.set_cons_zero, List.set_cons_succ]
  refine wpAnyH_take (i := 12) (oi := { dst := some 32, op := Op.load 3 (Operand.tmp 31), type := 3, pos := "law.go:111", after := #[{ on := 11, ground := Ground.data }], guard := none }) (v := ?v12) rfl (by kernel_rfl) (by kernel_rfl) (by kernel_rfl) (fun _ _ _ h => h) (Or.inl ⟨by rfl, ?hy12⟩) (by assumption) ?_
  case hy12 => intro w hSw; (try dsimp only at hSw); go_simp; (try with_reducible rfl)
  try simp only [Act.put, List.setIfInBounds_toArray, List.set_cons_zero, List.set_cons_succ]
  refine wpAnyH_take (i := 13) (oi := { dst := some 33, op := Op.move (Operand.tmp 3), type := 56, pos := "law.go:111", after := #[], guard := none }) (v := ?v13) rfl (by kernel_rfl) (by kernel_rfl) (by kernel_rfl) (fun _ _ _ h => h) (Or.inl ⟨by rfl, ?hy13⟩) (by assumption) ?_
  case hy13 => intro w hSw; (try dsimp only at hSw); go_simp; (try with_reducible rfl)
  try simp only [Act.put, List.setIfInBounds_toArray, List.set_cons_zero, List.set_cons_succ]
  refine wpAnyH_take (i := 14) (oi := { dst := some 34, op := Op.move (Operand.tmp 4), type := 9, pos := "law.go:111", after := #[], guard := none }) (v := ?v14) rfl (by kernel_rfl) (by kernel_rfl) (by kernel_rfl) (fun _ _ _ h => h) (Or.inl ⟨by rfl, ?hy14⟩) (by assumption) ?_
  case hy14 => intro w hSw; (try dsimp only at hSw); go_simp; (try with_reducible rfl)
  try simp only [Act.put, List.setIfInBounds_toArray, List.set_cons_zero, List.set_cons_succ]
  refine wpAnyH_take (i := 15) (oi := { dst := some 35, op := Op.build 64 #[(0, Operand.tmp 26), (1, Operand.tmp 27), (2, Operand.tmp 32), (4, Operand.tmp 33), (5, Operand.tmp 34)], type := 64, pos := "law.go:111", after := #[{ on := 6, ground := Ground.data }, { on := 7, ground := Ground.data }, { on := 12, ground := Ground.data }, { on := 13, ground := Ground.data }, { on := 14, ground := Ground.data }], guard := none }) (v := ?v15) rfl (by kernel_rfl) (by kernel_rfl) (by kernel_rfl) (fun _ _ _ h => h) (Or.inl ⟨by rfl, ?hy15⟩) (by assumption) ?_
  case hy15 => intro w hSw; (try dsimp only at hSw); go_simp; (try with_reducible rfl)
  try simp only [Act.put, List.setIfInBounds_toArray, List.set_cons_zero, List.set_cons_succ]
  refine wpAnyH_ready (rs := [5, 16]) (by kernel_rfl) (by simp) ?_
  refine (AllReadyH.cons (o := { dst := some 25, op := Op.load 22 (Operand.tmp 24), type := 22, pos := "law.go:111", after := #[{ on := 4, ground := Ground.data }], guard := none }) rfl (fun K hK => ?_) (AllReadyH.cons (o := { dst := some 36, op := Op.buildSlice 22 1 #[(0, Operand.tmp 35)], type := 22, pos := "law.go:111", after := #[{ on := 15, ground := Ground.data }], guard := none }) rfl (fun K hK => ?_) AllReadyH.nil))
  · go_simp
    refine hK.out _ _ ?_ (fun hH1 => ?_)
    · (try dsimp only); (first | exact d2 | exact (World.cell?_setCell_other _ _ _ _ (fun e => by injection e; omega)).trans d2 | exact c2 | exact (World.cell?_alloc_lt _ _ _ HLT.out).trans c2)
    clear hK K
    clear hH0
    try simp only [Act.put, List.setIfInBounds_toArray, List.set_cons_zero, List.set_cons_succ]
    refine wpAnyH_ready (rs := [16]) (by kernel_rfl) (by simp) ?_
    refine (AllReadyH.cons (o := { dst := some 36, op := Op.buildSlice 22 1 #[(0, Operand.tmp 35)], type := 22, pos := "law.go:111", after := #[{ on := 15, ground := Ground.data }], guard := none }) rfl (fun K hK => ?_) AllReadyH.nil)
    go_simp
    have c0 := fun x => (World.cell?_alloc_lt _ x _ HLT.out).trans c0
    refine hK.out _ _ ?_ (fun hH2 => ?_)
    · (try dsimp only); (first | exact d2 | exact (World.cell?_setCell_other _ _ _ _ (fun e => by injection e; omega)).trans d2 | exact c2 | exact (World.cell?_alloc_lt _ _ _ HLT.out).trans c2)
    clear hK K
    clear hH1
    try simp only [Act.put, List.setIfInBounds_toArray, List.set_cons_zero, List.set_cons_succ]
    refine wpAnyH_ready (rs := [17]) (by kernel_rfl) (by simp) ?_
    refine (AllReadyH.cons (o := { dst := some 37, op := Op.call { callee := Callee.builtin Builtin.append, args := #[Operand.tmp 25, Operand.tmp 36], argTypes := #[22, 22] }, type := 22, pos := "law.go:111", after := #[{ on := 5, ground := Ground.data }, { on := 16, ground := Ground.data }], guard := none }) rfl (fun K hK => ?_) AllReadyH.nil)
    rw [if_pos (by rfl)]; refine wp_appT (.tmp 25) (.tmp 36) (by rfl) (.slice la L.length lc) L.length _ (by rfl) (World.ownsRow.alloc HL.out.ls _) ⟨_, 0, none⟩ 1 1 (by rfl) (Th.cells ⟨cls, fmt, last + 1, false, .slice fa F.length fc, F, B⟩) rfl (fun j u hu => by rw [Addr.add_lit, Nat.zero_add]; exact new_cellD _ #[.int .i64 cls, .int .i64 fmt, .int .i64 (last + 1), .bool false, .slice fa F.length fc, .string B] _ (by first | rfl | simp) (by simpa [Th.cells] using hu)) (one6 _ rfl) (by omega) ?_
    intro v8 u8 own8 g8 e8
    have g8 := grown_undrew g8
    obtain ⟨va, vc, rfl⟩ := own_slT own8
    have HP := Lib.hid (HL.out.push ⟨cls, fmt, last + 1, false, .slice fa F.length fc, F, B⟩ HFR.out HFN.out own8 g8 e8)
    have h8 : u8.heap[b]? = _ := (g8.block b (by have := HLT.out; simp at this ⊢; omega) (fun e => HL.out.nb e.symm)).trans ((heap_alloc_old _ _ HLT.out).trans HL.out.row)
    have c8 : u8.cell? ⟨b, 0, none⟩ = some (.slice la L.length lc) := by rw [cell_row _ _ _ _ _ _ h8]; rfl
    have fz8 := frozen_of_row u8 b 0 _ _ h8
    have d2 : u8.cell? ⟨b, 2, none⟩ = some (.int .i64 (last + 1)) := by rw [cell_row _ _ _ _ _ _ h8]; rfl
    have HKX := Lib.hid (Kx.push (x := .int .i64 (last + 1)) (y := .slice va (L.length + 1) vc) g8 e8)
    clear h8 own8 g8 e8
    refine hK.out _ _ ?_ (fun hH3 => ?_)
    · (try dsimp only); (first | exact d2 | exact (World.cell?_setCell_other _ _ _ _ (fun e => by injection e; omega)).trans d2 | exact c2 | exact (World.cell?_alloc_lt _ _ _ HLT.out).trans c2)
    clear hK K
    clear hH2
    try simp only [Act.put, List.setIfInBounds_toArray, List.set_cons_zero, List.set_cons_succ]
    refine wpAnyH_take (i := 18) (oi := { dst := some 38, op := Op.nilCheck (Operand.tmp 20), type := 0, pos := "law.go:111", after := #[{ on := 0, ground := Ground.data }, { on := 0, ground := Ground.phase }, { on := 1, ground := Ground.phase }, { on := 2, ground := Ground.phase }, { on := 3, ground := Ground.phase }, { on := 4, ground := Ground.phase }, { on := 5, ground := Ground.phase }, { on := 6, ground := Ground.phase }, { on := 7, ground := Ground.phase }, { on := 8, ground := Ground.phase }, { on := 9, ground := Ground.phase }, { on := 10, ground := Ground.phase }, { on := 11, ground := Ground.phase }, { on := 12, ground := Ground.phase }, { on := 13, ground := Ground.phase }, { on := 14, ground := Ground.phase }, { on := 15, ground := Ground.phase }, { on := 16, ground := Ground.phase }, { on := 17, ground := Ground.phase }], guard := none }) (v := ?v16) rfl (by kernel_rfl) (by kernel_rfl) (by kernel_rfl) (fun _ _ _ h => h) (Or.inl ⟨by rfl, ?hy16⟩) (by assumption) ?_
    case hy16 => intro w hSw; (try dsimp only at hSw); go_simp; (try with_reducible rfl)
    try simp only [Act.put, List.setIfInBounds_toArray, List.set_cons_zero, List.set_cons_succ]
    refine wpAnyH_take (i := 19) (oi := { dst := some 39, op := Op.fieldAddr 51 (Operand.tmp 38) 0, type := 0, pos := "law.go:111", after := #[{ on := 18, ground := Ground.data }, { on := 0, ground := Ground.phase }, { on := 1, ground := Ground.phase }, { on := 2, ground := Ground.phase }, { on := 3, ground := Ground.phase }, { on := 4, ground := Ground.phase }, { on := 5, ground := Ground.phase }, { on := 6, ground := Ground.phase }, { on := 7, ground := Ground.phase }, { on := 8, ground := Ground.phase }, { on := 9, ground := Ground.phase }, { on := 10, ground := Ground.phase }, { on := 11, ground := Ground.phase }, { on := 12, ground := Ground.phase }, { on := 13, ground := Ground.phase }, { on := 14, ground := Ground.phase }, { on := 15, ground := Ground.phase }, { on := 16, ground := Ground.phase }, { on := 17, ground := Ground.phase }], guard := none }) (v := ?v17) rfl (by kernel_rfl) (by kernel_rfl) (by kernel_rfl) (fun _ _ _ h => h) (Or.inl ⟨by rfl, ?hy17⟩) (by assumption) ?_
    case hy17 => intro w hSw; (try dsimp only at hSw); go_simp; (try with_reducible rfl)
    try simp only [Act.put, List.setIfInBounds_toArray, List.set_cons_zero, List.set_cons_succ]
    refine wpAnyH_take (i := 20) (oi := { dst := some 40, op := Op.fieldAddr 30 (Operand.tmp 39) 0, type := 0, pos := "law.go:111", after := #[{ on := 19, ground := Ground.data }, { on := 0, ground := Ground.phase }, { on := 1, ground := Ground.phase }, { on := 2, ground := Ground.phase }, { on := 3, ground := Ground.phase }, { on := 4, ground := Ground.phase }, { on := 5, ground := Ground.phase }, { on := 6, ground := Ground.phase }, { on := 7, ground := Ground.phase }, { on := 8, ground := Ground.phase }, { on := 9, ground := Ground.phase }, { on := 10, ground := Ground.phase }, { on := 11, ground := Ground.phase }, { on := 12, ground := Ground.phase }, { on := 13, ground := Ground.phase }, { on := 14, ground := Ground.phase }, { on := 15, ground := Ground.phase }, { on := 16, ground := Ground.phase }, { on := 17, ground := Ground.phase }], guard := none }) (v := ?v18) rfl (by kernel_rfl) (by kernel_rfl) (by kernel_rfl) (fun _ _ _ h => h) (Or.inl ⟨by rfl, ?hy18⟩) (by assumption) ?_
    case hy18 => intro w hSw; (try dsimp only at hSw); go_simp; (try with_reducible rfl)
    try simp only [Act.put, List.setIfInBounds_toArray, List.set_cons_zero, List.set_cons_succ]
    refine wpAnyH_ready (rs := [21]) (by kernel_rfl) (by simp) ?_
    refine (AllReadyH.cons (o := { dst := none, op := Op.store 22 (Operand.tmp 40) (Operand.tmp 37), type := 0, pos := "law.go:111", after := #[{ on := 20, ground := Ground.data }, { on := 17, ground := Ground.data }, { on := 17, ground := Ground.chain }, { on := 0, ground := Ground.phase }, { on := 1, ground := Ground.phase }, { on := 2, ground := Ground.phase }, { on := 3, ground := Ground.phase }, { on := 4, ground := Ground.phase }, { on := 5, ground := Ground.phase }, { on := 6, ground := Ground.phase }, { on := 7, ground := Ground.phase }, { on := 8, ground := Ground.phase }, { on := 9, ground := Ground.phase }, { on := 10, ground := Ground.phase }, { on := 11, ground := Ground.phase }, { on := 12, ground := Ground.phase }, { on := 13, ground := Ground.phase }, { on := 14, ground := Ground.phase }, { on := 15, ground := Ground.phase }, { on := 16, ground := Ground.phase }, { on := 17, ground := Ground.phase }], guard := none }) rfl (fun K hK => ?_) AllReadyH.nil)
    go_simp
    refine hK.out _ _ ?_ (fun hH4 => ?_)
    · (try dsimp only); (first | exact d2 | exact (World.cell?_setCell_other _ _ _ _ (fun e => by injection e; omega)).trans d2 | exact c2 | exact (World.cell?_alloc_lt _ _ _ HLT.out).trans c2)
    clear hK K
    clear hH3
    try simp only [Act.put, List.setIfInBounds_toArray, List.set_cons_zero, List.set_cons_succ]
    refine wpAnyH_done (by kernel_rfl) ?_ _
    have c9 := HP.out.c0
    go_wp2_with fail
    go_ret
    exact ⟨by simp, va, vc, HP.out, HKX.out⟩
  · go_simp
    have c0 := fun x => (World.cell?_alloc_lt _ x _ HLT.out).trans c0
    refine hK.out _ _ ?_ (fun hH1 => ?_)
    · (try dsimp only); (first | exact d2 | exact (World.cell?_setCell_other _ _ _ _ (fun e => by injection e; omega)).trans d2 | exact c2 | exact (World.cell?_alloc_lt _ _ _ HLT.out).trans c2)
    clear hK K
    clear hH0
    try simp only [Act.put, List.setIfInBounds_toArray, List.set_cons_zero, List.set_cons_succ]
    refine wpAnyH_ready (rs := [5]) (by kernel_rfl) (by simp) ?_
    refine (AllReadyH.cons (o := { dst := some 25, op := Op.load 22 (Operand.tmp 24), type := 22, pos := "law.go:111", after := #[{ on := 4, ground := Ground.data }], guard := none }) rfl (fun K hK => ?_) AllReadyH.nil)
    go_simp
    refine hK.out _ _ ?_ (fun hH2 => ?_)
    · (try dsimp only); (first | exact d2 | exact (World.cell?_setCell_other _ _ _ _ (fun e => by injection e; omega)).trans d2 | exact c2 | exact (World.cell?_alloc_lt _ _ _ HLT.out).trans c2)
    clear hK K
    clear hH1
    try simp only [Act.put, List.setIfInBounds_toArray, List.set_cons_zero, List.set_cons_succ]
    refine wpAnyH_ready (rs := [17]) (by kernel_rfl) (by simp) ?_
    refine (AllReadyH.cons (o := { dst := some 37, op := Op.call { callee := Callee.builtin Builtin.append, args := #[Operand.tmp 25, Operand.tmp 36], argTypes := #[22, 22] }, type := 22, pos := "law.go:111", after := #[{ on := 5, ground := Ground.data }, { on := 16, ground := Ground.data }], guard := none }) rfl (fun K hK => ?_) AllReadyH.nil)
    rw [if_pos (by rfl)]; refine wp_appT (.tmp 25) (.tmp 36) (by rfl) (.slice la L.length lc) L.length _ (by rfl) (World.ownsRow.alloc HL.out.ls _) ⟨_, 0, none⟩ 1 1 (by rfl) (Th.cells ⟨cls, fmt, last + 1, false, .slice fa F.length fc, F, B⟩) rfl (fun j u hu => by rw [Addr.add_lit, Nat.zero_add]; exact new_cellD _ #[.int .i64 cls, .int .i64 fmt, .int .i64 (last + 1), .bool false, .slice fa F.length fc, .string B] _ (by first | rfl | simp) (by simpa [Th.cells] using hu)) (one6 _ rfl) (by omega) ?_
    intro v8 u8 own8 g8 e8
    have g8 := grown_undrew g8
    obtain ⟨va, vc, rfl⟩ := own_slT own8
    have HP := Lib.hid (HL.out.push ⟨cls, fmt, last + 1, false, .slice fa F.length fc, F, B⟩ HFR.out HFN.out own8 g8 e8)
    have h8 : u8.heap[b]? = _ := (g8.block b (by have := HLT.out; simp at this ⊢; omega) (fun e => HL.out.nb e.symm)).trans ((heap_alloc_old _ _ HLT.out).trans HL.out.row)
    have c8 : u8.cell? ⟨b, 0, none⟩ = some (.slice la L.length lc) := by rw [cell_row _ _ _ _ _ _ h8]; rfl
    have fz8 := frozen_of_row u8 b 0 _ _ h8
    have d2 : u8.cell? ⟨b, 2, none⟩ = some (.int .i64 (last + 1)) := by rw [cell_row _ _ _ _ _ _ h8]; rfl
    have HKX := Lib.hid (Kx.push (x := .int .i64 (last + 1)) (y := .slice va (L.length + 1) vc) g8 e8)
    clear h8 own8 g8 e8
    refine hK.out _ _ ?_ (fun hH3 => ?_)
    · (try dsimp only); (first | exact d2 | exact (World.cell?_setCell_other _ _ _ _ (fun e => by injection e; omega)).trans d2 | exact c2 | exact (World.cell?_alloc_lt _ _ _ HLT.out).trans c2)
    clear hK K
    clear hH2
    try simp only [Act.put, List.setIfInBounds_toArray, List.set_cons_zero, List.set_cons_succ]
    refine wpAnyH_take (i := 18) (oi := { dst := some 38, op := Op.nilCheck (Operand.tmp 20), type := 0, pos := "law.go:111", after := #[{ on := 0, ground := Ground.data }, { on := 0, ground := Ground.phase }, { on := 1, ground := Ground.phase }, { on := 2, ground := Ground.phase }, { on := 3, ground := Ground.phase }, { on := 4, ground := Ground.phase }, { on := 5, ground := Ground.phase }, { on := 6, ground := Ground.phase }, { on := 7, ground := Ground.phase }, { on := 8, ground := Ground.phase }, { on := 9, ground := Ground.phase }, { on := 10, ground := Ground.phase }, { on := 11, ground := Ground.phase }, { on := 12, ground := Ground.phase }, { on := 13, ground := Ground.phase }, { on := 14, ground := Ground.phase }, { on := 15, ground := Ground.phase }, { on := 16, ground := Ground.phase }, { on := 17, ground := Ground.phase }], guard := none }) (v := ?v19) rfl (by kernel_rfl) (by kernel_rfl) (by kernel_rfl) (fun _ _ _ h => h) (Or.inl ⟨by rfl, ?hy19⟩) (by assumption) ?_
    case hy19 => intro w hSw; (try dsimp only at hSw); go_simp; (try with_reducible rfl)
    try simp only [Act.put, List.setIfInBounds_toArray, List.set_cons_zero, List.set_cons_succ]
    refine wpAnyH_take (i := 19) (oi := { dst := some 39, op := Op.fieldAddr 51 (Operand.tmp 38) 0, type := 0, pos := "law.go:111", after := #[{ on := 18, ground := Ground.data }, { on := 0, ground := Ground.phase }, { on := 1, ground := Ground.phase }, { on := 2, ground := Ground.phase }, { on := 3, ground := Ground.phase }, { on := 4, ground := Ground.phase }, { on := 5, ground := Ground.phase }, { on := 6, ground := Ground.phase }, { on := 7, ground := Ground.phase }, { on := 8, ground := Ground.phase }, { on := 9, ground := Ground.phase }, { on := 10, ground := Ground.phase }, { on := 11, ground := Ground.phase }, { on := 12, ground := Ground.phase }, { on := 13, ground := Ground.phase }, { on := 14, ground := Ground.phase }, { on := 15, ground := Ground.phase }, { on := 16, ground := Ground.phase }, { on := 17, ground := Ground.phase }], guard := none }) (v := ?v20) rfl (by kernel_rfl) (by kernel_rfl) (by kernel_rfl) (fun _ _ _ h => h) (Or.inl ⟨by rfl, ?hy20⟩) (by assumption) ?_
    case hy20 => intro w hSw; (try dsimp only at hSw); go_simp; (try with_reducible rfl)
    try simp only [Act.put, List.setIfInBounds_toArray, List.set_cons_zero, List.set_cons_succ]
    refine wpAnyH_take (i := 20) (oi := { dst := some 40, op := Op.fieldAddr 30 (Operand.tmp 39) 0, type := 0, pos := "law.go:111", after := #[{ on := 19, ground := Ground.data }, { on := 0, ground := Ground.phase }, { on := 1, ground := Ground.phase }, { on := 2, ground := Ground.phase }, { on := 3, ground := Ground.phase }, { on := 4, ground := Ground.phase }, { on := 5, ground := Ground.phase }, { on := 6, ground := Ground.phase }, { on := 7, ground := Ground.phase }, { on := 8, ground := Ground.phase }, { on := 9, ground := Ground.phase }, { on := 10, ground := Ground.phase }, { on := 11, ground := Ground.phase }, { on := 12, ground := Ground.phase }, { on := 13, ground := Ground.phase }, { on := 14, ground := Ground.phase }, { on := 15, ground := Ground.phase }, { on := 16, ground := Ground.phase }, { on := 17, ground := Ground.phase }], guard := none }) (v := ?v21) rfl (by kernel_rfl) (by kernel_rfl) (by kernel_rfl) (fun _ _ _ h => h) (Or.inl ⟨by rfl, ?hy21⟩) (by assumption) ?_
    case hy21 => intro w hSw; (try dsimp only at hSw); go_simp; (try with_reducible rfl)
    try simp only [Act.put, List.setIfInBounds_toArray, List.set_cons_zero, List.set_cons_succ]
    refine wpAnyH_ready (rs := [21]) (by kernel_rfl) (by simp) ?_
    refine (AllReadyH.cons (o := { dst := none, op := Op.store 22 (Operand.tmp 40) (Operand.tmp 37), type := 0, pos := "law.go:111", after := #[{ on := 20, ground := Ground.data }, { on := 17, ground := Ground.data }, { on := 17, ground := Ground.chain }, { on := 0, ground := Ground.phase }, { on := 1, ground := Ground.phase }, { on := 2, ground := Ground.phase }, { on := 3, ground := Ground.phase }, { on := 4, ground := Ground.phase }, { on := 5, ground := Ground.phase }, { on := 6, ground := Ground.phase }, { on := 7, ground := Ground.phase }, { on := 8, ground := Ground.phase }, { on := 9, ground := Ground.phase }, { on := 10, ground := Ground.phase }, { on := 11, ground := Ground.phase }, { on := 12, ground := Ground.phase }, { on := 13, ground := Ground.phase }, { on := 14, ground := Ground.phase }, { on := 15, ground := Ground.phase }, { on := 16, ground := Ground.phase }, { on := 17, ground := Ground.phase }], guard := none }) rfl (fun K hK => ?_) AllReadyH.nil)
    go_simp
    refine hK.out _ _ ?_ (fun hH4 => ?_)
    · (try dsimp only); (first | exact d2 | exact (World.cell?_setCell_other _ _ _ _ (fun e => by injection e; omega)).trans d2 | exact c2 | exact (World.cell?_alloc_lt _ _ _ HLT.out).trans c2)
    clear hK K
    clear hH3
    try simp only [Act.put, List.setIfInBounds_toArray, List.set_cons_zero, List.set_cons_succ]
    refine wpAnyH_done (by kernel_rfl) ?_ _
    have c9 := HP.out.c0
    go_wp2_with fail
    go_ret
    exact ⟨by simp, va, vc, HP.out, HKX.out⟩
theorem b_AddK0 (h : LB w u b 51 lv L last) (hn : L.length ≤ 3000) (hl : 0 ≤ last ∧ last ≤ 3000) (cls fmt : Int) (B : ByteArray) :
    Calls Tryz.prog 18 #[.pointer (some ⟨b, 0, none⟩), .int .i64 cls, .int .i64 fmt, .slice none 0 0, .string B] u fun e w' => e = .returned (.int .i64 L.length) ∧ ∃ va vc, LB w w' b 51 (.slice va (L.length + 1) vc) (L ++ [⟨cls, fmt, last + 1, false, .slice none 0 0, [], B⟩]) (last + 1) ∧ Kx b lv u (.slice va (L.length + 1) vc) w' :=
  b_AddK h hn hl cls fmt (F := []) (.inl ⟨rfl, rfl, _, _, rfl⟩) ⟨fun k hk => by simp [blk] at hk, Nat.le_refl _, by simp⟩ B
set_option maxHeartbeats 2000000 in
set_option maxRecDepth 100000 in
theorem b_MethodK (h : LB w u b 51 lv L last) (hn : L.length ≤ 2990) (hl : 0 ≤ last ∧ last ≤ 2990) (args temps prim : Int) :
    Calls Tryz.prog 20 #[.pointer (some ⟨b, 0, none⟩), .int .i64 args, .int .i64 temps, .int .i64 prim, .slice none 0 0, .slice none 0 0] u fun e w' => e = .returned (.int .i64 ((L.length : Int) + 1)) ∧ ∃ va vc t1 t2, LB w w' b 51 (.slice va (L.length + 2) vc) (L ++ [t1, t2]) (last + 2) ∧ t1.pl = ⟨8, 3, last + 1, false, .slice none 0 0, [], ByteArray.empty⟩ ∧ t2.pl = ⟨11, 1, last + 2, false, .slice none 0 0, [(false, args), (false, temps), (false, prim), (true, (L.length : Int))], ByteArray.empty⟩ ∧ Kx b lv u (.slice va (L.length + 2) vc) w' := by
  have HL := Lib.hid h
  have HA1 := Lib.hid (b_AddK0 h (by omega) (by omega) 8 3 ByteArray.empty)
  have HA2 : Hid (∀ va0 vc0 ux, LB w ux b 51 (.slice va0 (L.length + 1) vc0) (L ++ [⟨8, 3, last + 1, false, .slice none 0 0, [], ByteArray.empty⟩]) (last + 1) → Calls Tryz.prog 18 #[.pointer (some ⟨b, 0, none⟩), .int .i64 11, .int .i64 1, .slice (some ⟨ux.heap.size, 0, none⟩) 4 4, .string ⟨#[]⟩] (ux.alloc (.cells #[.bool false, .int .i64 args, .bool false, .int .i64 temps, .bool false, .int .i64 prim, .bool true, .int .i64 (L.length : Int)] 54)) fun e w' => e = .returned (.int .i64 ((L.length : Int) + 1)) ∧ ∃ va vc, LB w w' b 51 (.slice va (L.length + 2) vc) (L ++ [⟨8, 3, last + 1, false, .slice none 0 0, [], ByteArray.empty⟩, ⟨11, 1, last + 2, false, .slice (some ⟨ux.heap.size, 0, none⟩) 4 4, [(false, args), (false, temps), (false, prim), (true, (L.length : Int))], ⟨#[]⟩⟩]) (last + 2) ∧ Kx b (.slice va0 (L.length + 1) vc0) ux (.slice va (L.length + 2) vc) w') := Lib.hid fun va0 vc0 ux hx => by
    have hF := hx.newF [(false, args), (false, temps), (false, prim), (true, (L.length : Int))] ⟨by simp, by simp⟩
    have := b_AddK (hx.more ((Below.refl _ _).alloc (Nat.le_refl _) (.cells (vals [(false, args), (false, temps), (false, prim), (true, (L.length : Int))]).toArray 54))) (by simp; omega) (by omega) 11 1 hF.1 ⟨hF.2, Nat.le_refl _, by simp⟩ ⟨#[]⟩
    rw [List.length_append, List.append_assoc, show last + 1 + 1 = last + 2 by omega] at this
    exact this.mono fun e w' ⟨he, va, vc, hB, hK⟩ => ⟨he, va, vc, hB, Kx.al ((Below.refl _ _).alloc (Nat.le_refl _) _) (hx.ls.lt · · |>.2) hK⟩
  clear h
  go_enter Tryz.func20, Tryz.ntmps20
  go_wp2_with (first
    | (go_at_call 40; (with_reducible refine (rf_Put _).mono ?_); rintro e u1 ⟨rfl, rfl⟩; dsimp only)
    | (go_at_call 18; (with_reducible refine HA1.out.mono ?_); rintro e u2 ⟨rfl, va, vc, hL2, hK2⟩; have HL2 := Lib.hid hL2; have HK2 := Lib.hid hK2; clear hL2 hK2 HA1; dsimp only)
    | (go_at_call 18; (with_reducible refine (HA2.out _ _ _ HL2.out).mono ?_); rintro e u2 ⟨rfl, va, vc, hL3, hK3⟩; have HL3 := Lib.hid hL3; have HK3 := Lib.hid (HK2.out.trans hK3); clear hL3 hK3; dsimp only)
    | (go_at_call 19; (with_reducible refine (nl_Num _ _).mono ?_); rintro e ux ⟨rfl, hbx⟩; have HK2 := Lib.hid (HK2.out.more hbx (HL2.out.ls.lt · · |>.2)); have HL2 := Lib.hid (HL2.out.more hbx); clear hbx; dsimp only)
    | (go_at_call 22; (with_reducible refine (nl_Obj _ _).mono ?_); rintro e ux ⟨rfl, hbx⟩; have HK2 := Lib.hid (HK2.out.more hbx (HL2.out.ls.lt · · |>.2)); have HL2 := Lib.hid (HL2.out.more hbx); clear hbx; dsimp only))
  go_ret
  exact ⟨rfl, va, vc, _, _, HL3.out, rfl, rfl, HK3.out⟩
end
end Go.Proofs.YtoklohfpkaiidaaGreat.Obj
