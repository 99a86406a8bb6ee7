/- Worlds that may be: package image. -/
import Derived.Test.YtoklohfpkaiidaaGreatWo
namespace Go.Proofs.YtoklohfpkaiidaaGreat.Obj
open Go.Proofs.YtoklohfpkaiidaaGreat.Gen Go.Proofs.YtoklohfpkaiidaaGreat.Base Go.ChangeShapes Go.WideShapes Go.ChangeAt Go.RowKit
set_option linter.unusedVariables false
theorem below_drew' {u v : World} {B : Nat} (h : Below B u.drew v) : Below B u v := ⟨h.os, h.tape, h.output, h.size, h.block⟩
section
variable {w w' : World} {a : Option Addr} {c : Nat} {L : List Th} {last : Int}
theorem im_lives (at_ : Int) (h0 : 0 ≤ at_) (h1 : at_ < L.length) : Calls Tryz.prog 58 #[.agg #[.slice a L.length c, .slice none 0 0, .int .i64 last, .int .i64 0, .int .i64 0, .slice none 0 0, .slice none 0 0, .slice none 0 0, .string ByteArray.empty, .string ByteArray.empty, .int .i64 0, .int .i64 0, .slice none 0 0], .int .i64 at_] w fun e w' => e = .returned (.bool true) ∧ Below w.heap.size w w' := by
  have hb : ∀ x, Below w.heap.size w (w.alloc x) := fun x => (Below.refl _ _).alloc (Nat.le_refl _) _
  have d1 : decide (at_ < (L.length : Int)) = true := by simpa using h1
  go_enter Tryz.func58, Tryz.ntmps58
  go_wp2_with fail
  go_ret
  exact ⟨rfl, hb _⟩
/-- Is a thing a class, by its fields? -/
def clsT (t : Th) : Bool := decide (t.fmt = 1) && decide (5 ≤ t.F.length) && shapes (t.F[3]?.getD (true, 0)) (t.F[4]?.getD (true, 0))
set_option maxHeartbeats 1000000 in
theorem im_isClass (t : Th) (ht : clsT t = true) (hr : RowR w 2 t.fv t.F.length (vals t.F)) : Calls Tryz.prog 98 #[.agg t.cells.toArray] w fun e w' => e = .returned (.bool true) ∧ Below w.heap.size w w' := by
  unfold clsT at ht
  simp only [Bool.and_eq_true, decide_eq_true_eq] at ht
  obtain ⟨⟨h1, h2⟩, h3⟩ := ht
  have hb : ∀ x, Below w.heap.size w (w.alloc x) := fun x => (Below.refl _ _).alloc (Nat.le_refl _) _
  obtain ⟨cls, fmt, hash, fin, fv, F, B⟩ := t
  obtain ⟨a, c, hfv, hlc, hcm, hcell⟩ := hr.val
  dsimp only at *
  subst hfv
  subst h1
  obtain ⟨b, o, rfl, k0, k1⟩ := hcell 3 (by omega)
  obtain ⟨b', o', e, k2, k3⟩ := hcell 4 (by omega)
  simp only [Option.some.injEq, Addr.mk.injEq, and_true] at e
  obtain ⟨rfl, rfl⟩ := e
  have hbb := World.block_lt_of_cell? _ _ k0
  rw [List.getElem?_eq_getElem (show 3 < F.length by omega), List.getElem?_eq_getElem (show 4 < F.length by omega)] at h3
  dsimp only [Option.getD] at h3
  have hsh := fun u => im_Shapes F[3] F[4] u
  rw [h3] at hsh
  have t5 : (5 : Int) ≤ (F.length : Int) := by omega
  have t3 : (3 : Int) < (F.length : Int) := by omega
  have t4 : (4 : Int) < (F.length : Int) := by omega
  unfold Th.cells
  dsimp only
  generalize F[3] = p3 at *
  generalize F[4] = p4 at *
  obtain ⟨b3, n3⟩ := p3
  obtain ⟨b4, n4⟩ := p4
  unfold vcells at hsh
  dsimp only at *
  have k0a : ∀ x, (w.alloc x).cell? ⟨b, o + 3 * 2, none⟩ = some (.bool b3) := fun x => (World.cell?_alloc_lt w x _ hbb).trans k0
  have k1a : ∀ x, (w.alloc x).cell? ⟨b, o + 3 * 2 + 1, none⟩ = some (.int .i64 n3) := fun x => (World.cell?_alloc_lt w x _ hbb).trans k1
  have k2a : ∀ x, (w.alloc x).cell? ⟨b, o + 4 * 2, none⟩ = some (.bool b4) := fun x => (World.cell?_alloc_lt w x _ hbb).trans k2
  have k3a : ∀ x, (w.alloc x).cell? ⟨b, o + 4 * 2 + 1, none⟩ = some (.int .i64 n4) := fun x => (World.cell?_alloc_lt w x _ hbb).trans k3
  clear hr hcell h3 k0 k1 k2 k3
  go_enter Tryz.func98, Tryz.ntmps98
  go_upto_region 1 with fail
  have hS0 := (show (fun w' => w'.cell? ⟨w.heap.size, 1, none⟩ = some (.int .i64 1) ∧ w'.cell? ⟨w.heap.size, 4, none⟩ = some (.slice (some ⟨b, o, none⟩) F.length c) ∧ w'.cell? ⟨b, o + 3 * 2, none⟩ = some (.bool b3) ∧ w'.cell? ⟨b, o + 3 * 2 + 1, none⟩ = some (.int .i64 n3) ∧ w'.cell? ⟨b, o + 4 * 2, none⟩ = some (.bool b4) ∧ w'.cell? ⟨b, o + 4 * 2 + 1, none⟩ = some (.int .i64 n4)) (w.alloc (.cells #[.int .i64 cls, .int .i64 1, .int .i64 hash, .bool fin, .slice (some ⟨b, o, none⟩) F.length c, .string B] 64)).drew from ⟨new_cell w _ _ rfl, new_cell w _ _ rfl, k0a _, k1a _, k2a _, k3a _⟩)
  have HOLD := Lib.hid (show ∀ u, Below (w.alloc (.cells #[.int .i64 cls, .int .i64 1, .int .i64 hash, .bool fin, .slice (some ⟨b, o, none⟩) F.length c, .string B] 64)).drew.heap.size (w.alloc (.cells #[.int .i64 cls, .int .i64 1, .int .i64 hash, .bool fin, .slice (some ⟨b, o, none⟩) F.length c, .string B] 64)).drew u → (fun w' => w'.cell? ⟨w.heap.size, 1, none⟩ = some (.int .i64 1) ∧ w'.cell? ⟨w.heap.size, 4, none⟩ = some (.slice (some ⟨b, o, none⟩) F.length c) ∧ w'.cell? ⟨b, o + 3 * 2, none⟩ = some (.bool b3) ∧ w'.cell? ⟨b, o + 3 * 2 + 1, none⟩ = some (.int .i64 n3) ∧ w'.cell? ⟨b, o + 4 * 2, none⟩ = some (.bool b4) ∧ w'.cell? ⟨b, o + 4 * 2 + 1, none⟩ = some (.int .i64 n4)) u from fun u hu => by
    have kk : ∀ p v, (w.alloc (.cells #[.int .i64 cls, .int .i64 1, .int .i64 hash, .bool fin, .slice (some ⟨b, o, none⟩) F.length c, .string B] 64)).drew.cell? p = some v → u.cell? p = some v := fun p v hp => (hu.cell (World.block_lt_of_cell? _ _ hp)).trans hp
    exact ⟨kk _ _ hS0.1, kk _ _ hS0.2.1, kk _ _ hS0.2.2.1, kk _ _ hS0.2.2.2.1, kk _ _ hS0.2.2.2.2.1, kk _ _ hS0.2.2.2.2.2⟩)
  refine wp_region_held_drew (S := (fun w' => w'.cell? ⟨w.heap.size, 1, none⟩ = some (.int .i64 1) ∧ w'.cell? ⟨w.heap.size, 4, none⟩ = some (.slice (some ⟨b, o, none⟩) F.length c) ∧ w'.cell? ⟨b, o + 3 * 2, none⟩ = some (.bool b3) ∧ w'.cell? ⟨b, o + 3 * 2 + 1, none⟩ = some (.int .i64 n3) ∧ w'.cell? ⟨b, o + 4 * 2, none⟩ = some (.bool b4) ∧ w'.cell? ⟨b, o + 4 * 2 + 1, none⟩ = some (.int .i64 n4))) (by kernel_rfl) ?_ (fun hH0 => ?_)
  · (try dsimp only); exact hS0
  refine wpAnyH_take (i := 0) (oi := { dst := some 3, op := Op.fieldAddr 64 (Operand.tmp 1) 1, type := 0, pos := "image.go:95", after := #[], guard := none }) (v := ?v1) rfl (by kernel_rfl) (by kernel_rfl) (by kernel_rfl) (fun _ _ _ h => h) (Or.inl ⟨by rfl, ?hy1⟩) (by assumption) ?_
  case hy1 => intro w hSw; (try dsimp only at hSw); go_simp; (try with_reducible rfl)
  try simp only [Act.put, List.setIfInBounds_toArray, List.set_cons_zero, List.set_cons_succ]
  refine wpAnyH_take (i := 1) (oi := { dst := some 4, op := Op.load 3 (Operand.tmp 3), type := 3, pos := "image.go:95", after := #[{ on := 0, ground := Ground.data }], guard := none }) (v := ?v2) rfl (by kernel_rfl) (by kernel_rfl) (by kernel_rfl) (fun _ _ _ h => h) (Or.inl ⟨by rfl, ?hy2⟩) (by assumption) ?_
  case hy2 => intro w hSw; (try dsimp only at hSw); go_simp; (try with_reducible rfl)
  try simp only [Act.put, List.setIfInBounds_toArray, List.set_cons_zero, List.set_cons_succ]
  refine wpAnyH_take (i := 2) (oi := { dst := some 5, op := Op.binOp BinOp.eql 3 (Operand.tmp 4) (Operand.const (Value.int IntKind.i64 1)) 3, type := 4, pos := "image.go:95", after := #[{ on := 1, ground := Ground.data }], guard := none }) (v := ?v3) rfl (by kernel_rfl) (by kernel_rfl) (by kernel_rfl) (fun _ _ _ h => h) (Or.inl ⟨by rfl, ?hy3⟩) (by assumption) ?_
  case hy3 => intro w hSw; (try dsimp only at hSw); go_simp; (try with_reducible rfl)
  try simp only [Act.put, List.setIfInBounds_toArray, List.set_cons_zero, List.set_cons_succ]
  refine wpAnyH_take (i := 3) (oi := { dst := some 6, op := Op.move (Operand.tmp 5), type := 4, pos := "image.go:95", after := #[{ on := 2, ground := Ground.data }], guard := none }) (v := ?v4) rfl (by kernel_rfl) (by kernel_rfl) (by kernel_rfl) (fun _ _ _ h => h) (Or.inl ⟨by rfl, ?hy4⟩) (by assumption) ?_
  case hy4 => intro w hSw; (try dsimp only at hSw); go_simp; (try with_reducible rfl)
  try simp only [Act.put, List.setIfInBounds_toArray, List.set_cons_zero, List.set_cons_succ]
  refine wpAnyH_take (i := 4) (oi := { dst := some 7, op := Op.fieldAddr 64 (Operand.tmp 1) 4, type := 0, pos := "image.go:95", after := #[{ on := 3, ground := Ground.guard }], guard := some (3, true) }) (v := ?v5) rfl (by kernel_rfl) (by kernel_rfl) (by kernel_rfl) (fun _ _ _ h => h) (Or.inl ⟨by rfl, ?hy5⟩) (by assumption) ?_
  case hy5 => intro w hSw; (try dsimp only at hSw); go_simp; (try with_reducible rfl)
  try simp only [Act.put, List.setIfInBounds_toArray, List.set_cons_zero, List.set_cons_succ]
  refine wpAnyH_take (i := 5) (oi := { dst := some 8, op := Op.load 56 (Operand.tmp 7), type := 56, pos := "image.go:95", after := #[{ on := 4, ground := Ground.data }, { on := 3, ground := Ground.guard }], guard := some (3, true) }) (v := ?v6) rfl (by kernel_rfl) (by kernel_rfl) (by kernel_rfl) (fun _ _ _ h => h) (Or.inl ⟨by rfl, ?hy6⟩) (by assumption) ?_
  case hy6 => intro w hSw; (try dsimp only at hSw); go_simp; (try with_reducible rfl)
  try simp only [Act.put, List.setIfInBounds_toArray, List.set_cons_zero, List.set_cons_succ]
  refine wpAnyH_take (i := 6) (oi := { dst := some 9, op := Op.call { callee := Callee.builtin Builtin.len, args := #[Operand.tmp 8], argTypes := #[56] }, type := 3, pos := "image.go:95", after := #[{ on := 5, ground := Ground.data }, { on := 3, ground := Ground.guard }], guard := some (3, true) }) (v := ?v7) rfl (by kernel_rfl) (by kernel_rfl) (by kernel_rfl) (fun _ _ _ h => h) (Or.inl ⟨by rfl, ?hy7⟩) (by assumption) ?_
  case hy7 => intro w hSw; (try dsimp only at hSw); go_simp; (try with_reducible rfl)
  try simp only [Act.put, List.setIfInBounds_toArray, List.set_cons_zero, List.set_cons_succ]
  refine wpAnyH_take (i := 7) (oi := { dst := some 10, op := Op.binOp BinOp.geq 3 (Operand.tmp 9) (Operand.const (Value.int IntKind.i64 5)) 3, type := 4, pos := "image.go:95", after := #[{ on := 6, ground := Ground.data }, { on := 3, ground := Ground.guard }], guard := some (3, true) }) (v := ?v8) rfl (by kernel_rfl) (by kernel_rfl) (by kernel_rfl) (fun _ _ _ h => h) (Or.inl ⟨by rfl, ?hy8⟩) (by assumption) ?_
  case hy8 => intro w hSw; (try dsimp only at hSw); go_simp; (try with_reducible rfl)
  try simp only [Act.put, List.setIfInBounds_toArray, List.set_cons_zero, List.set_cons_succ]
  refine wpAnyH_take (i := 8) (oi := { dst := some 11, op := Op.pick (Operand.tmp 6) (Operand.tmp 10) (Operand.const (Value.bool false)), type := 4, pos := "image.go:95", after := #[{ on := 3, ground := Ground.data }, { on := 7, ground := Ground.data }], guard := none }) (v := ?v9) rfl (by kernel_rfl) (by kernel_rfl) (by kernel_rfl) (fun _ _ _ h => h) (Or.inl ⟨by rfl, ?hy9⟩) (by assumption) ?_
  case hy9 => intro w hSw; (try dsimp only at hSw); go_simp; (try with_reducible rfl)
  try simp only [Act.put, List.setIfInBounds_toArray, List.set_cons_zero, List.set_cons_succ]
  refine wpAnyH_take (i := 9) (oi := { dst := some 12, op := Op.move (Operand.tmp 11), type := 4, pos := "image.go:95", after := #[{ on := 8, ground := Ground.data }, { on := 3, ground := Ground.chain }], guard := none }) (v := ?v10) rfl (by kernel_rfl) (by kernel_rfl) (by kernel_rfl) (fun _ _ _ h => h) (Or.inl ⟨by rfl, ?hy10⟩) (by assumption) ?_
  case hy10 => intro w hSw; (try dsimp only at hSw); go_simp; (try with_reducible rfl)
  try simp only [Act.put, List.setIfInBounds_toArray, List.set_cons_zero, List.set_cons_succ]
  refine wpAnyH_take (i := 10) (oi := { dst := some 13, op := Op.fieldAddr 64 (Operand.tmp 1) 4, type := 0, pos := "image.go:95", after := #[{ on := 9, ground := Ground.guard }], guard := some (9, true) }) (v := ?v11) rfl (by kernel_rfl) (by kernel_rfl) (by kernel_rfl) (fun _ _ _ h => h) (Or.inl ⟨by rfl, ?hy11⟩) (by assumption) ?_
  case hy11 => intro w hSw; (try dsimp only at hSw); go_simp; (try with_reducible rfl)
  try simp only [Act.put, List.setIfInBounds_toArray, List.set_cons_zero, List.set_cons_succ]
  refine wpAnyH_take (i := 11) (oi := { dst := some 14, op := Op.load 56 (Operand.tmp 13), type := 56, pos := "image.go:95", after := #[{ on := 10, ground := Ground.data }, { on := 9, ground := Ground.guard }], guard := some (9, true) }) (v := ?v12) rfl (by kernel_rfl) (by kernel_rfl) (by kernel_rfl) (fun _ _ _ h => h) (Or.inl ⟨by rfl, ?hy12⟩) (by assumption) ?_
  case hy12 => intro w hSw; (try dsimp only at hSw); go_simp; (try with_reducible rfl)
  try simp only [Act.put, List.setIfInBounds_toArray, List.set_cons_zero, List.set_cons_succ]
  refine wpAnyH_take (i := 12) (oi := { dst := some 15, op := Op.indexAddr 56 (Operand.tmp 14) (Operand.const (Value.int IntKind.i64 3)), type := 0, pos := "image.go:95", after := #[{ on := 11, ground := Ground.data }, { on := 9, ground := Ground.guard }], guard := some (9, true) }) (v := ?v13) rfl (by kernel_rfl) (by kernel_rfl) (by kernel_rfl) (fun _ _ _ h => h) (Or.inl ⟨by rfl, ?hy13⟩) (by assumption) ?_
  case hy13 => intro w hSw; (try dsimp only at hSw); go_simp; (try with_reducible rfl)
  try simp only [Act.put, List.setIfInBounds_toArray, List.set_cons_zero, List.set_cons_succ]
  refine wpAnyH_take (i := 13) (oi := { dst := some 16, op := Op.load 54 (Operand.tmp 15), type := 54, pos := "image.go:95", after := #[{ on := 12, ground := Ground.data }, { on := 9, ground := Ground.guard }], guard := some (9, true) }) (v := ?v14) rfl (by kernel_rfl) (by kernel_rfl) (by kernel_rfl) (fun _ _ _ h => h) (Or.inl ⟨by rfl, ?hy14⟩) (by assumption) ?_
  case hy14 => intro w hSw; (try dsimp only at hSw); go_simp; (try with_reducible rfl)
  try simp only [Act.put, List.setIfInBounds_toArray, List.set_cons_zero, List.set_cons_succ]
  refine wpAnyH_take (i := 14) (oi := { dst := some 17, op := Op.fieldAddr 64 (Operand.tmp 1) 4, type := 0, pos := "image.go:95", after := #[{ on := 9, ground := Ground.guard }], guard := some (9, true) }) (v := ?v15) rfl (by kernel_rfl) (by kernel_rfl) (by kernel_rfl) (fun _ _ _ h => h) (Or.inl ⟨by rfl, ?hy15⟩) (by assumption) ?_
  case hy15 => intro w hSw; (try dsimp only at hSw); go_simp; (try with_reducible rfl)
  try simp only [Act.put, List.setIfInBounds_toArray, List.set_cons_zero, List.set_cons_succ]
  refine wpAnyH_take (i := 15) (oi := { dst := some 18, op := Op.load 56 (Operand.tmp 17), type := 56, pos := "image.go:95", after := #[{ on := 14, ground := Ground.data }, { on := 9, ground := Ground.guard }], guard := some (9, true) }) (v := ?v16) rfl (by kernel_rfl) (by kernel_rfl) (by kernel_rfl) (fun _ _ _ h => h) (Or.inl ⟨by rfl, ?hy16⟩) (by assumption) ?_
  case hy16 => intro w hSw; (try dsimp only at hSw); go_simp; (try with_reducible rfl)
  try simp only [Act.put, List.setIfInBounds_toArray, List.set_cons_zero, List.set_cons_succ]
  refine wpAnyH_take (i := 16) (oi := { dst := some 19, op := Op.indexAddr 56 (Operand.tmp 18) (Operand.const (Value.int IntKind.i64 4)), type := 0, pos := "image.go:95", after := #[{ on := 15, ground := Ground.data }, { on := 9, ground := Ground.guard }], guard := some (9, true) }) (v := ?v17) rfl (by kernel_rfl) (by kernel_rfl) (by kernel_rfl) (fun _ _ _ h => h) (Or.inl ⟨by rfl, ?hy17⟩) (by assumption) ?_
  case hy17 => intro w hSw; (try dsimp only at hSw); go_simp; (try with_reducible rfl)
  try simp only [Act.put, List.setIfInBounds_toArray, List.set_cons_zero, List.set_cons_succ]
  refine wpAnyH_take (i := 17) (oi := { dst := some 20, op := Op.load 54 (Operand.tmp 19), type := 54, pos := "image.go:95", after := #[{ on := 16, ground := Ground.data }, { on := 9, ground := Ground.guard }], guard := some (9, true) }) (v := ?v18) rfl (by kernel_rfl) (by kernel_rfl) (by kernel_rfl) (fun _ _ _ h => h) (Or.inl ⟨by rfl, ?hy18⟩) (by assumption) ?_
  case hy18 => intro w hSw; (try dsimp only at hSw); go_simp; (try with_reducible rfl)
  try simp only [Act.put, List.setIfInBounds_toArray, List.set_cons_zero, List.set_cons_succ]
  refine wpAnyH_ready (rs := [18]) (by kernel_rfl) (by simp) ?_
  refine AllReadyH.cons (o := { dst := some 21, op := Op.call { callee := Callee.value (Operand.func 128), args := #[Operand.tmp 16, Operand.tmp 20], argTypes := #[54, 54] }, type := 4, pos := "image.go:95", after := #[{ on := 13, ground := Ground.data }, { on := 17, ground := Ground.data }, { on := 9, ground := Ground.chain }, { on := 9, ground := Ground.guard }], guard := some (9, true) }) rfl (fun K hK => ?_) AllReadyH.nil
  go_simp; go_at_call 128; with_reducible refine (hsh _).mono ?_
  rintro e u2 ⟨rfl, hb2⟩
  have hS2 := HOLD.out u2 hb2
  have HB2 := Lib.hid hb2
  clear hb2
  dsimp only
  refine hK.out _ _ ?_ (fun hH1 => ?_)
  · (try dsimp only); exact hS2
  clear hK K
  clear hH0
  try simp only [Act.put, List.setIfInBounds_toArray, List.set_cons_zero, List.set_cons_succ]
  refine wpAnyH_take (i := 19) (oi := { dst := some 22, op := Op.pick (Operand.tmp 12) (Operand.tmp 21) (Operand.const (Value.bool false)), type := 4, pos := "image.go:95", after := #[{ on := 9, ground := Ground.data }, { on := 18, ground := Ground.data }], guard := none }) (v := ?v20) rfl (by kernel_rfl) (by kernel_rfl) (by kernel_rfl) (fun _ _ _ h => h) (Or.inl ⟨by rfl, ?hy20⟩) (by assumption) ?_
  case hy20 => intro w hSw; (try dsimp only at hSw); go_simp; (try with_reducible rfl)
  try simp only [Act.put, List.setIfInBounds_toArray, List.set_cons_zero, List.set_cons_succ]
  refine wpAnyH_take (i := 20) (oi := { dst := some 2, op := Op.assign (Operand.tmp 22), type := 4, pos := "image.go:95", after := #[{ on := 19, ground := Ground.data }, { on := 18, ground := Ground.chain }, { on := 0, ground := Ground.phase }, { on := 1, ground := Ground.phase }, { on := 2, ground := Ground.phase }, { on := 3, ground := Ground.phase }, { on := 4, ground := Ground.phase }, { on := 5, ground := Ground.phase }, { on := 6, ground := Ground.phase }, { on := 7, ground := Ground.phase }, { on := 8, ground := Ground.phase }, { on := 9, ground := Ground.phase }, { on := 10, ground := Ground.phase }, { on := 11, ground := Ground.phase }, { on := 12, ground := Ground.phase }, { on := 13, ground := Ground.phase }, { on := 14, ground := Ground.phase }, { on := 15, ground := Ground.phase }, { on := 16, ground := Ground.phase }, { on := 17, ground := Ground.phase }, { on := 18, ground := Ground.phase }, { on := 19, ground := Ground.phase }], guard := none }) (v := ?v21) rfl (by kernel_rfl) (by kernel_rfl) (by kernel_rfl) (fun _ _ _ h => h) (Or.inl ⟨by rfl, ?hy21⟩) (by assumption) ?_
  case hy21 => intro w hSw; (try dsimp only at hSw); go_simp; (try with_reducible rfl)
  try simp only [Act.put, List.setIfInBounds_toArray, List.set_cons_zero, List.set_cons_succ]
  refine wpAnyH_done (by kernel_rfl) ?_ _
  go_wp2_with fail
  go_ret
  exact ⟨rfl, (hb _).trans ((below_drew' HB2.out).mono (by simp))⟩
end
end Go.Proofs.YtoklohfpkaiidaaGreat.Obj
