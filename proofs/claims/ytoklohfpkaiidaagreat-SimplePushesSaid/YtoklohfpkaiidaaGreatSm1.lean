/- Instructions that push a number. -/
import Derived.Test.YtoklohfpkaiidaaGreatFr9
import Derived.WalkMore
namespace Go.Proofs.YtoklohfpkaiidaaGreat.Obj
open Go.Proofs.YtoklohfpkaiidaaGreat.Gen Go.Proofs.YtoklohfpkaiidaaGreat.Base Go.ChangeShapes Go.WideShapes Go.ChangeAt Go.RowKit
set_option linter.unusedVariables false
theorem wpl_load_rowG {P : Program} {ops : Array Oper} {rest : List Oper} {o : Oper} {a : Act} {w : World} {Q : Exit → Act → World → Prop} (hgd : Region.wanted o (yielded ops a.tmps) = true) (ty : TypeId) (x : Operand) (ho : o.op = .load ty x)
    (g : Nat) (hx : a.eval x = .pointer (some ⟨g, 0, none⟩)) (t : TypeId) (cs : Array Value) (fr : Nat × Nat) (d : TypeDesc) (hg : w.heap[g]? = some (.cells cs t fr))
    (hu : P.underlying ty = some d) (hd : (match d with | .struct _ | .array _ _ => true | _ => false) = true) (hi : (P.info? ty).map (·.size) = some cs.size)
    (h : wpList P ops Q rest (a.put o.dst (.agg cs)) w) : wpList P ops Q (o :: rest) a w :=
  wpList_step fun K hK => by rw [if_pos hgd]; exact wp_load_row ty x ho g hx t cs fr d hg hu hd hi (hK _ _ h)
section
variable {w u : World} {m li : Nat} {lv dv lv' dv' : Value} {M M2 : MS} {b0 b1 : Bool}
/-- The world of Do: the instruction and a value in new memory. -/
def doW (w : World) (x0 x1 x2 : Int) : World := (w.alloc (.cells #[.int .i64 x0, .int .i64 x1, .int .i64 x2] 61)).alloc (.cells #[.bool false, .int .i64 0] 54)
structure DoS (w u : World) (x0 x1 x2 : Int) (vb : Bool) (vn : Int) : Prop where
  bel : Below w.heap.size w u
  size : w.heap.size + 2 ≤ u.heap.size
  ins : u.heap[w.heap.size]? = some (.cells #[.int .i64 x0, .int .i64 x1, .int .i64 x2] 61 (0, 0))
  val : u.heap[w.heap.size + 1]? = some (.cells #[.bool vb, .int .i64 vn] 54 (0, 0))
theorem DoS.start (w : World) (x0 x1 x2 : Int) : DoS w ((w.alloc (.cells #[.int .i64 x0, .int .i64 x1, .int .i64 x2] 61)).alloc (.cells #[.bool false, .int .i64 0] 54)) x0 x1 x2 false 0 :=
  ⟨((Below.refl _ _).alloc (Nat.le_refl _) _).alloc (by simp) _, by simp, (heap_alloc_old _ _ (by simp)).trans (heap_alloc_new w _), by have := heap_alloc_new (w.alloc (.cells #[.int .i64 x0, .int .i64 x1, .int .i64 x2] 61)) (.cells #[.bool false, .int .i64 0] 54); simpa using this⟩
theorem DoS.more {x0 x1 x2 vn : Int} {vb : Bool} {v : World} (h : DoS w u x0 x1 x2 vb vn) (hb : Below u.heap.size u v) : DoS w v x0 x1 x2 vb vn :=
  ⟨h.bel.trans (hb.mono h.bel.size), by have := h.size; have := hb.size; omega, (hb.block _ (by have := h.size; omega)).trans h.ins, (hb.block _ (by have := h.size; omega)).trans h.val⟩
theorem DoS.put {x0 x1 x2 vn : Int} {vb : Bool} (h : DoS w u x0 x1 x2 vb vn) (vb' : Bool) (vn' : Int) : DoS w (u.setRow (w.heap.size + 1) #[.bool vb', .int .i64 vn']) x0 x1 x2 vb' vn' :=
  ⟨⟨h.bel.os, h.bel.tape, h.bel.output, by have := h.bel.size; simp [World.setRow]; omega, fun k hk => (setRow_other u _ k _ (by omega)).trans (h.bel.block k hk)⟩, by have := h.size; simp [World.setRow]; omega, (setRow_other u _ _ _ (by omega)).trans h.ins, setRow_heap _ _ _ _ _ _ h.val⟩
theorem DoS.c0 {x0 x1 x2 vn : Int} {vb : Bool} (h : DoS w u x0 x1 x2 vb vn) : u.cell? ⟨w.heap.size, 0, none⟩ = some (.int .i64 x0) := by rw [cell_row u _ 0 _ _ _ h.ins]; rfl
theorem DoS.c1 {x0 x1 x2 vn : Int} {vb : Bool} (h : DoS w u x0 x1 x2 vb vn) : u.cell? ⟨w.heap.size, 1, none⟩ = some (.int .i64 x1) := by rw [cell_row u _ 1 _ _ _ h.ins]; rfl
theorem DoS.c2 {x0 x1 x2 vn : Int} {vb : Bool} (h : DoS w u x0 x1 x2 vb vn) : u.cell? ⟨w.heap.size, 2, none⟩ = some (.int .i64 x2) := by rw [cell_row u _ 2 _ _ _ h.ins]; rfl
set_option maxHeartbeats 2000000 in
set_option maxRecDepth 100000 in
theorem sm_Do_int (h : MemAt w m li lv dv M) {q sn mn bn : Int} (hI : M.isF q sn mn bn) (x b : Int) (hx : 0 ≤ x ∧ x ≤ 255) {pb : Bool}
    (hP : ∀ u, Below w.heap.size w u → Calls Tryz.prog 51 #[.pointer (some ⟨m, 0, none⟩), .int .i64 q, .agg #[.bool false, .int .i64 (x - 128)]] u fun e w' => e = .returned (.bool pb) ∧ MemAt w' m li lv' dv' M2 ∧ Nx (ownM m li lv dv M) u (ownM m li lv' dv' M2) w') :
    Calls Tryz.prog 23 #[.pointer (some ⟨m, 0, none⟩), .int .i64 q, .agg #[.int .i64 9, .int .i64 x, .int .i64 b]] w fun e w' => e = .returned (.bool pb) ∧ MemAt w' m li lv' dv' M2 ∧ Nx (ownM m li lv dv M) w (ownM m li lv' dv' M2) w' := by
  have HIS := Lib.hid fun u (hb : Below w.heap.size w u) => fr_Is (h.below hb) hI
  have HP : Hid (∀ u, Below w.heap.size w u → Calls Tryz.prog 51 #[.pointer (some ⟨m, 0, none⟩), .int .i64 q, .agg #[.bool false, .int .i64 (x - 128)]] u fun e w' => e = .returned (.bool pb) ∧ MemAt w' m li lv' dv' M2 ∧ Nx (ownM m li lv dv M) w (ownM m li lv' dv' M2) w') := Lib.hid fun u hb => (hP u hb).mono fun e w' ⟨h1, h2, h3⟩ => ⟨h1, h2, nx_bel hb h3⟩
  have HD0 := Lib.hid (DoS.start w 9 x b)
  have HDZ := Lib.hid ((DoS.start w 9 x b).put false 0)
  have hz := zV
  have wr : IntKind.i64.wrap (x - 128) = x - 128 := IntWalk.i64_in _ ⟨by omega, by omega⟩
  clear h hI hP
  go_enter Tryz.func23, Tryz.ntmps23
  go_wp2_with fail
  refine wp_scope_gotos 1 ?_
  generalize hQ : gotoN _ _ 1 _ = Q1
  have HQ1 := Lib.hid hQ; clear hQ
  go_wp2_with (first
    | (refine wpList_store_row rfl 54 (Operand.tmp 7) (Operand.tmp 9) rfl (w.heap.size + 1) #[.bool false, .int .i64 0] rfl rfl _ _ HD0.out.val info2 (by rfl) (by simp [Value.oneCell']) ?_)
    | (go_at_call 41; (with_reducible refine (HIS.out _ HDZ.out.bel).mono ?_); rintro e u1 ⟨rfl, hb1⟩; have HD1 := Lib.hid (HDZ.out.more hb1); have y0 := HD1.out.c0; have y1 := HD1.out.c1; clear hb1; dsimp only)
    | (refine wpList_store_row rfl 54 (Operand.tmp 7) (Operand.tmp 81) rfl (w.heap.size + 1) #[.bool false, .int .i64 (x - 128)] rfl rfl _ _ HD1.out.val info2 (by rfl) (by simp [Value.oneCell']) ?_))
  have HD2 := Lib.hid (HD1.out.put false (x - 128))
  apply wp_goto
  rw [← HQ1.out]
  refine gotoN_goto rfl ?_
  generalize hQ : gotoN _ _ 0 _ = Q0
  have HQ0 := Lib.hid hQ; clear hQ
  clear HQ1 y0 y1
  go_wp2_with (first
    | (refine wpl_load_rowG (by rfl) 54 (Operand.tmp 7) (by rfl) (w.heap.size + 1) (by rfl) _ _ (0, 0) _ HD2.out.val Tryz.underlying54 rfl info2 ?_)
    | (go_at_call 51; (with_reducible refine (HP.out _ HD2.out.bel).mono ?_); rintro e u2 ⟨rfl, hM2, hN2⟩; have HM := Lib.hid hM2; have HN := Lib.hid hN2; clear hM2 hN2; dsimp only))
  rw [← HQ0.out]
  try simp only [gotoN_ret]
  go_ret
  exact ⟨rfl, HM.out, HN.out⟩
end
end Go.Proofs.YtoklohfpkaiidaaGreat.Obj
