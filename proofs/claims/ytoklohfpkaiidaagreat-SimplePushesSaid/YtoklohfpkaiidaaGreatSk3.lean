/- Frames: Next and Go. -/
/- A new block; a jump. -/
/- Instructions: jump, block, array, self, temp, frame. -/
/- SimpleBlocks: its world and its calls. -/
import Derived.Test.YtoklohfpkaiidaaGreatFr9
import Derived.Test.YtoklohfpkaiidaaGreatFg2
import Derived.Test.YtoklohfpkaiidaaGreatSm4
import Derived.Test.YtoklohfpkaiidaaGreatSf8
import Derived.Test.YtoklohfpkaiidaaGreatTh3
import Derived.Test.YtoklohfpkaiidaaGreatB6
namespace Go.Proofs.YtoklohfpkaiidaaGreat.Obj
open Go.Proofs.YtoklohfpkaiidaaGreat.Gen Go.Proofs.YtoklohfpkaiidaaGreat.Base Go.ChangeShapes Go.WideShapes Go.ChangeAt Go.RowKit
set_option linter.unusedVariables false
theorem may_num (M : MS) (n : Int) (h : fits n = true) : M.may (false, n) = true := by unfold MS.may; rw [if_neg (by simp)]; exact h
section
variable {w u : World} {m li : Nat} {lv dv : Value} {M : MS}
set_option maxRecDepth 100000 in
theorem fr_Go (h : MemAt w m li lv dv M) {q : Nat} {sn mn bn : Int} (hI : M.isF q sn mn bn) {b : Bd} (hb : M.bs[q]? = some b) (hF : b.F.length = 22) (hhas : M.has q = true) {pc : Int} (hp : 0 ≤ pc ∧ pc ≤ 60) :
    Calls Tryz.prog 92 #[.pointer (some ⟨m, 0, none⟩), .int .i64 (q : Int), .int .i64 pc] w fun e w' => e = .returned (.bool true) ∧ MemAt w' m li lv dv (M.put q 1 (false, pc)) ∧ Nx (ownM m li lv dv M) w (ownM m li lv dv (M.put q 1 (false, pc))) w' := by
  have hz := zV
  have hIs := fr_Is h hI
  have HS1 : Hid (∀ u, Below w.heap.size w u → Calls Tryz.prog 89 #[.pointer (some ⟨m, 0, none⟩), .int .i64 (q : Int), .int .i64 1, .agg #[.bool false, .int .i64 pc]] u fun e w' => e = .returned (.bool true) ∧ MemAt w' m li lv dv (M.put q 1 (false, pc)) ∧ Nx (ownM m li lv dv M) u (ownM m li lv dv (M.put q 1 (false, pc))) w') := Lib.hid fun u hu => by
    have := me_Set_yes (h.below hu) q 1 b false pc hb (by omega) hhas (may_num M _ (by unfold fits; exact decide_eq_true (by omega))) rfl
    exact this
  obtain ⟨p0, p1⟩ := hp
  clear h hI hb hF hhas
  go_enter Tryz.func92, Tryz.ntmps92
  go_wp2_with (first
    | (go_at_call 41; (with_reducible refine hIs.mono ?_); rintro e a1 ⟨rfl, hb1⟩; have HB := Lib.hid hb1; clear hb1; dsimp only)
    | (go_at_call 89; (with_reducible refine (HS1.out _ HB.out).mono ?_); rintro e a6 ⟨rfl, hM6, hN6⟩; have HM6 := Lib.hid hM6; have HN6 := Lib.hid (nx_bel HB.out hN6); clear hM6 hN6; dsimp only))
  go_ret
  exact ⟨rfl, HM6.out, HN6.out⟩
set_option maxRecDepth 100000 in
theorem fr_Go_no (h : MemAt w m li lv dv M) {q : Nat} {sn mn bn : Int} (hI : M.isF q sn mn bn) {pc : Int} (hp : pc < 0 ∨ 60 < pc) :
    Calls Tryz.prog 92 #[.pointer (some ⟨m, 0, none⟩), .int .i64 (q : Int), .int .i64 pc] w fun e w' => e = .returned (.bool false) ∧ Below w.heap.size w w' := by
  have hIs := fr_Is h hI
  clear h hI
  rcases hp with hp | hp
  · have p0 : ¬ 0 ≤ pc := by omega
    go_enter Tryz.func92, Tryz.ntmps92
    go_wp2_with (go_at_call 41; (with_reducible refine hIs.mono ?_); rintro e a1 ⟨rfl, hb1⟩; have HB := Lib.hid hb1; clear hb1; dsimp only)
    go_ret
    exact ⟨rfl, HB.out⟩
  · have p0 : 0 ≤ pc := by omega
    have p1 : ¬ pc ≤ 60 := by omega
    go_enter Tryz.func92, Tryz.ntmps92
    go_wp2_with (go_at_call 41; (with_reducible refine hIs.mono ?_); rintro e a1 ⟨rfl, hb1⟩; have HB := Lib.hid hb1; clear hb1; dsimp only)
    go_ret
    exact ⟨rfl, HB.out⟩
end
end Go.Proofs.YtoklohfpkaiidaaGreat.Obj

namespace Go.Proofs.YtoklohfpkaiidaaGreat.Obj
open Go.Proofs.YtoklohfpkaiidaaGreat.Gen Go.Proofs.YtoklohfpkaiidaaGreat.Base Go.ChangeShapes Go.WideShapes Go.ChangeAt Go.RowKit
set_option linter.unusedVariables false
section
variable {w u : World} {m li : Nat} {lv dv : Value} {M : MS}
def bkF (q x y pc : Int) : List V := [(true, q), (false, x), (false, y), (false, pc)]
theorem insW (w : World) (x0 x1 x2 : Int) : (w.alloc (.cells #[.int .i64 x0, .int .i64 x1, .int .i64 x2] 61)).cell? ⟨w.heap.size, 0, none⟩ = some (.int .i64 x0) ∧ (w.alloc (.cells #[.int .i64 x0, .int .i64 x1, .int .i64 x2] 61)).cell? ⟨w.heap.size, 1, none⟩ = some (.int .i64 x1) ∧ (w.alloc (.cells #[.int .i64 x0, .int .i64 x1, .int .i64 x2] 61)).cell? ⟨w.heap.size, 2, none⟩ = some (.int .i64 x2) := ⟨new_cell _ _ _ rfl, new_cell _ _ _ rfl, new_cell _ _ _ rfl⟩
set_option maxHeartbeats 2000000 in
set_option maxRecDepth 100000 in
theorem sm_Jump (h : MemAt w m li lv dv M) {q : Nat} {at_ x0 : Int} (ha : 0 ≤ at_ ∧ at_ ≤ 60) {M2 : MS}
    (hG : ∀ u, Below w.heap.size w u → Calls Tryz.prog 92 #[.pointer (some ⟨m, 0, none⟩), .int .i64 q, .int .i64 at_] u fun e w' => e = .returned (.bool true) ∧ MemAt w' m li lv dv M2 ∧ Nx (ownM m li lv dv M) u (ownM m li lv dv M2) w') :
    Calls Tryz.prog 49 #[.pointer (some ⟨m, 0, none⟩), .int .i64 q, .agg #[.int .i64 x0, .int .i64 0, .int .i64 at_]] w fun e w' => e = .returned (.bool true) ∧ MemAt w' m li lv dv M2 ∧ Nx (ownM m li lv dv M) w (ownM m li lv dv M2) w' := by
  have hb0 : Below w.heap.size w (w.alloc (.cells #[.int .i64 x0, .int .i64 0, .int .i64 at_] 61)) := (Below.refl _ _).alloc (Nat.le_refl _) _
  have HG := Lib.hid ((hG _ hb0).mono fun e w' ⟨h1, h2, h3⟩ => (⟨h1, h2, nx_bel hb0 h3⟩ : _ ∧ _ ∧ Nx (ownM m li lv dv M) w (ownM m li lv dv M2) w'))
  obtain ⟨c0, c1, c2⟩ := insW w x0 0 at_
  have s1 : bits .and .i64 at_ 255 = at_ := by have := i64_mask 8 at_ (by omega); rw [show ((2 ^ 8 - 1 : Nat) : Int) = 255 from rfl, show ((2 ^ 8 : Nat) : Int) = 256 from rfl] at this; rw [this]; omega
  have s2 : at_ / 256 = 0 := by omega
  clear h hG hb0
  go_enter Tryz.func49, Tryz.ntmps49
  go_wp2_with (go_at_call 92; (with_reducible refine HG.out.mono ?_); rintro e u2 ⟨rfl, hM2, hN2⟩; have HM := Lib.hid hM2; have HN := Lib.hid hN2; clear hM2 hN2; dsimp only)
  go_ret
  exact ⟨rfl, HM.out, HN.out⟩
/-- A new block. -/
structure Bk (w u : World) (op x y : Int) : Prop where
  size : w.heap.size + 2 ≤ u.heap.size
  ins : u.heap[w.heap.size]? = some (.cells #[.int .i64 op, .int .i64 x, .int .i64 y] 61 (0, 0))
  val : u.heap[w.heap.size + 1]? = some (.cells #[.bool false, .int .i64 0] 54 (0, 0))
theorem Bk.start (w : World) (op x y : Int) : Bk w ((w.alloc (.cells #[.int .i64 op, .int .i64 x, .int .i64 y] 61)).alloc (.cells #[.bool false, .int .i64 0] 54)) op x y :=
  ⟨by simp, (heap_alloc_old _ _ (by simp)).trans (heap_alloc_new w _), by have := heap_alloc_new (w.alloc (.cells #[.int .i64 op, .int .i64 x, .int .i64 y] 61)) (.cells #[.bool false, .int .i64 0] 54); simpa using this⟩
theorem Bk.more {op x y : Int} {v : World} (h : Bk w u op x y) (hb : Below u.heap.size u v) : Bk w v op x y :=
  ⟨by have := h.size; have := hb.size; omega, (hb.block _ (by have := h.size; omega)).trans h.ins, (hb.block _ (by have := h.size; omega)).trans h.val⟩
theorem Bk.nx {op x y : Int} {v : World} {P R : Nat → Prop} (h : Bk w u op x y) (hN : Nx P u R v) (hP : ∀ k, P k → k ≠ w.heap.size ∧ k ≠ w.heap.size + 1) : Bk w v op x y :=
  ⟨Nat.le_trans h.size hN.size, (hN.block _ (by have := h.size; omega) fun c => (hP _ c).1 rfl).trans h.ins, (hN.block _ (by have := h.size; omega) fun c => (hP _ c).2 rfl).trans h.val⟩
theorem Bk.c {op x y : Int} (h : Bk w u op x y) : u.cell? ⟨w.heap.size, 1, none⟩ = some (.int .i64 x) ∧ u.cell? ⟨w.heap.size, 2, none⟩ = some (.int .i64 y) := ⟨cell_row _ _ 1 _ _ _ h.ins, cell_row _ _ 2 _ _ _ h.ins⟩
/-- What a call within keeps: the memory, its own blocks beside the two new ones, all that was there. -/
structure Bq (w u : World) (op x y : Int) (P : Nat → Prop) (m li : Nat) (lv dv : Value) (M : MS) : Prop where
  bk : Bk w u op x y
  me : MemAt u m li lv dv M
  nx : Nx P w (ownM m li lv dv M) u
  far : ∀ k, ownM m li lv dv M k → k ≠ w.heap.size ∧ k ≠ w.heap.size + 1
theorem Bq.start {op x y : Int} (h : MemAt w m li lv dv M) : Bq w ((w.alloc (.cells #[.int .i64 op, .int .i64 x, .int .i64 y] 61)).alloc (.cells #[.bool false, .int .i64 0] 54)) op x y (ownM m li lv dv M) m li lv dv M :=
  have hb : Below w.heap.size w ((w.alloc (.cells #[.int .i64 op, .int .i64 x, .int .i64 y] 61)).alloc (.cells #[.bool false, .int .i64 0] 54)) := ((Below.refl _ _).alloc (Nat.le_refl _) _).alloc (by simp) _
  ⟨Bk.start w op x y, h.below hb, ⟨hb.os, hb.tape, hb.output, hb.size, fun k hk _ => hb.block k hk, fun k hk => .inl hk⟩, fun k hk => by have := h.lt hk; omega⟩
theorem Bq.step {op x y : Int} {P : Nat → Prop} {lv1 dv1 : Value} {M1 : MS} {v : World} (h : Bq w u op x y P m li lv dv M) (hM : MemAt v m li lv1 dv1 M1) (hN : Nx (ownM m li lv dv M) u (ownM m li lv1 dv1 M1) v) : Bq w v op x y P m li lv1 dv1 M1 :=
  ⟨h.bk.nx hN h.far, hM, h.nx.trans hN, fun k hk => by
    rcases hN.own k hk with c | c
    · exact h.far k c
    · have := h.bk.size; omega⟩
theorem Bq.below {op x y : Int} {P : Nat → Prop} {v : World} (h : Bq w u op x y P m li lv dv M) (hb : Below u.heap.size u v) : Bq w v op x y P m li lv dv M :=
  h.step (h.me.below hb) ⟨hb.os, hb.tape, hb.output, hb.size, fun k hk _ => hb.block k hk, fun k hk => .inl hk⟩
theorem Bq.put {op x y : Int} {P : Nat → Prop} (h : Bq w u op x y P m li lv dv M) (cs : Array Value) : MemAt (u.setRow (w.heap.size + 1) cs) m li lv dv M ∧ Nx P w (ownM m li lv dv M) (u.setRow (w.heap.size + 1) cs) :=
  ⟨h.me.keep fun k hk => setRow_other u _ k _ (h.far k hk).2, h.nx.os, h.nx.tape, h.nx.output, by have := h.nx.size; simp [World.setRow]; omega, fun k hk hn => (setRow_other u _ k _ (by omega)).trans (h.nx.block k hk hn), h.nx.own⟩
theorem sm_thing (w : World) (v : Int) : Calls Tryz.prog 45 #[.int .i64 v] w fun e w' => e = .returned (.agg #[.bool true, .int .i64 v]) ∧ Below w.heap.size w w' := by
  have hz := zV
  go_enter Tryz.func45, Tryz.ntmps45
  go_wp2_with fail
  refine bodyPost_ret (v := .agg #[.bool true, .int .i64 v]) ?_ rfl ⟨rfl, (Below.refl _ _).alloc (Nat.le_refl _) _⟩
  exact results_cell_row rfl _ _ w.heap.size _ #[.bool true, .int .i64 v] _ _ (by rfl) (heap_alloc_new w _) Tryz.underlying54 rfl info2
set_option maxHeartbeats 2000000 in
set_option maxRecDepth 100000 in
theorem sm_block (h : MemAt w m li lv dv M) {q : Nat} (hq : M.has q = true) (hc : M.isClass 13 = true) {own : Int} (hs : M.shape 13 = (own, 1)) (h0 : 0 ≤ own ∧ own ≤ 4) (hlast : 0 ≤ M.last ∧ M.last < 3000) (hlen : M.bs.length ≤ 3000) {op x y pc : Int} {pb : Bool} (hx : 0 ≤ x ∧ x ≤ y ∧ y ≤ 8) (hpc : M.get q 1 = (pb, pc)) (hp : 0 ≤ pc ∧ pc ≤ 1000) :
    Calls Tryz.prog 46 #[.pointer (some ⟨m, 0, none⟩), .int .i64 q, .agg #[.int .i64 op, .int .i64 x, .int .i64 y]] w fun e w' => e = .returned (.tuple #[.agg #[.bool true, .int .i64 (M.bs.length : Int)], .bool true]) ∧ ∃ lv' dv' fv, MemAt w' m li lv' dv' (M.mkF 13 1 (bkF q x y (pc + 1)) fv) ∧ Nx (ownM m li lv dv M) w (ownM m li lv' dv' (M.mkF 13 1 (bkF q x y (pc + 1)) fv)) w' := by
  have hz := zV
  have hl := h.len
  have hvn := val_N
  have HFM : Hid (∀ u, MemAt u m li lv dv M → Calls Tryz.prog 88 #[.pointer (some ⟨m, 0, none⟩), .int .i64 13, .int .i64 4] u fun e w' => e = .returned (.tuple #[.int .i64 (M.bs.length : Int), .bool true]) ∧ ∃ lv' dv' fv, MemAt w' m li lv' dv' (M.mkF 13 1 (nilF 4) fv) ∧ Nx (ownM m li lv dv M) u (ownM m li lv' dv' (M.mkF 13 1 (nilF 4) fv)) w') := Lib.hid fun u hu => by
    have := fr_Make hu hc hs (k := 4) (by omega) (by omega) (by omega) hlast hlen
    rw [hl] at this
    exact this
  have HST : Hid (∀ (G : List V) (k : Nat) (vb : Bool) (vn : Int) (lv' dv' fv : Value), k < 4 → G.length = 4 → (elV G 3).1 = true → M.may (vb, vn) = true → ∀ u, MemAt u m li lv' dv' (M.mkF 13 1 G fv) → Calls Tryz.prog 89 #[.pointer (some ⟨m, 0, none⟩), .int .i64 (M.bs.length : Int), .int .i64 (k : Int), .agg #[.bool vb, .int .i64 vn]] u fun e w' => e = .returned (.bool true) ∧ MemAt w' m li lv' dv' (M.mkF 13 1 (G.set k (vb, vn)) fv) ∧ Nx (ownM m li lv' dv' (M.mkF 13 1 G fv)) u (ownM m li lv' dv' (M.mkF 13 1 (G.set k (vb, vn)) fv)) w') := Lib.hid fun G k vb vn lv' dv' fv hk hG h3 hm u hu => by
    have := me_Set_yes hu M.bs.length k _ vb vn (mkF_at M) (by rw [hG]; omega) (mkF_has M hl) (mkF_may M hm) (mkF_noclass M hl h3 _ _)
    rw [mkF_put, Int.toNat_natCast] at this
    exact this
  have HGT : Hid (∀ lv' dv' fv G u, MemAt u m li lv' dv' (M.mkF 13 1 G fv) → Calls Tryz.prog 24 #[.pointer (some ⟨m, 0, none⟩), .int .i64 q, .int .i64 1] u fun e w' => e = .returned (.agg #[.bool pb, .int .i64 pc]) ∧ Below u.heap.size u w') := Lib.hid fun lv' dv' fv G u hu => by
    have := me_Get2 hu (q : Int) 1
    rw [mkF_getO hl hq, hpc] at this
    exact this
  have m0 : M.may (true, (q : Int)) = true := by unfold MS.may; rw [if_pos rfl]; exact hq
  have m1 : M.may (false, x) = true := may_num M x (by unfold fits; simp; omega)
  have m2 : M.may (false, y) = true := may_num M y (by unfold fits; simp; omega)
  have m3 : M.may (false, pc + 1) = true := may_num M _ (by unfold fits; simp; omega)
  have MAY := Lib.hid (And.intro m0 (And.intro m1 (And.intro m2 m3)))
  have HQ := Lib.hid (Bq.start (op := op) (x := x) (y := y) h)
  obtain ⟨c1, c2⟩ := HQ.out.bk.c
  have s1 : ¬ x < 0 := by omega
  have s2 : ¬ 8 < y := by omega
  have s3 : ¬ y < x := by omega
  have s4 : IntKind.i64.wrap (pc + 1) = pc + 1 := IntWalk.i64_in _ ⟨by omega, by omega⟩
  have HS0 : Hid (∀ (lv' dv' fv : Value) u, MemAt u m li lv' dv' (M.mkF 13 1 (nilF 4) fv) → Calls Tryz.prog 89 #[.pointer (some ⟨m, 0, none⟩), .int .i64 (M.bs.length : Int), .int .i64 0, .agg #[.bool true, .int .i64 (q : Int)]] u fun e w' => e = .returned (.bool true) ∧ MemAt w' m li lv' dv' (M.mkF 13 1 ((nilF 4).set 0 (true, (q : Int))) fv) ∧ Nx (ownM m li lv' dv' (M.mkF 13 1 (nilF 4) fv)) u (ownM m li lv' dv' (M.mkF 13 1 ((nilF 4).set 0 (true, (q : Int))) fv)) w') := Lib.hid fun lv' dv' fv u hu => HST.out (nilF 4) 0 true (q : Int) lv' dv' fv (by decide) rfl rfl MAY.out.1 u hu
  have HS1 : Hid (∀ (lv' dv' fv : Value) u, MemAt u m li lv' dv' (M.mkF 13 1 ((nilF 4).set 0 (true, (q : Int))) fv) → Calls Tryz.prog 89 #[.pointer (some ⟨m, 0, none⟩), .int .i64 (M.bs.length : Int), .int .i64 1, .agg #[.bool false, .int .i64 x]] u fun e w' => e = .returned (.bool true) ∧ MemAt w' m li lv' dv' (M.mkF 13 1 (((nilF 4).set 0 (true, (q : Int))).set 1 (false, x)) fv) ∧ Nx (ownM m li lv' dv' (M.mkF 13 1 ((nilF 4).set 0 (true, (q : Int))) fv)) u (ownM m li lv' dv' (M.mkF 13 1 (((nilF 4).set 0 (true, (q : Int))).set 1 (false, x)) fv)) w') := Lib.hid fun lv' dv' fv u hu => HST.out ((nilF 4).set 0 (true, (q : Int))) 1 false x lv' dv' fv (by decide) rfl rfl MAY.out.2.1 u hu
  have HS2 : Hid (∀ (lv' dv' fv : Value) u, MemAt u m li lv' dv' (M.mkF 13 1 (((nilF 4).set 0 (true, (q : Int))).set 1 (false, x)) fv) → Calls Tryz.prog 89 #[.pointer (some ⟨m, 0, none⟩), .int .i64 (M.bs.length : Int), .int .i64 2, .agg #[.bool false, .int .i64 y]] u fun e w' => e = .returned (.bool true) ∧ MemAt w' m li lv' dv' (M.mkF 13 1 ((((nilF 4).set 0 (true, (q : Int))).set 1 (false, x)).set 2 (false, y)) fv) ∧ Nx (ownM m li lv' dv' (M.mkF 13 1 (((nilF 4).set 0 (true, (q : Int))).set 1 (false, x)) fv)) u (ownM m li lv' dv' (M.mkF 13 1 ((((nilF 4).set 0 (true, (q : Int))).set 1 (false, x)).set 2 (false, y)) fv)) w') := Lib.hid fun lv' dv' fv u hu => HST.out (((nilF 4).set 0 (true, (q : Int))).set 1 (false, x)) 2 false y lv' dv' fv (by decide) rfl rfl MAY.out.2.2.1 u hu
  have HS3 : Hid (∀ (lv' dv' fv : Value) u, MemAt u m li lv' dv' (M.mkF 13 1 ((((nilF 4).set 0 (true, (q : Int))).set 1 (false, x)).set 2 (false, y)) fv) → Calls Tryz.prog 89 #[.pointer (some ⟨m, 0, none⟩), .int .i64 (M.bs.length : Int), .int .i64 3, .agg #[.bool false, .int .i64 (pc + 1)]] u fun e w' => e = .returned (.bool true) ∧ MemAt w' m li lv' dv' (M.mkF 13 1 (bkF q x y (pc + 1)) fv) ∧ Nx (ownM m li lv' dv' (M.mkF 13 1 ((((nilF 4).set 0 (true, (q : Int))).set 1 (false, x)).set 2 (false, y)) fv)) u (ownM m li lv' dv' (M.mkF 13 1 (bkF q x y (pc + 1)) fv)) w') := Lib.hid fun lv' dv' fv u hu => HST.out ((((nilF 4).set 0 (true, (q : Int))).set 1 (false, x)).set 2 (false, y)) 3 false (pc + 1) lv' dv' fv (by decide) rfl rfl MAY.out.2.2.2 u hu
  clear h hq hc hs hpc m0 m1 m2 m3 HST
  go_enter Tryz.func46, Tryz.ntmps46
  go_wp2_with (first
    | (go_at_call 88; (with_reducible refine (HFM.out _ HQ.out.me).mono ?_); rintro e u1 ⟨rfl, lv1, dv1, fv, hM1, hN1⟩; have HQ1 := Lib.hid (HQ.out.step hM1 hN1); have y1 := HQ1.out.bk.c.1; have y2 := HQ1.out.bk.c.2; clear hM1 hN1; dsimp only)
    | (go_at_call 45; (with_reducible refine (sm_thing _ _).mono ?_); rintro e ux ⟨rfl, hbx⟩; (first | (have HQ5 := Lib.hid (HQ5.out.below hbx); have HV := Lib.hid HQ5.out.bk.val; clear y1 y2) | (have HQ1 := Lib.hid (HQ1.out.below hbx); clear y1 y2; have y1 := HQ1.out.bk.c.1; have y2 := HQ1.out.bk.c.2)); clear hbx; dsimp only)
    | (go_at_call 89; (with_reducible refine (HS0.out _ _ _ _ HQ1.out.me).mono ?_); rintro e u2 ⟨rfl, hM1, hN1⟩; have HQ2 := Lib.hid (HQ1.out.step hM1 hN1); clear y1 y2; have y1 := HQ2.out.bk.c.1; have y2 := HQ2.out.bk.c.2; clear hM1 hN1; dsimp only)
    | (go_at_call 89; (with_reducible refine (HS1.out _ _ _ _ HQ2.out.me).mono ?_); rintro e u3 ⟨rfl, hM1, hN1⟩; have HQ3 := Lib.hid (HQ2.out.step hM1 hN1); clear y1 y2; have y1 := HQ3.out.bk.c.1; have y2 := HQ3.out.bk.c.2; clear hM1 hN1; dsimp only)
    | (go_at_call 89; (with_reducible refine (HS2.out _ _ _ _ HQ3.out.me).mono ?_); rintro e u4 ⟨rfl, hM1, hN1⟩; have HQ4 := Lib.hid (HQ3.out.step hM1 hN1); clear y1 y2; have y1 := HQ4.out.bk.c.1; have y2 := HQ4.out.bk.c.2; clear hM1 hN1; dsimp only)
    | (go_at_call 89; (with_reducible refine (HS3.out _ _ _ _ HQ4g.out.me).mono ?_); rintro e u5 ⟨rfl, hM1, hN1⟩; have HQ5 := Lib.hid (HQ4g.out.step hM1 hN1); clear y1 y2; have y1 := HQ5.out.bk.c.1; have y2 := HQ5.out.bk.c.2; clear hM1 hN1; dsimp only)
    | (go_at_call 24; (with_reducible refine (HGT.out _ _ _ _ _ HQ4.out.me).mono ?_); rintro e u9 ⟨rfl, hb9⟩; have HQ4g := Lib.hid (HQ4.out.below hb9); clear hb9; dsimp only)
    | (refine wpList_store_row rfl 54 (Operand.tmp 6) (Operand.tmp 61) rfl (w.heap.size + 1) _ rfl rfl _ _ HV.out info2 (by rfl) (by simp [Value.oneCell']) ?_))
  have hld := load2 (ux.setRow (w.heap.size + 1) #[.bool true, .int .i64 (M.bs.length : Int)]) (w.heap.size + 1) #[.bool true, .int .i64 (M.bs.length : Int)] (setRow_heap _ _ _ _ _ _ HV.out) rfl
  have hput := HQ5.out.put #[.bool true, .int .i64 (M.bs.length : Int)]
  refine bodyPost_ret (v := .tuple #[.agg #[.bool true, .int .i64 (M.bs.length : Int)], .bool true]) ?_ rfl ⟨rfl, lv1, dv1, fv, hput.1, hput.2⟩
  rw [results_cell_tmp rfl]
  simp [asAddr, Result.andThen, hld]
set_option maxHeartbeats 2000000 in
set_option maxRecDepth 100000 in
theorem sm_block_no {q : Int} (h : MemAt w m li lv dv M) {op x y : Int} (hx : 0 ≤ x ∧ x ≤ 20 ∧ 0 ≤ y ∧ y ≤ 20 ∧ (8 < y ∨ y < x)) :
    Calls Tryz.prog 46 #[.pointer (some ⟨m, 0, none⟩), .int .i64 q, .agg #[.int .i64 op, .int .i64 x, .int .i64 y]] w fun e w' => e = .returned (.tuple #[.agg #[.bool false, .int .i64 0], .bool false]) ∧ Below w.heap.size w w' := by
  have hz := zV
  have HQ := Lib.hid (Bq.start (op := op) (x := x) (y := y) h)
  have HB : Hid (Below w.heap.size w ((w.alloc (.cells #[.int .i64 op, .int .i64 x, .int .i64 y] 61)).alloc (.cells #[.bool false, .int .i64 0] 54))) := Lib.hid (((Below.refl _ _).alloc (Nat.le_refl _) _).alloc (by simp) _)
  obtain ⟨c1, c2⟩ := HQ.out.bk.c
  have s1 : ¬ x < 0 := by omega
  have hv := HQ.out.bk.val
  have HV := Lib.hid hv
  clear h hv
  obtain ⟨g1, g2, g3, g4, g5⟩ := hx
  by_cases s2 : 8 < y
  · clear g5
    go_enter Tryz.func46, Tryz.ntmps46
    go_wp2_with (refine wpList_store_row rfl 54 (Operand.tmp 6) (Operand.tmp 25) rfl (w.heap.size + 1) _ rfl rfl _ _ HV.out info2 (by rfl) (by simp [Value.oneCell']) ?_)
    have hld := load2 (((w.alloc (.cells #[.int .i64 op, .int .i64 x, .int .i64 y] 61)).alloc (.cells #[.bool false, .int .i64 0] 54)).setRow (w.heap.size + 1) #[.bool false, .int .i64 0]) (w.heap.size + 1) #[.bool false, .int .i64 0] (setRow_heap _ _ _ _ _ _ HV.out) rfl
    refine bodyPost_ret (v := .tuple #[.agg #[.bool false, .int .i64 0], .bool false]) ?_ rfl ⟨rfl, below_setRow HB.out (by omega) _⟩
    rw [results_cell_tmp rfl]
    simp [asAddr, Result.andThen, hld]
  · have s3 : y < x := by omega
    clear g5
    go_enter Tryz.func46, Tryz.ntmps46
    go_wp2_with (refine wpList_store_row rfl 54 (Operand.tmp 6) (Operand.tmp 25) rfl (w.heap.size + 1) _ rfl rfl _ _ HV.out info2 (by rfl) (by simp [Value.oneCell']) ?_)
    have hld := load2 (((w.alloc (.cells #[.int .i64 op, .int .i64 x, .int .i64 y] 61)).alloc (.cells #[.bool false, .int .i64 0] 54)).setRow (w.heap.size + 1) #[.bool false, .int .i64 0]) (w.heap.size + 1) #[.bool false, .int .i64 0] (setRow_heap _ _ _ _ _ _ HV.out) rfl
    refine bodyPost_ret (v := .tuple #[.agg #[.bool false, .int .i64 0], .bool false]) ?_ rfl ⟨rfl, below_setRow HB.out (by omega) _⟩
    rw [results_cell_tmp rfl]
    simp [asAddr, Result.andThen, hld]
end
end Go.Proofs.YtoklohfpkaiidaaGreat.Obj

namespace Go.Proofs.YtoklohfpkaiidaaGreat.Obj
open Go.Proofs.YtoklohfpkaiidaaGreat.Gen Go.Proofs.YtoklohfpkaiidaaGreat.Base Go.ChangeShapes Go.WideShapes Go.ChangeAt Go.RowKit
set_option linter.unusedVariables false
section
variable {w u : World} {m li : Nat} {lv dv lv1 dv1 lv' dv' : Value} {M M1 M2 : MS}
set_option maxHeartbeats 2000000 in
set_option maxRecDepth 100000 in
theorem sm_Do_jump (h : MemAt w m li lv dv M) {q si mn bn : Int} (hI : M.isF q si mn bn) (x b : Int) {pb : Bool}
    (hF : ∀ u, Below w.heap.size w u → Calls Tryz.prog 49 #[.pointer (some ⟨m, 0, none⟩), .int .i64 q, .agg #[.int .i64 13, .int .i64 x, .int .i64 b]] u fun e w' => e = .returned (.bool pb) ∧ MemAt w' m li lv' dv' M2 ∧ Nx (ownM m li lv dv M) u (ownM m li lv' dv' M2) w') :
    Calls Tryz.prog 23 #[.pointer (some ⟨m, 0, none⟩), .int .i64 q, .agg #[.int .i64 13, .int .i64 x, .int .i64 b]] w fun e w' => e = .returned (.bool pb) ∧ MemAt w' m li lv' dv' M2 ∧ Nx (ownM m li lv dv M) w (ownM m li lv' dv' M2) w' := by
  have HIS := Lib.hid fun u (hb : Below w.heap.size w u) => fr_Is (h.below hb) hI
  have HLT : Hid (∀ k, ownM m li lv dv M k → k < w.heap.size) := Lib.hid fun k hk => h.lt hk
  have HD0 := Lib.hid (DoS.start w 13 x b)
  have HDZ := Lib.hid ((DoS.start w 13 x b).put false 0)
  have hz := zV
  have HF : Hid (∀ u, Below w.heap.size w u → Calls Tryz.prog 49 #[.pointer (some ⟨m, 0, none⟩), .int .i64 q, .agg #[.int .i64 13, .int .i64 x, .int .i64 b]] u fun e w' => e = .returned (.bool pb) ∧ MemAt w' m li lv' dv' M2 ∧ Nx (ownM m li lv dv M) w (ownM m li lv' dv' M2) w') := Lib.hid fun u hb => (hF u hb).mono fun e w' ⟨h1, h2, h3⟩ => ⟨h1, h2, nx_bel hb h3⟩
  clear h hI hF
  go_enter Tryz.func23, Tryz.ntmps23
  go_wp2_with fail
  refine wp_scope_gotos 1 ?_
  generalize hQ : gotoN _ _ 1 _ = Q1
  have HQ1 := Lib.hid hQ; clear hQ
  go_wp2_with (first
    | (refine wpList_store_row rfl 54 (Operand.tmp 7) (Operand.tmp 9) rfl (w.heap.size + 1) #[.bool false, .int .i64 0] rfl rfl _ _ HD0.out.val info2 (by rfl) (by simp [Value.oneCell']) ?_)
    | (go_at_call 41; (with_reducible refine (HIS.out _ HDZ.out.bel).mono ?_); rintro e u1 ⟨rfl, hb1⟩; have HD1 := Lib.hid (HDZ.out.more hb1); have y0 := HD1.out.c0; have y1 := HD1.out.c1; clear hb1; dsimp only)
    | (refine wpl_load_rowG (by rfl) 61 (Operand.tmp 5) (by rfl) w.heap.size (by rfl) _ _ (0, 0) _ HD1.out.ins Tryz.underlying61 rfl infoI3 ?_)
    | (go_at_call 49; (with_reducible refine (HF.out _ HD1.out.bel).mono ?_); rintro e u2 ⟨rfl, hM2, hN2⟩; have HM := Lib.hid hM2; have HN := Lib.hid hN2; clear hM2 hN2; dsimp only))
  rw [← HQ1.out]
  try simp only [gotoN_ret]
  go_ret
  exact ⟨rfl, HM.out, HN.out⟩
set_option maxHeartbeats 2000000 in
set_option maxRecDepth 100000 in
theorem sm_Do_block {K K2 : Value → Value → MS → Prop} (h : MemAt w m li lv dv M) {q si mn bn : Int} (hI : M.isF q si mn bn) (x b : Int) {pb vb : Bool} {vn : Int}
    (hF : ∀ u, Below w.heap.size w u → Calls Tryz.prog 46 #[.pointer (some ⟨m, 0, none⟩), .int .i64 q, .agg #[.int .i64 18, .int .i64 x, .int .i64 b]] u fun e w' => e = .returned (.tuple #[.agg #[.bool vb, .int .i64 vn], .bool true]) ∧ ∃ lv1 dv1 M1, K lv1 dv1 M1 ∧ MemAt w' m li lv1 dv1 M1 ∧ Nx (ownM m li lv dv M) u (ownM m li lv1 dv1 M1) w')
    (hP : ∀ lv1 dv1 M1, K lv1 dv1 M1 → ∀ u, MemAt u m li lv1 dv1 M1 → Calls Tryz.prog 51 #[.pointer (some ⟨m, 0, none⟩), .int .i64 q, .agg #[.bool vb, .int .i64 vn]] u fun e w' => e = .returned (.bool pb) ∧ ∃ lv2 dv2 M2, K2 lv2 dv2 M2 ∧ MemAt w' m li lv2 dv2 M2 ∧ Nx (ownM m li lv1 dv1 M1) u (ownM m li lv2 dv2 M2) w') :
    Calls Tryz.prog 23 #[.pointer (some ⟨m, 0, none⟩), .int .i64 q, .agg #[.int .i64 18, .int .i64 x, .int .i64 b]] w fun e w' => e = .returned (.bool pb) ∧ ∃ lv2 dv2 M2, K2 lv2 dv2 M2 ∧ MemAt w' m li lv2 dv2 M2 ∧ Nx (ownM m li lv dv M) w (ownM m li lv2 dv2 M2) w' := by
  have HIS := Lib.hid fun u (hb : Below w.heap.size w u) => fr_Is (h.below hb) hI
  have HLT : Hid (∀ k, ownM m li lv dv M k → k < w.heap.size) := Lib.hid fun k hk => h.lt hk
  have HD0 := Lib.hid (DoS.start w 18 x b)
  have HDZ := Lib.hid ((DoS.start w 18 x b).put false 0)
  have hz := zV
  have HF := Lib.hid hF
  have HP := Lib.hid hP
  clear h hI hF hP
  go_enter Tryz.func23, Tryz.ntmps23
  go_wp2_with fail
  refine wp_scope_gotos 1 ?_
  generalize hQ : gotoN _ _ 1 _ = Q1
  have HQ1 := Lib.hid hQ; clear hQ
  go_wp2_with (first
    | (refine wpList_store_row rfl 54 (Operand.tmp 7) (Operand.tmp 9) rfl (w.heap.size + 1) #[.bool false, .int .i64 0] rfl rfl _ _ HD0.out.val info2 (by rfl) (by simp [Value.oneCell']) ?_)
    | (go_at_call 41; (with_reducible refine (HIS.out _ HDZ.out.bel).mono ?_); rintro e u1 ⟨rfl, hb1⟩; have HD1 := Lib.hid (HDZ.out.more hb1); have y0 := HD1.out.c0; have y1 := HD1.out.c1; clear hb1; dsimp only)
    | (refine wpl_load_rowG (by rfl) 61 (Operand.tmp 5) (by rfl) w.heap.size (by rfl) _ _ (0, 0) _ HD1.out.ins Tryz.underlying61 rfl infoI3 ?_)
    | (go_at_call 46; (with_reducible refine (HF.out _ HD1.out.bel).mono ?_); rintro e u2 ⟨rfl, lv1, dv1, M1, hK1, hM2, hN2⟩; have HR := Lib.hid (HD1.out.nx hN2 HLT.out); have HR2 := Lib.hid (HR.out.put vb vn); have HG := Lib.hid (do_set HD1.out.bel HD1.out.size hN2 hM2 HLT.out #[.bool vb, .int .i64 vn]); have HK1 := Lib.hid hK1; clear hM2 hN2 hK1; dsimp only)
    | (refine wpList_store_row rfl 54 (Operand.tmp 7) (Operand.tmp 102) rfl (w.heap.size + 1) #[.bool vb, .int .i64 vn] rfl rfl _ _ HR.out.val info2 (by rfl) (by simp [Value.oneCell']) ?_))
  apply wp_goto
  rw [← HQ1.out]
  refine gotoN_goto rfl ?_
  generalize hQ : gotoN _ _ 0 _ = Q0
  have HQ0 := Lib.hid hQ; clear hQ
  clear HQ1 y0 y1
  go_wp2_with (first
    | (refine wpl_load_rowG (by rfl) 54 (Operand.tmp 7) (by rfl) (w.heap.size + 1) (by rfl) _ _ (0, 0) _ HR2.out.val Tryz.underlying54 rfl info2 ?_)
    | (go_at_call 51; (with_reducible refine (HP.out _ _ _ HK1.out _ HG.out.1).mono ?_); rintro e u3 ⟨rfl, lv2, dv2, M2, hK2, hM3, hN3⟩; have HK2 := Lib.hid hK2; have HM := Lib.hid hM3; have HN := Lib.hid (HG.out.2.trans hN3); clear hK2 hM3 hN3; dsimp only))
  rw [← HQ0.out]
  try simp only [gotoN_ret]
  go_ret
  exact ⟨rfl, lv2, dv2, M2, HK2.out, HM.out, HN.out⟩
set_option maxHeartbeats 2000000 in
set_option maxRecDepth 100000 in
theorem sm_Do_block_no (h : MemAt w m li lv dv M) {q si mn bn : Int} (hI : M.isF q si mn bn) (x b : Int) {vb : Bool} {vn : Int}
    (hF : ∀ u, Below w.heap.size w u → Calls Tryz.prog 46 #[.pointer (some ⟨m, 0, none⟩), .int .i64 q, .agg #[.int .i64 18, .int .i64 x, .int .i64 b]] u fun e w' => e = .returned (.tuple #[.agg #[.bool vb, .int .i64 vn], .bool false]) ∧ Below u.heap.size u w') :
    Calls Tryz.prog 23 #[.pointer (some ⟨m, 0, none⟩), .int .i64 q, .agg #[.int .i64 18, .int .i64 x, .int .i64 b]] w fun e w' => e = .returned (.bool false) ∧ Below w.heap.size w w' := by
  have HIS := Lib.hid fun u (hb : Below w.heap.size w u) => fr_Is (h.below hb) hI
  have HLT : Hid (∀ k, ownM m li lv dv M k → k < w.heap.size) := Lib.hid fun k hk => h.lt hk
  have HD0 := Lib.hid (DoS.start w 18 x b)
  have HDZ := Lib.hid ((DoS.start w 18 x b).put false 0)
  have hz := zV
  have HF := Lib.hid hF
  clear h hI hF
  go_enter Tryz.func23, Tryz.ntmps23
  go_wp2_with fail
  refine wp_scope_gotos 1 ?_
  generalize hQ : gotoN _ _ 1 _ = Q1
  have HQ1 := Lib.hid hQ; clear hQ
  go_wp2_with (first
    | (refine wpList_store_row rfl 54 (Operand.tmp 7) (Operand.tmp 9) rfl (w.heap.size + 1) #[.bool false, .int .i64 0] rfl rfl _ _ HD0.out.val info2 (by rfl) (by simp [Value.oneCell']) ?_)
    | (go_at_call 41; (with_reducible refine (HIS.out _ HDZ.out.bel).mono ?_); rintro e u1 ⟨rfl, hb1⟩; have HD1 := Lib.hid (HDZ.out.more hb1); have y0 := HD1.out.c0; have y1 := HD1.out.c1; clear hb1; dsimp only)
    | (refine wpl_load_rowG (by rfl) 61 (Operand.tmp 5) (by rfl) w.heap.size (by rfl) _ _ (0, 0) _ HD1.out.ins Tryz.underlying61 rfl infoI3 ?_)
    | (go_at_call 46; (with_reducible refine (HF.out _ HD1.out.bel).mono ?_); rintro e u2 ⟨rfl, hb2⟩; have HD2 := Lib.hid (HD1.out.more hb2); clear hb2; dsimp only)
    | (refine wpList_store_row rfl 54 (Operand.tmp 7) (Operand.tmp 102) rfl (w.heap.size + 1) #[.bool vb, .int .i64 vn] rfl rfl _ _ HD2.out.val info2 (by rfl) (by simp [Value.oneCell']) ?_))
  have HD3 := Lib.hid (HD2.out.put vb vn)
  apply wp_goto
  rw [← HQ1.out]
  refine gotoN_goto rfl ?_
  generalize hQ : gotoN _ _ 0 _ = Q0
  have HQ0 := Lib.hid hQ; clear hQ
  clear HQ1 y0 y1
  go_wp2_with fail
  rw [← HQ0.out]
  try simp only [gotoN_ret]
  go_ret
  exact ⟨rfl, HD3.out.bel⟩
set_option maxHeartbeats 2000000 in
set_option maxRecDepth 100000 in
theorem sm_Do_array {K K2 : Value → Value → MS → Prop} (h : MemAt w m li lv dv M) {q si mn bn : Int} (hI : M.isF q si mn bn) (x b : Int) {pb vb : Bool} {vn : Int}
    (hF : ∀ u, Below w.heap.size w u → Calls Tryz.prog 47 #[.pointer (some ⟨m, 0, none⟩), .int .i64 q, .int .i64 x] u fun e w' => e = .returned (.tuple #[.agg #[.bool vb, .int .i64 vn], .bool true]) ∧ ∃ lv1 dv1 M1, K lv1 dv1 M1 ∧ MemAt w' m li lv1 dv1 M1 ∧ Nx (ownM m li lv dv M) u (ownM m li lv1 dv1 M1) w')
    (hP : ∀ lv1 dv1 M1, K lv1 dv1 M1 → ∀ u, MemAt u m li lv1 dv1 M1 → Calls Tryz.prog 51 #[.pointer (some ⟨m, 0, none⟩), .int .i64 q, .agg #[.bool vb, .int .i64 vn]] u fun e w' => e = .returned (.bool pb) ∧ ∃ lv2 dv2 M2, K2 lv2 dv2 M2 ∧ MemAt w' m li lv2 dv2 M2 ∧ Nx (ownM m li lv1 dv1 M1) u (ownM m li lv2 dv2 M2) w') :
    Calls Tryz.prog 23 #[.pointer (some ⟨m, 0, none⟩), .int .i64 q, .agg #[.int .i64 21, .int .i64 x, .int .i64 b]] w fun e w' => e = .returned (.bool pb) ∧ ∃ lv2 dv2 M2, K2 lv2 dv2 M2 ∧ MemAt w' m li lv2 dv2 M2 ∧ Nx (ownM m li lv dv M) w (ownM m li lv2 dv2 M2) w' := by
  have HIS := Lib.hid fun u (hb : Below w.heap.size w u) => fr_Is (h.below hb) hI
  have HLT : Hid (∀ k, ownM m li lv dv M k → k < w.heap.size) := Lib.hid fun k hk => h.lt hk
  have HD0 := Lib.hid (DoS.start w 21 x b)
  have HDZ := Lib.hid ((DoS.start w 21 x b).put false 0)
  have hz := zV
  have HF := Lib.hid hF
  have HP := Lib.hid hP
  clear h hI hF hP
  go_enter Tryz.func23, Tryz.ntmps23
  go_wp2_with fail
  refine wp_scope_gotos 1 ?_
  generalize hQ : gotoN _ _ 1 _ = Q1
  have HQ1 := Lib.hid hQ; clear hQ
  go_wp2_with (first
    | (refine wpList_store_row rfl 54 (Operand.tmp 7) (Operand.tmp 9) rfl (w.heap.size + 1) #[.bool false, .int .i64 0] rfl rfl _ _ HD0.out.val info2 (by rfl) (by simp [Value.oneCell']) ?_)
    | (go_at_call 41; (with_reducible refine (HIS.out _ HDZ.out.bel).mono ?_); rintro e u1 ⟨rfl, hb1⟩; have HD1 := Lib.hid (HDZ.out.more hb1); have y0 := HD1.out.c0; have y1 := HD1.out.c1; clear hb1; dsimp only)
    | (refine wpl_load_rowG (by rfl) 61 (Operand.tmp 5) (by rfl) w.heap.size (by rfl) _ _ (0, 0) _ HD1.out.ins Tryz.underlying61 rfl infoI3 ?_)
    | (go_at_call 47; (with_reducible refine (HF.out _ HD1.out.bel).mono ?_); rintro e u2 ⟨rfl, lv1, dv1, M1, hK1, hM2, hN2⟩; have HR := Lib.hid (HD1.out.nx hN2 HLT.out); have HR2 := Lib.hid (HR.out.put vb vn); have HG := Lib.hid (do_set HD1.out.bel HD1.out.size hN2 hM2 HLT.out #[.bool vb, .int .i64 vn]); have HK1 := Lib.hid hK1; clear hM2 hN2 hK1; dsimp only)
    | (refine wpList_store_row rfl 54 (Operand.tmp 7) (Operand.tmp 112) rfl (w.heap.size + 1) #[.bool vb, .int .i64 vn] rfl rfl _ _ HR.out.val info2 (by rfl) (by simp [Value.oneCell']) ?_))
  apply wp_goto
  rw [← HQ1.out]
  refine gotoN_goto rfl ?_
  generalize hQ : gotoN _ _ 0 _ = Q0
  have HQ0 := Lib.hid hQ; clear hQ
  clear HQ1 y0 y1
  go_wp2_with (first
    | (refine wpl_load_rowG (by rfl) 54 (Operand.tmp 7) (by rfl) (w.heap.size + 1) (by rfl) _ _ (0, 0) _ HR2.out.val Tryz.underlying54 rfl info2 ?_)
    | (go_at_call 51; (with_reducible refine (HP.out _ _ _ HK1.out _ HG.out.1).mono ?_); rintro e u3 ⟨rfl, lv2, dv2, M2, hK2, hM3, hN3⟩; have HK2 := Lib.hid hK2; have HM := Lib.hid hM3; have HN := Lib.hid (HG.out.2.trans hN3); clear hK2 hM3 hN3; dsimp only))
  rw [← HQ0.out]
  try simp only [gotoN_ret]
  go_ret
  exact ⟨rfl, lv2, dv2, M2, HK2.out, HM.out, HN.out⟩
set_option maxHeartbeats 2000000 in
set_option maxRecDepth 100000 in
theorem sm_Do_temp (h : MemAt w m li lv dv M) {q si mn bn : Int} (hI : M.isF q si mn bn) (x b : Int) {pb vb : Bool} {vn : Int}
    (hF : ∀ u, Below w.heap.size w u → Calls Tryz.prog 42 #[.pointer (some ⟨m, 0, none⟩), .int .i64 q, .int .i64 0, .int .i64 x] u fun e w' => e = .returned (.tuple #[.agg #[.bool vb, .int .i64 vn], .bool true]) ∧ Below u.heap.size u w')
    (hP : ∀ u, Below w.heap.size w u → Calls Tryz.prog 51 #[.pointer (some ⟨m, 0, none⟩), .int .i64 q, .agg #[.bool vb, .int .i64 vn]] u fun e w' => e = .returned (.bool pb) ∧ MemAt w' m li lv' dv' M2 ∧ Nx (ownM m li lv dv M) u (ownM m li lv' dv' M2) w') :
    Calls Tryz.prog 23 #[.pointer (some ⟨m, 0, none⟩), .int .i64 q, .agg #[.int .i64 2, .int .i64 x, .int .i64 b]] w fun e w' => e = .returned (.bool pb) ∧ MemAt w' m li lv' dv' M2 ∧ Nx (ownM m li lv dv M) w (ownM m li lv' dv' M2) w' := by
  have HIS := Lib.hid fun u (hb : Below w.heap.size w u) => fr_Is (h.below hb) hI
  have HLT : Hid (∀ k, ownM m li lv dv M k → k < w.heap.size) := Lib.hid fun k hk => h.lt hk
  have HD0 := Lib.hid (DoS.start w 2 x b)
  have HDZ := Lib.hid ((DoS.start w 2 x b).put false 0)
  have hz := zV
  have HF := Lib.hid hF
  have HP : Hid (∀ u, Below w.heap.size w u → Calls Tryz.prog 51 #[.pointer (some ⟨m, 0, none⟩), .int .i64 q, .agg #[.bool vb, .int .i64 vn]] u fun e w' => e = .returned (.bool pb) ∧ MemAt w' m li lv' dv' M2 ∧ Nx (ownM m li lv dv M) w (ownM m li lv' dv' M2) w') := Lib.hid fun u hb => (hP u hb).mono fun e w' ⟨h1, h2, h3⟩ => ⟨h1, h2, nx_bel hb h3⟩
  clear h hI hF hP
  go_enter Tryz.func23, Tryz.ntmps23
  go_wp2_with fail
  refine wp_scope_gotos 1 ?_
  generalize hQ : gotoN _ _ 1 _ = Q1
  have HQ1 := Lib.hid hQ; clear hQ
  go_wp2_with (first
    | (refine wpList_store_row rfl 54 (Operand.tmp 7) (Operand.tmp 9) rfl (w.heap.size + 1) #[.bool false, .int .i64 0] rfl rfl _ _ HD0.out.val info2 (by rfl) (by simp [Value.oneCell']) ?_)
    | (go_at_call 41; (with_reducible refine (HIS.out _ HDZ.out.bel).mono ?_); rintro e u1 ⟨rfl, hb1⟩; have HD1 := Lib.hid (HDZ.out.more hb1); have y0 := HD1.out.c0; have y1 := HD1.out.c1; clear hb1; dsimp only)
    | (refine wpl_load_rowG (by rfl) 61 (Operand.tmp 5) (by rfl) w.heap.size (by rfl) _ _ (0, 0) _ HD1.out.ins Tryz.underlying61 rfl infoI3 ?_)
    | (go_at_call 42; (with_reducible refine (HF.out _ HD1.out.bel).mono ?_); rintro e u2 ⟨rfl, hb2⟩; have HD2 := Lib.hid (HD1.out.more hb2); have HD3 := Lib.hid ((HD1.out.more hb2).put vb vn); clear hb2; dsimp only)
    | (refine wpList_store_row rfl 54 (Operand.tmp 7) (Operand.tmp 29) rfl (w.heap.size + 1) #[.bool vb, .int .i64 vn] rfl rfl _ _ HD2.out.val info2 (by rfl) (by simp [Value.oneCell']) ?_))
  apply wp_goto
  rw [← HQ1.out]
  refine gotoN_goto rfl ?_
  generalize hQ : gotoN _ _ 0 _ = Q0
  have HQ0 := Lib.hid hQ; clear hQ
  clear HQ1 y0 y1
  go_wp2_with (first
    | (refine wpl_load_rowG (by rfl) 54 (Operand.tmp 7) (by rfl) (w.heap.size + 1) (by rfl) _ _ (0, 0) _ HD3.out.val Tryz.underlying54 rfl info2 ?_)
    | (go_at_call 51; (with_reducible refine (HP.out _ HD3.out.bel).mono ?_); rintro e u3 ⟨rfl, hM3, hN3⟩; have HM := Lib.hid hM3; have HN := Lib.hid hN3; clear hM3 hN3; dsimp only))
  rw [← HQ0.out]
  try simp only [gotoN_ret]
  go_ret
  exact ⟨rfl, HM.out, HN.out⟩
set_option maxHeartbeats 2000000 in
set_option maxRecDepth 100000 in
theorem sm_Do_self (h : MemAt w m li lv dv M) {q si mn bn : Int} (hI : M.isF q si mn bn) (x b : Int) {pb vb : Bool} {vn : Int}
    (hF : ∀ u, Below w.heap.size w u → Calls Tryz.prog 24 #[.pointer (some ⟨m, 0, none⟩), .int .i64 q, .int .i64 4] u fun e w' => e = .returned (.agg #[.bool vb, .int .i64 vn]) ∧ Below u.heap.size u w')
    (hP : ∀ u, Below w.heap.size w u → Calls Tryz.prog 51 #[.pointer (some ⟨m, 0, none⟩), .int .i64 q, .agg #[.bool vb, .int .i64 vn]] u fun e w' => e = .returned (.bool pb) ∧ MemAt w' m li lv' dv' M2 ∧ Nx (ownM m li lv dv M) u (ownM m li lv' dv' M2) w') :
    Calls Tryz.prog 23 #[.pointer (some ⟨m, 0, none⟩), .int .i64 q, .agg #[.int .i64 1, .int .i64 x, .int .i64 b]] w fun e w' => e = .returned (.bool pb) ∧ MemAt w' m li lv' dv' M2 ∧ Nx (ownM m li lv dv M) w (ownM m li lv' dv' M2) w' := by
  have HIS := Lib.hid fun u (hb : Below w.heap.size w u) => fr_Is (h.below hb) hI
  have HLT : Hid (∀ k, ownM m li lv dv M k → k < w.heap.size) := Lib.hid fun k hk => h.lt hk
  have HD0 := Lib.hid (DoS.start w 1 x b)
  have HDZ := Lib.hid ((DoS.start w 1 x b).put false 0)
  have hz := zV
  have HF := Lib.hid hF
  have HP : Hid (∀ u, Below w.heap.size w u → Calls Tryz.prog 51 #[.pointer (some ⟨m, 0, none⟩), .int .i64 q, .agg #[.bool vb, .int .i64 vn]] u fun e w' => e = .returned (.bool pb) ∧ MemAt w' m li lv' dv' M2 ∧ Nx (ownM m li lv dv M) w (ownM m li lv' dv' M2) w') := Lib.hid fun u hb => (hP u hb).mono fun e w' ⟨h1, h2, h3⟩ => ⟨h1, h2, nx_bel hb h3⟩
  clear h hI hF hP
  go_enter Tryz.func23, Tryz.ntmps23
  go_wp2_with fail
  refine wp_scope_gotos 1 ?_
  generalize hQ : gotoN _ _ 1 _ = Q1
  have HQ1 := Lib.hid hQ; clear hQ
  go_wp2_with (first
    | (refine wpList_store_row rfl 54 (Operand.tmp 7) (Operand.tmp 9) rfl (w.heap.size + 1) #[.bool false, .int .i64 0] rfl rfl _ _ HD0.out.val info2 (by rfl) (by simp [Value.oneCell']) ?_)
    | (go_at_call 41; (with_reducible refine (HIS.out _ HDZ.out.bel).mono ?_); rintro e u1 ⟨rfl, hb1⟩; have HD1 := Lib.hid (HDZ.out.more hb1); have y0 := HD1.out.c0; have y1 := HD1.out.c1; clear hb1; dsimp only)
    | (refine wpl_load_rowG (by rfl) 61 (Operand.tmp 5) (by rfl) w.heap.size (by rfl) _ _ (0, 0) _ HD1.out.ins Tryz.underlying61 rfl infoI3 ?_)
    | (go_at_call 24; (with_reducible refine (HF.out _ HD1.out.bel).mono ?_); rintro e u2 ⟨rfl, hb2⟩; have HD2 := Lib.hid (HD1.out.more hb2); have HD3 := Lib.hid ((HD1.out.more hb2).put vb vn); clear hb2; dsimp only)
    | (refine wpList_store_row rfl 54 (Operand.tmp 7) (Operand.tmp 20) rfl (w.heap.size + 1) #[.bool vb, .int .i64 vn] rfl rfl _ _ HD2.out.val info2 (by rfl) (by simp [Value.oneCell']) ?_))
  apply wp_goto
  rw [← HQ1.out]
  refine gotoN_goto rfl ?_
  generalize hQ : gotoN _ _ 0 _ = Q0
  have HQ0 := Lib.hid hQ; clear hQ
  clear HQ1 y0 y1
  go_wp2_with (first
    | (refine wpl_load_rowG (by rfl) 54 (Operand.tmp 7) (by rfl) (w.heap.size + 1) (by rfl) _ _ (0, 0) _ HD3.out.val Tryz.underlying54 rfl info2 ?_)
    | (go_at_call 51; (with_reducible refine (HP.out _ HD3.out.bel).mono ?_); rintro e u3 ⟨rfl, hM3, hN3⟩; have HM := Lib.hid hM3; have HN := Lib.hid hN3; clear hM3 hN3; dsimp only))
  rw [← HQ0.out]
  try simp only [gotoN_ret]
  go_ret
  exact ⟨rfl, HM.out, HN.out⟩
set_option maxHeartbeats 2000000 in
set_option maxRecDepth 100000 in
theorem sm_Do_frame (h : MemAt w m li lv dv M) {q si mn bn : Int} (hI : M.isF q si mn bn) (x b : Int) {pb vb : Bool} {vn : Int}
    (hF : ∀ u, Below w.heap.size w u → Calls Tryz.prog 45 #[.int .i64 q] u fun e w' => e = .returned (.agg #[.bool vb, .int .i64 vn]) ∧ Below u.heap.size u w')
    (hP : ∀ u, Below w.heap.size w u → Calls Tryz.prog 51 #[.pointer (some ⟨m, 0, none⟩), .int .i64 q, .agg #[.bool vb, .int .i64 vn]] u fun e w' => e = .returned (.bool pb) ∧ MemAt w' m li lv' dv' M2 ∧ Nx (ownM m li lv dv M) u (ownM m li lv' dv' M2) w') :
    Calls Tryz.prog 23 #[.pointer (some ⟨m, 0, none⟩), .int .i64 q, .agg #[.int .i64 22, .int .i64 x, .int .i64 b]] w fun e w' => e = .returned (.bool pb) ∧ MemAt w' m li lv' dv' M2 ∧ Nx (ownM m li lv dv M) w (ownM m li lv' dv' M2) w' := by
  have HIS := Lib.hid fun u (hb : Below w.heap.size w u) => fr_Is (h.below hb) hI
  have HLT : Hid (∀ k, ownM m li lv dv M k → k < w.heap.size) := Lib.hid fun k hk => h.lt hk
  have HD0 := Lib.hid (DoS.start w 22 x b)
  have HDZ := Lib.hid ((DoS.start w 22 x b).put false 0)
  have hz := zV
  have HF := Lib.hid hF
  have HP : Hid (∀ u, Below w.heap.size w u → Calls Tryz.prog 51 #[.pointer (some ⟨m, 0, none⟩), .int .i64 q, .agg #[.bool vb, .int .i64 vn]] u fun e w' => e = .returned (.bool pb) ∧ MemAt w' m li lv' dv' M2 ∧ Nx (ownM m li lv dv M) w (ownM m li lv' dv' M2) w') := Lib.hid fun u hb => (hP u hb).mono fun e w' ⟨h1, h2, h3⟩ => ⟨h1, h2, nx_bel hb h3⟩
  clear h hI hF hP
  go_enter Tryz.func23, Tryz.ntmps23
  go_wp2_with fail
  refine wp_scope_gotos 1 ?_
  generalize hQ : gotoN _ _ 1 _ = Q1
  have HQ1 := Lib.hid hQ; clear hQ
  go_wp2_with (first
    | (refine wpList_store_row rfl 54 (Operand.tmp 7) (Operand.tmp 9) rfl (w.heap.size + 1) #[.bool false, .int .i64 0] rfl rfl _ _ HD0.out.val info2 (by rfl) (by simp [Value.oneCell']) ?_)
    | (go_at_call 41; (with_reducible refine (HIS.out _ HDZ.out.bel).mono ?_); rintro e u1 ⟨rfl, hb1⟩; have HD1 := Lib.hid (HDZ.out.more hb1); have y0 := HD1.out.c0; have y1 := HD1.out.c1; clear hb1; dsimp only)
    | (refine wpl_load_rowG (by rfl) 61 (Operand.tmp 5) (by rfl) w.heap.size (by rfl) _ _ (0, 0) _ HD1.out.ins Tryz.underlying61 rfl infoI3 ?_)
    | (go_at_call 45; (with_reducible refine (HF.out _ HD1.out.bel).mono ?_); rintro e u2 ⟨rfl, hb2⟩; have HD2 := Lib.hid (HD1.out.more hb2); have HD3 := Lib.hid ((HD1.out.more hb2).put vb vn); clear hb2; dsimp only)
    | (refine wpList_store_row rfl 54 (Operand.tmp 7) (Operand.tmp 117) rfl (w.heap.size + 1) #[.bool vb, .int .i64 vn] rfl rfl _ _ HD2.out.val info2 (by rfl) (by simp [Value.oneCell']) ?_))
  apply wp_goto
  rw [← HQ1.out]
  refine gotoN_goto rfl ?_
  generalize hQ : gotoN _ _ 0 _ = Q0
  have HQ0 := Lib.hid hQ; clear hQ
  clear HQ1 y0 y1
  go_wp2_with (first
    | (refine wpl_load_rowG (by rfl) 54 (Operand.tmp 7) (by rfl) (w.heap.size + 1) (by rfl) _ _ (0, 0) _ HD3.out.val Tryz.underlying54 rfl info2 ?_)
    | (go_at_call 51; (with_reducible refine (HP.out _ HD3.out.bel).mono ?_); rintro e u3 ⟨rfl, hM3, hN3⟩; have HM := Lib.hid hM3; have HN := Lib.hid hN3; clear hM3 hN3; dsimp only))
  rw [← HQ0.out]
  try simp only [gotoN_ret]
  go_ret
  exact ⟨rfl, HM.out, HN.out⟩
end
end Go.Proofs.YtoklohfpkaiidaaGreat.Obj

namespace Go.Proofs.YtoklohfpkaiidaaGreat.Obj
open Go.Proofs.YtoklohfpkaiidaaGreat.Gen Go.Proofs.YtoklohfpkaiidaaGreat.Base Go.ChangeShapes Go.WideShapes Go.ChangeAt Go.RowKit
set_option linter.unusedVariables false
def skF : List V := hdF (hdL 0 0 0 24 (false, 0) 0) 6
def skC : List Th := (List.range 23).map firstT ++ [⟨8, 3, 24, false, .slice none 0 0, [], ByteArray.empty⟩, ⟨11, 1, 25, false, .slice none 0 0, [(false, 0), (false, 0), (false, 0), (true, 23)], ByteArray.empty⟩]
def skL : List Th := skC ++ [⟨12, 1, 26, false, .slice none 0 0, skF, ByteArray.empty⟩, ⟨14, 1, 27, false, .slice none 0 0, [(true, 25), (false, 5)], ByteArray.empty⟩]
theorem ok_skL : okL 27 skL = true ∧ (skL.all fun t => decide (t.F.length ≤ 100000 ∧ t.B.size ≤ 100000)) = true := ⟨by kernel_rfl, by kernel_rfl⟩
def skM (M : MS) : MS := { M with bs := skL.map Th.bare, dead := nos 27 }
theorem skM_ok (M : MS) : ((skM M).isM 24 && ((skM M).has 0 && ((skM M).has 25 && ((skM M).isClass 13 && decide ((skM M).shape 13 = (4, 1)))))) = true := by kernel_rfl
theorem skM_25 (M : MS) : (skM M).bs[25]? = some ⟨12, 1, 26, 0, false, .slice none 0 0, skF, .slice none 0 0, []⟩ := by kernel_rfl
theorem skM_len (M : MS) : (skM M).bs.length = 27 := by kernel_rfl
structure Sk (W w : World) (m li : Nat) (lv dv : Value) (M : MS) (F : List V) : Prop where
  st : Sst W w m li lv dv M
  fr : FrAt M 25 0 24 0 F
  h0 : M.has 0 = true
  cls : M.isClass 13 = true
  shp : M.shape 13 = (4, 1)
  len : M.bs.length = 27
  last : M.last = 27
section
variable {W w u : World} {m li b : Nat} {lv dv : Value} {M : MS} {F : List V} {L : List Th}
theorem Sk.below (h : Sk W w m li lv dv M F) (hb : Below w.heap.size w u) : Sk W u m li lv dv M F := { h with st := h.st.below hb }
theorem Sk.start (h : New u w L 27 m li lv dv M) (hL : L.map Th.pl = skL) (hb : Below W.heap.size W w) (hu : W.heap.size ≤ u.heap.size) : Sk W w m li lv dv M skF := by
  have hs : M.bare = skM M := by
    have h1 := h.bare
    have h2 := h.dead
    have hl : L.length = 27 := by
      have := congrArg List.length hL
      rw [List.length_map] at this
      rw [this]; rfl
    rw [← bare_pl, hL] at h1
    rw [hl] at h2
    unfold MS.bare skM
    rw [h1, ← h2]
  have ho := skM_ok M
  have hl := skM_len M
  rw [← hs] at ho hl
  simp only [Bool.and_eq_true, decide_eq_true_eq, bare_isM, bare_has, bare_isClass, bare_shape] at ho
  obtain ⟨o1, o2, o3, o4, o5⟩ := ho
  obtain ⟨f, hf, hfx⟩ := bare_bs (M := M) (q := 25) (by rw [hs]; exact skM_25 M)
  exact ⟨⟨h.me, hb, fun j hj => Nat.le_trans hu (h.new j hj)⟩, ⟨⟨f, hf, congrArg Bd.F hfx, congrArg Bd.B hfx, congrArg Bd.fmt hfx⟩, o3, by decide, hdF_len rfl (Nat.le_refl _), rfl, rfl, rfl, rfl, rfl, .inl rfl, .inl rfl, o1, by decide⟩, o2, o4, o5, by rw [← hl]; exact (List.length_map _).symm, h.last⟩
theorem Sk.nxq {lv' dv' : Value} {i : Nat} {v : V} (h : Sk W w m li lv dv M F) (hi : i < 22) (hv0 : i ≠ 0 ∧ i ≠ 3 ∧ i ≠ 5) (hv1 : i = 1 → v.1 = false) (hv2 : i = 2 → num v 0 16 = true) (hM : MemAt u m li lv' dv' (M.put (25 : Int) (i : Int) v)) (hN : Nx (ownM m li lv dv M) w (ownM m li lv' dv' (M.put (25 : Int) (i : Int) v)) u) : Sk W u m li lv' dv' (M.put (25 : Int) (i : Int) v) (F.set i v) := by
  obtain ⟨b, hb, -⟩ := h.fr.bd
  exact ⟨h.st.nx hM hN, h.fr.put hi v hv0 hv1 hv2, h.h0, (put_isClass (q := 25) hb (by decide)).trans h.cls, (put_shape (q := 25) hb (by decide)).trans h.shp, (put_len (q := 25)).trans h.len, h.last⟩
theorem law_MethodK0 (h : LB w u b 51 lv L 23) (hL : L.map Th.pl = (List.range 23).map firstT) :
    Calls Tryz.prog 20 #[.pointer (some ⟨b, 0, none⟩), .int .i64 0, .int .i64 0, .int .i64 0, .slice none 0 0, .slice none 0 0] u fun e w' => e = .returned (.int .i64 24) ∧ ∃ a c L', LB w w' b 51 (.slice a L'.length c) L' 25 ∧ L'.map Th.pl = skC := by
  have hl : L.length = 23 := by
    have := congrArg List.length hL
    simpa using this
  refine (b_Method h (by omega) (by omega) 0 0 0).mono ?_
  rintro e w' ⟨rfl, va, vc, t1, t2, hB, h1, h2⟩
  rw [hl] at h2
  refine ⟨by rw [hl]; rfl, va, vc, L ++ [t1, t2], ?_, ?_⟩
  · rw [List.length_append]; exact hB
  · rw [List.map_append, hL, List.map_cons, List.map_cons, List.map_nil, h1, h2]; rfl
theorem law_StartK (h : LB w u b 51 lv L 25) (hL : L.map Th.pl = skC) :
    Calls Tryz.prog 21 #[.pointer (some ⟨b, 0, none⟩), .int .i64 24, .int .i64 0, .agg #[.bool false, .int .i64 0], .int .i64 5] u fun e w' => e = .returned (.tuple #[.int .i64 26, .int .i64 25]) ∧ ∃ a c L', LB w w' b 51 (.slice a L'.length c) L' 27 ∧ L'.map Th.pl = skL := by
  have hl : L.length = 25 := by
    have := congrArg List.length hL
    rw [List.length_map] at this
    rw [this]; rfl
  refine (b_Start h (by omega) (by omega)).mono ?_
  rintro e w' ⟨rfl, va, vc, t1, t2, hB, h1, h2⟩
  rw [hl] at h2
  refine ⟨by rw [hl]; rfl, va, vc, L ++ [t1, t2], ?_, ?_⟩
  · rw [List.length_append]; exact hB
  · rw [List.map_append, hL, List.map_cons, List.map_cons, List.map_nil, h1, h2]; rfl
theorem law_NewK {a : Option Addr} {c : Nat} (h : LB w u b 51 (.slice a L.length c) L 27) (hL : L.map Th.pl = skL) :
    Calls Tryz.prog 11 #[.agg #[.slice a L.length c, .slice none 0 0, .int .i64 27, .int .i64 0, .int .i64 0, .slice none 0 0, .slice none 0 0, .slice none 0 0, .string ByteArray.empty, .string ByteArray.empty, .int .i64 0, .int .i64 0, .slice none 0 0], .int .i64 5] u fun e w' => ∃ m li lv dv M, e = .returned (.tuple #[.pointer (some ⟨m, 0, none⟩), .int .i64 0]) ∧ Below u.heap.size u w' ∧ New u w' L 27 m li lv dv M :=
  ob_New h.lat (by rw [← okL_pl, hL]; exact ok_skL.1) (small_of (by rw [hL]; exact ok_skL.2)) 5
/-- Jump. -/
theorem sk_jump (h : Sk W w m li lv dv M F) (at_ : Int) (ha : 0 ≤ at_ ∧ at_ ≤ 60) :
    Calls Tryz.prog 23 #[.pointer (some ⟨m, 0, none⟩), .int .i64 25, .agg #[.int .i64 13, .int .i64 0, .int .i64 at_]] w fun e w' => e = .returned (.bool true) ∧ ∃ M', Sk W w' m li lv dv M' (F.set 1 (false, at_)) := by
  obtain ⟨b, hb, hbF, -, -⟩ := h.fr.bd
  have hF : b.F.length = 22 := by rw [hbF]; exact h.fr.len
  refine (sm_Do_jump h.st.me (q := ((25 : Nat) : Int)) h.fr.isF 0 at_ fun u hu => sm_Jump (h.st.me.below hu) (q := 25) ha fun v hv => fr_Go ((h.st.me.below hu).below hv) h.fr.isF hb hF h.fr.has ha).mono ?_
  rintro e w' ⟨rfl, hM, hN⟩
  exact ⟨rfl, _, h.nxq (i := 1) (by omega) (by decide) (fun _ => rfl) (fun e => by cases e) hM hN⟩
/-- Behind the block. -/
structure Sj (W w : World) (m li : Nat) (lv dv : Value) (M : MS) (x y pc : Int) : Prop where
  st : Sst W w m li lv dv M
  g2 : M.get 25 2 = (false, 1)
  g6 : M.get 25 6 = (true, 27)
  has : M.has 27 = true
  bd : ∃ b, M.bs[27]? = some b ∧ b.cls = 13 ∧ b.fmt = 1 ∧ b.F = bkF 25 x y (pc + 1) ∧ b.B = []
theorem Sj.below {x y pc : Int} (h : Sj W w m li lv dv M x y pc) (hb : Below w.heap.size w u) : Sj W u m li lv dv M x y pc := { h with st := h.st.below hb }
theorem sk_block (h : Sk W w m li lv dv M F) (hsp : elV F 2 = (false, 0)) {pc : Int} (hpc : elV F 1 = (false, pc)) (hp : 0 ≤ pc ∧ pc ≤ 1000) (x y : Int) (hx : 0 ≤ x ∧ x ≤ y ∧ y ≤ 8) :
    Calls Tryz.prog 23 #[.pointer (some ⟨m, 0, none⟩), .int .i64 25, .agg #[.int .i64 18, .int .i64 x, .int .i64 y]] w fun e w' => e = .returned (.bool true) ∧ ∃ lv' dv' M', Sj W w' m li lv' dv' M' x y pc := by
  have hl := h.st.me.len
  have h27 := h.len
  refine (sm_Do_block (K := fun _ _ M1 => ∃ fv, M1 = M.mkF 13 1 (bkF 25 x y (pc + 1)) fv) (K2 := fun _ _ M2 => ∃ fv, M2 = ((M.mkF 13 1 (bkF 25 x y (pc + 1)) fv).put (25 : Int) (6 : Int) (true, 27)).put (25 : Int) 2 (false, 1)) (vb := true) (vn := 27) (pb := true) h.st.me (q := ((25 : Nat) : Int)) h.fr.isF x y (fun u hu => ?_) fun lv1 dv1 M1 hK u hu => ?_).mono ?_
  · refine (sm_block (h.st.me.below hu) (q := 25) h.fr.has h.cls h.shp (by omega) (by rw [h.last]; omega) (by omega) hx ((h.fr.get 1).trans hpc) hp).mono ?_
    rintro e w' ⟨rfl, lv', dv', fv, hM, hN⟩
    rw [h27]
    exact ⟨rfl, lv', dv', _, ⟨fv, rfl⟩, hM, hN⟩
  · obtain ⟨fv, rfl⟩ := hK
    have hf := h.fr.mkF (cls := 13) (fmt := 1) (G := bkF 25 x y (pc + 1)) (fv := fv) hl
    obtain ⟨b, hb, hbF, -, -⟩ := hf.bd
    have hmay : (M.mkF 13 1 (bkF 25 x y (pc + 1)) fv).may (true, 27) = true := by
      unfold MS.may
      rw [if_pos rfl]
      have := mkF_has (cls := 13) (fmt := 1) (F := bkF 25 x y (pc + 1)) (fv := fv) M hl
      rw [h27] at this
      exact this
    refine (fr_Push hu hf.isF hb (by rw [hbF]; exact hf.len) hf.has true 27 hmay (s := 0) (by omega) ((hf.get 2).trans hsp)).mono ?_
    rintro e w' ⟨rfl, hM, hN⟩
    exact ⟨rfl, _, _, _, ⟨fv, rfl⟩, hM, hN⟩
  · rintro e w' ⟨rfl, lv2, dv2, M2, ⟨fv, rfl⟩, hM, hN⟩
    have hf := h.fr.mkF (cls := 13) (fmt := 1) (G := bkF 25 x y (pc + 1)) (fv := fv) hl
    have hf2 := (hf.put (i := 6) (by omega) (true, 27) (by decide) (by omega) (by omega)).put (i := 2) (by omega) (false, 1) (by decide) (by omega) (fun _ => by decide)
    refine ⟨rfl, lv2, dv2, _, h.st.nx hM hN, ?_, ?_, ?_, ?_⟩
    · exact (hf2.get 2).trans (elV_set_eq _ (by rw [List.length_set, h.fr.len]; decide))
    · exact (hf2.get 6).trans ((elV_set_ne _ (by decide)).trans (elV_set_eq _ (by rw [h.fr.len]; decide)))
    · have := mkF_has (cls := 13) (fmt := 1) (F := bkF 25 x y (pc + 1)) (fv := fv) M hl
      rw [h27] at this
      exact this
    · have := mkF_at (cls := 13) (fmt := 1) (F := bkF 25 x y (pc + 1)) (fv := fv) M
      rw [h27] at this
      exact ⟨_, (put_atO (q := 25) (by decide)).trans ((put_atO (q := 25) (by decide)).trans this), rfl, rfl, rfl, rfl⟩
theorem sk_block_no (h : Sk W w m li lv dv M F) (x y : Int) (hx : 0 ≤ x ∧ x ≤ 20 ∧ 0 ≤ y ∧ y ≤ 20 ∧ (8 < y ∨ y < x)) :
    Calls Tryz.prog 23 #[.pointer (some ⟨m, 0, none⟩), .int .i64 25, .agg #[.int .i64 18, .int .i64 x, .int .i64 y]] w fun e w' => e = .returned (.bool false) ∧ Sk W w' m li lv dv M F := by
  refine (sm_Do_block_no h.st.me (q := ((25 : Nat) : Int)) h.fr.isF x y fun u hu => sm_block_no (h.st.me.below hu) hx).mono ?_
  rintro e w' ⟨rfl, hb⟩
  exact ⟨rfl, h.below hb⟩
theorem sk_Get2 (h : Sk W w m li lv dv M F) (hsp : elV F 2 = (false, 0)) : Calls Tryz.prog 24 #[.pointer (some ⟨m, 0, none⟩), .int .i64 25, .int .i64 2] w fun e w' => e = .returned (.agg #[.bool false, .int .i64 0]) ∧ Below w.heap.size w w' := by
  have := me_Get2 h.st.me 25 2
  have e : M.get 25 2 = (false, 0) := (h.fr.get 2).trans hsp
  rw [e] at this
  exact this
theorem sj_Get2 {x y pc : Int} (h : Sj W w m li lv dv M x y pc) : Calls Tryz.prog 24 #[.pointer (some ⟨m, 0, none⟩), .int .i64 25, .int .i64 2] w fun e w' => e = .returned (.agg #[.bool false, .int .i64 1]) ∧ Below w.heap.size w w' := by
  have := me_Get2 h.st.me 25 2
  rw [h.g2] at this
  exact this
theorem sj_Get6 {x y pc : Int} (h : Sj W w m li lv dv M x y pc) : Calls Tryz.prog 24 #[.pointer (some ⟨m, 0, none⟩), .int .i64 25, .int .i64 6] w fun e w' => e = .returned (.agg #[.bool true, .int .i64 27]) ∧ Below w.heap.size w w' := by
  have := me_Get2 h.st.me 25 6
  rw [h.g6] at this
  exact this
theorem sj_Thing {x y pc : Int} (h : Sj W w m li lv dv M x y pc) : Calls Tryz.prog 25 #[.pointer (some ⟨m, 0, none⟩), .int .i64 27] w fun e w' => ∃ fin hash g c, e = .returned (.agg #[.int .i64 13, .int .i64 1, .int .i64 hash, .bool fin, .slice (some ⟨g, 0, none⟩) 4 c, .string ByteArray.empty]) ∧ (∃ cs, w'.heap[g]? = some (.cells cs 54 (0, 0)) ∧ cs.toList.take 8 = vals (bkF 25 x y (pc + 1))) ∧ w.heap.size ≤ g ∧ Below w.heap.size w w' := by
  obtain ⟨b, hb, hc, hf, hF, hB⟩ := h.bd
  refine (me_Thing h.st.me (q := 27) hb h.has (by rw [hf]; decide) hB (by rw [hF]; show (4 : Nat) ≤ 60000; decide)).mono ?_
  rintro e w' ⟨a, c, rfl, hO, hb2⟩
  rw [hc, hf]
  rw [hF] at hO ⊢
  obtain ⟨hx, ⟨h1, h2⟩ | ⟨g, cap, cur, h3, h4, h5, h6, h7, h8, h9⟩⟩ := hO
  · exact absurd (show (4 : Nat) = 0 from h2) (by decide)
  · obtain ⟨e1, -, e3⟩ := Value.slice.inj h3
    subst e1
    exact ⟨_, _, g, c, rfl, ⟨cur, h5, h9⟩, h4, hb2⟩
end
end Go.Proofs.YtoklohfpkaiidaaGreat.Obj
