/- A field of self is set. -/
import Derived.Test.YtoklohfpkaiidaaGreatSm3
namespace Go.Proofs.YtoklohfpkaiidaaGreat.Obj
open Go.Proofs.YtoklohfpkaiidaaGreat.Gen Go.Proofs.YtoklohfpkaiidaaGreat.Base Go.ChangeShapes Go.WideShapes Go.ChangeAt Go.RowKit
set_option linter.unusedVariables false
theorem infoI3 : (Tryz.prog.info? 61).map (·.size) = some 3 := by kernel_rfl
theorem DoS.startV (w : World) (x0 x1 x2 : Int) (vb : Bool) (vn : Int) : DoS w ((w.alloc (.cells #[.int .i64 x0, .int .i64 x1, .int .i64 x2] 61)).alloc (.cells #[.bool vb, .int .i64 vn] 54)) x0 x1 x2 vb vn :=
  ⟨((Below.refl _ _).alloc (Nat.le_refl _) _).alloc (by simp) _, by simp, (heap_alloc_old _ _ (by simp)).trans (heap_alloc_new w _), by have := heap_alloc_new (w.alloc (.cells #[.int .i64 x0, .int .i64 x1, .int .i64 x2] 61)) (.cells #[.bool vb, .int .i64 vn] 54); simpa using this⟩
/-- The two rows alone. -/
structure DoR (w u : World) (x0 x1 x2 : Int) (vb : Bool) (vn : Int) : Prop where
  size : w.heap.size + 2 ≤ u.heap.size
  ins : u.heap[w.heap.size]? = some (.cells #[.int .i64 x0, .int .i64 x1, .int .i64 x2] 61 (0, 0))
  val : u.heap[w.heap.size + 1]? = some (.cells #[.bool vb, .int .i64 vn] 54 (0, 0))
section
variable {w u v Y : World} {m li : Nat} {lv dv lv1 dv1 lv' dv' : Value} {M M1 M2 : MS} {x0 x1 x2 vn : Int} {vb : Bool}
theorem DoS.nx {P R : Nat → Prop} (h : DoS w u x0 x1 x2 vb vn) (hN : Nx P u R v) (hlt : ∀ k, P k → k < w.heap.size) : DoR w v x0 x1 x2 vb vn :=
  ⟨Nat.le_trans h.size hN.size, (hN.block _ (by have := h.size; omega) fun c => by have := hlt _ c; omega).trans h.ins, (hN.block _ (by have := h.size; omega) fun c => by have := hlt _ c; omega).trans h.val⟩
theorem DoR.put (h : DoR w u x0 x1 x2 vb vn) (vb' : Bool) (vn' : Int) : DoR w (u.setRow (w.heap.size + 1) #[.bool vb', .int .i64 vn']) x0 x1 x2 vb' vn' :=
  ⟨by have := h.size; simp [World.setRow]; omega, (setRow_other u _ _ _ (by omega)).trans h.ins, setRow_heap _ _ _ _ _ _ h.val⟩
theorem do_set (hb : Below w.heap.size w Y) (hs : w.heap.size + 2 ≤ Y.heap.size) (hN : Nx (ownM m li lv dv M) Y (ownM m li lv1 dv1 M1) u) (hM : MemAt u m li lv1 dv1 M1) (hlt : ∀ k, ownM m li lv dv M k → k < w.heap.size) (cs : Array Value) :
    MemAt (u.setRow (w.heap.size + 1) cs) m li lv1 dv1 M1 ∧ Nx (ownM m li lv dv M) w (ownM m li lv1 dv1 M1) (u.setRow (w.heap.size + 1) cs) := by
  refine ⟨hM.keep fun k hk => setRow_other u _ k _ ?_, hN.os.trans hb.os, hN.tape.trans hb.tape, hN.output.trans hb.output, by have := hN.size; simp [World.setRow]; omega, fun k hk hn => ?_, fun k hk => ?_⟩
  · rcases hN.own k hk with c | c
    · have := hlt k c; omega
    · omega
  · exact (setRow_other u _ k _ (by omega)).trans ((hN.block k (by omega) hn).trans (hb.block k hk))
  · rcases hN.own k hk with c | c
    · exact .inl c
    · exact .inr (by omega)
end
section
variable {w u : World} {m li : Nat} {lv dv lv1 dv1 lv' dv' : Value} {M M1 M2 : MS}
set_option maxHeartbeats 2000000 in
set_option maxRecDepth 100000 in
theorem sm_store_set (h : MemAt w m li lv dv M) {q sn : Int} (hs : M.get q 4 = (true, sn)) (h23 : 23 ≤ sn) (x b : Int) (vb : Bool) (vn : Int) {ok : Bool} (hS : ∀ u, Below w.heap.size w u → Calls Tryz.prog 89 #[.pointer (some ⟨m, 0, none⟩), .int .i64 sn, .int .i64 x, .agg #[.bool vb, .int .i64 vn]] u fun e w' => e = .returned (.bool ok) ∧ MemAt w' m li lv' dv' M2 ∧ Nx (ownM m li lv dv M) u (ownM m li lv' dv' M2) w') :
    Calls Tryz.prog 50 #[.pointer (some ⟨m, 0, none⟩), .int .i64 q, .agg #[.int .i64 6, .int .i64 x, .int .i64 b], .agg #[.bool vb, .int .i64 vn]] w fun e w' => e = .returned (.bool ok) ∧ MemAt w' m li lv' dv' M2 ∧ Nx (ownM m li lv dv M) w (ownM m li lv' dv' M2) w' := by
  have HS : Hid (∀ u, Below w.heap.size w u → Calls Tryz.prog 89 #[.pointer (some ⟨m, 0, none⟩), .int .i64 sn, .int .i64 x, .agg #[.bool vb, .int .i64 vn]] u fun e w' => e = .returned (.bool ok) ∧ MemAt w' m li lv' dv' M2 ∧ Nx (ownM m li lv dv M) w (ownM m li lv' dv' M2) w') := Lib.hid fun u hb => (hS u hb).mono fun e w' ⟨h1, h2, h3⟩ => ⟨h1, h2, nx_bel hb h3⟩
  clear hS
  have HG := Lib.hid fun u (hb : Below w.heap.size w u) => me_Get2 (h.below hb) q 4
  rw [hs] at HG
  dsimp only at HG
  have HD := Lib.hid (DoS.startV w 6 x b vb vn)
  have y0 := HD.out.c0
  have hz := zV
  have hvn := val_N
  clear h hs
  go_enter Tryz.func50, Tryz.ntmps50
  go_wp2_with (first
    | (go_at_call 24; (with_reducible refine (HG.out _ HD.out.bel).mono ?_); rintro e u3 ⟨rfl, hb3⟩; have HD3 := Lib.hid (HD.out.more hb3); have HD4 := Lib.hid ((HD.out.more hb3).more ((Below.refl _ _).alloc (Nat.le_refl _) (.cells #[.bool true, .int .i64 sn] 54))); clear hb3 y0; have y0 := HD4.out.c0; have y1 := HD4.out.c1; have z0 := new_cell u3 #[.bool true, .int .i64 sn] 54 (i := 0) rfl; have z1 := new_cell u3 #[.bool true, .int .i64 sn] 54 (i := 1) rfl; dsimp only)
    | (refine wpList_store_row rfl 54 (Operand.tmp 9) (Operand.tmp 32) rfl u3.heap.size #[.bool true, .int .i64 sn] rfl rfl _ _ (heap_alloc_new u3 _) info2 (by rfl) (by simp [Value.oneCell']) ?_; rw [World.setRow_alloc_new])
    | (refine wpl_load_rowG (by rfl) 54 (Operand.tmp 7) (by rfl) (w.heap.size + 1) (by rfl) _ _ (0, 0) _ HD4.out.val Tryz.underlying54 rfl info2 ?_)
    | (go_at_call 89; (with_reducible refine (HS.out _ HD4.out.bel).mono ?_); rintro e u5 ⟨rfl, hM5, hN5⟩; have HM := Lib.hid hM5; have HN := Lib.hid hN5; clear hM5 hN5; dsimp only))
  go_ret
  exact ⟨by simp, HM.out, HN.out⟩
set_option maxHeartbeats 2000000 in
set_option maxRecDepth 100000 in
theorem sm_store_num (h : MemAt w m li lv dv M) {q sn : Int} (hs : M.get q 4 = (false, sn)) (x b : Int) (vb : Bool) (vn : Int) :
    Calls Tryz.prog 50 #[.pointer (some ⟨m, 0, none⟩), .int .i64 q, .agg #[.int .i64 6, .int .i64 x, .int .i64 b], .agg #[.bool vb, .int .i64 vn]] w fun e w' => e = .returned (.bool false) ∧ Below w.heap.size w w' := by
  have HG := Lib.hid fun u (hb : Below w.heap.size w u) => me_Get2 (h.below hb) q 4
  rw [hs] at HG
  dsimp only at HG
  have HD := Lib.hid (DoS.startV w 6 x b vb vn)
  have y0 := HD.out.c0
  have hz := zV
  have hvn := val_N
  clear h hs
  go_enter Tryz.func50, Tryz.ntmps50
  go_wp2_with (first
    | (go_at_call 24; (with_reducible refine (HG.out _ HD.out.bel).mono ?_); rintro e u3 ⟨rfl, hb3⟩; have HD3 := Lib.hid (HD.out.more hb3); have HD4 := Lib.hid ((HD.out.more hb3).more ((Below.refl _ _).alloc (Nat.le_refl _) (.cells #[.bool false, .int .i64 sn] 54))); clear hb3 y0; have y0 := HD4.out.c0; have y1 := HD4.out.c1; have z0 := new_cell u3 #[.bool false, .int .i64 sn] 54 (i := 0) rfl; have z1 := new_cell u3 #[.bool false, .int .i64 sn] 54 (i := 1) rfl; dsimp only)
    | (refine wpList_store_row rfl 54 (Operand.tmp 9) (Operand.tmp 32) rfl u3.heap.size #[.bool false, .int .i64 sn] rfl rfl _ _ (heap_alloc_new u3 _) info2 (by rfl) (by simp [Value.oneCell']) ?_; rw [World.setRow_alloc_new]))
  go_ret
  exact ⟨rfl, HD4.out.bel⟩
set_option maxHeartbeats 2000000 in
set_option maxRecDepth 100000 in
theorem sm_store_low (h : MemAt w m li lv dv M) {q sn : Int} (hs : M.get q 4 = (true, sn)) (h23 : sn < 23) (x b : Int) (vb : Bool) (vn : Int) :
    Calls Tryz.prog 50 #[.pointer (some ⟨m, 0, none⟩), .int .i64 q, .agg #[.int .i64 6, .int .i64 x, .int .i64 b], .agg #[.bool vb, .int .i64 vn]] w fun e w' => e = .returned (.bool false) ∧ Below w.heap.size w w' := by
  have HG := Lib.hid fun u (hb : Below w.heap.size w u) => me_Get2 (h.below hb) q 4
  rw [hs] at HG
  dsimp only at HG
  have HD := Lib.hid (DoS.startV w 6 x b vb vn)
  have y0 := HD.out.c0
  have hz := zV
  have hvn := val_N
  clear h hs
  have t1 : ¬ 23 ≤ sn := by omega
  go_enter Tryz.func50, Tryz.ntmps50
  go_wp2_with (first
    | (go_at_call 24; (with_reducible refine (HG.out _ HD.out.bel).mono ?_); rintro e u3 ⟨rfl, hb3⟩; have HD3 := Lib.hid (HD.out.more hb3); have HD4 := Lib.hid ((HD.out.more hb3).more ((Below.refl _ _).alloc (Nat.le_refl _) (.cells #[.bool true, .int .i64 sn] 54))); clear hb3 y0; have y0 := HD4.out.c0; have y1 := HD4.out.c1; have z0 := new_cell u3 #[.bool true, .int .i64 sn] 54 (i := 0) rfl; have z1 := new_cell u3 #[.bool true, .int .i64 sn] 54 (i := 1) rfl; dsimp only)
    | (refine wpList_store_row rfl 54 (Operand.tmp 9) (Operand.tmp 32) rfl u3.heap.size #[.bool true, .int .i64 sn] rfl rfl _ _ (heap_alloc_new u3 _) info2 (by rfl) (by simp [Value.oneCell']) ?_; rw [World.setRow_alloc_new]))
  go_ret
  exact ⟨rfl, HD4.out.bel⟩
set_option maxHeartbeats 2000000 in
set_option maxRecDepth 100000 in
theorem sm_Do_set (h : MemAt w m li lv dv M) {q si mn bn : Int} (hI : M.isF q si mn bn) (x b : Int) {vb ok : Bool} {vn : Int}
    (hP : ∀ u, Below w.heap.size w u → Calls Tryz.prog 48 #[.pointer (some ⟨m, 0, none⟩), .int .i64 q] u fun e w' => e = .returned (.tuple #[.agg #[.bool vb, .int .i64 vn], .bool true]) ∧ MemAt w' m li lv1 dv1 M1 ∧ Nx (ownM m li lv dv M) u (ownM m li lv1 dv1 M1) w')
    (hS : ∀ u, MemAt u m li lv1 dv1 M1 → Calls Tryz.prog 50 #[.pointer (some ⟨m, 0, none⟩), .int .i64 q, .agg #[.int .i64 6, .int .i64 x, .int .i64 b], .agg #[.bool vb, .int .i64 vn]] u fun e w' => e = .returned (.bool ok) ∧ MemAt w' m li lv' dv' M2 ∧ Nx (ownM m li lv1 dv1 M1) u (ownM m li lv' dv' M2) w') :
    Calls Tryz.prog 23 #[.pointer (some ⟨m, 0, none⟩), .int .i64 q, .agg #[.int .i64 6, .int .i64 x, .int .i64 b]] w fun e w' => e = .returned (.bool ok) ∧ MemAt w' m li lv' dv' M2 ∧ Nx (ownM m li lv dv M) w (ownM m li lv' dv' M2) w' := by
  have HIS := Lib.hid fun u (hb : Below w.heap.size w u) => fr_Is (h.below hb) hI
  have HP := Lib.hid hP
  have HS := Lib.hid hS
  have HLT : Hid (∀ k, ownM m li lv dv M k → k < w.heap.size) := Lib.hid fun k hk => h.lt hk
  have HD0 := Lib.hid (DoS.start w 6 x b)
  have HDZ := Lib.hid ((DoS.start w 6 x b).put false 0)
  have hz := zV
  clear h hI hP hS
  go_enter Tryz.func23, Tryz.ntmps23
  go_wp2_with fail
  refine wp_scope_gotos 1 ?_
  generalize hQ : gotoN _ _ 1 _ = Q1
  have HQ1 := Lib.hid hQ; clear hQ
  go_wp2_with (first
    | (refine wpList_store_row rfl 54 (Operand.tmp 7) (Operand.tmp 9) rfl (w.heap.size + 1) #[.bool false, .int .i64 0] rfl rfl _ _ HD0.out.val info2 (by rfl) (by simp [Value.oneCell']) ?_)
    | (go_at_call 41; (with_reducible refine (HIS.out _ HDZ.out.bel).mono ?_); rintro e u1 ⟨rfl, hb1⟩; have HD1 := Lib.hid (HDZ.out.more hb1); have y0 := HD1.out.c0; clear hb1; dsimp only)
    | (go_at_call 48; (with_reducible refine (HP.out _ HD1.out.bel).mono ?_); rintro e u2 ⟨rfl, hM2, hN2⟩; have HR := Lib.hid (HD1.out.nx hN2 HLT.out); have HR2 := Lib.hid (HR.out.put vb vn); have HF := Lib.hid (do_set HD1.out.bel HD1.out.size hN2 hM2 HLT.out #[.bool vb, .int .i64 vn]); clear hM2 hN2 y0; dsimp only)
    | (refine wpList_store_row rfl 54 (Operand.tmp 7) (Operand.tmp 141) rfl (w.heap.size + 1) #[.bool vb, .int .i64 vn] rfl rfl _ _ HR.out.val info2 (by rfl) (by simp [Value.oneCell']) ?_)
    | (refine wpl_load_rowG (by rfl) 61 (Operand.tmp 5) (by rfl) w.heap.size (by rfl) _ _ (0, 0) _ HR2.out.ins Tryz.underlying61 rfl infoI3 ?_)
    | (refine wpl_load_rowG (by rfl) 54 (Operand.tmp 7) (by rfl) (w.heap.size + 1) (by rfl) _ _ (0, 0) _ HR2.out.val Tryz.underlying54 rfl info2 ?_)
    | (go_at_call 50; (with_reducible refine (HS.out _ HF.out.1).mono ?_); rintro e u3 ⟨rfl, hM3, hN3⟩; have HM := Lib.hid hM3; have HN := Lib.hid (HF.out.2.trans hN3); clear hM3 hN3; dsimp only))
  rw [← HQ1.out]
  try simp only [gotoN_ret]
  go_ret
  exact ⟨by simp, HM.out, HN.out⟩
end
end Go.Proofs.YtoklohfpkaiidaaGreat.Obj
