/- Frames: Push. -/
/- Frames: Push where there is room. -/
/- Frames: Top. -/
/- Frames: Pop. -/
/- Frames: Top where there is none. -/
import Derived.Test.YtoklohfpkaiidaaGreatFr4
namespace Go.Proofs.YtoklohfpkaiidaaGreat.Obj
open Go.Proofs.YtoklohfpkaiidaaGreat.Gen Go.Proofs.YtoklohfpkaiidaaGreat.Base Go.ChangeShapes Go.WideShapes Go.ChangeAt Go.RowKit
set_option linter.unusedVariables false
section
variable {w : World} {m li : Nat} {lv dv : Value} {M : MS}
theorem me_May2 (h : MemAt w m li lv dv M) (vb : Bool) (vn : Int) : Calls Tryz.prog 94 #[.pointer (some ⟨m, 0, none⟩), .agg #[.bool vb, .int .i64 vn]] w fun e w' => e = .returned (.bool (M.may (vb, vn))) ∧ Below w.heap.size w w' := me_May h (vb, vn)
set_option maxHeartbeats 1000000 in
set_option maxRecDepth 100000 in
/-- There is no room. -/
theorem fr_Push_full (h : MemAt w m li lv dv M) {id sn mn bn : Int} (hI : M.isF id sn mn bn) (vb : Bool) (vn : Int) (hmay : M.may (vb, vn) = true) (hsp : M.get id 2 = (false, 16)) : Calls Tryz.prog 51 #[.pointer (some ⟨m, 0, none⟩), .int .i64 id, .agg #[.bool vb, .int .i64 vn]] w fun e w' => e = .returned (.bool false) ∧ Below w.heap.size w w' := by
  have HB0 : Below w.heap.size w (w.alloc (.cells #[.bool vb, .int .i64 vn] 54)) := (Below.refl _ _).alloc (Nat.le_refl _) _
  have HBX : Hid (Below (w.alloc (.cells #[.bool vb, .int .i64 vn] 54)).heap.size (w.alloc (.cells #[.bool vb, .int .i64 vn] 54)) (w.alloc (.cells #[.bool vb, .int .i64 vn] 54))) := Lib.hid (Below.refl _ _)
  have HWX : Hid (∀ u, Below (w.alloc (.cells #[.bool vb, .int .i64 vn] 54)).heap.size (w.alloc (.cells #[.bool vb, .int .i64 vn] 54)) u → Below w.heap.size w u) := Lib.hid fun u hb => HB0.trans (hb.mono HB0.size)
  have HIS := Lib.hid fun u (hb : Below w.heap.size w u) => fr_Is (h.below hb) hI
  have HMY := Lib.hid fun u (hb : Below w.heap.size w u) => me_May2 (h.below hb) vb vn
  have HG2 := Lib.hid fun u (hb : Below w.heap.size w u) => me_Get2 (h.below hb) id 2
  have hvn := val_N
  rw [hmay] at HMY
  rw [hsp] at HG2
  dsimp only at HG2
  clear h hI hmay hsp
  go_enter Tryz.func51, Tryz.ntmps51
  go_wp2_with (first | (go_at_call 41; (with_reducible refine (HIS.out _ (HWX.out _ HBX.out)).mono ?_); rintro e u1 ⟨rfl, hb1⟩; have HBX := Lib.hid (HBX.out.trans (hb1.mono HBX.out.size)); clear hb1; have y0 := (HBX.out.cell (p := ⟨w.heap.size, 0, none⟩) (by simp)).trans (new_cell w #[.bool vb, .int .i64 vn] 54 (i := 0) rfl); have y1 := (HBX.out.cell (p := ⟨w.heap.size, 1, none⟩) (by simp)).trans (new_cell w #[.bool vb, .int .i64 vn] 54 (i := 1) rfl); dsimp only) | (go_at_call 94; (with_reducible refine (HMY.out _ (HWX.out _ HBX.out)).mono ?_); rintro e u2 ⟨rfl, hb2⟩; have HBX := Lib.hid (HBX.out.trans (hb2.mono HBX.out.size)); clear hb2; have y0 := (HBX.out.cell (p := ⟨w.heap.size, 0, none⟩) (by simp)).trans (new_cell w #[.bool vb, .int .i64 vn] 54 (i := 0) rfl); have y1 := (HBX.out.cell (p := ⟨w.heap.size, 1, none⟩) (by simp)).trans (new_cell w #[.bool vb, .int .i64 vn] 54 (i := 1) rfl); dsimp only) | (go_at_call 24; (with_reducible refine (HG2.out _ (HWX.out _ HBX.out)).mono ?_); rintro e u3 ⟨rfl, hb3⟩; have HBX := Lib.hid (HBX.out.trans (hb3.mono HBX.out.size)); clear hb3; have y0 := (HBX.out.cell (p := ⟨w.heap.size, 0, none⟩) (by simp)).trans (new_cell w #[.bool vb, .int .i64 vn] 54 (i := 0) rfl); have y1 := (HBX.out.cell (p := ⟨w.heap.size, 1, none⟩) (by simp)).trans (new_cell w #[.bool vb, .int .i64 vn] 54 (i := 1) rfl); dsimp only))
  go_ret
  exact ⟨rfl, HWX.out _ HBX.out⟩
end
end Go.Proofs.YtoklohfpkaiidaaGreat.Obj

namespace Go.Proofs.YtoklohfpkaiidaaGreat.Obj
open Go.Proofs.YtoklohfpkaiidaaGreat.Gen Go.Proofs.YtoklohfpkaiidaaGreat.Base Go.ChangeShapes Go.WideShapes Go.ChangeAt Go.RowKit
set_option linter.unusedVariables false
section
variable {w : World} {m li : Nat} {lv dv : Value} {M : MS}
theorem Nx.trans {P Q R : Nat → Prop} {u v : World} (h : Nx P w Q u) (k : Nx Q u R v) : Nx P w R v :=
  ⟨k.os.trans h.os, k.tape.trans h.tape, k.output.trans h.output, Nat.le_trans h.size k.size,
    fun j hj hn => (k.block j (Nat.lt_of_lt_of_le hj h.size) fun hq => by rcases h.own j hq with c | c; exact hn c; omega).trans (h.block j hj hn),
    fun j hj => by
      rcases k.own j hj with c | c
      · exact h.own j c
      · exact .inr (Nat.le_trans h.size c)⟩
theorem nx_bel {P R : Nat → Prop} {u v : World} (h : Below w.heap.size w u) (k : Nx P u R v) : Nx P w R v :=
  (show Nx P w P u from ⟨h.os, h.tape, h.output, h.size, fun j hj _ => h.block j hj, fun j hj => .inl hj⟩).trans k
theorem put_has (i j : Int) (v : V) (id : Int) : (M.put i j v).has id = M.has id := rfl
set_option maxHeartbeats 2000000 in
set_option maxRecDepth 100000 in
theorem fr_Push (h : MemAt w m li lv dv M) {q : Nat} {sn mn bn : Int} (hI : M.isF q sn mn bn) {b : Bd} (hb : M.bs[q]? = some b) (hF : b.F.length = 22) (hhas : M.has q = true) (vb : Bool) (vn : Int) (hmay : M.may (vb, vn) = true) {s : Nat} (hs : s < 16) (hsp : M.get q 2 = (false, (s : Int))) :
    Calls Tryz.prog 51 #[.pointer (some ⟨m, 0, none⟩), .int .i64 (q : Int), .agg #[.bool vb, .int .i64 vn]] w fun e w' => e = .returned (.bool true) ∧ MemAt w' m li lv dv ((M.put (q : Int) (6 + (s : Int)) (vb, vn)).put (q : Int) 2 (false, (s : Int) + 1)) ∧ Nx (ownM m li lv dv M) w (ownM m li lv dv ((M.put (q : Int) (6 + (s : Int)) (vb, vn)).put (q : Int) 2 (false, (s : Int) + 1))) w' := by
  have HS1 : Hid (∀ u, MemAt u m li lv dv M → Calls Tryz.prog 89 #[.pointer (some ⟨m, 0, none⟩), .int .i64 (q : Int), .int .i64 (6 + (s : Int)), .agg #[.bool vb, .int .i64 vn]] u fun e w' => e = .returned (.bool true) ∧ MemAt w' m li lv dv (M.put (q : Int) (6 + (s : Int)) (vb, vn)) ∧ Nx (ownM m li lv dv M) u (ownM m li lv dv (M.put (q : Int) (6 + (s : Int)) (vb, vn))) w') := Lib.hid fun u hu => by
    have := me_Set_yes hu q (6 + s) b vb vn hb (by omega) hhas hmay (by unfold MS.unmakes; rw [show decide (((6 + s : Nat) : Int) = 3 ∨ ((6 + s : Nat) : Int) = 4) = false by simp; omega]; rfl)
    rw [show ((6 + s : Nat) : Int) = 6 + (s : Int) by omega] at this
    exact this
  have hat : M.at (q : Int) = b := by unfold MS.at; rw [Int.toNat_natCast, hb]; rfl
  have hb2 : (M.put (q : Int) (6 + (s : Int)) (vb, vn)).bs[q]? = some { b with F := b.F.set (6 + s) (vb, vn) } := by
    have hl := (List.getElem?_eq_some_iff.1 hb).1
    show (M.bs.set (q : Int).toNat _)[q]? = _
    rw [hat, Int.toNat_natCast, List.getElem?_set_self hl, show (6 + (s : Int)).toNat = 6 + s by omega]
  have HS2 : Hid (∀ u, MemAt u m li lv dv (M.put (q : Int) (6 + (s : Int)) (vb, vn)) → Calls Tryz.prog 89 #[.pointer (some ⟨m, 0, none⟩), .int .i64 (q : Int), .int .i64 2, .agg #[.bool false, .int .i64 ((s : Int) + 1)]] u fun e w' => e = .returned (.bool true) ∧ MemAt w' m li lv dv ((M.put (q : Int) (6 + (s : Int)) (vb, vn)).put (q : Int) 2 (false, (s : Int) + 1)) ∧ Nx (ownM m li lv dv (M.put (q : Int) (6 + (s : Int)) (vb, vn))) u (ownM m li lv dv ((M.put (q : Int) (6 + (s : Int)) (vb, vn)).put (q : Int) 2 (false, (s : Int) + 1))) w') := Lib.hid fun u hu => by
    have := me_Set_yes hu q 2 _ false ((s : Int) + 1) hb2 (by simp; omega) hhas (by unfold MS.may fits; simp; omega) rfl
    exact this
  have HME := Lib.hid fun u (hb : Below w.heap.size w u) => h.below hb
  have id := (q : Int)
  have HB0 : Below w.heap.size w (w.alloc (.cells #[.bool vb, .int .i64 vn] 54)) := (Below.refl _ _).alloc (Nat.le_refl _) _
  have HBX : Hid (Below (w.alloc (.cells #[.bool vb, .int .i64 vn] 54)).heap.size (w.alloc (.cells #[.bool vb, .int .i64 vn] 54)) (w.alloc (.cells #[.bool vb, .int .i64 vn] 54))) := Lib.hid (Below.refl _ _)
  have HWX : Hid (∀ u, Below (w.alloc (.cells #[.bool vb, .int .i64 vn] 54)).heap.size (w.alloc (.cells #[.bool vb, .int .i64 vn] 54)) u → Below w.heap.size w u) := Lib.hid fun u hb => HB0.trans (hb.mono HB0.size)
  have HIS := Lib.hid fun u (hb : Below w.heap.size w u) => fr_Is (h.below hb) hI
  have HMY := Lib.hid fun u (hb : Below w.heap.size w u) => me_May2 (h.below hb) vb vn
  have HG2 := Lib.hid fun u (hb : Below w.heap.size w u) => me_Get2 (h.below hb) (q : Int) 2
  have hvn := val_N
  rw [hmay] at HMY
  rw [hsp] at HG2
  dsimp only at HG2
  have hz := zV
  have t1 : ((s : Int) == 16) = false := by simp; omega
  have t2 : ¬ (s : Int) = 16 := by omega
  have t3 : decide ((s : Int) = 16) = false := by simp; omega
  clear h hI hmay hsp hb hb2 hat hhas hF id
  go_enter Tryz.func51, Tryz.ntmps51
  go_wp2_with (first | (go_at_call 41; (with_reducible refine (HIS.out _ (HWX.out _ HBX.out)).mono ?_); rintro e u1 ⟨rfl, hb1⟩; have HBX := Lib.hid (HBX.out.trans (hb1.mono HBX.out.size)); clear hb1; have y0 := (HBX.out.cell (p := ⟨w.heap.size, 0, none⟩) (by simp)).trans (new_cell w #[.bool vb, .int .i64 vn] 54 (i := 0) rfl); have y1 := (HBX.out.cell (p := ⟨w.heap.size, 1, none⟩) (by simp)).trans (new_cell w #[.bool vb, .int .i64 vn] 54 (i := 1) rfl); dsimp only) | (go_at_call 94; (with_reducible refine (HMY.out _ (HWX.out _ HBX.out)).mono ?_); rintro e u2 ⟨rfl, hb2⟩; have HBX := Lib.hid (HBX.out.trans (hb2.mono HBX.out.size)); clear hb2; have y0 := (HBX.out.cell (p := ⟨w.heap.size, 0, none⟩) (by simp)).trans (new_cell w #[.bool vb, .int .i64 vn] 54 (i := 0) rfl); have y1 := (HBX.out.cell (p := ⟨w.heap.size, 1, none⟩) (by simp)).trans (new_cell w #[.bool vb, .int .i64 vn] 54 (i := 1) rfl); dsimp only) | (go_at_call 24; (with_reducible refine (HG2.out _ (HWX.out _ HBX.out)).mono ?_); rintro e u3 ⟨rfl, hb3⟩; have HBX := Lib.hid (HBX.out.trans (hb3.mono HBX.out.size)); clear hb3; have y0 := (HBX.out.cell (p := ⟨w.heap.size, 0, none⟩) (by simp)).trans (new_cell w #[.bool vb, .int .i64 vn] 54 (i := 0) rfl); have y1 := (HBX.out.cell (p := ⟨w.heap.size, 1, none⟩) (by simp)).trans (new_cell w #[.bool vb, .int .i64 vn] 54 (i := 1) rfl); dsimp only) | (go_at_call 89; (with_reducible refine (HS1.out _ (HME.out _ (HWX.out _ HBX.out))).mono ?_); rintro e u4 ⟨rfl, hM4, hN4⟩; have HM4 := Lib.hid hM4; have HN4 := Lib.hid (nx_bel (HWX.out _ HBX.out) hN4); clear hM4 hN4; dsimp only) | (go_at_call 89; (with_reducible refine (HS2.out _ HM4.out).mono ?_); rintro e u5 ⟨rfl, hM5, hN5⟩; have HM5 := Lib.hid hM5; have HN5 := Lib.hid (HN4.out.trans hN5); clear hM5 hN5; dsimp only))
  go_ret
  exact ⟨rfl, HM5.out, HN5.out⟩
end
end Go.Proofs.YtoklohfpkaiidaaGreat.Obj

namespace Go.Proofs.YtoklohfpkaiidaaGreat.Obj
open Go.Proofs.YtoklohfpkaiidaaGreat.Gen Go.Proofs.YtoklohfpkaiidaaGreat.Base Go.ChangeShapes Go.WideShapes Go.ChangeAt Go.RowKit
set_option linter.unusedVariables false
section
variable {w u : World} {m li : Nat} {lv dv : Value} {M : MS}
theorem load2 (w : World) (b : Nat) (cs : Array Value) (hr : w.heap[b]? = some (.cells cs 54 (0, 0))) (hs : cs.size = 2) : Sem.run Tryz.prog (loadVar 54 ⟨b, 0, none⟩) w = .ok (.agg cs) w :=
  run_loadVar_row _ _ _ _ _ _ _ hr Tryz.underlying54 rfl (by rw [info2, hs])
theorem bel_row (w : World) {u : World} (hb : Below (w.alloc (.cells #[.bool false, .int .i64 0] 54)).heap.size (w.alloc (.cells #[.bool false, .int .i64 0] 54)) u) (cs : Array Value) : Below w.heap.size w (u.setRow w.heap.size cs) := by
  have h0 : Below w.heap.size w (w.alloc (.cells #[.bool false, .int .i64 0] 54)) := (Below.refl _ _).alloc (Nat.le_refl _) _
  have h1 := h0.trans (hb.mono h0.size)
  exact ⟨h1.os, h1.tape, h1.output, by simpa [World.setRow] using h1.size, fun k hk => (setRow_other u _ k _ (by omega)).trans (h1.block k hk)⟩
set_option maxHeartbeats 1000000 in
set_option maxRecDepth 100000 in
theorem fr_Top (h : MemAt w m li lv dv M) {id sn mn bn : Int} (hI : M.isF id sn mn bn) {s d : Nat} (hs : s ≤ 16) (hd : d < s) (hsp : M.get id 2 = (false, (s : Int))) :
    Calls Tryz.prog 44 #[.pointer (some ⟨m, 0, none⟩), .int .i64 id, .int .i64 (d : Int)] w fun e w' => e = .returned (.tuple #[.agg #[.bool (M.get id (6 + (s : Int) - 1 - (d : Int))).1, .int .i64 (M.get id (6 + (s : Int) - 1 - (d : Int))).2], .bool true]) ∧ Below w.heap.size w w' := by
  have HB0 : Below w.heap.size w (w.alloc (.cells #[.bool false, .int .i64 0] 54)) := (Below.refl _ _).alloc (Nat.le_refl _) _
  have HBX : Hid (Below (w.alloc (.cells #[.bool false, .int .i64 0] 54)).heap.size (w.alloc (.cells #[.bool false, .int .i64 0] 54)) (w.alloc (.cells #[.bool false, .int .i64 0] 54))) := Lib.hid (Below.refl _ _)
  have HWX : Hid (∀ u, Below (w.alloc (.cells #[.bool false, .int .i64 0] 54)).heap.size (w.alloc (.cells #[.bool false, .int .i64 0] 54)) u → Below w.heap.size w u) := Lib.hid fun u hb => HB0.trans (hb.mono HB0.size)
  have HIS := Lib.hid fun u (hb : Below w.heap.size w u) => fr_Is (h.below hb) hI
  have HG2 := Lib.hid fun u (hb : Below w.heap.size w u) => me_Get2 (h.below hb) id 2
  have HGV := Lib.hid fun u (hb : Below w.heap.size w u) => me_Get2 (h.below hb) id (6 + (s : Int) - 1 - (d : Int))
  have hvn := val_N
  rw [hsp] at HG2
  dsimp only at HG2
  clear h hI hsp HB0
  revert HGV
  generalize M.get id (6 + (s : Int) - 1 - (d : Int)) = v
  obtain ⟨vb, vn⟩ := v
  intro HGV
  dsimp only at HGV
  have t1 : ¬ (d : Int) < 0 := by omega
  have t2 : ¬ (s : Int) ≤ (d : Int) := by omega
  have t3 : decide ((s : Int) ≤ (d : Int)) = false := by simp; omega
  go_enter Tryz.func44, Tryz.ntmps44
  go_wp2_with (first | (go_at_call 41; (with_reducible refine (HIS.out _ (HWX.out _ HBX.out)).mono ?_); rintro e u1 ⟨rfl, hb1⟩; have HBX := Lib.hid (HBX.out.trans (hb1.mono HBX.out.size)); clear hb1; dsimp only) | (go_at_call 24; (with_reducible refine (HG2.out _ (HWX.out _ HBX.out)).mono ?_); rintro e u2 ⟨rfl, hb2⟩; have HBX := Lib.hid (HBX.out.trans (hb2.mono HBX.out.size)); clear hb2; dsimp only) | (go_at_call 24; (with_reducible refine (HGV.out _ (HWX.out _ HBX.out)).mono ?_); rintro e u3 ⟨rfl, hb3⟩; have HBX := Lib.hid (HBX.out.trans (hb3.mono HBX.out.size)); clear hb3; have HZR := Lib.hid ((HBX.out.block w.heap.size (by simp)).trans (heap_alloc_new w (.cells #[.bool false, .int .i64 0] 54))); dsimp only) | (refine wpList_store_row rfl 54 (Operand.tmp 6) (Operand.tmp 33) rfl w.heap.size #[.bool vb, .int .i64 vn] rfl rfl _ _ HZR.out info2 (by rfl) (by simp [Value.oneCell']) ?_))
  have hld := load2 (u3.setRow w.heap.size #[.bool vb, .int .i64 vn]) w.heap.size #[.bool vb, .int .i64 vn] (setRow_heap _ _ _ _ _ _ HZR.out) rfl
  refine bodyPost_ret (v := .tuple #[.agg #[.bool vb, .int .i64 vn], .bool true]) ?_ rfl ⟨rfl, bel_row w HBX.out _⟩
  rw [results_cell_tmp rfl]
  simp [asAddr, Result.andThen, hld]
end
end Go.Proofs.YtoklohfpkaiidaaGreat.Obj

namespace Go.Proofs.YtoklohfpkaiidaaGreat.Obj
open Go.Proofs.YtoklohfpkaiidaaGreat.Gen Go.Proofs.YtoklohfpkaiidaaGreat.Base Go.ChangeShapes Go.WideShapes Go.ChangeAt Go.RowKit
set_option linter.unusedVariables false
section
variable {w u Y : World} {m li : Nat} {lv dv : Value} {M M2 : MS}
theorem Nx.bel {P R : Nat → Prop} {u v : World} (h : Nx P w R u) (k : Below u.heap.size u v) : Nx P w R v :=
  h.trans ⟨k.os, k.tape, k.output, k.size, fun j hj _ => k.block j hj, fun j hj => .inl hj⟩
theorem pop_row {P R : Nat → Prop} {k : Nat} {o : Obj} (h : Nx P Y R u) (hk : k < Y.heap.size) (hn : ¬ P k) (hr : Y.heap[k]? = some o) : u.heap[k]? = some o := (h.block k hk hn).trans hr
theorem pop_fin (hb : Below w.heap.size w Y) (hs : w.heap.size < Y.heap.size) (hN : Nx (ownM m li lv dv M) Y (ownM m li lv dv M2) u) (hM : MemAt u m li lv dv M2) (hlt : ∀ k, ownM m li lv dv M k → k < w.heap.size) (cs : Array Value) :
    MemAt (u.setRow w.heap.size cs) m li lv dv M2 ∧ Nx (ownM m li lv dv M) w (ownM m li lv dv M2) (u.setRow w.heap.size cs) := by
  refine ⟨hM.keep fun k hk => setRow_other u _ k _ ?_, hN.os.trans hb.os, hN.tape.trans hb.tape, hN.output.trans hb.output, by have := hN.size; simp [World.setRow]; omega, fun k hk hn => ?_, fun k hk => ?_⟩
  · rcases hN.own k hk with c | c
    · have := hlt k c; omega
    · omega
  · exact (setRow_other u _ k _ (by omega)).trans ((hN.block k (by omega) hn).trans (hb.block k hk))
  · rcases hN.own k hk with c | c
    · exact .inl c
    · exact .inr (by omega)
set_option maxHeartbeats 2000000 in
set_option maxRecDepth 100000 in
theorem fr_Pop (h : MemAt w m li lv dv M) {q : Nat} {sn mn bn : Int} (hI : M.isF q sn mn bn) {b : Bd} (hb : M.bs[q]? = some b) (hF : b.F.length = 22) (hhas : M.has q = true) (hnil : M.has 0 = true) {s : Nat} (hs0 : 0 < s) (hs : s ≤ 16) (hsp : M.get q 2 = (false, (s : Int))) :
    Calls Tryz.prog 48 #[.pointer (some ⟨m, 0, none⟩), .int .i64 (q : Int)] w fun e w' => e = .returned (.tuple #[.agg #[.bool (M.get q (6 + (s : Int) - 1 - 0)).1, .int .i64 (M.get q (6 + (s : Int) - 1 - 0)).2], .bool true]) ∧ MemAt w' m li lv dv ((M.put (q : Int) 2 (false, (s : Int) - 1)).put (q : Int) (6 + ((s : Int) - 1)) (true, 0)) ∧ Nx (ownM m li lv dv M) w (ownM m li lv dv ((M.put (q : Int) 2 (false, (s : Int) - 1)).put (q : Int) (6 + ((s : Int) - 1)) (true, 0))) w' := by
  have HS1 : Hid (∀ u, MemAt u m li lv dv M → Calls Tryz.prog 89 #[.pointer (some ⟨m, 0, none⟩), .int .i64 (q : Int), .int .i64 2, .agg #[.bool false, .int .i64 ((s : Int) - 1)]] u fun e w' => e = .returned (.bool true) ∧ MemAt w' m li lv dv (M.put (q : Int) 2 (false, (s : Int) - 1)) ∧ Nx (ownM m li lv dv M) u (ownM m li lv dv (M.put (q : Int) 2 (false, (s : Int) - 1))) w') := Lib.hid fun u hu => by
    have := me_Set_yes hu q 2 b false ((s : Int) - 1) hb (by omega) hhas (by unfold MS.may fits; simp; omega) rfl
    exact this
  have hat : M.at (q : Int) = b := by unfold MS.at; rw [Int.toNat_natCast, hb]; rfl
  have hb2 : (M.put (q : Int) 2 (false, (s : Int) - 1)).bs[q]? = some { b with F := b.F.set 2 (false, (s : Int) - 1) } := by
    have hl := (List.getElem?_eq_some_iff.1 hb).1
    show (M.bs.set (q : Int).toNat _)[q]? = _
    rw [hat, Int.toNat_natCast, List.getElem?_set_self hl]; rfl
  have HS2 : Hid (∀ u, MemAt u m li lv dv (M.put (q : Int) 2 (false, (s : Int) - 1)) → Calls Tryz.prog 89 #[.pointer (some ⟨m, 0, none⟩), .int .i64 (q : Int), .int .i64 (6 + ((s : Int) - 1)), .agg #[.bool true, .int .i64 0]] u fun e w' => e = .returned (.bool true) ∧ MemAt w' m li lv dv ((M.put (q : Int) 2 (false, (s : Int) - 1)).put (q : Int) (6 + ((s : Int) - 1)) (true, 0)) ∧ Nx (ownM m li lv dv (M.put (q : Int) 2 (false, (s : Int) - 1))) u (ownM m li lv dv ((M.put (q : Int) 2 (false, (s : Int) - 1)).put (q : Int) (6 + ((s : Int) - 1)) (true, 0))) w') := Lib.hid fun u hu => by
    have := me_Set_yes hu q (6 + (s - 1)) _ true 0 hb2 (by simp; omega) hhas hnil (by unfold MS.unmakes; rw [show decide (((6 + (s - 1) : Nat) : Int) = 3 ∨ ((6 + (s - 1) : Nat) : Int) = 4) = false by simp; omega]; rfl)
    rw [show ((6 + (s - 1) : Nat) : Int) = 6 + ((s : Int) - 1) by omega] at this
    exact this
  have HME := Lib.hid fun u (hb : Below w.heap.size w u) => h.below hb
  have HB0 : Hid (Below w.heap.size w (w.alloc (.cells #[.bool false, .int .i64 0] 54))) := Lib.hid ((Below.refl _ _).alloc (Nat.le_refl _) _)
  have HTP := Lib.hid fun u (hb : Below w.heap.size w u) => fr_Top (h.below hb) hI hs (d := 0) hs0 hsp
  have HG2 := Lib.hid fun u (hb : Below w.heap.size w u) => me_Get2 (h.below hb) q 2
  have HNO : Hid (∀ k, ownM m li lv dv M k → k < w.heap.size) := Lib.hid fun k hk => h.lt hk
  have hvn := val_N
  have hz := zV
  rw [hsp] at HG2
  dsimp only at HG2
  clear h hI hsp hb hb2 hat hF hhas hnil
  revert HTP
  rw [show ((0 : Nat) : Int) = 0 from rfl]
  generalize M.get (q : Int) (6 + (s : Int) - 1 - 0) = v
  obtain ⟨vb, vn⟩ := v
  intro HTP
  dsimp only at HTP
  go_enter Tryz.func48, Tryz.ntmps48
  go_wp2_with (first | (go_at_call 44; (with_reducible refine (HTP.out _ HB0.out).mono ?_); rintro e u1 ⟨rfl, hb1⟩; have HB1 := Lib.hid (HB0.out.trans (hb1.mono HB0.out.size)); have HZ1 := Lib.hid ((hb1.block w.heap.size (by simp)).trans (heap_alloc_new w (.cells #[.bool false, .int .i64 0] 54))); have HLT := Lib.hid ((Array.getElem?_eq_some_iff.1 HZ1.out).1); clear hb1; have HYB : Hid (Below w.heap.size w (u1.alloc (.cells #[.bool vb, .int .i64 vn] 54))) := Lib.hid (HB1.out.alloc HB1.out.size _); dsimp only) | (go_at_call 24; (with_reducible refine (HG2.out _ HYB.out).mono ?_); rintro e u2 ⟨rfl, hb2⟩; have HY2 := Lib.hid hb2; clear hb2; dsimp only) | (go_at_call 89; (with_reducible refine (HS1.out _ (HME.out _ (HYB.out.trans (HY2.out.mono HYB.out.size)))).mono ?_); rintro e u3 ⟨rfl, hM3, hN3⟩; have HM3 := Lib.hid hM3; have HN3 := Lib.hid (nx_bel HY2.out hN3); clear hM3 hN3; dsimp only) | (go_at_call 91; (with_reducible refine (fr_thing _ _).mono ?_); rintro e u4 ⟨rfl, hb4⟩; have HM4 := Lib.hid (HM3.out.below hb4); have HN4 := Lib.hid (HN3.out.bel hb4); clear hb4; dsimp only) | (go_at_call 89; (with_reducible refine (HS2.out _ HM4.out).mono ?_); rintro e u5 ⟨rfl, hM5, hN5⟩; have HM5 := Lib.hid hM5; have HN5 := Lib.hid (HN4.out.trans hN5); clear hM5 hN5; have HV5 := Lib.hid (pop_row HN5.out (by simp) (fun c => by have := HNO.out _ c; have := HLT.out; omega) (heap_alloc_new u1 (.cells #[.bool vb, .int .i64 vn] 54))); have HZ5 := Lib.hid (pop_row HN5.out (by have := HLT.out; simp; omega) (fun c => by have := HNO.out _ c; omega) ((heap_alloc_old u1 (.cells #[.bool vb, .int .i64 vn] 54) HLT.out).trans HZ1.out)); dsimp only) | (refine wpList_load_row rfl 54 (Operand.tmp 6) (by rfl) u1.heap.size (by rfl) _ _ (0, 0) _ HV5.out Tryz.underlying54 rfl info2 ?_) | (refine wpList_store_row rfl 54 (Operand.tmp 4) (Operand.tmp 34) rfl w.heap.size #[.bool vb, .int .i64 vn] rfl rfl _ _ HZ5.out info2 (by rfl) (by simp [Value.oneCell']) ?_))
  have hld := load2 (u5.setRow w.heap.size #[.bool vb, .int .i64 vn]) w.heap.size #[.bool vb, .int .i64 vn] (setRow_heap _ _ _ _ _ _ HZ5.out) rfl
  refine bodyPost_ret (v := .tuple #[.agg #[.bool vb, .int .i64 vn], .bool true]) ?_ rfl ⟨rfl, pop_fin HYB.out (by have := HLT.out; simp; omega) HN5.out HM5.out HNO.out _⟩
  rw [results_cell_tmp rfl]
  simp [asAddr, Result.andThen, hld]
end
end Go.Proofs.YtoklohfpkaiidaaGreat.Obj

namespace Go.Proofs.YtoklohfpkaiidaaGreat.Obj
open Go.Proofs.YtoklohfpkaiidaaGreat.Gen Go.Proofs.YtoklohfpkaiidaaGreat.Base Go.ChangeShapes Go.WideShapes Go.ChangeAt Go.RowKit
set_option linter.unusedVariables false
section
variable {w u : World} {m li : Nat} {lv dv : Value} {M : MS}
set_option maxHeartbeats 1000000 in
set_option maxRecDepth 100000 in
theorem fr_Top_no (h : MemAt w m li lv dv M) {id sn mn bn : Int} (hI : M.isF id sn mn bn) {s d : Nat} (hd : s ≤ d) (hsp : M.get id 2 = (false, (s : Int))) :
    Calls Tryz.prog 44 #[.pointer (some ⟨m, 0, none⟩), .int .i64 id, .int .i64 (d : Int)] w fun e w' => e = .returned (.tuple #[.agg #[.bool false, .int .i64 0], .bool false]) ∧ Below w.heap.size w w' := by
  have HB0 : Below w.heap.size w (w.alloc (.cells #[.bool false, .int .i64 0] 54)) := (Below.refl _ _).alloc (Nat.le_refl _) _
  have HBX : Hid (Below (w.alloc (.cells #[.bool false, .int .i64 0] 54)).heap.size (w.alloc (.cells #[.bool false, .int .i64 0] 54)) (w.alloc (.cells #[.bool false, .int .i64 0] 54))) := Lib.hid (Below.refl _ _)
  have HWX : Hid (∀ u, Below (w.alloc (.cells #[.bool false, .int .i64 0] 54)).heap.size (w.alloc (.cells #[.bool false, .int .i64 0] 54)) u → Below w.heap.size w u) := Lib.hid fun u hb => HB0.trans (hb.mono HB0.size)
  have HIS := Lib.hid fun u (hb : Below w.heap.size w u) => fr_Is (h.below hb) hI
  have HG2 := Lib.hid fun u (hb : Below w.heap.size w u) => me_Get2 (h.below hb) id 2
  have hvn := val_N
  have hz := zV
  rw [hsp] at HG2
  dsimp only at HG2
  clear h hI hsp HB0
  have t1 : ¬ (d : Int) < 0 := by omega
  have t2 : (s : Int) ≤ (d : Int) := by omega
  have t3 : decide ((s : Int) ≤ (d : Int)) = true := by simpa using hd
  go_enter Tryz.func44, Tryz.ntmps44
  go_wp2_with (first | (go_at_call 41; (with_reducible refine (HIS.out _ (HWX.out _ HBX.out)).mono ?_); rintro e u1 ⟨rfl, hb1⟩; have HBX := Lib.hid (HBX.out.trans (hb1.mono HBX.out.size)); clear hb1; dsimp only) | (go_at_call 24; (with_reducible refine (HG2.out _ (HWX.out _ HBX.out)).mono ?_); rintro e u2 ⟨rfl, hb2⟩; have HBX := Lib.hid (HBX.out.trans (hb2.mono HBX.out.size)); clear hb2; have HZR := Lib.hid ((HBX.out.block w.heap.size (by simp)).trans (heap_alloc_new w (.cells #[.bool false, .int .i64 0] 54))); dsimp only) | (refine wpList_store_row rfl 54 (Operand.tmp 6) (Operand.tmp 25) rfl w.heap.size #[.bool false, .int .i64 0] rfl rfl _ _ HZR.out info2 (by rfl) (by simp [Value.oneCell']) ?_))
  have hld := load2 (u2.setRow w.heap.size #[.bool false, .int .i64 0]) w.heap.size #[.bool false, .int .i64 0] (setRow_heap _ _ _ _ _ _ HZR.out) rfl
  refine bodyPost_ret (v := .tuple #[.agg #[.bool false, .int .i64 0], .bool false]) ?_ rfl ⟨rfl, bel_row w HBX.out _⟩
  rw [results_cell_tmp rfl]
  simp [asAddr, Result.andThen, hld]
theorem bel_row2 {w u1 : World} (hb : Below w.heap.size w u1) (x : Obj) (cs : Array Value) : Below w.heap.size w ((u1.alloc x).setRow w.heap.size cs) := by
  have h1 := hb.alloc hb.size x
  exact ⟨h1.os, h1.tape, h1.output, by simpa [World.setRow] using h1.size, fun k hk => (setRow_other _ _ k _ (by omega)).trans (h1.block k hk)⟩
set_option maxHeartbeats 1000000 in
set_option maxRecDepth 100000 in
theorem fr_Pop_no (h : MemAt w m li lv dv M) {id sn mn bn : Int} (hI : M.isF id sn mn bn) (hsp : M.get id 2 = (false, 0)) :
    Calls Tryz.prog 48 #[.pointer (some ⟨m, 0, none⟩), .int .i64 id] w fun e w' => e = .returned (.tuple #[.agg #[.bool false, .int .i64 0], .bool false]) ∧ Below w.heap.size w w' := by
  have HB0 : Hid (Below w.heap.size w (w.alloc (.cells #[.bool false, .int .i64 0] 54))) := Lib.hid ((Below.refl _ _).alloc (Nat.le_refl _) _)
  have HTP : Hid (∀ u, Below w.heap.size w u → Calls Tryz.prog 44 #[.pointer (some ⟨m, 0, none⟩), .int .i64 id, .int .i64 0] u fun e w' => e = .returned (.tuple #[.agg #[.bool false, .int .i64 0], .bool false]) ∧ Below u.heap.size u w') := Lib.hid fun u hb => fr_Top_no (h.below hb) hI (s := 0) (d := 0) (Nat.le_refl _) hsp
  have hz := zV
  clear h hI hsp
  go_enter Tryz.func48, Tryz.ntmps48
  go_wp2_with (first | (go_at_call 44; (with_reducible refine (HTP.out _ HB0.out).mono ?_); rintro e u1 ⟨rfl, hb1⟩; have HB1 := Lib.hid (HB0.out.trans (hb1.mono HB0.out.size)); have HZ1 := Lib.hid ((hb1.block w.heap.size (by simp)).trans (heap_alloc_new w (.cells #[.bool false, .int .i64 0] 54))); have HLT := Lib.hid ((Array.getElem?_eq_some_iff.1 HZ1.out).1); have HZ2 := Lib.hid ((heap_alloc_old u1 (.cells #[.bool false, .int .i64 0] 54) HLT.out).trans HZ1.out); clear hb1; dsimp only) | (refine wpList_store_row rfl 54 (Operand.tmp 4) (Operand.tmp 17) rfl w.heap.size #[.bool false, .int .i64 0] rfl rfl _ _ HZ2.out info2 (by rfl) (by simp [Value.oneCell']) ?_))
  have hld := load2 ((u1.alloc (.cells #[.bool false, .int .i64 0] 54)).setRow w.heap.size #[.bool false, .int .i64 0]) w.heap.size #[.bool false, .int .i64 0] (setRow_heap _ _ _ _ _ _ HZ2.out) rfl
  refine bodyPost_ret (v := .tuple #[.agg #[.bool false, .int .i64 0], .bool false]) ?_ rfl ⟨rfl, bel_row2 HB1.out _ _⟩
  rw [results_cell_tmp rfl]
  simp [asAddr, Result.andThen, hld]
end
end Go.Proofs.YtoklohfpkaiidaaGreat.Obj
