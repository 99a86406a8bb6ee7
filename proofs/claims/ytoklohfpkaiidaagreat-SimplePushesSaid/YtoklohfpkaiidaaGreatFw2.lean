/- Frames: a slot of one further out. -/
import Derived.Test.YtoklohfpkaiidaaGreatFw1
namespace Go.Proofs.YtoklohfpkaiidaaGreat.Obj
open Go.Proofs.YtoklohfpkaiidaaGreat.Gen Go.Proofs.YtoklohfpkaiidaaGreat.Base Go.ChangeShapes Go.WideShapes Go.ChangeAt Go.RowKit
set_option linter.unusedVariables false
section
variable {w u : World} {m li : Nat} {lv dv : Value} {M : MS}
set_option maxRecDepth 100000 in
theorem fr_further_out (h : MemAt w m li lv dv M) {id sn mn bn : Int} (hI : M.isF id sn mn bn) (n : Int) (hn : n < 0 ∨ 8 < n) : Calls Tryz.prog 85 #[.pointer (some ⟨m, 0, none⟩), .int .i64 id, .int .i64 n] w fun e w' => e = .returned (.tuple #[.int .i64 0, .bool false]) ∧ Below w.heap.size w w' := by
  have hIs := fr_Is h hI
  clear h hI
  rcases hn with hn | hn
  · go_enter Tryz.func85, Tryz.ntmps85
    go_wp2_with fail
    apply wp_scope_straight
    go_wp2_with (go_at_call 41; (with_reducible refine hIs.mono ?_); rintro e u1 ⟨rfl, hb1⟩; have HB := Lib.hid hb1; clear hb1; dsimp only)
    rw [Exit.noGoto_ret]
    go_ret2
    exact ⟨rfl, HB.out⟩
  · have b1 : ¬ n < 0 := by omega
    go_enter Tryz.func85, Tryz.ntmps85
    go_wp2_with fail
    apply wp_scope_straight
    go_wp2_with (go_at_call 41; (with_reducible refine hIs.mono ?_); rintro e u1 ⟨rfl, hb1⟩; have HB := Lib.hid hb1; clear hb1; dsimp only)
    rw [Exit.noGoto_ret]
    go_ret2
    exact ⟨rfl, HB.out⟩
set_option maxHeartbeats 1000000 in
set_option maxRecDepth 100000 in
theorem fr_Temp_of (h : MemAt w m li lv dv M) {id out x : Int} (hfu : ∀ u, Below w.heap.size w u → Calls Tryz.prog 85 #[.pointer (some ⟨m, 0, none⟩), .int .i64 id, .int .i64 out] u fun e w' => e = .returned (.tuple #[.int .i64 x, .bool true]) ∧ Below u.heap.size u w') {t : Nat} (ht : t < 16) :
    Calls Tryz.prog 42 #[.pointer (some ⟨m, 0, none⟩), .int .i64 id, .int .i64 out, .int .i64 (t : Int)] w fun e w' => e = .returned (.tuple #[.agg #[.bool (M.get x (6 + (t : Int))).1, .int .i64 (M.get x (6 + (t : Int))).2], .bool true]) ∧ Below w.heap.size w w' := by
  have HB0 : Below w.heap.size w (w.alloc (.cells #[.bool false, .int .i64 0] 54)) := (Below.refl _ _).alloc (Nat.le_refl _) _
  have HBX : Hid (Below (w.alloc (.cells #[.bool false, .int .i64 0] 54)).heap.size (w.alloc (.cells #[.bool false, .int .i64 0] 54)) (w.alloc (.cells #[.bool false, .int .i64 0] 54))) := Lib.hid (Below.refl _ _)
  have HWX : Hid (∀ u, Below (w.alloc (.cells #[.bool false, .int .i64 0] 54)).heap.size (w.alloc (.cells #[.bool false, .int .i64 0] 54)) u → Below w.heap.size w u) := Lib.hid fun u hb => HB0.trans (hb.mono HB0.size)
  have HFU := Lib.hid hfu
  have HGV := Lib.hid fun u (hb : Below w.heap.size w u) => me_Get2 (h.below hb) x (6 + (t : Int))
  clear h hfu HB0
  revert HGV
  generalize M.get x (6 + (t : Int)) = v
  obtain ⟨vb, vn⟩ := v
  intro HGV
  dsimp only at HGV
  have hz := zV
  have t1 : ¬ (t : Int) < 0 := by omega
  have t2 : ¬ 16 ≤ (t : Int) := by omega
  go_enter Tryz.func42, Tryz.ntmps42
  go_wp2_with (first | (go_at_call 85; (with_reducible refine (HFU.out _ (HWX.out _ HBX.out)).mono ?_); rintro e u1 ⟨rfl, hb1⟩; have HBX := Lib.hid (HBX.out.trans (hb1.mono HBX.out.size)); clear hb1; have HZR := Lib.hid ((HBX.out.block w.heap.size (by simp)).trans (heap_alloc_new w (.cells #[.bool false, .int .i64 0] 54))); dsimp only) | (go_at_call 24; (with_reducible refine (HGV.out _ (HWX.out _ HBX.out)).mono ?_); rintro e u3 ⟨rfl, hb3⟩; have HBX := Lib.hid (HBX.out.trans (hb3.mono HBX.out.size)); clear hb3; have HZR := Lib.hid ((HBX.out.block w.heap.size (by simp)).trans (heap_alloc_new w (.cells #[.bool false, .int .i64 0] 54))); dsimp only) | (refine wpList_store_row rfl 54 (Operand.tmp 8) (Operand.tmp 33) rfl w.heap.size #[.bool vb, .int .i64 vn] rfl rfl _ _ HZR.out info2 (by rfl) (by simp [Value.oneCell']) ?_))
  have hld := load2 (u3.setRow w.heap.size #[.bool vb, .int .i64 vn]) w.heap.size #[.bool vb, .int .i64 vn] (setRow_heap _ _ _ _ _ _ HZR.out) rfl
  refine bodyPost_ret (v := .tuple #[.agg #[.bool vb, .int .i64 vn], .bool true]) ?_ rfl ⟨rfl, bel_row w HBX.out _⟩
  rw [results_cell_tmp rfl]
  simp [asAddr, Result.andThen, hld]
set_option maxHeartbeats 1000000 in
set_option maxRecDepth 100000 in
theorem fr_Temp_none (h : MemAt w m li lv dv M) {id out : Int} (ok : Bool) (hfu : ∀ u, Below w.heap.size w u → Calls Tryz.prog 85 #[.pointer (some ⟨m, 0, none⟩), .int .i64 id, .int .i64 out] u fun e w' => (∃ x : Int, e = .returned (.tuple #[.int .i64 x, .bool ok])) ∧ Below u.heap.size u w') {t : Nat} (ht : ok = false ∨ 16 ≤ t) :
    Calls Tryz.prog 42 #[.pointer (some ⟨m, 0, none⟩), .int .i64 id, .int .i64 out, .int .i64 (t : Int)] w fun e w' => e = .returned (.tuple #[.agg #[.bool false, .int .i64 0], .bool false]) ∧ Below w.heap.size w w' := by
  have HB0 : Below w.heap.size w (w.alloc (.cells #[.bool false, .int .i64 0] 54)) := (Below.refl _ _).alloc (Nat.le_refl _) _
  have HBX : Hid (Below (w.alloc (.cells #[.bool false, .int .i64 0] 54)).heap.size (w.alloc (.cells #[.bool false, .int .i64 0] 54)) (w.alloc (.cells #[.bool false, .int .i64 0] 54))) := Lib.hid (Below.refl _ _)
  have HWX : Hid (∀ u, Below (w.alloc (.cells #[.bool false, .int .i64 0] 54)).heap.size (w.alloc (.cells #[.bool false, .int .i64 0] 54)) u → Below w.heap.size w u) := Lib.hid fun u hb => HB0.trans (hb.mono HB0.size)
  have HFU := Lib.hid hfu
  clear h hfu HB0
  have hz := zV
  have t1 : ¬ (t : Int) < 0 := by omega
  cases ok
  · clear ht
    go_enter Tryz.func42, Tryz.ntmps42
    go_wp2_with (first | (go_at_call 85; (with_reducible refine (HFU.out _ (HWX.out _ HBX.out)).mono ?_); rintro e u1 ⟨⟨x, rfl⟩, hb1⟩; have HBX := Lib.hid (HBX.out.trans (hb1.mono HBX.out.size)); clear hb1; have HZR := Lib.hid ((HBX.out.block w.heap.size (by simp)).trans (heap_alloc_new w (.cells #[.bool false, .int .i64 0] 54))); dsimp only) | (refine wpList_store_row rfl 54 (Operand.tmp 8) (Operand.tmp 28) rfl w.heap.size #[.bool false, .int .i64 0] rfl rfl _ _ HZR.out info2 (by rfl) (by simp [Value.oneCell']) ?_))
    have hld := load2 (u1.setRow w.heap.size #[.bool false, .int .i64 0]) w.heap.size #[.bool false, .int .i64 0] (setRow_heap _ _ _ _ _ _ HZR.out) rfl
    refine bodyPost_ret (v := .tuple #[.agg #[.bool false, .int .i64 0], .bool false]) ?_ rfl ⟨rfl, bel_row w HBX.out _⟩
    rw [results_cell_tmp rfl]
    simp [asAddr, Result.andThen, hld]
  · have t2 : 16 ≤ (t : Int) := by
      rcases ht with e | e
      · cases e
      · omega
    clear ht
    go_enter Tryz.func42, Tryz.ntmps42
    go_wp2_with (first | (go_at_call 85; (with_reducible refine (HFU.out _ (HWX.out _ HBX.out)).mono ?_); rintro e u1 ⟨⟨x, rfl⟩, hb1⟩; have HBX := Lib.hid (HBX.out.trans (hb1.mono HBX.out.size)); clear hb1; have HZR := Lib.hid ((HBX.out.block w.heap.size (by simp)).trans (heap_alloc_new w (.cells #[.bool false, .int .i64 0] 54))); dsimp only) | (refine wpList_store_row rfl 54 (Operand.tmp 8) (Operand.tmp 28) rfl w.heap.size #[.bool false, .int .i64 0] rfl rfl _ _ HZR.out info2 (by rfl) (by simp [Value.oneCell']) ?_))
    have hld := load2 (u1.setRow w.heap.size #[.bool false, .int .i64 0]) w.heap.size #[.bool false, .int .i64 0] (setRow_heap _ _ _ _ _ _ HZR.out) rfl
    refine bodyPost_ret (v := .tuple #[.agg #[.bool false, .int .i64 0], .bool false]) ?_ rfl ⟨rfl, bel_row w HBX.out _⟩
    rw [results_cell_tmp rfl]
    simp [asAddr, Result.andThen, hld]
set_option maxHeartbeats 1000000 in
set_option maxRecDepth 100000 in
theorem fr_SetTemp_of (h : MemAt w m li lv dv M) {id out : Int} {q : Nat} (hfu : ∀ u, Below w.heap.size w u → Calls Tryz.prog 85 #[.pointer (some ⟨m, 0, none⟩), .int .i64 id, .int .i64 out] u fun e w' => e = .returned (.tuple #[.int .i64 (q : Int), .bool true]) ∧ Below u.heap.size u w') {t : Nat} (ht : t < 16) {b : Bd} (hb : M.bs[q]? = some b) (hF : b.F.length = 22) (hhas : M.has q = true) (vb : Bool) (vn : Int) (hmay : M.may (vb, vn) = true) :
    Calls Tryz.prog 93 #[.pointer (some ⟨m, 0, none⟩), .int .i64 id, .int .i64 out, .int .i64 (t : Int), .agg #[.bool vb, .int .i64 vn]] w fun e w' => e = .returned (.bool true) ∧ MemAt w' m li lv dv (M.put q (6 + (t : Int)) (vb, vn)) ∧ Nx (ownM m li lv dv M) w (ownM m li lv dv (M.put q (6 + (t : Int)) (vb, vn))) w' := by
  have HB0 : Below w.heap.size w (w.alloc (.cells #[.bool vb, .int .i64 vn] 54)) := (Below.refl _ _).alloc (Nat.le_refl _) _
  have HBX : Hid (Below (w.alloc (.cells #[.bool vb, .int .i64 vn] 54)).heap.size (w.alloc (.cells #[.bool vb, .int .i64 vn] 54)) (w.alloc (.cells #[.bool vb, .int .i64 vn] 54))) := Lib.hid (Below.refl _ _)
  have HWX : Hid (∀ u, Below (w.alloc (.cells #[.bool vb, .int .i64 vn] 54)).heap.size (w.alloc (.cells #[.bool vb, .int .i64 vn] 54)) u → Below w.heap.size w u) := Lib.hid fun u hb => HB0.trans (hb.mono HB0.size)
  have HFU := Lib.hid hfu
  have HS1 : Hid (∀ u, Below w.heap.size w u → Calls Tryz.prog 89 #[.pointer (some ⟨m, 0, none⟩), .int .i64 (q : Int), .int .i64 (6 + (t : Int)), .agg #[.bool vb, .int .i64 vn]] u fun e w' => e = .returned (.bool true) ∧ MemAt w' m li lv dv (M.put (q : Int) (6 + (t : Int)) (vb, vn)) ∧ Nx (ownM m li lv dv M) u (ownM m li lv dv (M.put (q : Int) (6 + (t : Int)) (vb, vn))) w') := Lib.hid fun u hu => by
    have := me_Set_yes (h.below hu) q (6 + t) b vb vn hb (by omega) hhas hmay (by unfold MS.unmakes; rw [show decide (((6 + t : Nat) : Int) = 3 ∨ ((6 + t : Nat) : Int) = 4) = false by simp; omega]; rfl)
    rw [show ((6 + t : Nat) : Int) = 6 + (t : Int) by omega] at this
    exact this
  clear h hfu HB0 hb hF hhas hmay
  have hz := zV
  have t1 : 0 ≤ (t : Int) := by omega
  have t2 : (t : Int) < 16 := by omega
  go_enter Tryz.func93, Tryz.ntmps93
  go_wp2_with (first
    | (go_at_call 85; (with_reducible refine (HFU.out _ (HWX.out _ HBX.out)).mono ?_); rintro e u1 ⟨rfl, hb1⟩; have HBX := Lib.hid (HBX.out.trans (hb1.mono HBX.out.size)); clear hb1; have y0 := (HBX.out.cell (p := ⟨w.heap.size, 0, none⟩) (by simp)).trans (new_cell w #[.bool vb, .int .i64 vn] 54 (i := 0) rfl); have y1 := (HBX.out.cell (p := ⟨w.heap.size, 1, none⟩) (by simp)).trans (new_cell w #[.bool vb, .int .i64 vn] 54 (i := 1) rfl); dsimp only)
    | (go_at_call 89; (with_reducible refine (HS1.out _ (HWX.out _ HBX.out)).mono ?_); rintro e u5 ⟨rfl, hM5, hN5⟩; have HM5 := Lib.hid hM5; have HN5 := Lib.hid (nx_bel (HWX.out _ HBX.out) hN5); clear hM5 hN5; dsimp only))
  go_ret
  exact ⟨rfl, HM5.out, HN5.out⟩
end
end Go.Proofs.YtoklohfpkaiidaaGreat.Obj
