/- Frames: Top. -/
import Derived.Test.YtglilfjkjoogbaaFr6
namespace Go.Proofs.Ytglilfjkjoogbaa.Obj
open Go.Proofs.Ytglilfjkjoogbaa.Gen Go.Proofs.Ytglilfjkjoogbaa.Base Go.ChangeShapes Go.WideShapes Go.ChangeAt Go.RowKit
set_option linter.unusedVariables false
section
variable {w u : World} {m li : Nat} {lv dv : Value} {M : MS}
theorem load2 (w : World) (b : Nat) (cs : Array Value) (hr : w.heap[b]? = some (.cells cs 44 (0, 0))) (hs : cs.size = 2) : Sem.run Try.prog (loadVar 44 ⟨b, 0, none⟩) w = .ok (.agg cs) w :=
  run_loadVar_row _ _ _ _ _ _ _ hr Try.underlying44 rfl (by rw [info2, hs])
theorem bel_row (w : World) {u : World} (hb : Below (w.alloc (.cells #[.bool false, .int .i64 0] 44)).heap.size (w.alloc (.cells #[.bool false, .int .i64 0] 44)) u) (cs : Array Value) : Below w.heap.size w (u.setRow w.heap.size cs) := by
  have h0 : Below w.heap.size w (w.alloc (.cells #[.bool false, .int .i64 0] 44)) := (Below.refl _ _).alloc (Nat.le_refl _) _
  have h1 := h0.trans (hb.mono h0.size)
  exact ⟨h1.os, h1.tape, h1.output, by simpa [World.setRow] using h1.size, fun k hk => (setRow_other u _ k _ (by omega)).trans (h1.block k hk)⟩
set_option maxHeartbeats 1000000 in
set_option maxRecDepth 100000 in
theorem fr_Top (h : MemAt w m li lv dv M) {id sn mn bn : Int} (hI : M.isF id sn mn bn) {s d : Nat} (hs : s ≤ 16) (hd : d < s) (hsp : M.get id 2 = (false, (s : Int))) :
    Calls Try.prog 12 #[.pointer (some ⟨m, 0, none⟩), .int .i64 id, .int .i64 (d : Int)] w fun e w' => e = .returned (.tuple #[.agg #[.bool (M.get id (6 + (s : Int) - 1 - (d : Int))).1, .int .i64 (M.get id (6 + (s : Int) - 1 - (d : Int))).2], .bool true]) ∧ Below w.heap.size w w' := by
  have HB0 : Below w.heap.size w (w.alloc (.cells #[.bool false, .int .i64 0] 44)) := (Below.refl _ _).alloc (Nat.le_refl _) _
  have HBX : Hid (Below (w.alloc (.cells #[.bool false, .int .i64 0] 44)).heap.size (w.alloc (.cells #[.bool false, .int .i64 0] 44)) (w.alloc (.cells #[.bool false, .int .i64 0] 44))) := Lib.hid (Below.refl _ _)
  have HWX : Hid (∀ u, Below (w.alloc (.cells #[.bool false, .int .i64 0] 44)).heap.size (w.alloc (.cells #[.bool false, .int .i64 0] 44)) u → Below w.heap.size w u) := Lib.hid fun u hb => HB0.trans (hb.mono HB0.size)
  have HIS := Lib.hid fun u (hb : Below w.heap.size w u) => fr_Is (h.below hb) hI
  have HG2 := Lib.hid fun u (hb : Below w.heap.size w u) => me_Get2 (h.below hb) id 2
  have HGV := Lib.hid fun u (hb : Below w.heap.size w u) => me_Get2 (h.below hb) id (6 + (s : Int) - 1 - (d : Int))
  have hvn := val_N
  rw [hsp] at HG2
  dsimp only at HG2
  clear h hI hsp HB0
  revert HGV
  generalize M.get id (6 + (s : Int) - 1 - (d : Int)) = v
  obtain ⟨vb, vn⟩ := v
  intro HGV
  dsimp only at HGV
  have t1 : ¬ (d : Int) < 0 := by omega
  have t2 : ¬ (s : Int) ≤ (d : Int) := by omega
  have t3 : decide ((s : Int) ≤ (d : Int)) = false := by simp; omega
  go_enter Try.func12, Try.ntmps12
  go_wp2_with (first | (go_at_call 34; (with_reducible refine (HIS.out _ (HWX.out _ HBX.out)).mono ?_); rintro e u1 ⟨rfl, hb1⟩; have HBX := Lib.hid (HBX.out.trans (hb1.mono HBX.out.size)); clear hb1; dsimp only) | (go_at_call 15; (with_reducible refine (HG2.out _ (HWX.out _ HBX.out)).mono ?_); rintro e u2 ⟨rfl, hb2⟩; have HBX := Lib.hid (HBX.out.trans (hb2.mono HBX.out.size)); clear hb2; dsimp only) | (go_at_call 15; (with_reducible refine (HGV.out _ (HWX.out _ HBX.out)).mono ?_); rintro e u3 ⟨rfl, hb3⟩; have HBX := Lib.hid (HBX.out.trans (hb3.mono HBX.out.size)); clear hb3; have HZR := Lib.hid ((HBX.out.block w.heap.size (by simp)).trans (heap_alloc_new w (.cells #[.bool false, .int .i64 0] 44))); dsimp only) | (refine wpList_store_row rfl 44 (Operand.tmp 6) (Operand.tmp 33) rfl w.heap.size #[.bool vb, .int .i64 vn] rfl rfl _ _ HZR.out info2 (by rfl) (by simp [Value.oneCell']) ?_))
  have hld := load2 (u3.setRow w.heap.size #[.bool vb, .int .i64 vn]) w.heap.size #[.bool vb, .int .i64 vn] (setRow_heap _ _ _ _ _ _ HZR.out) rfl
  refine bodyPost_ret (v := .tuple #[.agg #[.bool vb, .int .i64 vn], .bool true]) ?_ rfl ⟨rfl, bel_row w HBX.out _⟩
  rw [results_cell_tmp rfl]
  simp [asAddr, Result.andThen, hld]
end
end Go.Proofs.Ytglilfjkjoogbaa.Obj
