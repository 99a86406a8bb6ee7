/- Frames: Top where there is none. -/
import Derived.Test.YtglilfjkjoogbaaFr8
namespace Go.Proofs.Ytglilfjkjoogbaa.Obj
open Go.Proofs.Ytglilfjkjoogbaa.Gen Go.Proofs.Ytglilfjkjoogbaa.Base Go.ChangeShapes Go.WideShapes Go.ChangeAt Go.RowKit
set_option linter.unusedVariables false
section
variable {w u : World} {m li : Nat} {lv dv : Value} {M : MS}
set_option maxHeartbeats 1000000 in
set_option maxRecDepth 100000 in
theorem fr_Top_no (h : MemAt w m li lv dv M) {id sn mn bn : Int} (hI : M.isF id sn mn bn) {s d : Nat} (hd : s ≤ d) (hsp : M.get id 2 = (false, (s : Int))) :
    Calls Try.prog 12 #[.pointer (some ⟨m, 0, none⟩), .int .i64 id, .int .i64 (d : Int)] w fun e w' => e = .returned (.tuple #[.agg #[.bool false, .int .i64 0], .bool false]) ∧ Below w.heap.size w w' := by
  have HB0 : Below w.heap.size w (w.alloc (.cells #[.bool false, .int .i64 0] 44)) := (Below.refl _ _).alloc (Nat.le_refl _) _
  have HBX : Hid (Below (w.alloc (.cells #[.bool false, .int .i64 0] 44)).heap.size (w.alloc (.cells #[.bool false, .int .i64 0] 44)) (w.alloc (.cells #[.bool false, .int .i64 0] 44))) := Lib.hid (Below.refl _ _)
  have HWX : Hid (∀ u, Below (w.alloc (.cells #[.bool false, .int .i64 0] 44)).heap.size (w.alloc (.cells #[.bool false, .int .i64 0] 44)) u → Below w.heap.size w u) := Lib.hid fun u hb => HB0.trans (hb.mono HB0.size)
  have HIS := Lib.hid fun u (hb : Below w.heap.size w u) => fr_Is (h.below hb) hI
  have HG2 := Lib.hid fun u (hb : Below w.heap.size w u) => me_Get2 (h.below hb) id 2
  have hvn := val_N
  have hz := zV
  rw [hsp] at HG2
  dsimp only at HG2
  clear h hI hsp HB0
  have t1 : ¬ (d : Int) < 0 := by omega
  have t2 : (s : Int) ≤ (d : Int) := by omega
  have t3 : decide ((s : Int) ≤ (d : Int)) = true := by simpa using hd
  go_enter Try.func12, Try.ntmps12
  go_wp2_with (first | (go_at_call 34; (with_reducible refine (HIS.out _ (HWX.out _ HBX.out)).mono ?_); rintro e u1 ⟨rfl, hb1⟩; have HBX := Lib.hid (HBX.out.trans (hb1.mono HBX.out.size)); clear hb1; dsimp only) | (go_at_call 15; (with_reducible refine (HG2.out _ (HWX.out _ HBX.out)).mono ?_); rintro e u2 ⟨rfl, hb2⟩; have HBX := Lib.hid (HBX.out.trans (hb2.mono HBX.out.size)); clear hb2; have HZR := Lib.hid ((HBX.out.block w.heap.size (by simp)).trans (heap_alloc_new w (.cells #[.bool false, .int .i64 0] 44))); dsimp only) | (refine wpList_store_row rfl 44 (Operand.tmp 6) (Operand.tmp 25) rfl w.heap.size #[.bool false, .int .i64 0] rfl rfl _ _ HZR.out info2 (by rfl) (by simp [Value.oneCell']) ?_))
  have hld := load2 (u2.setRow w.heap.size #[.bool false, .int .i64 0]) w.heap.size #[.bool false, .int .i64 0] (setRow_heap _ _ _ _ _ _ HZR.out) rfl
  refine bodyPost_ret (v := .tuple #[.agg #[.bool false, .int .i64 0], .bool false]) ?_ rfl ⟨rfl, bel_row w HBX.out _⟩
  rw [results_cell_tmp rfl]
  simp [asAddr, Result.andThen, hld]
theorem bel_row2 {w u1 : World} (hb : Below w.heap.size w u1) (x : Obj) (cs : Array Value) : Below w.heap.size w ((u1.alloc x).setRow w.heap.size cs) := by
  have h1 := hb.alloc hb.size x
  exact ⟨h1.os, h1.tape, h1.output, by simpa [World.setRow] using h1.size, fun k hk => (setRow_other _ _ k _ (by omega)).trans (h1.block k hk)⟩
set_option maxHeartbeats 1000000 in
set_option maxRecDepth 100000 in
theorem fr_Pop_no (h : MemAt w m li lv dv M) {id sn mn bn : Int} (hI : M.isF id sn mn bn) (hsp : M.get id 2 = (false, 0)) :
    Calls Try.prog 13 #[.pointer (some ⟨m, 0, none⟩), .int .i64 id] w fun e w' => e = .returned (.tuple #[.agg #[.bool false, .int .i64 0], .bool false]) ∧ Below w.heap.size w w' := by
  have HB0 : Hid (Below w.heap.size w (w.alloc (.cells #[.bool false, .int .i64 0] 44))) := Lib.hid ((Below.refl _ _).alloc (Nat.le_refl _) _)
  have HTP : Hid (∀ u, Below w.heap.size w u → Calls Try.prog 12 #[.pointer (some ⟨m, 0, none⟩), .int .i64 id, .int .i64 0] u fun e w' => e = .returned (.tuple #[.agg #[.bool false, .int .i64 0], .bool false]) ∧ Below u.heap.size u w') := Lib.hid fun u hb => fr_Top_no (h.below hb) hI (s := 0) (d := 0) (Nat.le_refl _) hsp
  have hz := zV
  clear h hI hsp
  go_enter Try.func13, Try.ntmps13
  go_wp2_with (first | (go_at_call 12; (with_reducible refine (HTP.out _ HB0.out).mono ?_); rintro e u1 ⟨rfl, hb1⟩; have HB1 := Lib.hid (HB0.out.trans (hb1.mono HB0.out.size)); have HZ1 := Lib.hid ((hb1.block w.heap.size (by simp)).trans (heap_alloc_new w (.cells #[.bool false, .int .i64 0] 44))); have HLT := Lib.hid ((Array.getElem?_eq_some_iff.1 HZ1.out).1); have HZ2 := Lib.hid ((heap_alloc_old u1 (.cells #[.bool false, .int .i64 0] 44) HLT.out).trans HZ1.out); clear hb1; dsimp only) | (refine wpList_store_row rfl 44 (Operand.tmp 4) (Operand.tmp 17) rfl w.heap.size #[.bool false, .int .i64 0] rfl rfl _ _ HZ2.out info2 (by rfl) (by simp [Value.oneCell']) ?_))
  have hld := load2 ((u1.alloc (.cells #[.bool false, .int .i64 0] 44)).setRow w.heap.size #[.bool false, .int .i64 0]) w.heap.size #[.bool false, .int .i64 0] (setRow_heap _ _ _ _ _ _ HZ2.out) rfl
  refine bodyPost_ret (v := .tuple #[.agg #[.bool false, .int .i64 0], .bool false]) ?_ rfl ⟨rfl, bel_row2 HB1.out _ _⟩
  rw [results_cell_tmp rfl]
  simp [asAddr, Result.andThen, hld]
end
end Go.Proofs.Ytglilfjkjoogbaa.Obj
