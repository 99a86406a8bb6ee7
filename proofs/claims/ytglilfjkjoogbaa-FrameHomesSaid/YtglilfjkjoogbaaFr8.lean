/- Frames: Pop. -/
import Derived.Test.YtglilfjkjoogbaaFr7
namespace Go.Proofs.Ytglilfjkjoogbaa.Obj
open Go.Proofs.Ytglilfjkjoogbaa.Gen Go.Proofs.Ytglilfjkjoogbaa.Base Go.ChangeShapes Go.WideShapes Go.ChangeAt Go.RowKit
set_option linter.unusedVariables false
section
variable {w u Y : World} {m li : Nat} {lv dv : Value} {M M2 : MS}
theorem Nx.bel {P R : Nat → Prop} {u v : World} (h : Nx P w R u) (k : Below u.heap.size u v) : Nx P w R v :=
  h.trans ⟨k.os, k.tape, k.output, k.size, fun j hj _ => k.block j hj, fun j hj => .inl hj⟩
theorem pop_row {P R : Nat → Prop} {k : Nat} {o : Obj} (h : Nx P Y R u) (hk : k < Y.heap.size) (hn : ¬ P k) (hr : Y.heap[k]? = some o) : u.heap[k]? = some o := (h.block k hk hn).trans hr
theorem pop_fin (hb : Below w.heap.size w Y) (hs : w.heap.size < Y.heap.size) (hN : Nx (ownM m li lv dv M) Y (ownM m li lv dv M2) u) (hM : MemAt u m li lv dv M2) (hlt : ∀ k, ownM m li lv dv M k → k < w.heap.size) (cs : Array Value) :
    MemAt (u.setRow w.heap.size cs) m li lv dv M2 ∧ Nx (ownM m li lv dv M) w (ownM m li lv dv M2) (u.setRow w.heap.size cs) := by
  refine ⟨hM.keep fun k hk => setRow_other u _ k _ ?_, hN.os.trans hb.os, hN.tape.trans hb.tape, hN.output.trans hb.output, by have := hN.size; simp [World.setRow]; omega, fun k hk hn => ?_, fun k hk => ?_⟩
  · rcases hN.own k hk with c | c
    · have := hlt k c; omega
    · omega
  · exact (setRow_other u _ k _ (by omega)).trans ((hN.block k (by omega) hn).trans (hb.block k hk))
  · rcases hN.own k hk with c | c
    · exact .inl c
    · exact .inr (by omega)
set_option maxHeartbeats 2000000 in
set_option maxRecDepth 100000 in
theorem fr_Pop (h : MemAt w m li lv dv M) {q : Nat} {sn mn bn : Int} (hI : M.isF q sn mn bn) {b : Bd} (hb : M.bs[q]? = some b) (hF : b.F.length = 22) (hhas : M.has q = true) (hnil : M.has 0 = true) {s : Nat} (hs0 : 0 < s) (hs : s ≤ 16) (hsp : M.get q 2 = (false, (s : Int))) :
    Calls Try.prog 13 #[.pointer (some ⟨m, 0, none⟩), .int .i64 (q : Int)] w fun e w' => e = .returned (.tuple #[.agg #[.bool (M.get q (6 + (s : Int) - 1 - 0)).1, .int .i64 (M.get q (6 + (s : Int) - 1 - 0)).2], .bool true]) ∧ MemAt w' m li lv dv ((M.put (q : Int) 2 (false, (s : Int) - 1)).put (q : Int) (6 + ((s : Int) - 1)) (true, 0)) ∧ Nx (ownM m li lv dv M) w (ownM m li lv dv ((M.put (q : Int) 2 (false, (s : Int) - 1)).put (q : Int) (6 + ((s : Int) - 1)) (true, 0))) w' := by
  have HS1 : Hid (∀ u, MemAt u m li lv dv M → Calls Try.prog 20 #[.pointer (some ⟨m, 0, none⟩), .int .i64 (q : Int), .int .i64 2, .agg #[.bool false, .int .i64 ((s : Int) - 1)]] u fun e w' => e = .returned (.bool true) ∧ MemAt w' m li lv dv (M.put (q : Int) 2 (false, (s : Int) - 1)) ∧ Nx (ownM m li lv dv M) u (ownM m li lv dv (M.put (q : Int) 2 (false, (s : Int) - 1))) w') := Lib.hid fun u hu => by
    have := me_Set_yes hu q 2 b false ((s : Int) - 1) hb (by omega) hhas (by unfold MS.may fits; simp; omega) rfl
    exact this
  have hat : M.at (q : Int) = b := by unfold MS.at; rw [Int.toNat_natCast, hb]; rfl
  have hb2 : (M.put (q : Int) 2 (false, (s : Int) - 1)).bs[q]? = some { b with F := b.F.set 2 (false, (s : Int) - 1) } := by
    have hl := (List.getElem?_eq_some_iff.1 hb).1
    show (M.bs.set (q : Int).toNat _)[q]? = _
    rw [hat, Int.toNat_natCast, List.getElem?_set_self hl]; rfl
  have HS2 : Hid (∀ u, MemAt u m li lv dv (M.put (q : Int) 2 (false, (s : Int) - 1)) → Calls Try.prog 20 #[.pointer (some ⟨m, 0, none⟩), .int .i64 (q : Int), .int .i64 (6 + ((s : Int) - 1)), .agg #[.bool true, .int .i64 0]] u fun e w' => e = .returned (.bool true) ∧ MemAt w' m li lv dv ((M.put (q : Int) 2 (false, (s : Int) - 1)).put (q : Int) (6 + ((s : Int) - 1)) (true, 0)) ∧ Nx (ownM m li lv dv (M.put (q : Int) 2 (false, (s : Int) - 1))) u (ownM m li lv dv ((M.put (q : Int) 2 (false, (s : Int) - 1)).put (q : Int) (6 + ((s : Int) - 1)) (true, 0))) w') := Lib.hid fun u hu => by
    have := me_Set_yes hu q (6 + (s - 1)) _ true 0 hb2 (by simp; omega) hhas hnil (by unfold MS.unmakes; rw [show decide (((6 + (s - 1) : Nat) : Int) = 3 ∨ ((6 + (s - 1) : Nat) : Int) = 4) = false by simp; omega]; rfl)
    rw [show ((6 + (s - 1) : Nat) : Int) = 6 + ((s : Int) - 1) by omega] at this
    exact this
  have HME := Lib.hid fun u (hb : Below w.heap.size w u) => h.below hb
  have HB0 : Hid (Below w.heap.size w (w.alloc (.cells #[.bool false, .int .i64 0] 44))) := Lib.hid ((Below.refl _ _).alloc (Nat.le_refl _) _)
  have HTP := Lib.hid fun u (hb : Below w.heap.size w u) => fr_Top (h.below hb) hI hs (d := 0) hs0 hsp
  have HG2 := Lib.hid fun u (hb : Below w.heap.size w u) => me_Get2 (h.below hb) q 2
  have HNO : Hid (∀ k, ownM m li lv dv M k → k < w.heap.size) := Lib.hid fun k hk => h.lt hk
  have hvn := val_N
  have hz := zV
  rw [hsp] at HG2
  dsimp only at HG2
  clear h hI hsp hb hb2 hat hF hhas hnil
  revert HTP
  rw [show ((0 : Nat) : Int) = 0 from rfl]
  generalize M.get (q : Int) (6 + (s : Int) - 1 - 0) = v
  obtain ⟨vb, vn⟩ := v
  intro HTP
  dsimp only at HTP
  go_enter Try.func13, Try.ntmps13
  go_wp2_with (first | (go_at_call 12; (with_reducible refine (HTP.out _ HB0.out).mono ?_); rintro e u1 ⟨rfl, hb1⟩; have HB1 := Lib.hid (HB0.out.trans (hb1.mono HB0.out.size)); have HZ1 := Lib.hid ((hb1.block w.heap.size (by simp)).trans (heap_alloc_new w (.cells #[.bool false, .int .i64 0] 44))); have HLT := Lib.hid ((Array.getElem?_eq_some_iff.1 HZ1.out).1); clear hb1; have HYB : Hid (Below w.heap.size w (u1.alloc (.cells #[.bool vb, .int .i64 vn] 44))) := Lib.hid (HB1.out.alloc HB1.out.size _); dsimp only) | (go_at_call 15; (with_reducible refine (HG2.out _ HYB.out).mono ?_); rintro e u2 ⟨rfl, hb2⟩; have HY2 := Lib.hid hb2; clear hb2; dsimp only) | (go_at_call 20; (with_reducible refine (HS1.out _ (HME.out _ (HYB.out.trans (HY2.out.mono HYB.out.size)))).mono ?_); rintro e u3 ⟨rfl, hM3, hN3⟩; have HM3 := Lib.hid hM3; have HN3 := Lib.hid (nx_bel HY2.out hN3); clear hM3 hN3; dsimp only) | (go_at_call 31; (with_reducible refine (fr_thing _ _).mono ?_); rintro e u4 ⟨rfl, hb4⟩; have HM4 := Lib.hid (HM3.out.below hb4); have HN4 := Lib.hid (HN3.out.bel hb4); clear hb4; dsimp only) | (go_at_call 20; (with_reducible refine (HS2.out _ HM4.out).mono ?_); rintro e u5 ⟨rfl, hM5, hN5⟩; have HM5 := Lib.hid hM5; have HN5 := Lib.hid (HN4.out.trans hN5); clear hM5 hN5; have HV5 := Lib.hid (pop_row HN5.out (by simp) (fun c => by have := HNO.out _ c; have := HLT.out; omega) (heap_alloc_new u1 (.cells #[.bool vb, .int .i64 vn] 44))); have HZ5 := Lib.hid (pop_row HN5.out (by have := HLT.out; simp; omega) (fun c => by have := HNO.out _ c; omega) ((heap_alloc_old u1 (.cells #[.bool vb, .int .i64 vn] 44) HLT.out).trans HZ1.out)); dsimp only) | (refine wpList_load_row rfl 44 (Operand.tmp 6) (by rfl) u1.heap.size (by rfl) _ _ (0, 0) _ HV5.out Try.underlying44 rfl info2 ?_) | (refine wpList_store_row rfl 44 (Operand.tmp 4) (Operand.tmp 34) rfl w.heap.size #[.bool vb, .int .i64 vn] rfl rfl _ _ HZ5.out info2 (by rfl) (by simp [Value.oneCell']) ?_))
  have hld := load2 (u5.setRow w.heap.size #[.bool vb, .int .i64 vn]) w.heap.size #[.bool vb, .int .i64 vn] (setRow_heap _ _ _ _ _ _ HZ5.out) rfl
  refine bodyPost_ret (v := .tuple #[.agg #[.bool vb, .int .i64 vn], .bool true]) ?_ rfl ⟨rfl, pop_fin HYB.out (by have := HLT.out; simp; omega) HN5.out HM5.out HNO.out _⟩
  rw [results_cell_tmp rfl]
  simp [asAddr, Result.andThen, hld]
end
end Go.Proofs.Ytglilfjkjoogbaa.Obj
