/- Frames: Push where there is room. -/
import Derived.Test.YtglilfjkjoogbaaFr5
namespace Go.Proofs.Ytglilfjkjoogbaa.Obj
open Go.Proofs.Ytglilfjkjoogbaa.Gen Go.Proofs.Ytglilfjkjoogbaa.Base Go.ChangeShapes Go.WideShapes Go.ChangeAt Go.RowKit
set_option linter.unusedVariables false
section
variable {w : World} {m li : Nat} {lv dv : Value} {M : MS}
theorem Nx.trans {P Q R : Nat → Prop} {u v : World} (h : Nx P w Q u) (k : Nx Q u R v) : Nx P w R v :=
  ⟨k.os.trans h.os, k.tape.trans h.tape, k.output.trans h.output, Nat.le_trans h.size k.size,
    fun j hj hn => (k.block j (Nat.lt_of_lt_of_le hj h.size) fun hq => by rcases h.own j hq with c | c; exact hn c; omega).trans (h.block j hj hn),
    fun j hj => by
      rcases k.own j hj with c | c
      · exact h.own j c
      · exact .inr (Nat.le_trans h.size c)⟩
theorem nx_bel {P R : Nat → Prop} {u v : World} (h : Below w.heap.size w u) (k : Nx P u R v) : Nx P w R v :=
  (show Nx P w P u from ⟨h.os, h.tape, h.output, h.size, fun j hj _ => h.block j hj, fun j hj => .inl hj⟩).trans k
theorem put_has (i j : Int) (v : V) (id : Int) : (M.put i j v).has id = M.has id := rfl
set_option maxHeartbeats 2000000 in
set_option maxRecDepth 100000 in
theorem fr_Push (h : MemAt w m li lv dv M) {q : Nat} {sn mn bn : Int} (hI : M.isF q sn mn bn) {b : Bd} (hb : M.bs[q]? = some b) (hF : b.F.length = 22) (hhas : M.has q = true) (vb : Bool) (vn : Int) (hmay : M.may (vb, vn) = true) {s : Nat} (hs : s < 16) (hsp : M.get q 2 = (false, (s : Int))) :
    Calls Try.prog 11 #[.pointer (some ⟨m, 0, none⟩), .int .i64 (q : Int), .agg #[.bool vb, .int .i64 vn]] w fun e w' => e = .returned (.bool true) ∧ MemAt w' m li lv dv ((M.put (q : Int) (6 + (s : Int)) (vb, vn)).put (q : Int) 2 (false, (s : Int) + 1)) ∧ Nx (ownM m li lv dv M) w (ownM m li lv dv ((M.put (q : Int) (6 + (s : Int)) (vb, vn)).put (q : Int) 2 (false, (s : Int) + 1))) w' := by
  have HS1 : Hid (∀ u, MemAt u m li lv dv M → Calls Try.prog 20 #[.pointer (some ⟨m, 0, none⟩), .int .i64 (q : Int), .int .i64 (6 + (s : Int)), .agg #[.bool vb, .int .i64 vn]] u fun e w' => e = .returned (.bool true) ∧ MemAt w' m li lv dv (M.put (q : Int) (6 + (s : Int)) (vb, vn)) ∧ Nx (ownM m li lv dv M) u (ownM m li lv dv (M.put (q : Int) (6 + (s : Int)) (vb, vn))) w') := Lib.hid fun u hu => by
    have := me_Set_yes hu q (6 + s) b vb vn hb (by omega) hhas hmay (by unfold MS.unmakes; rw [show decide (((6 + s : Nat) : Int) = 3 ∨ ((6 + s : Nat) : Int) = 4) = false by simp; omega]; rfl)
    rw [show ((6 + s : Nat) : Int) = 6 + (s : Int) by omega] at this
    exact this
  have hat : M.at (q : Int) = b := by unfold MS.at; rw [Int.toNat_natCast, hb]; rfl
  have hb2 : (M.put (q : Int) (6 + (s : Int)) (vb, vn)).bs[q]? = some { b with F := b.F.set (6 + s) (vb, vn) } := by
    have hl := (List.getElem?_eq_some_iff.1 hb).1
    show (M.bs.set (q : Int).toNat _)[q]? = _
    rw [hat, Int.toNat_natCast, List.getElem?_set_self hl, show (6 + (s : Int)).toNat = 6 + s by omega]
  have HS2 : Hid (∀ u, MemAt u m li lv dv (M.put (q : Int) (6 + (s : Int)) (vb, vn)) → Calls Try.prog 20 #[.pointer (some ⟨m, 0, none⟩), .int .i64 (q : Int), .int .i64 2, .agg #[.bool false, .int .i64 ((s : Int) + 1)]] u fun e w' => e = .returned (.bool true) ∧ MemAt w' m li lv dv ((M.put (q : Int) (6 + (s : Int)) (vb, vn)).put (q : Int) 2 (false, (s : Int) + 1)) ∧ Nx (ownM m li lv dv (M.put (q : Int) (6 + (s : Int)) (vb, vn))) u (ownM m li lv dv ((M.put (q : Int) (6 + (s : Int)) (vb, vn)).put (q : Int) 2 (false, (s : Int) + 1))) w') := Lib.hid fun u hu => by
    have := me_Set_yes hu q 2 _ false ((s : Int) + 1) hb2 (by simp; omega) hhas (by unfold MS.may fits; simp; omega) rfl
    exact this
  have HME := Lib.hid fun u (hb : Below w.heap.size w u) => h.below hb
  have id := (q : Int)
  have HB0 : Below w.heap.size w (w.alloc (.cells #[.bool vb, .int .i64 vn] 44)) := (Below.refl _ _).alloc (Nat.le_refl _) _
  have HBX : Hid (Below (w.alloc (.cells #[.bool vb, .int .i64 vn] 44)).heap.size (w.alloc (.cells #[.bool vb, .int .i64 vn] 44)) (w.alloc (.cells #[.bool vb, .int .i64 vn] 44))) := Lib.hid (Below.refl _ _)
  have HWX : Hid (∀ u, Below (w.alloc (.cells #[.bool vb, .int .i64 vn] 44)).heap.size (w.alloc (.cells #[.bool vb, .int .i64 vn] 44)) u → Below w.heap.size w u) := Lib.hid fun u hb => HB0.trans (hb.mono HB0.size)
  have HIS := Lib.hid fun u (hb : Below w.heap.size w u) => fr_Is (h.below hb) hI
  have HMY := Lib.hid fun u (hb : Below w.heap.size w u) => me_May2 (h.below hb) vb vn
  have HG2 := Lib.hid fun u (hb : Below w.heap.size w u) => me_Get2 (h.below hb) (q : Int) 2
  have hvn := val_N
  rw [hmay] at HMY
  rw [hsp] at HG2
  dsimp only at HG2
  have hz := zV
  have t1 : ((s : Int) == 16) = false := by simp; omega
  have t2 : ¬ (s : Int) = 16 := by omega
  have t3 : decide ((s : Int) = 16) = false := by simp; omega
  clear h hI hmay hsp hb hb2 hat hhas hF id
  go_enter Try.func11, Try.ntmps11
  go_wp2_with (first | (go_at_call 34; (with_reducible refine (HIS.out _ (HWX.out _ HBX.out)).mono ?_); rintro e u1 ⟨rfl, hb1⟩; have HBX := Lib.hid (HBX.out.trans (hb1.mono HBX.out.size)); clear hb1; have y0 := (HBX.out.cell (p := ⟨w.heap.size, 0, none⟩) (by simp)).trans (new_cell w #[.bool vb, .int .i64 vn] 44 (i := 0) rfl); have y1 := (HBX.out.cell (p := ⟨w.heap.size, 1, none⟩) (by simp)).trans (new_cell w #[.bool vb, .int .i64 vn] 44 (i := 1) rfl); dsimp only) | (go_at_call 32; (with_reducible refine (HMY.out _ (HWX.out _ HBX.out)).mono ?_); rintro e u2 ⟨rfl, hb2⟩; have HBX := Lib.hid (HBX.out.trans (hb2.mono HBX.out.size)); clear hb2; have y0 := (HBX.out.cell (p := ⟨w.heap.size, 0, none⟩) (by simp)).trans (new_cell w #[.bool vb, .int .i64 vn] 44 (i := 0) rfl); have y1 := (HBX.out.cell (p := ⟨w.heap.size, 1, none⟩) (by simp)).trans (new_cell w #[.bool vb, .int .i64 vn] 44 (i := 1) rfl); dsimp only) | (go_at_call 15; (with_reducible refine (HG2.out _ (HWX.out _ HBX.out)).mono ?_); rintro e u3 ⟨rfl, hb3⟩; have HBX := Lib.hid (HBX.out.trans (hb3.mono HBX.out.size)); clear hb3; have y0 := (HBX.out.cell (p := ⟨w.heap.size, 0, none⟩) (by simp)).trans (new_cell w #[.bool vb, .int .i64 vn] 44 (i := 0) rfl); have y1 := (HBX.out.cell (p := ⟨w.heap.size, 1, none⟩) (by simp)).trans (new_cell w #[.bool vb, .int .i64 vn] 44 (i := 1) rfl); dsimp only) | (go_at_call 20; (with_reducible refine (HS1.out _ (HME.out _ (HWX.out _ HBX.out))).mono ?_); rintro e u4 ⟨rfl, hM4, hN4⟩; have HM4 := Lib.hid hM4; have HN4 := Lib.hid (nx_bel (HWX.out _ HBX.out) hN4); clear hM4 hN4; dsimp only) | (go_at_call 20; (with_reducible refine (HS2.out _ HM4.out).mono ?_); rintro e u5 ⟨rfl, hM5, hN5⟩; have HM5 := Lib.hid hM5; have HN5 := Lib.hid (HN4.out.trans hN5); clear hM5 hN5; dsimp only))
  go_ret
  exact ⟨rfl, HM5.out, HN5.out⟩
end
end Go.Proofs.Ytglilfjkjoogbaa.Obj
