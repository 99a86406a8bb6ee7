/- Frames: Push. -/
import Derived.Test.YtglilfjkjoogbaaFr4
namespace Go.Proofs.Ytglilfjkjoogbaa.Obj
open Go.Proofs.Ytglilfjkjoogbaa.Gen Go.Proofs.Ytglilfjkjoogbaa.Base Go.ChangeShapes Go.WideShapes Go.ChangeAt Go.RowKit
set_option linter.unusedVariables false
section
variable {w : World} {m li : Nat} {lv dv : Value} {M : MS}
theorem me_May2 (h : MemAt w m li lv dv M) (vb : Bool) (vn : Int) : Calls Try.prog 32 #[.pointer (some ⟨m, 0, none⟩), .agg #[.bool vb, .int .i64 vn]] w fun e w' => e = .returned (.bool (M.may (vb, vn))) ∧ Below w.heap.size w w' := me_May h (vb, vn)
set_option maxHeartbeats 1000000 in
set_option maxRecDepth 100000 in
/-- There is no room. -/
theorem fr_Push_full (h : MemAt w m li lv dv M) {id sn mn bn : Int} (hI : M.isF id sn mn bn) (vb : Bool) (vn : Int) (hmay : M.may (vb, vn) = true) (hsp : M.get id 2 = (false, 16)) : Calls Try.prog 11 #[.pointer (some ⟨m, 0, none⟩), .int .i64 id, .agg #[.bool vb, .int .i64 vn]] w fun e w' => e = .returned (.bool false) ∧ Below w.heap.size w w' := by
  have HB0 : Below w.heap.size w (w.alloc (.cells #[.bool vb, .int .i64 vn] 44)) := (Below.refl _ _).alloc (Nat.le_refl _) _
  have HBX : Hid (Below (w.alloc (.cells #[.bool vb, .int .i64 vn] 44)).heap.size (w.alloc (.cells #[.bool vb, .int .i64 vn] 44)) (w.alloc (.cells #[.bool vb, .int .i64 vn] 44))) := Lib.hid (Below.refl _ _)
  have HWX : Hid (∀ u, Below (w.alloc (.cells #[.bool vb, .int .i64 vn] 44)).heap.size (w.alloc (.cells #[.bool vb, .int .i64 vn] 44)) u → Below w.heap.size w u) := Lib.hid fun u hb => HB0.trans (hb.mono HB0.size)
  have HIS := Lib.hid fun u (hb : Below w.heap.size w u) => fr_Is (h.below hb) hI
  have HMY := Lib.hid fun u (hb : Below w.heap.size w u) => me_May2 (h.below hb) vb vn
  have HG2 := Lib.hid fun u (hb : Below w.heap.size w u) => me_Get2 (h.below hb) id 2
  have hvn := val_N
  rw [hmay] at HMY
  rw [hsp] at HG2
  dsimp only at HG2
  clear h hI hmay hsp
  go_enter Try.func11, Try.ntmps11
  go_wp2_with (first | (go_at_call 34; (with_reducible refine (HIS.out _ (HWX.out _ HBX.out)).mono ?_); rintro e u1 ⟨rfl, hb1⟩; have HBX := Lib.hid (HBX.out.trans (hb1.mono HBX.out.size)); clear hb1; have y0 := (HBX.out.cell (p := ⟨w.heap.size, 0, none⟩) (by simp)).trans (new_cell w #[.bool vb, .int .i64 vn] 44 (i := 0) rfl); have y1 := (HBX.out.cell (p := ⟨w.heap.size, 1, none⟩) (by simp)).trans (new_cell w #[.bool vb, .int .i64 vn] 44 (i := 1) rfl); dsimp only) | (go_at_call 32; (with_reducible refine (HMY.out _ (HWX.out _ HBX.out)).mono ?_); rintro e u2 ⟨rfl, hb2⟩; have HBX := Lib.hid (HBX.out.trans (hb2.mono HBX.out.size)); clear hb2; have y0 := (HBX.out.cell (p := ⟨w.heap.size, 0, none⟩) (by simp)).trans (new_cell w #[.bool vb, .int .i64 vn] 44 (i := 0) rfl); have y1 := (HBX.out.cell (p := ⟨w.heap.size, 1, none⟩) (by simp)).trans (new_cell w #[.bool vb, .int .i64 vn] 44 (i := 1) rfl); dsimp only) | (go_at_call 15; (with_reducible refine (HG2.out _ (HWX.out _ HBX.out)).mono ?_); rintro e u3 ⟨rfl, hb3⟩; have HBX := Lib.hid (HBX.out.trans (hb3.mono HBX.out.size)); clear hb3; have y0 := (HBX.out.cell (p := ⟨w.heap.size, 0, none⟩) (by simp)).trans (new_cell w #[.bool vb, .int .i64 vn] 44 (i := 0) rfl); have y1 := (HBX.out.cell (p := ⟨w.heap.size, 1, none⟩) (by simp)).trans (new_cell w #[.bool vb, .int .i64 vn] 44 (i := 1) rfl); dsimp only))
  go_ret
  exact ⟨rfl, HWX.out _ HBX.out⟩
end
end Go.Proofs.Ytglilfjkjoogbaa.Obj
