/- New of package free. -/
import Derived.Test.YtljgnmbjidkjnaaFree7
import Derived.RegionTactic
namespace Go.Proofs.Ytljgnmbjidkjnaa.Fr
open Go.Proofs.Ytljgnmbjidkjnaa.Gen Go.Proofs.Ytljgnmbjidkjnaa.Base Go.Proofs.Ytljgnmbjidkjnaa.Bt Go.ChangeShapes Go.WideShapes Go.ChangeAt Go.RowKit
set_option linter.unusedVariables false
def zrow : Array Value := ⟨[.slice none 0 0, .slice none 0 0, .slice none 0 0, .slice none 0 0, .slice none 0 0, .slice none 0 0, .slice none 0 0, .slice none 0 0, .slice none 0 0, .slice none 0 0, .slice none 0 0, .slice none 0 0, .slice none 0 0, .slice none 0 0, .slice none 0 0, .slice none 0 0, .slice none 0 0, .slice none 0 0, .slice none 0 0, .slice none 0 0, .slice none 0 0, .int .i64 0]⟩
theorem zrow_run : ∀ w, Sem.run Try.prog (zeroValue 84) w = .ok (.agg zrow) w := fun w => by kernel_rfl
theorem infoB : (Try.prog.info? 4).map (fun i => (i.zero, i.size, i.bytes)) = some (some (.bool false), 1, 1) := by kernel_rfl
def zbools (n : Nat) : Array Value := (bools (List.replicate n false)).toArray
def zints (n : Nat) : Array Value := (ints (List.replicate n 0)).toArray
theorem made_b (n : Nat) : madeCells (Value.cells (.bool false)) n = zbools n := by
  apply Array.ext
  · simp [size_madeCells, zbools, bools]
  · intro i h1 h2
    have hz : i % 1 = 0 := by omega
    simp [madeCells, zbools, bools, Value.cells, hz]
theorem made_i (n : Nat) : madeCells (Value.cells (.int .i64 0)) n = zints n := by
  apply Array.ext
  · simp [size_madeCells, zints, ints]
  · intro i h1 h2
    have hz : i % 1 = 0 := by omega
    simp [madeCells, zints, ints, Value.cells, hz]
theorem mk_b (n : Nat) (hn : n ≤ 65536) (w : World) : Sem.run Try.prog (Instr.makeSlice 64 (.int .i64 (n : Int)) (.int .i64 (n : Int))) w = .ok (.slice (some ⟨w.heap.size, 0, none⟩) n n) (w.alloc (.cells (zbools n) 4)) := by
  obtain ⟨ti, hti, hz0, hz1, hz2⟩ := info_parts infoB
  have h := run_make (P := Try.prog) w 64 4 ti (.bool false) Try.underlying64 hti hz0 .i64 .i64 n n (by omega) (by omega) (by rw [hz2]; omega) (by omega)
  rw [hz1, Int.toNat_natCast, Nat.mul_one, made_b] at h
  exact h
theorem mk_i (n : Nat) (hn : n ≤ 65536) (w : World) : Sem.run Try.prog (Instr.makeSlice 49 (.int .i64 (n : Int)) (.int .i64 (n : Int))) w = .ok (.slice (some ⟨w.heap.size, 0, none⟩) n n) (w.alloc (.cells (zints n) 3)) := by
  obtain ⟨ti, hti, hz0, hz1, hz2⟩ := info_parts infoI
  have h := run_make (P := Try.prog) w 49 3 ti (.int .i64 0) Try.underlying49 hti hz0 .i64 .i64 n n (by omega) (by omega) (by rw [hz2]; omega) (by omega)
  rw [hz1, Int.toNat_natCast, Nat.mul_one, made_i] at h
  exact h
def zeroF (n : Nat) : FS := ⟨List.replicate n false, List.replicate n 0, List.replicate n 0, fun _ => [], 0⟩
def newF (n : Nat) : FS := listF (fillF (zeroF n) 0 n true) 0 n
def zB (r bo bl bb : Nat) : FB := ⟨r, bo, bl, bb, fun _ => .slice none 0 0⟩
def zcells (bo bl bb n : Nat) : Array Value := ((zrow.setIfInBounds 0 (Value.slice (some ⟨bo, 0, none⟩) n n)).setIfInBounds 1 (Value.slice (some ⟨bl, 0, none⟩) n n)).setIfInBounds 2 (Value.slice (some ⟨bb, 0, none⟩) n n)
theorem zcells_row (r bo bl bb n : Nat) : zcells bo bl bb n = rowOf (zB r bo bl bb) (zeroF n) := by
  apply Array.ext'
  simp [zcells, zrow, rowOf, zB, zeroF, List.range, List.range.loop]
theorem frz (W : World) (n r bo bl bb : Nat) (hn : n ≤ 65536) (h0 : W.heap[r]? = some (.cells (zcells bo bl bb n) 84 (0, 0))) (h1 : W.heap[bo]? = some (.cells (zbools n) 4 (0, 0)))
    (h2 : W.heap[bl]? = some (.cells (zints n) 3 (0, 0))) (h3 : W.heap[bb]? = some (.cells (zints n) 3 (0, 0)))
    (d1 : r ≠ bo) (d2 : r ≠ bl) (d3 : r ≠ bb) (d4 : bo ≠ bl) (d5 : bo ≠ bb) (d6 : bl ≠ bb) : Fr W (zB r bo bl bb) (zeroF n) where
  row := by rw [← zcells_row]; exact h0
  opn := h1
  lng := h2
  bgn := h3
  ls := fun j hj => ⟨by simp [zeroF, ints], .inl ⟨rfl, rfl⟩⟩
  d1 := d1
  d2 := d2
  d3 := d3
  d4 := d4
  d5 := d5
  d6 := d6
  dl := fun j k hj hk => by simp [zB, Value.ownBlock] at hk
  dd := fun i j k hi hj hij hk => by simp [zB, Value.ownBlock] at hk
  e1 := by simp [zeroF]
  e2 := by simp [zeroF]
  le := by simpa [zeroF] using hn
theorem push4 {α : Type} (h : Array α) (a b c d : α) : ((((h.push a).push b).push c).push d)[h.size]? = some a ∧ ((((h.push a).push b).push c).push d)[h.size + 1]? = some b ∧ ((((h.push a).push b).push c).push d)[h.size + 1 + 1]? = some c ∧ ((((h.push a).push b).push c).push d)[h.size + 1 + 1 + 1]? = some d := by
  refine ⟨?_, ?_, ?_, ?_⟩
  · rw [Array.getElem?_push, if_neg (by simp; try omega), Array.getElem?_push, if_neg (by simp; try omega), Array.getElem?_push, if_neg (by simp; try omega), Array.getElem?_push, if_pos (by simp)]
  · rw [Array.getElem?_push, if_neg (by simp; try omega), Array.getElem?_push, if_neg (by simp; try omega), Array.getElem?_push, if_pos (by simp)]
  · rw [Array.getElem?_push, if_neg (by simp; try omega), Array.getElem?_push, if_pos (by simp)]
  · rw [Array.getElem?_push, if_pos (by simp)]
/-- The three rows and the box, in whatever order: fill on what lies there then. -/
theorem fill_Z (w : World) (n : Nat) (hn : n ≤ 65536) (c1 c2 c3 : Obj) (bo bl bb : Nat)
    (h : (bo, bl, bb, c1, c2, c3) ∈ [(w.heap.size, w.heap.size + 1, w.heap.size + 1 + 1, Obj.cells (zbools n) 4, Obj.cells (zints n) 3, Obj.cells (zints n) 3),
      (w.heap.size, w.heap.size + 1 + 1, w.heap.size + 1, Obj.cells (zbools n) 4, Obj.cells (zints n) 3, Obj.cells (zints n) 3),
      (w.heap.size + 1, w.heap.size, w.heap.size + 1 + 1, Obj.cells (zints n) 3, Obj.cells (zbools n) 4, Obj.cells (zints n) 3),
      (w.heap.size + 1, w.heap.size + 1 + 1, w.heap.size, Obj.cells (zints n) 3, Obj.cells (zbools n) 4, Obj.cells (zints n) 3),
      (w.heap.size + 1 + 1, w.heap.size, w.heap.size + 1, Obj.cells (zints n) 3, Obj.cells (zints n) 3, Obj.cells (zbools n) 4),
      (w.heap.size + 1 + 1, w.heap.size + 1, w.heap.size, Obj.cells (zints n) 3, Obj.cells (zints n) 3, Obj.cells (zbools n) 4)]) :
    Calls Try.prog 67 #[.pointer (some ⟨w.heap.size + 1 + 1 + 1, 0, none⟩), .int .i64 0, .int .i64 n, .bool true] ((((w.alloc c1).alloc c2).alloc c3).alloc (Obj.cells (zcells bo bl bb n) 84)).drew
      fun e w' => e = .returned (.tuple #[]) ∧ ∃ bo bl bb, w.heap.size ≤ bo ∧ w.heap.size ≤ bl ∧ w.heap.size ≤ bb ∧ Fr w' (zB (w.heap.size + 1 + 1 + 1) bo bl bb) (fillF (zeroF n) 0 n true) ∧ Below w.heap.size w w' := by
  have key : Fr ((((w.alloc c1).alloc c2).alloc c3).alloc (Obj.cells (zcells bo bl bb n) 84)).drew (zB (w.heap.size + 1 + 1 + 1) bo bl bb) (zeroF n) ∧ w.heap.size ≤ bo ∧ w.heap.size ≤ bl ∧ w.heap.size ≤ bb := by
    simp only [List.mem_cons, List.not_mem_nil, or_false, Prod.mk.injEq] at h
    rcases h with ⟨rfl, rfl, rfl, rfl, rfl, rfl⟩ | ⟨rfl, rfl, rfl, rfl, rfl, rfl⟩ | ⟨rfl, rfl, rfl, rfl, rfl, rfl⟩ | ⟨rfl, rfl, rfl, rfl, rfl, rfl⟩ | ⟨rfl, rfl, rfl, rfl, rfl, rfl⟩ | ⟨rfl, rfl, rfl, rfl, rfl, rfl⟩ <;>
    · refine ⟨frz _ _ _ _ _ _ hn ?_ ?_ ?_ ?_ (by omega) (by omega) (by omega) (by omega) (by omega) (by omega), by omega, by omega, by omega⟩ <;>
        (show ((((w.heap.push _).push _).push _).push _)[_]? = _; first | exact (push4 _ _ _ _ _).1 | exact (push4 _ _ _ _ _).2.1 | exact (push4 _ _ _ _ _).2.2.1 | exact (push4 _ _ _ _ _).2.2.2)
  have hB : Below w.heap.size w ((((w.alloc c1).alloc c2).alloc c3).alloc (Obj.cells (zcells bo bl bb n) 84)).drew :=
    Below.drew (((((Below.refl _ _).alloc (Nat.le_refl _) _).alloc (by simp) _).alloc (by simp; omega) _).alloc (by simp; omega) _)
  generalize ((((w.alloc c1).alloc c2).alloc c3).alloc (Obj.cells (zcells bo bl bb n) 84)).drew = W at *
  refine (fill_any W (zB (w.heap.size + 1 + 1 + 1) bo bl bb) (zeroF n) 0 n true key.1 (by simp [zeroF]) (by simp [zeroF]) (by simp [zeroF])).mono ?_
  rintro e w' ⟨rfl, hF, hN⟩
  refine ⟨rfl, bo, bl, bb, key.2.1, key.2.2.1, key.2.2.2, hF, hB.trans (hN.below ?_ hB.size)⟩
  intro k hk
  rcases hk with rfl | rfl | rfl | rfl | ⟨j, hj, hk⟩
  · show w.heap.size ≤ w.heap.size + 1 + 1 + 1; omega
  · exact key.2.1
  · exact key.2.2.1
  · exact key.2.2.2
  · simp [zB, Value.ownBlock] at hk
theorem newF_short (n : Nat) : Short (fillF (zeroF n) 0 n true) := fun k hk => by simp [fillF, zeroF]
set_option maxHeartbeats 2000000 in
theorem new_any (n : Nat) (hn : n ≤ 65536) (w : World) :
    Calls Try.prog 33 #[.int .i64 n] w fun e w' => ∃ B, e = .returned (.pointer (some ⟨B.r, 0, none⟩)) ∧ Fr w' B (newF n) ∧ Below w.heap.size w w' ∧ (∀ k, mine B k → w.heap.size ≤ k) := by
  have hb := mk_b n hn
  have hi := mk_i n hn
  have hz := zrow_run
  have hz1 : ¬ zrow = #[] := fun e => absurd (congrArg Array.size e) (by decide)
  have hz2 : zrow.size = 22 := rfl
  have t1 : (0 : Int) ≤ (n : Int) := by omega
  have t2 : (n : Int) ≤ 65536 := by omega
  have hex : ∀ (w' : World) (bo bl bb : Nat), w.heap.size ≤ bo → w.heap.size ≤ bl → w.heap.size ≤ bb → Fr w' (zB (w.heap.size + 1 + 1 + 1) bo bl bb) (fillF (zeroF n) 0 n true) → Below w.heap.size w w' →
      Calls Try.prog 68 #[.pointer (some ⟨w.heap.size + 1 + 1 + 1, 0, none⟩), .int .i64 0, .int .i64 n] w' fun e w2 => e = .returned (.tuple #[]) ∧ ∃ B, B.r = w.heap.size + 1 + 1 + 1 ∧ Fr w2 B (newF n) ∧ Below w.heap.size w w2 ∧ (∀ k, mine B k → w.heap.size ≤ k) := fun w' bo bl bb h1 h2 h3 hF hB => by
    have hm : ∀ k, mine (zB (w.heap.size + 1 + 1 + 1) bo bl bb) k → w.heap.size ≤ k := by
      intro k hk
      rcases hk with rfl | rfl | rfl | rfl | ⟨j, hj, hk⟩
      · show w.heap.size ≤ w.heap.size + 1 + 1 + 1; omega
      · exact h1
      · exact h2
      · exact h3
      · simp [zB, Value.ownBlock] at hk
    refine (list_F w' _ _ 0 n hF (by simp [fillF, zeroF, setR_len]) (by simp [fillF, zeroF])).mono ?_
    rintro e w2 ⟨rfl, B, hF2, hN2⟩
    refine ⟨rfl, B, hN2.r, hF2, hB.trans (hN2.below hm hB.size), fun k hk => ?_⟩
    rcases hN2.own k hk with h4 | h4
    · exact hm k h4
    · have := hB.size; omega
  have HEX := Lib.hid hex; clear hex
  go_enter Try.func33, Try.ntmps33
  go_upto_region 2 with fail
  rw [show max (0 : Int) (min (n : Int) 65536) = (n : Int) by omega]
  go_region
  all_goals
    clear hb hi hz hz1 hz2
    go_wp2_with fail
    refine (fill_Z w n hn _ _ _ _ _ _ (by simp)).mono ?_
    rintro e w3 ⟨rfl, bo, bl, bb, h1, h2, h3, hF, hB⟩
    have hc := HEX.out w3 bo bl bb h1 h2 h3 hF hB
    clear hF hB h1 h2 h3
    go_wp2_with (go_at_call 68; refine hc.mono ?_; rintro e w4 ⟨rfl, B, hr, hF4, hB4, hm⟩; have HR := Lib.hid hr; clear hr; dsimp only)
    go_ret
    exact ⟨B, by rw [HR.out]; rfl, hF4, hB4, hm⟩
end Go.Proofs.Ytljgnmbjidkjnaa.Fr
