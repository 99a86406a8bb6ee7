/- A field of a value. -/
import Derived.Test.YtoklohfpkaiidaaGreatSm1
namespace Go.Proofs.YtoklohfpkaiidaaGreat.Obj
open Go.Proofs.YtoklohfpkaiidaaGreat.Gen Go.Proofs.YtoklohfpkaiidaaGreat.Base Go.ChangeShapes Go.WideShapes Go.ChangeAt Go.RowKit
set_option linter.unusedVariables false
/-- Two values in new memory. -/
structure TwoV (w u : World) (ab : Bool) (an : Int) (vb : Bool) (vn : Int) : Prop where
  bel : Below w.heap.size w u
  size : w.heap.size + 2 ≤ u.heap.size
  of : u.heap[w.heap.size]? = some (.cells #[.bool ab, .int .i64 an] 54 (0, 0))
  val : u.heap[w.heap.size + 1]? = some (.cells #[.bool vb, .int .i64 vn] 54 (0, 0))
section
variable {w u v : World} {ab vb : Bool} {an vn : Int}
theorem TwoV.start (w : World) (ab : Bool) (an : Int) : TwoV w ((w.alloc (.cells #[.bool ab, .int .i64 an] 54)).alloc (.cells #[.bool false, .int .i64 0] 54)) ab an false 0 :=
  ⟨((Below.refl _ _).alloc (Nat.le_refl _) _).alloc (by simp) _, by simp, (heap_alloc_old _ _ (by simp)).trans (heap_alloc_new w _), by have := heap_alloc_new (w.alloc (.cells #[.bool ab, .int .i64 an] 54)) (.cells #[.bool false, .int .i64 0] 54); simpa using this⟩
theorem TwoV.more (h : TwoV w u ab an vb vn) (hb : Below u.heap.size u v) : TwoV w v ab an vb vn :=
  ⟨h.bel.trans (hb.mono h.bel.size), by have := h.size; have := hb.size; omega, (hb.block _ (by have := h.size; omega)).trans h.of, (hb.block _ (by have := h.size; omega)).trans h.val⟩
theorem TwoV.put (h : TwoV w u ab an vb vn) (vb' : Bool) (vn' : Int) : TwoV w (u.setRow (w.heap.size + 1) #[.bool vb', .int .i64 vn']) ab an vb' vn' :=
  ⟨⟨h.bel.os, h.bel.tape, h.bel.output, by have := h.bel.size; simp [World.setRow]; omega, fun k hk => (setRow_other u _ k _ (by omega)).trans (h.bel.block k hk)⟩, by have := h.size; simp [World.setRow]; omega, (setRow_other u _ _ _ (by omega)).trans h.of, setRow_heap _ _ _ _ _ _ h.val⟩
theorem TwoV.d0 (h : TwoV w u ab an vb vn) : u.cell? ⟨w.heap.size, 0, none⟩ = some (.bool ab) := by rw [cell_row u _ 0 _ _ _ h.of]; rfl
theorem TwoV.d1 (h : TwoV w u ab an vb vn) : u.cell? ⟨w.heap.size, 1, none⟩ = some (.int .i64 an) := by rw [cell_row u _ 1 _ _ _ h.of]; rfl
end
section
variable {w u : World} {m li : Nat} {lv dv : Value} {M : MS}
set_option maxHeartbeats 2000000 in
set_option maxRecDepth 100000 in
theorem sm_field_yes (h : MemAt w m li lv dv M) {n i : Int} (h1 : M.fmt n ≠ 3) (h2 : 0 ≤ i) (h3 : i < M.size n) : Calls Tryz.prog 43 #[.pointer (some ⟨m, 0, none⟩), .agg #[.bool true, .int .i64 n], .int .i64 i] w fun e w' => e = .returned (.tuple #[.agg #[.bool (M.get n i).1, .int .i64 (M.get n i).2], .bool true]) ∧ Below w.heap.size w w' := by
  have HD := Lib.hid (TwoV.start w true n)
  have y0 := HD.out.d0
  have y1 := HD.out.d1
  have hz := zV
  have hvn := val_N
  have HF := Lib.hid fun u (hb : Below w.heap.size w u) => me_Fmt (h.below hb) n
  have HS := Lib.hid fun u (hb : Below w.heap.size w u) => me_Size (h.below hb) n
  have HG := Lib.hid fun u (hb : Below w.heap.size w u) => me_Get2 (h.below hb) n i
  clear h
  generalize M.get n i = g at *
  generalize M.fmt n = f at *
  generalize M.size n = s at *
  obtain ⟨gb, gn⟩ := g
  dsimp only at HG
  have t1 : (f == 3) = false := by simpa using h1
  have t2 : ¬ i < 0 := by omega
  have t3 : ¬ s ≤ i := by omega
  go_enter Tryz.func43, Tryz.ntmps43
  go_wp2_with (first
    | (go_at_call 86; (with_reducible refine (HF.out _ HD.out.bel).mono ?_); rintro e u1 ⟨rfl, rfl⟩; dsimp only)
    | (go_at_call 87; (with_reducible refine (HS.out _ HD.out.bel).mono ?_); rintro e u2 ⟨rfl, hb2⟩; have HD := Lib.hid (HD.out.more hb2); have y0 := HD.out.d0; have y1 := HD.out.d1; clear hb2; dsimp only)
    | (go_at_call 24; (with_reducible refine (HG.out _ HD.out.bel).mono ?_); rintro e u3 ⟨rfl, hb3⟩; have HD := Lib.hid (HD.out.more hb3); have y0 := HD.out.d0; have y1 := HD.out.d1; clear hb3; dsimp only)
    | (refine wpList_store_row rfl 54 (Operand.tmp 6) (Operand.tmp 35) rfl (w.heap.size + 1) #[.bool gb, .int .i64 gn] rfl rfl _ _ HD.out.val info2 (by rfl) (by simp [Value.oneCell']) ?_; have HD9 := Lib.hid (HD.out.put gb gn)))
  have hld := load2 _ _ _ HD9.out.val rfl
  refine bodyPost_ret (v := .tuple #[.agg #[.bool gb, .int .i64 gn], .bool true]) ?_ rfl ⟨rfl, HD9.out.bel⟩
  rw [results_cell_tmp rfl]
  simp [asAddr, Result.andThen, hld]
set_option maxHeartbeats 2000000 in
set_option maxRecDepth 100000 in
theorem sm_field_num (h : MemAt w m li lv dv M) (n i : Int) : Calls Tryz.prog 43 #[.pointer (some ⟨m, 0, none⟩), .agg #[.bool false, .int .i64 n], .int .i64 i] w fun e w' => e = .returned (.tuple #[.agg #[.bool false, .int .i64 0], .bool false]) ∧ Below w.heap.size w w' := by
  have HD := Lib.hid (TwoV.start w false n)
  have y0 := HD.out.d0
  have y1 := HD.out.d1
  have hz := zV
  have hvn := val_N
  have HF := Lib.hid fun u (hb : Below w.heap.size w u) => me_Fmt (h.below hb) n
  have HS := Lib.hid fun u (hb : Below w.heap.size w u) => me_Size (h.below hb) n
  have HG := Lib.hid fun u (hb : Below w.heap.size w u) => me_Get2 (h.below hb) n i
  clear h
  generalize M.get n i = g at *
  generalize M.fmt n = f at *
  generalize M.size n = s at *
  obtain ⟨gb, gn⟩ := g
  dsimp only at HG
  go_enter Tryz.func43, Tryz.ntmps43
  go_wp2_with (first
    | (refine wpList_store_row rfl 54 (Operand.tmp 6) (Operand.tmp 30) rfl (w.heap.size + 1) #[.bool false, .int .i64 0] rfl rfl _ _ HD.out.val info2 (by rfl) (by simp [Value.oneCell']) ?_; have HD9 := Lib.hid (HD.out.put false 0)))
  have hld := load2 _ _ _ HD9.out.val rfl
  refine bodyPost_ret (v := .tuple #[.agg #[.bool false, .int .i64 0], .bool false]) ?_ rfl ⟨rfl, HD9.out.bel⟩
  rw [results_cell_tmp rfl]
  simp [asAddr, Result.andThen, hld]
set_option maxHeartbeats 2000000 in
set_option maxRecDepth 100000 in
theorem sm_field_out (h : MemAt w m li lv dv M) {n i : Int} (h1 : M.fmt n ≠ 3) (h2 : 0 ≤ i) (h3 : M.size n ≤ i) : Calls Tryz.prog 43 #[.pointer (some ⟨m, 0, none⟩), .agg #[.bool true, .int .i64 n], .int .i64 i] w fun e w' => e = .returned (.tuple #[.agg #[.bool false, .int .i64 0], .bool false]) ∧ Below w.heap.size w w' := by
  have HD := Lib.hid (TwoV.start w true n)
  have y0 := HD.out.d0
  have y1 := HD.out.d1
  have hz := zV
  have hvn := val_N
  have HF := Lib.hid fun u (hb : Below w.heap.size w u) => me_Fmt (h.below hb) n
  have HS := Lib.hid fun u (hb : Below w.heap.size w u) => me_Size (h.below hb) n
  have HG := Lib.hid fun u (hb : Below w.heap.size w u) => me_Get2 (h.below hb) n i
  clear h
  generalize M.get n i = g at *
  generalize M.fmt n = f at *
  generalize M.size n = s at *
  obtain ⟨gb, gn⟩ := g
  dsimp only at HG
  have t1 : (f == 3) = false := by simpa using h1
  have t2 : ¬ i < 0 := by omega
  have t3 : s ≤ i := h3
  go_enter Tryz.func43, Tryz.ntmps43
  go_wp2_with (first
    | (go_at_call 86; (with_reducible refine (HF.out _ HD.out.bel).mono ?_); rintro e u1 ⟨rfl, rfl⟩; dsimp only)
    | (go_at_call 87; (with_reducible refine (HS.out _ HD.out.bel).mono ?_); rintro e u2 ⟨rfl, hb2⟩; have HD := Lib.hid (HD.out.more hb2); have y0 := HD.out.d0; have y1 := HD.out.d1; clear hb2; dsimp only)
    | (refine wpList_store_row rfl 54 (Operand.tmp 6) (Operand.tmp 30) rfl (w.heap.size + 1) #[.bool false, .int .i64 0] rfl rfl _ _ HD.out.val info2 (by rfl) (by simp [Value.oneCell']) ?_; have HD9 := Lib.hid (HD.out.put false 0)))
  have hld := load2 _ _ _ HD9.out.val rfl
  refine bodyPost_ret (v := .tuple #[.agg #[.bool false, .int .i64 0], .bool false]) ?_ rfl ⟨rfl, HD9.out.bel⟩
  rw [results_cell_tmp rfl]
  simp [asAddr, Result.andThen, hld]
end
end Go.Proofs.YtoklohfpkaiidaaGreat.Obj
