/- One instruction in three bytes. -/
/- The instruction with a number in a thing's bytes. -/
/- Frames: Next and Go. -/
import Derived.Test.YtglilfjkjoogbaaFs3
import Derived.RegionTactic
import Derived.Lib.Strings
import Derived.Deep.RegionHeld3
import Derived.Deep.DrawnRows
import Derived.Laws.BytesArg
namespace Go.Proofs.Ytglilfjkjoogbaa.Obj
open Go.Proofs.Ytglilfjkjoogbaa.Gen Go.Proofs.Ytglilfjkjoogbaa.Base Go.ChangeShapes Go.WideShapes Go.ChangeAt Go.RowKit
set_option linter.unusedVariables false
theorem cd_Len3 (s : ByteArray) (w : World) (hs : s.size = 3) :
    Calls Try.prog 73 #[.string s] w fun e w' => e = .returned (.int .i64 1) ∧ w = w' := by
  have h2 : (s.size : Int) = 3 := by omega
  go_enter Try.func73, Try.ntmps73
  go_wp2
  go_ret
  exact ⟨ret_i64 (by omega), rfl⟩
def byt (s : ByteArray) (i : Nat) : Int := ((s.data.toList[i]?.getD 0).toNat : Int)
theorem byt_get (s : ByteArray) (i : Nat) (h : i < s.size) : ((s[i]'h).toNat : Int) = byt s i := by
  have h1 : i < s.data.size := h
  have e : s[i]'h = s.data[i]'h1 := rfl
  unfold byt; rw [e, Array.getElem?_toList, Array.getElem?_eq_getElem h1]; rfl
theorem byt_bd (s : ByteArray) (i : Nat) : 0 ≤ byt s i ∧ byt s i < 256 := by
  unfold byt; have := (s.data.toList[i]?.getD 0).toNat_lt; omega
set_option maxRecDepth 100000 in
theorem cd_Get3 (s : ByteArray) (w : World) (hs : s.size = 3) :
    Calls Try.prog 61 #[.string s, .int .i64 0] w fun e w' => e = .returned (.tuple #[.agg #[.int .i64 (byt s 0), .int .i64 (byt s 1), .int .i64 (byt s 2)], .bool true]) ∧ Below w.heap.size w w' := by
  have hl := fun u => cd_Len3 s u hs
  have hx : s.extract 0 3 = s := by
    apply ByteArray.ext
    rw [← hs]; simp
  have z0 : 0 < s.size := by omega
  have z1 : 1 < s.size := by omega
  have z2 : 2 < s.size := by omega
  have e0 : ∀ h, ((s[0]'h).toNat : Int) = byt s 0 := fun h => byt_get s 0 h
  have e1 : ∀ h, ((s[1]'h).toNat : Int) = byt s 1 := fun h => byt_get s 1 h
  have e2 : ∀ h, ((s[2]'h).toNat : Int) = byt s 2 := fun h => byt_get s 2 h
  have b0 := byt_bd s 0; have b1 := byt_bd s 1; have b2 := byt_bd s 2
  obtain ⟨B0, hB0⟩ : ∃ B, byt s 0 = B := ⟨_, rfl⟩
  rw [hB0] at b0; have HB0 := Lib.hid hB0; simp only [hB0] at e0; clear hB0
  have W0 : IntKind.i64.wrap B0 = B0 := IntWalk.i64_in _ ⟨by omega, by omega⟩
  obtain ⟨B1, hB1⟩ : ∃ B, byt s 1 = B := ⟨_, rfl⟩
  rw [hB1] at b1; have HB1 := Lib.hid hB1; simp only [hB1] at e1; clear hB1
  have W1 : IntKind.i64.wrap B1 = B1 := IntWalk.i64_in _ ⟨by omega, by omega⟩
  obtain ⟨B2, hB2⟩ : ∃ B, byt s 2 = B := ⟨_, rfl⟩
  rw [hB2] at b2; have HB2 := Lib.hid hB2; simp only [hB2] at e2; clear hB2
  have W2 : IntKind.i64.wrap B2 = B2 := IntWalk.i64_in _ ⟨by omega, by omega⟩
  go_enter Try.func61, Try.ntmps61
  go_upto_region 4 with (go_at_call 73; (with_reducible refine (hl _).mono ?_); rintro e u1 ⟨rfl, rfl⟩; dsimp only)
  refine wp_region_held_drew (S := (fun w' => True)) (by kernel_rfl) ?_ (fun hH0 => ?_)
  · (try dsimp only); (first | done | trivial)
  refine wpAnyH_take (i := 0) (oi := { dst := some 20, op := Op.move (Operand.tmp 6), type := 9, pos := "code.go:51", after := #[], guard := none }) (v := ?v1) rfl (by kernel_rfl) (by kernel_rfl) (by kernel_rfl) (fun _ _ _ h => h) (Or.inl ⟨by rfl, ?hy1⟩) (by assumption) ?_
  case hy1 => intro w hSw; (try dsimp only at hSw); go_simp; (try with_reducible rfl)
  try simp only [Act.put, List.setIfInBounds_toArray, List.set_cons_zero, List.set_cons_succ]
  refine wpAnyH_take (i := 1) (oi := { dst := some 21, op := Op.index 9 (Operand.tmp 20) (Operand.const (Value.int IntKind.i64 0)), type := 5, pos := "code.go:51", after := #[{ on := 0, ground := Ground.data }], guard := none }) (v := ?v2) rfl (by kernel_rfl) (by kernel_rfl) (by kernel_rfl) (fun _ _ _ h => h) (Or.inl ⟨by rfl, ?hy2⟩) (by assumption) ?_
  case hy2 => intro w hSw; (try dsimp only at hSw); go_simp; (try with_reducible rfl)
  try simp only [Act.put, List.setIfInBounds_toArray, List.set_cons_zero, List.set_cons_succ]
  refine wpAnyH_take (i := 2) (oi := { dst := some 22, op := Op.convert 5 3 (Operand.tmp 21), type := 3, pos := "code.go:51", after := #[{ on := 1, ground := Ground.data }], guard := none }) (v := ?v3) rfl (by kernel_rfl) (by kernel_rfl) (by kernel_rfl) (fun _ _ _ h => h) (Or.inl ⟨by rfl, ?hy3⟩) (by assumption) ?_
  case hy3 => intro w hSw; (try dsimp only at hSw); go_simp; (try with_reducible rfl)
  try simp only [Act.put, List.setIfInBounds_toArray, List.set_cons_zero, List.set_cons_succ]
  refine wpAnyH_take (i := 3) (oi := { dst := some 23, op := Op.move (Operand.tmp 6), type := 9, pos := "code.go:51", after := #[], guard := none }) (v := ?v4) rfl (by kernel_rfl) (by kernel_rfl) (by kernel_rfl) (fun _ _ _ h => h) (Or.inl ⟨by rfl, ?hy4⟩) (by assumption) ?_
  case hy4 => intro w hSw; (try dsimp only at hSw); go_simp; (try with_reducible rfl)
  try simp only [Act.put, List.setIfInBounds_toArray, List.set_cons_zero, List.set_cons_succ]
  refine wpAnyH_take (i := 4) (oi := { dst := some 24, op := Op.index 9 (Operand.tmp 23) (Operand.const (Value.int IntKind.i64 1)), type := 5, pos := "code.go:51", after := #[{ on := 3, ground := Ground.data }], guard := none }) (v := ?v5) rfl (by kernel_rfl) (by kernel_rfl) (by kernel_rfl) (fun _ _ _ h => h) (Or.inl ⟨by rfl, ?hy5⟩) (by assumption) ?_
  case hy5 => intro w hSw; (try dsimp only at hSw); go_simp; (try with_reducible rfl)
  try simp only [Act.put, List.setIfInBounds_toArray, List.set_cons_zero, List.set_cons_succ]
  refine wpAnyH_take (i := 5) (oi := { dst := some 25, op := Op.convert 5 3 (Operand.tmp 24), type := 3, pos := "code.go:51", after := #[{ on := 4, ground := Ground.data }], guard := none }) (v := ?v6) rfl (by kernel_rfl) (by kernel_rfl) (by kernel_rfl) (fun _ _ _ h => h) (Or.inl ⟨by rfl, ?hy6⟩) (by assumption) ?_
  case hy6 => intro w hSw; (try dsimp only at hSw); go_simp; (try with_reducible rfl)
  try simp only [Act.put, List.setIfInBounds_toArray, List.set_cons_zero, List.set_cons_succ]
  refine wpAnyH_take (i := 6) (oi := { dst := some 26, op := Op.move (Operand.tmp 6), type := 9, pos := "code.go:51", after := #[], guard := none }) (v := ?v7) rfl (by kernel_rfl) (by kernel_rfl) (by kernel_rfl) (fun _ _ _ h => h) (Or.inl ⟨by rfl, ?hy7⟩) (by assumption) ?_
  case hy7 => intro w hSw; (try dsimp only at hSw); go_simp; (try with_reducible rfl)
  try simp only [Act.put, List.setIfInBounds_toArray, List.set_cons_zero, List.set_cons_succ]
  refine wpAnyH_take (i := 7) (oi := { dst := some 27, op := Op.index 9 (Operand.tmp 26) (Operand.const (Value.int IntKind.i64 2)), type := 5, pos := "code.go:51", after := #[{ on := 6, ground := Ground.data }], guard := none }) (v := ?v8) rfl (by kernel_rfl) (by kernel_rfl) (by kernel_rfl) (fun _ _ _ h => h) (Or.inl ⟨by rfl, ?hy8⟩) (by assumption) ?_
  case hy8 => intro w hSw; (try dsimp only at hSw); go_simp; (try with_reducible rfl)
  try simp only [Act.put, List.setIfInBounds_toArray, List.set_cons_zero, List.set_cons_succ]
  refine wpAnyH_take (i := 8) (oi := { dst := some 28, op := Op.convert 5 3 (Operand.tmp 27), type := 3, pos := "code.go:51", after := #[{ on := 7, ground := Ground.data }], guard := none }) (v := ?v9) rfl (by kernel_rfl) (by kernel_rfl) (by kernel_rfl) (fun _ _ _ h => h) (Or.inl ⟨by rfl, ?hy9⟩) (by assumption) ?_
  case hy9 => intro w hSw; (try dsimp only at hSw); go_simp; (try with_reducible rfl)
  try simp only [Act.put, List.setIfInBounds_toArray, List.set_cons_zero, List.set_cons_succ]
  refine wpAnyH_take (i := 9) (oi := { dst := some 29, op := Op.build 66 #[(0, Operand.tmp 22), (1, Operand.tmp 25), (2, Operand.tmp 28)], type := 66, pos := "code.go:51", after := #[{ on := 2, ground := Ground.data }, { on := 5, ground := Ground.data }, { on := 8, ground := Ground.data }], guard := none }) (v := ?v10) rfl (by kernel_rfl) (by kernel_rfl) (by kernel_rfl) (fun _ _ _ h => h) (Or.inl ⟨by rfl, ?hy10⟩) (by assumption) ?_
  case hy10 => intro w hSw; (try dsimp only at hSw); go_simp; (try with_reducible rfl)
  try simp only [Act.put, List.setIfInBounds_toArray, List.set_cons_zero, List.set_cons_succ]
  refine wpAnyH_ready (rs := [10]) (by kernel_rfl) (by simp) ?_
  refine AllReadyH.cons (o := { dst := none, op := Op.store 66 (Operand.tmp 4) (Operand.tmp 29), type := 0, pos := "code.go:51", after := #[{ on := 9, ground := Ground.data }, { on := 0, ground := Ground.phase }, { on := 1, ground := Ground.phase }, { on := 2, ground := Ground.phase }, { on := 3, ground := Ground.phase }, { on := 4, ground := Ground.phase }, { on := 5, ground := Ground.phase }, { on := 6, ground := Ground.phase }, { on := 7, ground := Ground.phase }, { on := 8, ground := Ground.phase }, { on := 9, ground := Ground.phase }], guard := none }) rfl (fun K hK => ?_) AllReadyH.nil
  go_simp
  refine hK.out _ _ ?_ (fun hH1 => ?_)
  · (try dsimp only); (first | done | trivial)
  clear hK K
  clear hH0
  try simp only [Act.put, List.setIfInBounds_toArray, List.set_cons_zero, List.set_cons_succ]
  refine wpAnyH_take (i := 11) (oi := { dst := some 5, op := Op.assign (Operand.const (Value.bool true)), type := 4, pos := "code.go:51", after := #[{ on := 10, ground := Ground.chain }, { on := 0, ground := Ground.phase }, { on := 1, ground := Ground.phase }, { on := 2, ground := Ground.phase }, { on := 3, ground := Ground.phase }, { on := 4, ground := Ground.phase }, { on := 5, ground := Ground.phase }, { on := 6, ground := Ground.phase }, { on := 7, ground := Ground.phase }, { on := 8, ground := Ground.phase }, { on := 9, ground := Ground.phase }, { on := 10, ground := Ground.phase }], guard := none }) (v := ?v12) rfl (by kernel_rfl) (by kernel_rfl) (by kernel_rfl) (fun _ _ _ h => h) (Or.inl ⟨by rfl, ?hy12⟩) (by assumption) ?_
  case hy12 => intro w hSw; (try dsimp only at hSw); go_simp; (try with_reducible rfl)
  try simp only [Act.put, List.setIfInBounds_toArray, List.set_cons_zero, List.set_cons_succ]
  refine wpAnyH_done (by kernel_rfl) ?_ _

  go_wp2_with fail
  rw [HB0.out, HB1.out, HB2.out]
  refine bodyPost_ret (v := .tuple #[.agg #[.int .i64 B0, .int .i64 B1, .int .i64 B2], .bool true]) (by simp [results, Try.results61, go_sem]) rfl ⟨rfl, ?_⟩
  exact below_drew ((Below.refl _ _).alloc (Nat.le_refl _) _)
end Go.Proofs.Ytglilfjkjoogbaa.Obj

namespace Go.Proofs.Ytglilfjkjoogbaa.Obj
open Go.Proofs.Ytglilfjkjoogbaa.Gen Go.Proofs.Ytglilfjkjoogbaa.Base Go.ChangeShapes Go.WideShapes Go.ChangeAt Go.RowKit
set_option linter.unusedVariables false
theorem infoIns : (Try.prog.info? 66).map (·.size) = some 3 := by kernel_rfl
theorem zIns (u : World) : Sem.run Try.prog (zeroValue 66) u = .ok (.agg #[.int .i64 0, .int .i64 0, .int .i64 0]) u := by kernel_rfl
theorem zB3 (u : World) : Sem.run Try.prog (zeroValue 112) u = .ok (.agg #[.int .u8 0, .int .u8 0, .int .u8 0]) u := by kernel_rfl
theorem load3 (w : World) (b : Nat) (cs : Array Value) (hr : w.heap[b]? = some (.cells cs 66 (0, 0))) (hs : cs.size = 3) : Sem.run Try.prog (loadVar 66 ⟨b, 0, none⟩) w = .ok (.agg cs) w :=
  run_loadVar_row _ _ _ _ _ _ _ hr Try.underlying66 rfl (by rw [infoIns, hs])
def b3 (x0 x1 x2 : Int) : Nat → Array Value
  | 0 => #[.int .u8 0, .int .u8 0, .int .u8 0]
  | 1 => #[.int .u8 x0, .int .u8 0, .int .u8 0]
  | 2 => #[.int .u8 x0, .int .u8 x1, .int .u8 0]
  | _ => #[.int .u8 x0, .int .u8 x1, .int .u8 x2]
section
variable {w u : World} {m li : Nat} {lv dv : Value} {M : MS}
theorem byt_str (xs : List Int) (i : Nat) (h : i < xs.length) (hb : 0 ≤ xs[i] ∧ xs[i] ≤ 255) : byt (strOfNums xs) i = xs[i] := by
  unfold byt
  rw [strOfNums_data, List.getElem?_map, List.getElem?_eq_getElem h]
  show ((UInt8.ofNat xs[i].toNat).toNat : Int) = _
  rw [UInt8.toNat_ofNat']
  omega
theorem str3 {x0 x1 x2 : Int} (h0 : 0 ≤ x0 ∧ x0 ≤ 255) (h1 : 0 ≤ x1 ∧ x1 ≤ 255) (h2 : 0 ≤ x2 ∧ x2 ≤ 255) : (strOfNums [x0, x1, x2]).size = 3 ∧ byt (strOfNums [x0, x1, x2]) 0 = x0 ∧ byt (strOfNums [x0, x1, x2]) 1 = x1 ∧ byt (strOfNums [x0, x1, x2]) 2 = x2 :=
  ⟨strOfNums_size _, byt_str _ 0 (by simp) h0, byt_str _ 1 (by simp) h1, byt_str _ 2 (by simp) h2⟩
set_option maxHeartbeats 2000000 in
set_option maxRecDepth 100000 in
theorem fr_instr (h : MemAt w m li lv dv M) (id pc : Int) (hpc : 0 ≤ pc ∧ pc ≤ 1000) {x0 x1 x2 : Int} (h0 : 0 ≤ x0 ∧ x0 ≤ 255) (h1 : 0 ≤ x1 ∧ x1 ≤ 255) (h2 : 0 ≤ x2 ∧ x2 ≤ 255) (b0 : M.byte id (pc * 3) = x0) (b1 : M.byte id (pc * 3 + 1) = x1) (b2 : M.byte id (pc * 3 + 2) = x2) :
    Calls Try.prog 46 #[.pointer (some ⟨m, 0, none⟩), .int .i64 id, .int .i64 pc] w fun e w' => e = .returned (.tuple #[.agg #[.int .i64 x0, .int .i64 x1, .int .i64 x2], .bool true]) ∧ Below w.heap.size w w' := by
  have hz := zIns
  have hz3 := zB3
  have HB0 := Lib.hid fun u (hb : Below w.heap.size w u) => me_Byte (h.below hb) id (pc * 3)
  have HB1 := Lib.hid fun u (hb : Below w.heap.size w u) => me_Byte (h.below hb) id (pc * 3 + 1)
  have HB2 := Lib.hid fun u (hb : Below w.heap.size w u) => me_Byte (h.below hb) id (pc * 3 + 2)
  rw [b0] at HB0
  rw [b1] at HB1
  rw [b2] at HB2
  obtain ⟨hS, s0, s1, s2⟩ := str3 h0 h1 h2
  have HG := Lib.hid fun u => cd_Get3 (strOfNums [x0, x1, x2]) u hS
  rw [s0, s1, s2] at HG
  have HX : Hid (Below w.heap.size w ((w.alloc (.cells #[.int .i64 0, .int .i64 0, .int .i64 0] 66)).alloc (.cells #[.int .u8 0, .int .u8 0, .int .u8 0] 112))) := Lib.hid (((Below.refl _ _).alloc (Nat.le_refl _) _).alloc (by simp) _)
  have HR6 : Hid (((w.alloc (.cells #[.int .i64 0, .int .i64 0, .int .i64 0] 66)).alloc (.cells #[.int .u8 0, .int .u8 0, .int .u8 0] 112)).heap[w.heap.size]? = some (.cells #[.int .i64 0, .int .i64 0, .int .i64 0] 66 (0, 0))) := Lib.hid ((heap_alloc_old _ _ (by simp)).trans (heap_alloc_new _ _))
  have HR8 : Hid (((w.alloc (.cells #[.int .i64 0, .int .i64 0, .int .i64 0] 66)).alloc (.cells #[.int .u8 0, .int .u8 0, .int .u8 0] 112)).heap[w.heap.size + 1]? = some (.cells #[.int .u8 0, .int .u8 0, .int .u8 0] 112 (0, 0))) := Lib.hid (heap_new' _ _ (by simp))
  have u0 : IntKind.u8.wrap x0 = x0 := by rw [IntKind.wrap_u8]; omega
  have u1 : IntKind.u8.wrap x1 = x1 := by rw [IntKind.wrap_u8]; omega
  have u2 : IntKind.u8.wrap x2 = x2 := by rw [IntKind.wrap_u8]; omega
  have n0 : ¬ x0 < 0 := by omega
  have n1 : ¬ x1 < 0 := by omega
  have n2 : ¬ x2 < 0 := by omega
  clear h b0 b1 b2 hS s0 s1 s2
  go_enter Try.func46, Try.ntmps46
  go_wp2_with fail
  go_loopw [11] (fun v11 wr => ∃ i : Nat, i ≤ 3 ∧ v11 = .int .i64 (i : Int) ∧ Below w.heap.size w wr ∧ wr.heap[w.heap.size]? = some (.cells #[.int .i64 0, .int .i64 0, .int .i64 0] 66 (0, 0)) ∧ wr.heap[w.heap.size + 1]? = some (.cells (b3 x0 x1 x2 i) 112 (0, 0))) (fun v11 wr => 3 - (intOf v11).toNat)
  case atStart => exact ⟨0, by omega, rfl, HX.out, HR6.out, HR8.out⟩
  case round =>
    clear HX HR6 HR8
    obtain ⟨i, hi, rfl, hb, hr6, hr8⟩ := hrel
    have : i = 0 ∨ i = 1 ∨ i = 2 ∨ i = 3 := by omega
    rcases this with rfl | rfl | rfl | rfl
    · -- 0
      have f8 := live_row wr (w.heap.size + 1) 0 _ _ hr8
      have c8 : wr.cell? ⟨w.heap.size + 1, 0, none⟩ = some (.int .u8 0) := by rw [cell_row _ _ _ _ _ _ hr8]; rfl
      have HR8 := Lib.hid hr8; have HR6 := Lib.hid hr6; have HBX := Lib.hid hb
      clear hr8 hr6 hb
      go_wp2_with (go_at_call 60; (with_reducible refine (HB0.out _ HBX.out).mono ?_); rintro e u0 ⟨rfl, rfl⟩; dsimp only)
      have h8 := heap_setCell_same wr (w.heap.size + 1) 0 _ _ (.int .u8 x0) HR8.out
      exact ⟨⟨1, by omega, rfl, HBX.out.setCell (by simp) _, (heap_setCell_other _ _ _ _ (by simp)).trans HR6.out, h8⟩, by simp [intOf]⟩
    · -- 1
      have f8 := live_row wr (w.heap.size + 1) 1 _ _ hr8
      have c8 : wr.cell? ⟨w.heap.size + 1, 1, none⟩ = some (.int .u8 0) := by rw [cell_row _ _ _ _ _ _ hr8]; rfl
      have HR8 := Lib.hid hr8; have HR6 := Lib.hid hr6; have HBX := Lib.hid hb
      clear hr8 hr6 hb
      go_wp2_with (go_at_call 60; (with_reducible refine (HB1.out _ HBX.out).mono ?_); rintro e u1 ⟨rfl, rfl⟩; dsimp only)
      have h8 := heap_setCell_same wr (w.heap.size + 1) 1 _ _ (.int .u8 x1) HR8.out
      exact ⟨⟨2, by omega, rfl, HBX.out.setCell (by simp) _, (heap_setCell_other _ _ _ _ (by simp)).trans HR6.out, h8⟩, by simp [intOf]⟩
    · -- 2
      have f8 := live_row wr (w.heap.size + 1) 2 _ _ hr8
      have c8 : wr.cell? ⟨w.heap.size + 1, 2, none⟩ = some (.int .u8 0) := by rw [cell_row _ _ _ _ _ _ hr8]; rfl
      have HR8 := Lib.hid hr8; have HR6 := Lib.hid hr6; have HBX := Lib.hid hb
      clear hr8 hr6 hb
      go_wp2_with (go_at_call 60; (with_reducible refine (HB2.out _ HBX.out).mono ?_); rintro e u2 ⟨rfl, rfl⟩; dsimp only)
      have h8 := heap_setCell_same wr (w.heap.size + 1) 2 _ _ (.int .u8 x2) HR8.out
      exact ⟨⟨3, by omega, rfl, HBX.out.setCell (by simp) _, (heap_setCell_other _ _ _ _ (by simp)).trans HR6.out, h8⟩, by simp [intOf]⟩
    · have hcv := run_convert_bytes_arg (P := Try.prog) wr 62 5 Try.underlying62 Try.underlying5 (w.heap.size + 1) 0 3 3 [x0, x1, x2] rfl (fun i hi => by
        have : i = 0 ∨ i = 1 ∨ i = 2 := by omega
        rcases this with rfl | rfl | rfl <;> rw [cell_row _ _ _ _ _ _ hr8] <;> rfl) 9 Try.underlying9
      have HR6 := Lib.hid hr6; have HBX := Lib.hid hb
      generalize strOfNums [x0, x1, x2] = S at *
      clear hr8 hr6 hb
      go_wp2_with (first
        | (go_at_call 61; (with_reducible refine (HG.out _).mono ?_); rintro e v1 ⟨rfl, hb1⟩; have HB9 := Lib.hid (HBX.out.trans (hb1.mono HBX.out.size)); have HR9 := Lib.hid ((hb1.block w.heap.size (Array.getElem?_eq_some_iff.1 HR6.out).1).trans HR6.out); clear hb1; dsimp only)
        | (refine wpList_store_row rfl 66 (Operand.tmp 6) (Operand.tmp 32) rfl w.heap.size #[.int .i64 x0, .int .i64 x1, .int .i64 x2] rfl rfl _ _ HR9.out infoIns (by rfl) (by simp [Value.oneCell']) ?_))
      have hld := load3 (v1.setRow w.heap.size #[.int .i64 x0, .int .i64 x1, .int .i64 x2]) w.heap.size #[.int .i64 x0, .int .i64 x1, .int .i64 x2] (setRow_heap _ _ _ _ _ _ HR9.out) rfl
      refine bodyPost_ret (v := .tuple #[.agg #[.int .i64 x0, .int .i64 x1, .int .i64 x2], .bool true]) ?_ rfl ⟨rfl, below_setRow HB9.out (Nat.le_refl _) _⟩
      rw [results_cell_tmp rfl]
      simp [asAddr, Result.andThen, hld]
set_option maxRecDepth 100000 in
theorem fr_instr_no (h : MemAt w m li lv dv M) (id pc : Int) (hpc : 0 ≤ pc ∧ pc ≤ 1000) (b0 : M.byte id (pc * 3) = -1) :
    Calls Try.prog 46 #[.pointer (some ⟨m, 0, none⟩), .int .i64 id, .int .i64 pc] w fun e w' => e = .returned (.tuple #[.agg #[.int .i64 0, .int .i64 0, .int .i64 0], .bool false]) ∧ Below w.heap.size w w' := by
  have hz := zIns
  have hz3 := zB3
  have HB0 := Lib.hid fun u (hb : Below w.heap.size w u) => me_Byte (h.below hb) id (pc * 3)
  rw [b0] at HB0
  have HX : Hid (Below w.heap.size w ((w.alloc (.cells #[.int .i64 0, .int .i64 0, .int .i64 0] 66)).alloc (.cells #[.int .u8 0, .int .u8 0, .int .u8 0] 112))) := Lib.hid (((Below.refl _ _).alloc (Nat.le_refl _) _).alloc (by simp) _)
  have HR6 : Hid (((w.alloc (.cells #[.int .i64 0, .int .i64 0, .int .i64 0] 66)).alloc (.cells #[.int .u8 0, .int .u8 0, .int .u8 0] 112)).heap[w.heap.size]? = some (.cells #[.int .i64 0, .int .i64 0, .int .i64 0] 66 (0, 0))) := Lib.hid ((heap_alloc_old _ _ (by simp)).trans (heap_alloc_new _ _))
  clear h b0
  go_enter Try.func46, Try.ntmps46
  go_wp2_with fail
  go_loopw [11] (fun v11 wr => v11 = .int .i64 0 ∧ Below w.heap.size w wr ∧ wr.heap[w.heap.size]? = some (.cells #[.int .i64 0, .int .i64 0, .int .i64 0] 66 (0, 0))) (fun v11 wr => 0)
  case atStart => exact ⟨rfl, HX.out, HR6.out⟩
  case round =>
    clear HX HR6
    obtain ⟨rfl, hb, hr6⟩ := hrel
    have HR6 := Lib.hid hr6; have HBX := Lib.hid hb
    clear hr6 hb
    go_wp2_with (first
      | (go_at_call 60; (with_reducible refine (HB0.out _ HBX.out).mono ?_); rintro e u0 ⟨rfl, rfl⟩; dsimp only)
      | (refine wpList_store_row rfl 66 (Operand.tmp 6) (Operand.tmp 23) rfl w.heap.size #[.int .i64 0, .int .i64 0, .int .i64 0] rfl rfl _ _ HR6.out infoIns (by rfl) (by simp [Value.oneCell']) ?_))
    have hld := load3 (wr.setRow w.heap.size #[.int .i64 0, .int .i64 0, .int .i64 0]) w.heap.size #[.int .i64 0, .int .i64 0, .int .i64 0] (setRow_heap _ _ _ _ _ _ HR6.out) rfl
    refine bodyPost_ret (v := .tuple #[.agg #[.int .i64 0, .int .i64 0, .int .i64 0], .bool false]) ?_ rfl ⟨rfl, below_setRow HBX.out (Nat.le_refl _) _⟩
    rw [results_cell_tmp rfl]
    simp [asAddr, Result.andThen, hld]
end
end Go.Proofs.Ytglilfjkjoogbaa.Obj

namespace Go.Proofs.Ytglilfjkjoogbaa.Obj
open Go.Proofs.Ytglilfjkjoogbaa.Gen Go.Proofs.Ytglilfjkjoogbaa.Base Go.ChangeShapes Go.WideShapes Go.ChangeAt Go.RowKit
set_option linter.unusedVariables false
section
variable {w u : World} {m li : Nat} {lv dv : Value} {M : MS}
set_option maxHeartbeats 2000000 in
set_option maxRecDepth 100000 in
theorem fr_Next (h : MemAt w m li lv dv M) {q : Nat} {sn mn bn cd : Int} (hI : M.isF q sn mn bn) {b : Bd} (hb : M.bs[q]? = some b) (hF : b.F.length = 22) (hhas : M.has q = true) {pc : Int} (hp : 0 ≤ pc ∧ pc ≤ 1000) (hpc : M.get q 1 = (false, pc)) (hcd : M.get mn 3 = (true, cd)) {x0 x1 x2 : Int} (h0 : 0 ≤ x0 ∧ x0 ≤ 255) (h1 : 0 ≤ x1 ∧ x1 ≤ 255) (h2 : 0 ≤ x2 ∧ x2 ≤ 255) (b0 : M.byte cd (pc * 3) = x0) (b1 : M.byte cd (pc * 3 + 1) = x1) (b2 : M.byte cd (pc * 3 + 2) = x2) :
    Calls Try.prog 25 #[.pointer (some ⟨m, 0, none⟩), .int .i64 (q : Int)] w fun e w' => e = .returned (.tuple #[.agg #[.int .i64 x0, .int .i64 x1, .int .i64 x2], .bool true]) ∧ MemAt w' m li lv dv (M.put q 1 (false, pc + 1)) ∧ Nx (ownM m li lv dv M) w (ownM m li lv dv (M.put q 1 (false, pc + 1))) w' := by
  have hz := zIns
  have HB0 : Below w.heap.size w (w.alloc (.cells #[.int .i64 0, .int .i64 0, .int .i64 0] 66)) := (Below.refl _ _).alloc (Nat.le_refl _) _
  have HBX : Hid (Below (w.alloc (.cells #[.int .i64 0, .int .i64 0, .int .i64 0] 66)).heap.size (w.alloc (.cells #[.int .i64 0, .int .i64 0, .int .i64 0] 66)) (w.alloc (.cells #[.int .i64 0, .int .i64 0, .int .i64 0] 66))) := Lib.hid (Below.refl _ _)
  have HWX : Hid (∀ u, Below (w.alloc (.cells #[.int .i64 0, .int .i64 0, .int .i64 0] 66)).heap.size (w.alloc (.cells #[.int .i64 0, .int .i64 0, .int .i64 0] 66)) u → Below w.heap.size w u) := Lib.hid fun u hb => HB0.trans (hb.mono HB0.size)
  have HIS := Lib.hid fun u (hb : Below w.heap.size w u) => fr_Is (h.below hb) hI
  have HG1 := Lib.hid fun u (hb : Below w.heap.size w u) => me_Get2 (h.below hb) q 1
  have HG3 := Lib.hid fun u (hb : Below w.heap.size w u) => me_Get2 (h.below hb) q 3
  have HGM := Lib.hid fun u (hb : Below w.heap.size w u) => me_Get2 (h.below hb) mn 3
  have hmt := hI.method
  rw [hpc] at HG1
  rw [hmt] at HG3
  rw [hcd] at HGM
  dsimp only at HG1 HG3 HGM
  have hvn := val_N
  have HIN := Lib.hid fun u (hb : Below w.heap.size w u) => fr_instr (h.below hb) cd pc hp h0 h1 h2 b0 b1 b2
  have HS1 : Hid (∀ u, Below w.heap.size w u → Calls Try.prog 20 #[.pointer (some ⟨m, 0, none⟩), .int .i64 (q : Int), .int .i64 1, .agg #[.bool false, .int .i64 (pc + 1)]] u fun e w' => e = .returned (.bool true) ∧ MemAt w' m li lv dv (M.put q 1 (false, pc + 1)) ∧ Nx (ownM m li lv dv M) u (ownM m li lv dv (M.put q 1 (false, pc + 1))) w') := Lib.hid fun u hu => by
    have := me_Set_yes (h.below hu) q 1 b false (pc + 1) hb (by omega) hhas (may_num M _ (by unfold fits; exact decide_eq_true (by omega))) rfl
    exact this
  have HLTM : Hid (∀ k, ownM m li lv dv M k → k < w.heap.size) := Lib.hid fun k hk => h.lt hk
  clear h hI hpc hcd hb hF hhas b0 b1 b2 hmt HB0
  go_enter Try.func25, Try.ntmps25
  go_wp2_with (first
    | (go_at_call 34; (with_reducible refine (HIS.out _ (HWX.out _ HBX.out)).mono ?_); rintro e a1 ⟨rfl, hb1⟩; have HBX := Lib.hid (HBX.out.trans (hb1.mono HBX.out.size)); clear hb1; dsimp only)
    | (go_at_call 15; (with_reducible refine (HG1.out _ (HWX.out _ HBX.out)).mono ?_); rintro e a2 ⟨rfl, hb2⟩; have HBX := Lib.hid (HBX.out.trans (hb2.mono HBX.out.size)); clear hb2; dsimp only)
    | (go_at_call 15; (with_reducible refine (HG3.out _ (HWX.out _ HBX.out)).mono ?_); rintro e a3 ⟨rfl, hb3⟩; have HBX := Lib.hid (HBX.out.trans (hb3.mono HBX.out.size)); clear hb3; dsimp only)
    | (go_at_call 15; (with_reducible refine (HGM.out _ (HWX.out _ HBX.out)).mono ?_); rintro e a4 ⟨rfl, hb4⟩; have HBX := Lib.hid (HBX.out.trans (hb4.mono HBX.out.size)); clear hb4; dsimp only)
    | (go_at_call 46; (with_reducible refine (HIN.out _ (HWX.out _ HBX.out)).mono ?_); rintro e a5 ⟨rfl, hb5⟩; have HBX := Lib.hid (HBX.out.trans (hb5.mono HBX.out.size)); clear hb5; have HBY : Hid (Below w.heap.size w (a5.alloc (.cells #[.int .i64 x0, .int .i64 x1, .int .i64 x2] 66))) := Lib.hid ((HWX.out _ HBX.out).alloc (HWX.out _ HBX.out).size _); have HR4 := Lib.hid ((heap_alloc_old a5 (.cells #[.int .i64 x0, .int .i64 x1, .int .i64 x2] 66) (Nat.lt_of_lt_of_le (by simp) HBX.out.size)).trans ((HBX.out.block w.heap.size (by simp)).trans (heap_alloc_new w (.cells #[.int .i64 0, .int .i64 0, .int .i64 0] 66)))); dsimp only)
    | (refine wpList_store_row rfl 66 (Operand.tmp 7) (Operand.tmp 29) rfl a5.heap.size _ rfl rfl _ _ (heap_alloc_new a5 _) infoIns (by rfl) (by simp [Value.oneCell']) ?_; rw [World.setRow_alloc_new])
    | (go_at_call 20; (with_reducible refine (HS1.out _ HBY.out).mono ?_); rintro e a6 ⟨rfl, hM6, hN6⟩; have HM6 := Lib.hid hM6; have HN6 := Lib.hid hN6; have HR46 := Lib.hid (pop_row hN6 (Array.getElem?_eq_some_iff.1 HR4.out).1 (fun c => by have := HLTM.out _ c; omega) HR4.out); have HR76 := Lib.hid (pop_row hN6 (by simp) (fun c => by have := HLTM.out _ c; have := (HWX.out _ HBX.out).size; omega) (heap_alloc_new a5 (.cells #[.int .i64 x0, .int .i64 x1, .int .i64 x2] 66))); clear hM6 hN6; dsimp only)
    | (refine wpList_load_row rfl 66 (Operand.tmp 7) (by rfl) a5.heap.size (by rfl) _ _ (0, 0) _ HR76.out Try.underlying66 rfl infoIns ?_)
    | (refine wpList_store_row rfl 66 (Operand.tmp 4) (Operand.tmp 40) rfl w.heap.size #[.int .i64 x0, .int .i64 x1, .int .i64 x2] rfl rfl _ _ HR46.out infoIns (by rfl) (by simp [Value.oneCell']) ?_))
  have hld := load3 (a6.setRow w.heap.size #[.int .i64 x0, .int .i64 x1, .int .i64 x2]) w.heap.size #[.int .i64 x0, .int .i64 x1, .int .i64 x2] (setRow_heap _ _ _ _ _ _ HR46.out) rfl
  refine bodyPost_ret (v := .tuple #[.agg #[.int .i64 x0, .int .i64 x1, .int .i64 x2], .bool true]) ?_ rfl ⟨rfl, pop_fin HBY.out (by have := (HWX.out _ HBX.out).size; simp; omega) HN6.out HM6.out HLTM.out _⟩
  rw [results_cell_tmp rfl]
  simp [asAddr, Result.andThen, hld]
set_option maxHeartbeats 2000000 in
set_option maxRecDepth 100000 in
theorem fr_Next_no (h : MemAt w m li lv dv M) {q : Nat} {sn mn bn cd : Int} (hI : M.isF q sn mn bn) {pc : Int} (hp : 0 ≤ pc ∧ pc ≤ 1000) (hpc : M.get q 1 = (false, pc)) (hcd : M.get mn 3 = (true, cd)) (b0 : M.byte cd (pc * 3) = -1) :
    Calls Try.prog 25 #[.pointer (some ⟨m, 0, none⟩), .int .i64 (q : Int)] w fun e w' => e = .returned (.tuple #[.agg #[.int .i64 0, .int .i64 0, .int .i64 0], .bool false]) ∧ Below w.heap.size w w' := by
  have hz := zIns
  have HB0 : Below w.heap.size w (w.alloc (.cells #[.int .i64 0, .int .i64 0, .int .i64 0] 66)) := (Below.refl _ _).alloc (Nat.le_refl _) _
  have HBX : Hid (Below (w.alloc (.cells #[.int .i64 0, .int .i64 0, .int .i64 0] 66)).heap.size (w.alloc (.cells #[.int .i64 0, .int .i64 0, .int .i64 0] 66)) (w.alloc (.cells #[.int .i64 0, .int .i64 0, .int .i64 0] 66))) := Lib.hid (Below.refl _ _)
  have HWX : Hid (∀ u, Below (w.alloc (.cells #[.int .i64 0, .int .i64 0, .int .i64 0] 66)).heap.size (w.alloc (.cells #[.int .i64 0, .int .i64 0, .int .i64 0] 66)) u → Below w.heap.size w u) := Lib.hid fun u hb => HB0.trans (hb.mono HB0.size)
  have HIS := Lib.hid fun u (hb : Below w.heap.size w u) => fr_Is (h.below hb) hI
  have HG1 := Lib.hid fun u (hb : Below w.heap.size w u) => me_Get2 (h.below hb) q 1
  have HG3 := Lib.hid fun u (hb : Below w.heap.size w u) => me_Get2 (h.below hb) q 3
  have HGM := Lib.hid fun u (hb : Below w.heap.size w u) => me_Get2 (h.below hb) mn 3
  have hmt := hI.method
  rw [hpc] at HG1
  rw [hmt] at HG3
  rw [hcd] at HGM
  dsimp only at HG1 HG3 HGM
  have hvn := val_N
  have HIN := Lib.hid fun u (hb : Below w.heap.size w u) => fr_instr_no (h.below hb) cd pc hp b0
  clear h hI hpc hcd b0 hmt HB0
  go_enter Try.func25, Try.ntmps25
  go_wp2_with (first
    | (go_at_call 34; (with_reducible refine (HIS.out _ (HWX.out _ HBX.out)).mono ?_); rintro e a1 ⟨rfl, hb1⟩; have HBX := Lib.hid (HBX.out.trans (hb1.mono HBX.out.size)); clear hb1; dsimp only)
    | (go_at_call 15; (with_reducible refine (HG1.out _ (HWX.out _ HBX.out)).mono ?_); rintro e a2 ⟨rfl, hb2⟩; have HBX := Lib.hid (HBX.out.trans (hb2.mono HBX.out.size)); clear hb2; dsimp only)
    | (go_at_call 15; (with_reducible refine (HG3.out _ (HWX.out _ HBX.out)).mono ?_); rintro e a3 ⟨rfl, hb3⟩; have HBX := Lib.hid (HBX.out.trans (hb3.mono HBX.out.size)); clear hb3; dsimp only)
    | (go_at_call 15; (with_reducible refine (HGM.out _ (HWX.out _ HBX.out)).mono ?_); rintro e a4 ⟨rfl, hb4⟩; have HBX := Lib.hid (HBX.out.trans (hb4.mono HBX.out.size)); clear hb4; dsimp only)
    | (go_at_call 46; (with_reducible refine (HIN.out _ (HWX.out _ HBX.out)).mono ?_); rintro e a5 ⟨rfl, hb5⟩; have HBX := Lib.hid (HBX.out.trans (hb5.mono HBX.out.size)); clear hb5; have HBY : Hid (Below w.heap.size w (a5.alloc (.cells #[.int .i64 0, .int .i64 0, .int .i64 0] 66))) := Lib.hid ((HWX.out _ HBX.out).alloc (HWX.out _ HBX.out).size _); have HR4 := Lib.hid ((heap_alloc_old a5 (.cells #[.int .i64 0, .int .i64 0, .int .i64 0] 66) (Nat.lt_of_lt_of_le (by simp) HBX.out.size)).trans ((HBX.out.block w.heap.size (by simp)).trans (heap_alloc_new w (.cells #[.int .i64 0, .int .i64 0, .int .i64 0] 66)))); dsimp only)
    | (refine wpList_store_row rfl 66 (Operand.tmp 7) (Operand.tmp 29) rfl a5.heap.size _ rfl rfl _ _ (heap_alloc_new a5 _) infoIns (by rfl) (by simp [Value.oneCell']) ?_; rw [World.setRow_alloc_new])
    | (refine wpList_store_row rfl 66 (Operand.tmp 4) (Operand.tmp 33) rfl w.heap.size #[.int .i64 0, .int .i64 0, .int .i64 0] rfl rfl _ _ HR4.out infoIns (by rfl) (by simp [Value.oneCell']) ?_))
  have hld := load3 ((a5.alloc (.cells #[.int .i64 0, .int .i64 0, .int .i64 0] 66)).setRow w.heap.size #[.int .i64 0, .int .i64 0, .int .i64 0]) w.heap.size #[.int .i64 0, .int .i64 0, .int .i64 0] (setRow_heap _ _ _ _ _ _ HR4.out) rfl
  refine bodyPost_ret (v := .tuple #[.agg #[.int .i64 0, .int .i64 0, .int .i64 0], .bool false]) ?_ rfl ⟨rfl, below_setRow HBY.out (Nat.le_refl _) _⟩
  rw [results_cell_tmp rfl]
  simp [asAddr, Result.andThen, hld]
set_option maxRecDepth 100000 in
theorem fr_Go (h : MemAt w m li lv dv M) {q : Nat} {sn mn bn : Int} (hI : M.isF q sn mn bn) {b : Bd} (hb : M.bs[q]? = some b) (hF : b.F.length = 22) (hhas : M.has q = true) {pc : Int} (hp : 0 ≤ pc ∧ pc ≤ 60) :
    Calls Try.prog 26 #[.pointer (some ⟨m, 0, none⟩), .int .i64 (q : Int), .int .i64 pc] w fun e w' => e = .returned (.bool true) ∧ MemAt w' m li lv dv (M.put q 1 (false, pc)) ∧ Nx (ownM m li lv dv M) w (ownM m li lv dv (M.put q 1 (false, pc))) w' := by
  have hz := zV
  have hIs := fr_Is h hI
  have HS1 : Hid (∀ u, Below w.heap.size w u → Calls Try.prog 20 #[.pointer (some ⟨m, 0, none⟩), .int .i64 (q : Int), .int .i64 1, .agg #[.bool false, .int .i64 pc]] u fun e w' => e = .returned (.bool true) ∧ MemAt w' m li lv dv (M.put q 1 (false, pc)) ∧ Nx (ownM m li lv dv M) u (ownM m li lv dv (M.put q 1 (false, pc))) w') := Lib.hid fun u hu => by
    have := me_Set_yes (h.below hu) q 1 b false pc hb (by omega) hhas (may_num M _ (by unfold fits; exact decide_eq_true (by omega))) rfl
    exact this
  obtain ⟨p0, p1⟩ := hp
  clear h hI hb hF hhas
  go_enter Try.func26, Try.ntmps26
  go_wp2_with (first
    | (go_at_call 34; (with_reducible refine hIs.mono ?_); rintro e a1 ⟨rfl, hb1⟩; have HB := Lib.hid hb1; clear hb1; dsimp only)
    | (go_at_call 20; (with_reducible refine (HS1.out _ HB.out).mono ?_); rintro e a6 ⟨rfl, hM6, hN6⟩; have HM6 := Lib.hid hM6; have HN6 := Lib.hid (nx_bel HB.out hN6); clear hM6 hN6; dsimp only))
  go_ret
  exact ⟨rfl, HM6.out, HN6.out⟩
set_option maxRecDepth 100000 in
theorem fr_Go_no (h : MemAt w m li lv dv M) {q : Nat} {sn mn bn : Int} (hI : M.isF q sn mn bn) {pc : Int} (hp : pc < 0 ∨ 60 < pc) :
    Calls Try.prog 26 #[.pointer (some ⟨m, 0, none⟩), .int .i64 (q : Int), .int .i64 pc] w fun e w' => e = .returned (.bool false) ∧ Below w.heap.size w w' := by
  have hIs := fr_Is h hI
  clear h hI
  rcases hp with hp | hp
  · have p0 : ¬ 0 ≤ pc := by omega
    go_enter Try.func26, Try.ntmps26
    go_wp2_with (go_at_call 34; (with_reducible refine hIs.mono ?_); rintro e a1 ⟨rfl, hb1⟩; have HB := Lib.hid hb1; clear hb1; dsimp only)
    go_ret
    exact ⟨rfl, HB.out⟩
  · have p0 : 0 ≤ pc := by omega
    have p1 : ¬ pc ≤ 60 := by omega
    go_enter Try.func26, Try.ntmps26
    go_wp2_with (go_at_call 34; (with_reducible refine hIs.mono ?_); rintro e a1 ⟨rfl, hb1⟩; have HB := Lib.hid hb1; clear hb1; dsimp only)
    go_ret
    exact ⟨rfl, HB.out⟩
end
end Go.Proofs.Ytglilfjkjoogbaa.Obj
