/- The law SimpleFields returns true at every input, and leaves its arguments as they were. No condition. -/
import Derived.Test.YtoklohfpkaiidaaGreatRows
import Derived.WalkKit
import Derived.ProofKit
import Derived.OpenShut
import Derived.Test.YtoklohfpkaiidaaGreatSf8
import Derived.Deep.RegionWith
import Derived.Deep.DeepCutAuto
import Derived.ShutString
import Derived.ChangeOld
import Derived.Below
namespace Go.Proofs.YtoklohfpkaiidaaGreat.simpleFields
open Go.ChangeShapes Go.WideShapes Go.ChangeAt Go.RowKit
open Go.ChangeMaps (open_string shut_string)

open Go.Proofs.YtoklohfpkaiidaaGreat.Gen Go.Proofs.YtoklohfpkaiidaaGreat.Base Go.Proofs.YtoklohfpkaiidaaGreat.Obj
set_option linter.unusedVariables false

theorem own : ownKnob Tryz.prog.godebug = none := by kernel_rfl
theorem laidOut : laidOutB Tryz.prog = true := by kernel_rfl
theorem who_ix0 (u : World) : Sem.run Tryz.prog (Instr.index 68 (.agg #[.bool true, .int .i64 23, .bool false, .int .i64 5, .bool true, .int .i64 22]) (.int .i64 0)) u = .ok (.agg #[.bool true, .int .i64 23]) u := by kernel_rfl
theorem who_ix1 (u : World) : Sem.run Tryz.prog (Instr.index 68 (.agg #[.bool true, .int .i64 23, .bool false, .int .i64 5, .bool true, .int .i64 22]) (.int .i64 1)) u = .ok (.agg #[.bool false, .int .i64 5]) u := by kernel_rfl
theorem who_ix2 (u : World) : Sem.run Tryz.prog (Instr.index 68 (.agg #[.bool true, .int .i64 23, .bool false, .int .i64 5, .bool true, .int .i64 22]) (.int .i64 2)) u = .ok (.agg #[.bool true, .int .i64 22]) u := by kernel_rfl
theorem who_ix (kd : Nat) (hd : kd < 3) (u : World) : Sem.run Tryz.prog (Instr.index 68 (.agg #[.bool true, .int .i64 23, .bool false, .int .i64 5, .bool true, .int .i64 22]) (.int .i64 (kd : Int))) u = .ok (.agg #[.bool (whoV kd).1, .int .i64 (whoV kd).2]) u := by
  have : kd = 0 ∨ kd = 1 ∨ kd = 2 := by omega
  rcases this with rfl | rfl | rfl
  · exact who_ix0 u
  · exact who_ix1 u
  · exact who_ix2 u
theorem law_AddA2 {w u : World} {b k g : Nat} {lv : Value} {L : List Th} (h : LB w u b 51 lv L 23) (hL : L.map Th.pl = (List.range 23).map firstT) (hk : k < 20) (hg : g = u.heap.size) :
    Calls Tryz.prog 18 #[.pointer (some ⟨b, 0, none⟩), .int .i64 7, .int .i64 1, .slice (some ⟨g, 0, none⟩) k k, .string ⟨#[]⟩] (u.alloc (.cells (vals (Ps 0 k)).toArray 54)) fun e w' => e = .returned (.int .i64 23) ∧ ∃ a c L', LB w w' b 51 (.slice a L'.length c) L' 24 ∧ L'.map Th.pl = stA k := by
  subst hg
  exact law_AddA h hL hk

set_option maxRecDepth 100000 in
set_option maxHeartbeats 16000000 in
theorem walk (a0 : Int) (a1 : Int) (a2 : Int) (a3 : Int) (w : World) (w0 : (Lit.int .i64 a0).wf = true) (w1 : (Lit.int .i64 a1).wf = true) (w2 : (Lit.int .i64 a2).wf = true) (w3 : (Lit.int .i64 a3).wf = true) :
    Calls Tryz.prog 6 #[.int .i64 a0, .int .i64 a1, .int .i64 a2, .int .i64 a3] w fun e w' => e = .returned (.bool true) ∧ Below w.heap.size w w' := by
  have hz := zV
  have HFS := Lib.hid (fs_First w)
  have hk0 := Int.emod_nonneg a0 (show (20 : Int) ≠ 0 by omega)
  have hk1 := Int.emod_lt_of_pos a0 (show (0 : Int) < 20 by omega)
  obtain ⟨k, hkk⟩ : ∃ k : Nat, a0 % 20 = (k : Int) := ⟨(a0 % 20).toNat, by omega⟩
  have hpk := place_any a0 20 (by omega) (by omega) w0
  rw [hkk] at hpk
  have hk : k < 20 := by omega
  have hi0 := Int.emod_nonneg a1 (show (25 : Int) ≠ 0 by omega)
  obtain ⟨i, hii⟩ : ∃ i : Nat, a1 % 25 = (i : Int) := ⟨(a1 % 25).toNat, by omega⟩
  have hpi := place_any a1 25 (by omega) (by omega) w1
  rw [hii] at hpi
  have hx0 := Int.emod_nonneg a2 (show (256 : Int) ≠ 0 by omega)
  have hx1 := Int.emod_lt_of_pos a2 (show (0 : Int) < 256 by omega)
  have hpx := place_any a2 256 (by omega) (by omega) w2
  generalize a2 % 256 = x at hpx hx0 hx1
  have hd0 := Int.emod_nonneg a3 (show (3 : Int) ≠ 0 by omega)
  have hd1 := Int.emod_lt_of_pos a3 (show (0 : Int) < 3 by omega)
  obtain ⟨kd, hdd⟩ : ∃ kd : Nat, a3 % 3 = (kd : Int) := ⟨(a3 % 3).toNat, by omega⟩
  have hpd := place_any a3 3 (by omega) (by omega) w3
  rw [hdd] at hpd
  have hd : kd < 3 := by omega
  have HPK := Lib.hid hpk; have HPI := Lib.hid hpi; have HPX := Lib.hid hpx; have HPD := Lib.hid hpd
  have hix := who_ix kd hd
  have hmk := mk_v k (by omega)
  clear hk0 hk1 hkk hi0 hii hd0 hd1 hdd w0 w1 w2 w3 hpk hpi hpx hpd
  go_enter Tryz.func6, Tryz.ntmps6
  go_upto_region 6 with (first
    | (go_at_call 17; (with_reducible refine HFS.out.mono ?_); rintro e u1 ⟨la, lc, L, rfl, hD, hL⟩; have HLB := Lib.hid (LB.of hD 51 23); have HL := Lib.hid hL; clear hD hL; dsimp only)
    | (go_at_call 14; (with_reducible refine (HPK.out _).mono ?_); rintro e u2 ⟨rfl, rfl⟩; dsimp only)
    | (go_at_call 18; (with_reducible refine (law_AddA2 HLB.out HL.out hk (by simp)).mono ?_); rintro e u3 ⟨rfl, a3, c3, L3, hB, hL3⟩; have HLB3 := Lib.hid hB; have HL3 := Lib.hid hL3; clear hB hL3; dsimp only)
    | (go_at_call 22; (with_reducible refine (nl_Obj _ _).mono ?_); rintro e u4 ⟨rfl, hb4⟩; have HLB3 := Lib.hid (HLB3.out.more hb4); clear hb4; dsimp only)
    | (go_at_call 19; (with_reducible refine (nl_Num _ _).mono ?_); rintro e u5 ⟨rfl, hb5⟩; have HLB3 := Lib.hid (HLB3.out.more hb5); clear hb5; dsimp only)
    | (go_at_call 14; (with_reducible refine (HPD.out _).mono ?_); rintro e u6 ⟨rfl, rfl⟩; dsimp only))
  -- region 6
  have HROW := Lib.hid (heap_alloc_new u4 (.cells #[.bool (whoV kd).1, .int .i64 (whoV kd).2] 54))
  have HLB6 := Lib.hid ((HLB3.out.more ((Below.refl _ _).alloc (Nat.le_refl _) (.cells #[.bool (whoV kd).1, .int .i64 (whoV kd).2] 54))).drew)
  have HX1 : Hid (u4.heap.size < (u4.alloc (.cells #[.bool (whoV kd).1, .int .i64 (whoV kd).2] 54)).drew.heap.size) := Lib.hid (by show _ < (u4.alloc _).heap.size; simp)
  have HX2 : Hid (u4.heap.size ≠ u1.heap.size) := Lib.hid (by have := HLB3.out.lt; omega)
  have HX3 : Hid ((Value.slice a3 L3.length c3).ownBlock ≠ some u4.heap.size) := Lib.hid (fun c => by have := (HLB3.out.ls.lt _ c).2; omega)
  have k0 : (u4.alloc (.cells #[.bool (whoV kd).1, .int .i64 (whoV kd).2] 54)).drew.cell? ⟨u4.heap.size, 0, none⟩ = some (.bool (whoV kd).1) := cell_row _ _ 0 _ _ _ HROW.out
  have k1 : (u4.alloc (.cells #[.bool (whoV kd).1, .int .i64 (whoV kd).2] 54)).drew.cell? ⟨u4.heap.size, 1, none⟩ = some (.int .i64 (whoV kd).2) := cell_row _ _ 1 _ _ _ HROW.out
  go_cut [11] (fun s11 wx => s11 = .int .i64 26 ∧ ∃ ux a c L', wx = ux ∧ LB w ux u1.heap.size 51 (.slice a L'.length c) L' 28 ∧ L'.map Th.pl = stF k kd)
  case first =>
    refine wp_region_held_drew (S := (fun w' => True)) (by kernel_rfl) ?_ (fun hH0 => ?_)
    · (try dsimp only); (first | done | trivial)
    refine wpAnyH_take (i := 0) (oi := { dst := some 41, op := Op.move (Operand.tmp 9), type := 48, pos := "outright.go:40", after := #[], guard := none }) (v := ?v1) rfl (by kernel_rfl) (by kernel_rfl) (by kernel_rfl) (fun _ _ _ h => h) (Or.inl ⟨by rfl, ?hy1⟩) (by assumption) ?_
    case hy1 => intro w hSw; (try dsimp only at hSw); go_simp; (try with_reducible rfl)
    try simp only [Act.put, List.setIfInBounds_toArray, List.set_cons_zero, List.set_cons_succ]
    refine wpAnyH_take (i := 1) (oi := { dst := some 42, op := Op.move (Operand.tmp 9), type := 48, pos := "outright.go:40", after := #[], guard := none }) (v := ?v2) rfl (by kernel_rfl) (by kernel_rfl) (by kernel_rfl) (fun _ _ _ h => h) (Or.inl ⟨by rfl, ?hy2⟩) (by assumption) ?_
    case hy2 => intro w hSw; (try dsimp only at hSw); go_simp; (try with_reducible rfl)
    try simp only [Act.put, List.setIfInBounds_toArray, List.set_cons_zero, List.set_cons_succ]
    refine wpAnyH_ready (rs := [2, 3]) (by kernel_rfl) (by simp) ?_
    refine (AllReadyH.cons (o := { dst := some 43, op := Op.call { callee := Callee.value (Operand.func 20), args := #[Operand.tmp 42, Operand.const (Value.int IntKind.i64 0), Operand.const (Value.int IntKind.i64 0), Operand.const (Value.int IntKind.i64 0), Operand.const (Value.slice none 0 0), Operand.const (Value.slice none 0 0)], argTypes := #[48, 3, 3, 3, 31, 56] }, type := 3, pos := "outright.go:40", after := #[{ on := 1, ground := Ground.data }], guard := none }) rfl (fun K hK => ?_) (AllReadyH.cons (o := { dst := some 44, op := Op.load 54 (Operand.tmp 13), type := 54, pos := "outright.go:40", after := #[], guard := none }) rfl (fun K hK => ?_) AllReadyH.nil))
    · go_simp; go_at_call 20; (with_reducible refine (law_MethodFK HLB6.out HL3.out).mono ?_); rintro e u7 ⟨rfl, a7, c7, L7, hB, hL7, hK7⟩; have HLB7 := Lib.hid hB; have HL7 := Lib.hid hL7; have hrow7 := (hK7.block _ HX1.out HX2.out HX3.out).trans HROW.out; have k0 := cell_row _ _ 0 _ _ _ hrow7; have k1 := cell_row _ _ 1 _ _ _ hrow7; rw [show (#[.bool (whoV kd).1, .int .i64 (whoV kd).2] : Array Value)[0]? = some (.bool (whoV kd).1) from rfl] at k0; rw [show (#[.bool (whoV kd).1, .int .i64 (whoV kd).2] : Array Value)[1]? = some (.int .i64 (whoV kd).2) from rfl] at k1; clear hB hL7 hK7 hrow7; dsimp only
      refine hK.out _ _ ?_ (fun hH1 => ?_)
      · (try dsimp only); (first | done | trivial)
      clear hK K
      clear hH0
      try simp only [Act.put, List.setIfInBounds_toArray, List.set_cons_zero, List.set_cons_succ]
      refine wpAnyH_ready (rs := [3]) (by kernel_rfl) (by simp) ?_
      refine (AllReadyH.cons (o := { dst := some 44, op := Op.load 54 (Operand.tmp 13), type := 54, pos := "outright.go:40", after := #[], guard := none }) rfl (fun K hK => ?_) AllReadyH.nil)
      go_simp
      refine hK.out _ _ ?_ (fun hH2 => ?_)
      · (try dsimp only); (first | done | trivial)
      clear hK K
      clear hH1
      try simp only [Act.put, List.setIfInBounds_toArray, List.set_cons_zero, List.set_cons_succ]
      refine wpAnyH_ready (rs := [4]) (by kernel_rfl) (by simp) ?_
      refine (AllReadyH.cons (o := { dst := some 45, op := Op.call { callee := Callee.value (Operand.func 21), args := #[Operand.tmp 41, Operand.tmp 43, Operand.const (Value.int IntKind.i64 0), Operand.tmp 44, Operand.const (Value.int IntKind.i64 5)], argTypes := #[48, 3, 3, 54, 3] }, type := 58, pos := "outright.go:40", after := #[{ on := 0, ground := Ground.data }, { on := 2, ground := Ground.data }, { on := 3, ground := Ground.data }, { on := 2, ground := Ground.chain }], guard := none }) rfl (fun K hK => ?_) AllReadyH.nil)
      go_simp; go_at_call 21; (with_reducible refine (law_StartF HLB7.out HL7.out kd).mono ?_); rintro e u8 ⟨rfl, a8, c8, L8, hB, hL8⟩; have HLB8 := Lib.hid hB; have HL8 := Lib.hid hL8; clear hB hL8; dsimp only
      refine hK.out _ _ ?_ (fun hH3 => ?_)
      · (try dsimp only); (first | done | trivial)
      clear hK K
      clear hH2
      try simp only [Act.put, List.setIfInBounds_toArray, List.set_cons_zero, List.set_cons_succ]
      refine wpAnyH_take (i := 5) (oi := { dst := some 40, op := Op.move (Operand.tmp 45), type := 58, pos := "outright.go:40", after := #[{ on := 4, ground := Ground.data }], guard := none }) (v := ?v3) rfl (by kernel_rfl) (by kernel_rfl) (by kernel_rfl) (fun _ _ _ h => h) (Or.inl ⟨by rfl, ?hy3⟩) (by assumption) ?_
      case hy3 => intro w hSw; (try dsimp only at hSw); go_simp; (try with_reducible rfl)
      try simp only [Act.put, List.setIfInBounds_toArray, List.set_cons_zero, List.set_cons_succ]
      refine wpAnyH_take (i := 6) (oi := { dst := some 46, op := Op.extract (Operand.tmp 40) 0, type := 3, pos := "outright.go:40", after := #[{ on := 5, ground := Ground.data }], guard := none }) (v := ?v4) rfl (by kernel_rfl) (by kernel_rfl) (by kernel_rfl) (fun _ _ _ h => h) (Or.inl ⟨by rfl, ?hy4⟩) (by assumption) ?_
      case hy4 => intro w hSw; (try dsimp only at hSw); go_simp; (try with_reducible rfl)
      try simp only [Act.put, List.setIfInBounds_toArray, List.set_cons_zero, List.set_cons_succ]
      refine wpAnyH_take (i := 7) (oi := { dst := some 47, op := Op.extract (Operand.tmp 40) 1, type := 3, pos := "outright.go:40", after := #[{ on := 5, ground := Ground.data }], guard := none }) (v := ?v5) rfl (by kernel_rfl) (by kernel_rfl) (by kernel_rfl) (fun _ _ _ h => h) (Or.inl ⟨by rfl, ?hy5⟩) (by assumption) ?_
      case hy5 => intro w hSw; (try dsimp only at hSw); go_simp; (try with_reducible rfl)
      try simp only [Act.put, List.setIfInBounds_toArray, List.set_cons_zero, List.set_cons_succ]
      refine wpAnyH_take (i := 8) (oi := { dst := some 11, op := Op.assign (Operand.tmp 47), type := 3, pos := "outright.go:40", after := #[{ on := 7, ground := Ground.data }, { on := 4, ground := Ground.chain }, { on := 0, ground := Ground.phase }, { on := 1, ground := Ground.phase }, { on := 2, ground := Ground.phase }, { on := 3, ground := Ground.phase }, { on := 4, ground := Ground.phase }, { on := 5, ground := Ground.phase }, { on := 6, ground := Ground.phase }, { on := 7, ground := Ground.phase }], guard := none }) (v := ?v6) rfl (by kernel_rfl) (by kernel_rfl) (by kernel_rfl) (fun _ _ _ h => h) (Or.inl ⟨by rfl, ?hy6⟩) (by assumption) ?_
      case hy6 => intro w hSw; (try dsimp only at hSw); go_simp; (try with_reducible rfl)
      try simp only [Act.put, List.setIfInBounds_toArray, List.set_cons_zero, List.set_cons_succ]
      refine wpAnyH_done (by kernel_rfl) ?_ _
      go_wp2_with fail
      go_meet
      exact ⟨rfl, _, _, _, _, rfl, HLB8.out, HL8.out⟩
    · go_simp
      refine hK.out _ _ ?_ (fun hH1 => ?_)
      · (try dsimp only); (first | done | trivial)
      clear hK K
      clear hH0
      try simp only [Act.put, List.setIfInBounds_toArray, List.set_cons_zero, List.set_cons_succ]
      refine wpAnyH_ready (rs := [2]) (by kernel_rfl) (by simp) ?_
      refine (AllReadyH.cons (o := { dst := some 43, op := Op.call { callee := Callee.value (Operand.func 20), args := #[Operand.tmp 42, Operand.const (Value.int IntKind.i64 0), Operand.const (Value.int IntKind.i64 0), Operand.const (Value.int IntKind.i64 0), Operand.const (Value.slice none 0 0), Operand.const (Value.slice none 0 0)], argTypes := #[48, 3, 3, 3, 31, 56] }, type := 3, pos := "outright.go:40", after := #[{ on := 1, ground := Ground.data }], guard := none }) rfl (fun K hK => ?_) AllReadyH.nil)
      go_simp; go_at_call 20; (with_reducible refine (law_MethodFK HLB6.out HL3.out).mono ?_); rintro e u7 ⟨rfl, a7, c7, L7, hB, hL7, hK7⟩; have HLB7 := Lib.hid hB; have HL7 := Lib.hid hL7; have hrow7 := (hK7.block _ HX1.out HX2.out HX3.out).trans HROW.out; have k0 := cell_row _ _ 0 _ _ _ hrow7; have k1 := cell_row _ _ 1 _ _ _ hrow7; rw [show (#[.bool (whoV kd).1, .int .i64 (whoV kd).2] : Array Value)[0]? = some (.bool (whoV kd).1) from rfl] at k0; rw [show (#[.bool (whoV kd).1, .int .i64 (whoV kd).2] : Array Value)[1]? = some (.int .i64 (whoV kd).2) from rfl] at k1; clear hB hL7 hK7 hrow7; dsimp only
      refine hK.out _ _ ?_ (fun hH2 => ?_)
      · (try dsimp only); (first | done | trivial)
      clear hK K
      clear hH1
      try simp only [Act.put, List.setIfInBounds_toArray, List.set_cons_zero, List.set_cons_succ]
      refine wpAnyH_ready (rs := [4]) (by kernel_rfl) (by simp) ?_
      refine (AllReadyH.cons (o := { dst := some 45, op := Op.call { callee := Callee.value (Operand.func 21), args := #[Operand.tmp 41, Operand.tmp 43, Operand.const (Value.int IntKind.i64 0), Operand.tmp 44, Operand.const (Value.int IntKind.i64 5)], argTypes := #[48, 3, 3, 54, 3] }, type := 58, pos := "outright.go:40", after := #[{ on := 0, ground := Ground.data }, { on := 2, ground := Ground.data }, { on := 3, ground := Ground.data }, { on := 2, ground := Ground.chain }], guard := none }) rfl (fun K hK => ?_) AllReadyH.nil)
      go_simp; go_at_call 21; (with_reducible refine (law_StartF HLB7.out HL7.out kd).mono ?_); rintro e u8 ⟨rfl, a8, c8, L8, hB, hL8⟩; have HLB8 := Lib.hid hB; have HL8 := Lib.hid hL8; clear hB hL8; dsimp only
      refine hK.out _ _ ?_ (fun hH3 => ?_)
      · (try dsimp only); (first | done | trivial)
      clear hK K
      clear hH2
      try simp only [Act.put, List.setIfInBounds_toArray, List.set_cons_zero, List.set_cons_succ]
      refine wpAnyH_take (i := 5) (oi := { dst := some 40, op := Op.move (Operand.tmp 45), type := 58, pos := "outright.go:40", after := #[{ on := 4, ground := Ground.data }], guard := none }) (v := ?v7) rfl (by kernel_rfl) (by kernel_rfl) (by kernel_rfl) (fun _ _ _ h => h) (Or.inl ⟨by rfl, ?hy7⟩) (by assumption) ?_
      case hy7 => intro w hSw; (try dsimp only at hSw); go_simp; (try with_reducible rfl)
      try simp only [Act.put, List.setIfInBounds_toArray, List.set_cons_zero, List.set_cons_succ]
      refine wpAnyH_take (i := 6) (oi := { dst := some 46, op := Op.extract (Operand.tmp 40) 0, type := 3, pos := "outright.go:40", after := #[{ on := 5, ground := Ground.data }], guard := none }) (v := ?v8) rfl (by kernel_rfl) (by kernel_rfl) (by kernel_rfl) (fun _ _ _ h => h) (Or.inl ⟨by rfl, ?hy8⟩) (by assumption) ?_
      case hy8 => intro w hSw; (try dsimp only at hSw); go_simp; (try with_reducible rfl)
      try simp only [Act.put, List.setIfInBounds_toArray, List.set_cons_zero, List.set_cons_succ]
      refine wpAnyH_take (i := 7) (oi := { dst := some 47, op := Op.extract (Operand.tmp 40) 1, type := 3, pos := "outright.go:40", after := #[{ on := 5, ground := Ground.data }], guard := none }) (v := ?v9) rfl (by kernel_rfl) (by kernel_rfl) (by kernel_rfl) (fun _ _ _ h => h) (Or.inl ⟨by rfl, ?hy9⟩) (by assumption) ?_
      case hy9 => intro w hSw; (try dsimp only at hSw); go_simp; (try with_reducible rfl)
      try simp only [Act.put, List.setIfInBounds_toArray, List.set_cons_zero, List.set_cons_succ]
      refine wpAnyH_take (i := 8) (oi := { dst := some 11, op := Op.assign (Operand.tmp 47), type := 3, pos := "outright.go:40", after := #[{ on := 7, ground := Ground.data }, { on := 4, ground := Ground.chain }, { on := 0, ground := Ground.phase }, { on := 1, ground := Ground.phase }, { on := 2, ground := Ground.phase }, { on := 3, ground := Ground.phase }, { on := 4, ground := Ground.phase }, { on := 5, ground := Ground.phase }, { on := 6, ground := Ground.phase }, { on := 7, ground := Ground.phase }], guard := none }) (v := ?v10) rfl (by kernel_rfl) (by kernel_rfl) (by kernel_rfl) (fun _ _ _ h => h) (Or.inl ⟨by rfl, ?hy10⟩) (by assumption) ?_
      case hy10 => intro w hSw; (try dsimp only at hSw); go_simp; (try with_reducible rfl)
      try simp only [Act.put, List.setIfInBounds_toArray, List.set_cons_zero, List.set_cons_succ]
      refine wpAnyH_done (by kernel_rfl) ?_ _
      go_wp2_with fail
      go_meet
      exact ⟨rfl, _, _, _, _, rfl, HLB8.out, HL8.out⟩
  case rest =>
    obtain ⟨rfl, u8, a8, c8, L8, rfl, hB, hL⟩ := hcut
    have HLB8 := Lib.hid hB; have HL8 := Lib.hid hL
    clear hB hL HLB HL HFS HROW HLB6 HL3 HX1 HX2 HX3 HLB3 hix hmk k0 k1
    go_upto_region 10 with (first
      | (refine wpList_load_row rfl 30 (Operand.tmp 51) (by rfl) u1.heap.size (by rfl) _ _ (0, 0) _ HLB8.out.row Tryz.underlying30 rfl info13 ?_)
      | (go_at_call 11; (with_reducible refine (law_NewF HLB8.out HL8.out hk hd).mono ?_); rintro e u9 ⟨m, li, lv, dv, M, rfl, hb9, hN⟩; have HQ := Lib.hid (Sq.start hN HL8.out hk hd (HLB8.out.bel.trans (hb9.mono HLB8.out.bel.size)) HLB8.out.bel.size); clear hN hb9; dsimp only))
    clear HLB8 HL8
    have hvn := val_N
    obtain ⟨iz, hiz⟩ : ∃ iz : Int, iz = (i : Int) := ⟨_, rfl⟩
    obtain ⟨kz, hkz⟩ : ∃ kz : Int, kz = (kd : Int) := ⟨_, rfl⟩
    rw [← hiz] at HPI
    rw [← hkz] at HPD
    have hcs : (kd = 0 ∧ i < k) ∨ (kd = 0 ∧ ¬ i < k) ∨ kd = 1 ∨ (kd = 2 ∧ i = 0) ∨ (kd = 2 ∧ ¬ i = 0) := by omega
    rcases hcs with ⟨rfl, hik⟩ | ⟨rfl, hik⟩ | rfl | ⟨rfl, rfl⟩ | ⟨rfl, hik⟩
    · obtain rfl : kz = 0 := by omega
      clear hkz hd
      have hA : ∀ v ∈ (List.replicate k ((false, 0) : V)).set i (false, x - 128), v.1 = false ∧ -1000 ≤ v.2 ∧ v.2 ≤ 1000 := fun v hv => by
        rcases List.mem_or_eq_of_mem_set hv with hv | rfl
        · obtain rfl := (List.mem_replicate.1 hv).2
          exact ⟨rfl, by decide, by decide⟩
        · exact ⟨rfl, by dsimp only; omega, by dsimp only; omega⟩
      have HSET : Hid (∀ u M, Sq w u m li lv dv M k 0 (List.replicate k (false, 0)) true 1 (false, x - 128) → Calls Tryz.prog 23 #[.pointer (some ⟨m, 0, none⟩), .int .i64 26, .agg #[.int .i64 6, .int .i64 iz, .int .i64 0]] u fun e w' => e = .returned (.bool true) ∧ ∃ M', Sq w w' m li lv dv M' k 0 ((List.replicate k (false, 0)).set i (false, x - 128)) false 0 (true, 0)) := Lib.hid fun u M hq => by
        have := sq_set hq (by omega) i (by omega) 0
        rw [← hiz, if_pos (show (0 : Nat) = 0 ∧ i < k from ⟨rfl, hik⟩), decide_eq_true (show (0 : Nat) = 0 ∧ i < k from ⟨rfl, hik⟩)] at this
        exact this
      have HFLD : Hid (∀ u M, Sq w u m li lv dv M k 0 ((List.replicate k (false, 0)).set i (false, x - 128)) false 0 (true, 0) → Calls Tryz.prog 23 #[.pointer (some ⟨m, 0, none⟩), .int .i64 26, .agg #[.int .i64 4, .int .i64 iz, .int .i64 0]] u fun e w' => e = .returned (.bool true) ∧ ∃ M', Sq w w' m li lv dv M' k 0 ((List.replicate k (false, 0)).set i (false, x - 128)) false 1 (fldV 0 ((List.replicate k (false, 0)).set i (false, x - 128)) i)) := Lib.hid fun u M hq => by
        have := sq_fld hq (by omega) i hA 0
        rw [← hiz, if_pos (show isFld 0 k i from .inl ⟨rfl, hik⟩), decide_eq_true (show isFld 0 k i from .inl ⟨rfl, hik⟩)] at this
        exact this
      have hii : elV ((List.replicate k ((false, 0) : V)).set i (false, x - 128)) (i : Int) = (false, x - 128) := elV_set_eq _ (by simpa using hik)
      have hij : ∀ j : Nat, j < k → j ≠ i → elV ((List.replicate k ((false, 0) : V)).set i (false, x - 128)) (j : Int) = (false, 0) := fun j hj hne => by
        rw [elV_set_ne _ hne]
        unfold elV
        rw [if_pos (by omega), Int.toNat_natCast, List.getElem?_replicate, if_pos hj]; rfl
      have hfv : fldV 0 ((List.replicate k ((false, 0) : V)).set i (false, x - 128)) i = (false, x - 128) := by unfold fldV; rw [if_pos rfl]; exact hii
      rw [hfv] at HFLD
      have HII := Lib.hid hii; have HIJ := Lib.hid hij
      generalize (List.replicate k ((false, 0) : V)).set i (false, x - 128) = A1 at *
      have tik : iz < (k : Int) := by omega
      have HIZ := Lib.hid hiz
      clear hA hii hij hfv hiz
      go_wp2_with (first
        | (go_at_call 14; (with_reducible refine (HPI.out _).mono ?_); rintro e v1 ⟨rfl, rfl⟩; dsimp only)
        | (go_at_call 14; (with_reducible refine (HPX.out _).mono ?_); rintro e v1 ⟨rfl, rfl⟩; dsimp only)
        | (go_at_call 14; (with_reducible refine (HPD.out _).mono ?_); rintro e v1 ⟨rfl, rfl⟩; dsimp only)
        | (go_at_call 23; (with_reducible refine (sq_int HQ.out x 0 ⟨hx0, by omega⟩).mono ?_); rintro e v2 ⟨rfl, M2, hq⟩; have HQ2 := Lib.hid hq; clear hq; dsimp only)
        | (go_at_call 23; (with_reducible refine (HSET.out _ _ HQ2.out).mono ?_); rintro e v3 ⟨rfl, M3, hq⟩; have HQ3 := Lib.hid hq; clear hq; dsimp only)
        | (go_at_call 23; (with_reducible refine (HFLD.out _ _ HQ3.out).mono ?_); rintro e v4 ⟨rfl, M4, hq⟩; have HQ4 := Lib.hid hq; clear hq; dsimp only)
        | (go_at_call 24; (with_reducible refine (sq_Get22 HQ4.out).mono ?_); rintro e v5 ⟨rfl, hb5⟩; have HQ5 := Lib.hid (HQ4.out.below hb5); clear hb5; dsimp only)
        | (go_at_call 10; (with_reducible refine (sm_awake _).mono ?_); rintro e v6 ⟨rfl, hb6⟩; have HQ6 := Lib.hid (HQ5.out.below hb6); clear hb6; dsimp only))
      go_loopw [21] (fun v21 wr => ∃ j : Nat, j ≤ k ∧ v21 = .int .i64 (j : Int) ∧ Sq w wr m li lv dv M4 k 0 A1 false 1 (false, x - 128)) (fun v21 wr => k - (intOf v21).toNat)
      case atStart => exact ⟨0, by omega, rfl, HQ4.out⟩
      case round =>
        clear HQ4
        obtain ⟨j, hj, rfl, hq⟩ := hrel
        have HQ4 := Lib.hid hq
        clear hq
        by_cases hlt : j < k
        · have t1 : (j : Int) < (k : Int) := by omega
          have hiz := HIZ.out
          by_cases hji : j = i
          · have t2 : iz = (j : Int) := by omega
            subst hji
            have HG : Hid (Calls Tryz.prog 24 #[.pointer (some ⟨m, 0, none⟩), .int .i64 23, .int .i64 (j : Int)] wr fun e w' => e = .returned (.agg #[.bool false, .int .i64 (x - 128)]) ∧ Below wr.heap.size wr w') := Lib.hid (by
              have := sq_Get23 HQ4.out (j : Int)
              rw [HII.out] at this
              exact this)
            clear hiz tik HIZ
            subst t2
            go_wp2_with (first
              | (go_at_call 24; (with_reducible refine HG.out.mono ?_); rintro e v7 ⟨rfl, hb7⟩; have HQ7 := Lib.hid ((HQ4.out.below hb7).below ((Below.refl _ _).alloc (Nat.le_refl _) (.cells #[.bool false, .int .i64 (x - 128)] 54))); clear hb7; dsimp only)
              | (refine wpList_store_row rfl 54 (Operand.tmp 22) (Operand.tmp 120) rfl v7.heap.size _ rfl rfl _ _ (heap_alloc_new v7 _) info2 (by rfl) (by simp [Value.oneCell']) ?_; rw [World.setRow_alloc_new]))
            exact ⟨⟨j + 1, by omega, by simp, HQ7.out⟩, by simp only [intOf]; omega⟩
          · have t2 : ¬ (j : Int) = iz := by omega
            have HG : Hid (Calls Tryz.prog 24 #[.pointer (some ⟨m, 0, none⟩), .int .i64 23, .int .i64 (j : Int)] wr fun e w' => e = .returned (.agg #[.bool false, .int .i64 0]) ∧ Below wr.heap.size wr w') := Lib.hid (by
              have := sq_Get23 HQ4.out (j : Int)
              rw [HIJ.out j hlt hji] at this
              exact this)
            clear hiz tik HIZ
            go_wp2_with (first
              | (go_at_call 24; (with_reducible refine HG.out.mono ?_); rintro e v7 ⟨rfl, hb7⟩; have HQ7 := Lib.hid ((HQ4.out.below hb7).below ((Below.refl _ _).alloc (Nat.le_refl _) (.cells #[.bool false, .int .i64 0] 54))); clear hb7; dsimp only)
              | (refine wpList_store_row rfl 54 (Operand.tmp 22) (Operand.tmp 120) rfl v7.heap.size _ rfl rfl _ _ (heap_alloc_new v7 _) info2 (by rfl) (by simp [Value.oneCell']) ?_; rw [World.setRow_alloc_new]))
            exact ⟨⟨j + 1, by omega, by simp, HQ7.out⟩, by simp only [intOf]; omega⟩
        · obtain rfl : j = k := by omega
          go_wp2_with (first
            | (go_at_call 24; (with_reducible refine (sq_Get6 HQ4.out).mono ?_); rintro e v5 ⟨rfl, hb5⟩; have HQ5 := Lib.hid (HQ4.out.below hb5); clear hb5; dsimp only)
            | (go_at_call 10; (with_reducible refine (sm_awake _).mono ?_); rintro e v6 ⟨rfl, hb6⟩; have HQ6 := Lib.hid (HQ5.out.below hb6); clear hb6; dsimp only))
          go_ret
          exact ⟨rfl, HQ6.out.st.bel⟩
    · obtain rfl : kz = 0 := by omega
      clear hkz hd
      have t3 : ¬ iz < (k : Int) := by omega
      have hA : ∀ v ∈ List.replicate k ((false, 0) : V), v.1 = false ∧ -1000 ≤ v.2 ∧ v.2 ≤ 1000 := fun v hv => by
        obtain rfl := (List.mem_replicate.1 hv).2
        exact ⟨rfl, by decide, by decide⟩
      have HSET : Hid (∀ u M, Sq w u m li lv dv M k 0 (List.replicate k (false, 0)) true 1 (false, x - 128) → Calls Tryz.prog 23 #[.pointer (some ⟨m, 0, none⟩), .int .i64 26, .agg #[.int .i64 6, .int .i64 iz, .int .i64 0]] u fun e w' => e = .returned (.bool false) ∧ ∃ M', Sq w w' m li lv dv M' k 0 (List.replicate k (false, 0)) false 0 (true, 0)) := Lib.hid fun u M hq => by
        have := sq_set hq (by omega) i (by omega) 0
        rw [← hiz, if_neg (show ¬ ((0 : Nat) = 0 ∧ i < k) from fun e => hik e.2), decide_eq_false (show ¬ ((0 : Nat) = 0 ∧ i < k) from fun e => hik e.2)] at this
        exact this
      have HFLD : Hid (∀ u M, Sq w u m li lv dv M k 0 (List.replicate k (false, 0)) false 0 (true, 0) → Calls Tryz.prog 23 #[.pointer (some ⟨m, 0, none⟩), .int .i64 26, .agg #[.int .i64 4, .int .i64 iz, .int .i64 0]] u fun e w' => e = .returned (.bool false) ∧ ∃ M', Sq w w' m li lv dv M' k 0 (List.replicate k (false, 0)) false 0 (fldV 0 (List.replicate k (false, 0)) i)) := Lib.hid fun u M hq => by
        have := sq_fld hq (by omega) i hA 0
        rw [← hiz, if_neg (show ¬ isFld 0 k i by rintro (e | e); exact hik e.2; exact absurd e.1 (by decide)), decide_eq_false (show ¬ isFld 0 k i by rintro (e | e); exact hik e.2; exact absurd e.1 (by decide))] at this
        exact this
      clear hA hiz
      go_wp2_with (first
        | (go_at_call 14; (with_reducible refine (HPI.out _).mono ?_); rintro e v1 ⟨rfl, rfl⟩; dsimp only)
        | (go_at_call 14; (with_reducible refine (HPX.out _).mono ?_); rintro e v1 ⟨rfl, rfl⟩; dsimp only)
        | (go_at_call 14; (with_reducible refine (HPD.out _).mono ?_); rintro e v1 ⟨rfl, rfl⟩; dsimp only)
        | (go_at_call 23; (with_reducible refine (sq_int HQ.out x 0 ⟨hx0, by omega⟩).mono ?_); rintro e v2 ⟨rfl, M2, hq⟩; have HQ2 := Lib.hid hq; clear hq; dsimp only)
        | (go_at_call 23; (with_reducible refine (HSET.out _ _ HQ2.out).mono ?_); rintro e v3 ⟨rfl, M3, hq⟩; have HQ3 := Lib.hid hq; clear hq; dsimp only)
        | (go_at_call 23; (with_reducible refine (HFLD.out _ _ HQ3.out).mono ?_); rintro e v4 ⟨rfl, M4, hq⟩; have HQ4 := Lib.hid hq; clear hq; dsimp only)
        | (go_at_call 24; (with_reducible refine (sq_Get22 HQ4.out).mono ?_); rintro e v5 ⟨rfl, hb5⟩; have HQ5 := Lib.hid (HQ4.out.below hb5); clear hb5; dsimp only)
        | (go_at_call 10; (with_reducible refine (sm_awake _).mono ?_); rintro e v6 ⟨rfl, hb6⟩; have HQ6 := Lib.hid (HQ5.out.below hb6); clear hb6; dsimp only))
      go_ret
      exact ⟨rfl, HQ6.out.st.bel⟩
    · obtain rfl : kz = 1 := by omega
      clear hkz hd
      have hA : ∀ v ∈ List.replicate k ((false, 0) : V), v.1 = false ∧ -1000 ≤ v.2 ∧ v.2 ≤ 1000 := fun v hv => by
        obtain rfl := (List.mem_replicate.1 hv).2
        exact ⟨rfl, by decide, by decide⟩
      have HSET : Hid (∀ u M, Sq w u m li lv dv M k 1 (List.replicate k (false, 0)) true 1 (false, x - 128) → Calls Tryz.prog 23 #[.pointer (some ⟨m, 0, none⟩), .int .i64 26, .agg #[.int .i64 6, .int .i64 iz, .int .i64 0]] u fun e w' => e = .returned (.bool false) ∧ ∃ M', Sq w w' m li lv dv M' k 1 (List.replicate k (false, 0)) false 0 (true, 0)) := Lib.hid fun u M hq => by
        have := sq_set hq (by omega) i (by omega) 0
        rw [← hiz, if_neg (show ¬ ((1 : Nat) = 0 ∧ i < k) from fun e => absurd e.1 (by decide)), decide_eq_false (show ¬ ((1 : Nat) = 0 ∧ i < k) from fun e => absurd e.1 (by decide))] at this
        exact this
      have HFLD : Hid (∀ u M, Sq w u m li lv dv M k 1 (List.replicate k (false, 0)) false 0 (true, 0) → Calls Tryz.prog 23 #[.pointer (some ⟨m, 0, none⟩), .int .i64 26, .agg #[.int .i64 4, .int .i64 iz, .int .i64 0]] u fun e w' => e = .returned (.bool false) ∧ ∃ M', Sq w w' m li lv dv M' k 1 (List.replicate k (false, 0)) false 0 (fldV 1 (List.replicate k (false, 0)) i)) := Lib.hid fun u M hq => by
        have := sq_fld hq (by omega) i hA 0
        rw [← hiz, if_neg (show ¬ isFld 1 k i by rintro (e | e) <;> exact absurd e.1 (by decide)), decide_eq_false (show ¬ isFld 1 k i by rintro (e | e) <;> exact absurd e.1 (by decide))] at this
        exact this
      clear hA hiz
      go_wp2_with (first
        | (go_at_call 14; (with_reducible refine (HPI.out _).mono ?_); rintro e v1 ⟨rfl, rfl⟩; dsimp only)
        | (go_at_call 14; (with_reducible refine (HPX.out _).mono ?_); rintro e v1 ⟨rfl, rfl⟩; dsimp only)
        | (go_at_call 14; (with_reducible refine (HPD.out _).mono ?_); rintro e v1 ⟨rfl, rfl⟩; dsimp only)
        | (go_at_call 23; (with_reducible refine (sq_int HQ.out x 0 ⟨hx0, by omega⟩).mono ?_); rintro e v2 ⟨rfl, M2, hq⟩; have HQ2 := Lib.hid hq; clear hq; dsimp only)
        | (go_at_call 23; (with_reducible refine (HSET.out _ _ HQ2.out).mono ?_); rintro e v3 ⟨rfl, M3, hq⟩; have HQ3 := Lib.hid hq; clear hq; dsimp only)
        | (go_at_call 23; (with_reducible refine (HFLD.out _ _ HQ3.out).mono ?_); rintro e v4 ⟨rfl, M4, hq⟩; have HQ4 := Lib.hid hq; clear hq; dsimp only)
        | (go_at_call 24; (with_reducible refine (sq_Get22 HQ4.out).mono ?_); rintro e v5 ⟨rfl, hb5⟩; have HQ5 := Lib.hid (HQ4.out.below hb5); clear hb5; dsimp only)
        | (go_at_call 10; (with_reducible refine (sm_awake _).mono ?_); rintro e v6 ⟨rfl, hb6⟩; have HQ6 := Lib.hid (HQ5.out.below hb6); clear hb6; dsimp only))
      go_ret
      exact ⟨rfl, HQ6.out.st.bel⟩
    · obtain rfl : kz = 2 := by omega
      clear hkz hd
      have hA : ∀ v ∈ List.replicate k ((false, 0) : V), v.1 = false ∧ -1000 ≤ v.2 ∧ v.2 ≤ 1000 := fun v hv => by
        obtain rfl := (List.mem_replicate.1 hv).2
        exact ⟨rfl, by decide, by decide⟩
      have HSET : Hid (∀ u M, Sq w u m li lv dv M k 2 (List.replicate k (false, 0)) true 1 (false, x - 128) → Calls Tryz.prog 23 #[.pointer (some ⟨m, 0, none⟩), .int .i64 26, .agg #[.int .i64 6, .int .i64 iz, .int .i64 0]] u fun e w' => e = .returned (.bool false) ∧ ∃ M', Sq w w' m li lv dv M' k 2 (List.replicate k (false, 0)) false 0 (true, 0)) := Lib.hid fun u M hq => by
        have := sq_set hq (by omega) 0 (by omega) 0
        rw [← hiz, if_neg (show ¬ ((2 : Nat) = 0 ∧ 0 < k) from fun e => absurd e.1 (by decide)), decide_eq_false (show ¬ ((2 : Nat) = 0 ∧ 0 < k) from fun e => absurd e.1 (by decide))] at this
        exact this
      have HFLD : Hid (∀ u M, Sq w u m li lv dv M k 2 (List.replicate k (false, 0)) false 0 (true, 0) → Calls Tryz.prog 23 #[.pointer (some ⟨m, 0, none⟩), .int .i64 26, .agg #[.int .i64 4, .int .i64 iz, .int .i64 0]] u fun e w' => e = .returned (.bool true) ∧ ∃ M', Sq w w' m li lv dv M' k 2 (List.replicate k (false, 0)) false 1 (fldV 2 (List.replicate k (false, 0)) 0)) := Lib.hid fun u M hq => by
        have := sq_fld hq (by omega) 0 hA 0
        rw [← hiz, if_pos (show isFld 2 k 0 from .inr ⟨rfl, rfl⟩), decide_eq_true (show isFld 2 k 0 from .inr ⟨rfl, rfl⟩)] at this
        exact this
      obtain rfl : iz = 0 := by omega
      clear hA hiz
      go_wp2_with (first
        | (go_at_call 14; (with_reducible refine (HPI.out _).mono ?_); rintro e v1 ⟨rfl, rfl⟩; dsimp only)
        | (go_at_call 14; (with_reducible refine (HPX.out _).mono ?_); rintro e v1 ⟨rfl, rfl⟩; dsimp only)
        | (go_at_call 14; (with_reducible refine (HPD.out _).mono ?_); rintro e v1 ⟨rfl, rfl⟩; dsimp only)
        | (go_at_call 23; (with_reducible refine (sq_int HQ.out x 0 ⟨hx0, by omega⟩).mono ?_); rintro e v2 ⟨rfl, M2, hq⟩; have HQ2 := Lib.hid hq; clear hq; dsimp only)
        | (go_at_call 23; (with_reducible refine (HSET.out _ _ HQ2.out).mono ?_); rintro e v3 ⟨rfl, M3, hq⟩; have HQ3 := Lib.hid hq; clear hq; dsimp only)
        | (go_at_call 23; (with_reducible refine (HFLD.out _ _ HQ3.out).mono ?_); rintro e v4 ⟨rfl, M4, hq⟩; have HQ4 := Lib.hid hq; clear hq; dsimp only)
        | (go_at_call 24; (with_reducible refine (sq_Get22 HQ4.out).mono ?_); rintro e v5 ⟨rfl, hb5⟩; have HQ5 := Lib.hid (HQ4.out.below hb5); clear hb5; dsimp only)
        | (go_at_call 10; (with_reducible refine (sm_awake _).mono ?_); rintro e v6 ⟨rfl, hb6⟩; have HQ6 := Lib.hid (HQ5.out.below hb6); clear hb6; dsimp only))
      go_ret
      exact ⟨rfl, HQ6.out.st.bel⟩
    · obtain rfl : kz = 2 := by omega
      clear hkz hd
      have t3 : ¬ iz = 0 := by omega
      have hA : ∀ v ∈ List.replicate k ((false, 0) : V), v.1 = false ∧ -1000 ≤ v.2 ∧ v.2 ≤ 1000 := fun v hv => by
        obtain rfl := (List.mem_replicate.1 hv).2
        exact ⟨rfl, by decide, by decide⟩
      have HSET : Hid (∀ u M, Sq w u m li lv dv M k 2 (List.replicate k (false, 0)) true 1 (false, x - 128) → Calls Tryz.prog 23 #[.pointer (some ⟨m, 0, none⟩), .int .i64 26, .agg #[.int .i64 6, .int .i64 iz, .int .i64 0]] u fun e w' => e = .returned (.bool false) ∧ ∃ M', Sq w w' m li lv dv M' k 2 (List.replicate k (false, 0)) false 0 (true, 0)) := Lib.hid fun u M hq => by
        have := sq_set hq (by omega) i (by omega) 0
        rw [← hiz, if_neg (show ¬ ((2 : Nat) = 0 ∧ i < k) from fun e => absurd e.1 (by decide)), decide_eq_false (show ¬ ((2 : Nat) = 0 ∧ i < k) from fun e => absurd e.1 (by decide))] at this
        exact this
      have HFLD : Hid (∀ u M, Sq w u m li lv dv M k 2 (List.replicate k (false, 0)) false 0 (true, 0) → Calls Tryz.prog 23 #[.pointer (some ⟨m, 0, none⟩), .int .i64 26, .agg #[.int .i64 4, .int .i64 iz, .int .i64 0]] u fun e w' => e = .returned (.bool false) ∧ ∃ M', Sq w w' m li lv dv M' k 2 (List.replicate k (false, 0)) false 0 (fldV 2 (List.replicate k (false, 0)) i)) := Lib.hid fun u M hq => by
        have := sq_fld hq (by omega) i hA 0
        rw [← hiz, if_neg (show ¬ isFld 2 k i by rintro (e | e); exact absurd e.1 (by decide); exact hik e.2), decide_eq_false (show ¬ isFld 2 k i by rintro (e | e); exact absurd e.1 (by decide); exact hik e.2)] at this
        exact this
      clear hA hiz
      go_wp2_with (first
        | (go_at_call 14; (with_reducible refine (HPI.out _).mono ?_); rintro e v1 ⟨rfl, rfl⟩; dsimp only)
        | (go_at_call 14; (with_reducible refine (HPX.out _).mono ?_); rintro e v1 ⟨rfl, rfl⟩; dsimp only)
        | (go_at_call 14; (with_reducible refine (HPD.out _).mono ?_); rintro e v1 ⟨rfl, rfl⟩; dsimp only)
        | (go_at_call 23; (with_reducible refine (sq_int HQ.out x 0 ⟨hx0, by omega⟩).mono ?_); rintro e v2 ⟨rfl, M2, hq⟩; have HQ2 := Lib.hid hq; clear hq; dsimp only)
        | (go_at_call 23; (with_reducible refine (HSET.out _ _ HQ2.out).mono ?_); rintro e v3 ⟨rfl, M3, hq⟩; have HQ3 := Lib.hid hq; clear hq; dsimp only)
        | (go_at_call 23; (with_reducible refine (HFLD.out _ _ HQ3.out).mono ?_); rintro e v4 ⟨rfl, M4, hq⟩; have HQ4 := Lib.hid hq; clear hq; dsimp only)
        | (go_at_call 24; (with_reducible refine (sq_Get22 HQ4.out).mono ?_); rintro e v5 ⟨rfl, hb5⟩; have HQ5 := Lib.hid (HQ4.out.below hb5); clear hb5; dsimp only)
        | (go_at_call 10; (with_reducible refine (sm_awake _).mono ?_); rintro e v6 ⟨rfl, hb6⟩; have HQ6 := Lib.hid (HQ5.out.below hb6); clear hb6; dsimp only))
      go_ret
      exact ⟨rfl, HQ6.out.st.bel⟩

set_option maxRecDepth 100000 in
theorem lifted (os : Os) (started : os.Started) (H : Type) (enc : TypeId × Value → H) :
    ReturnsInHanded {} Tryz.checked os 6 .any (Rows.simpleFieldsSpec.pre6 enc Tryz.prog Tryz.f6 Rows.simpleFieldsRow.domain false) (Rows.simpleFieldsSpec.post enc Tryz.prog Tryz.f6 false true false false) := by
  refine returnsInHanded_of_change (C := Tryz.checked) own started (by kernel_rfl) Tryz.func6
    (ChangeSpec.witness6 (enc := enc) (C := Tryz.checked) false ⟨#[], #[.int .i64 0, .int .i64 0, .int .i64 0, .int .i64 0], []⟩ 8 (by kernel_rfl) (by kernel_rfl) (by kernel_rfl) (by kernel_rfl)) ?_
  intro W base args ds gs before hval0 hW hcnd _
  have hval : ∀ (j : Nat) t v, Tryz.f6.params[j]? = some t → args[j]? = some v → Value.okWide Tryz.prog W .any base t v := hval0
  have hW' := hW
  obtain ⟨p, q, hA0, hV, rfl, hfz, hnd⟩ := hW
  have hA : DataW.TrodAll enc Tryz.prog W 0 (fun _ => true) true Tryz.f6.params.toList args.toList ds p := hA0
  rw [Tryz.params6] at hA hval
  obtain ⟨v0, vs0, d0, ds0, p0, q0, hargs, rfl, rfl, h0, r0⟩ := trodAll_cons hA
  obtain ⟨v1, vs1, d1, ds1, p1, q1, rfl, rfl, rfl, h1, r1⟩ := trodAll_cons r0
  obtain ⟨v2, vs2, d2, ds2, p2, q2, rfl, rfl, rfl, h2, r2⟩ := trodAll_cons r1
  obtain ⟨v3, vs3, d3, ds3, p3, q3, rfl, rfl, rfl, h3, r3⟩ := trodAll_cons r2
  obtain ⟨rfl, rfl, rfl⟩ := trodAll_nil r3
  obtain rfl : args = #[v0, v1, v2, v3] := by cases args; simp_all
  obtain ⟨rfl, rfl⟩ := trodVars_none hV
  obtain ⟨a0, rfl, rfl, rfl, w0⟩ := open_int Tryz.underlying3 (hval 0 3 v0 rfl rfl) h0
  obtain ⟨a1, rfl, rfl, rfl, w1⟩ := open_int Tryz.underlying3 (hval 1 3 v1 rfl rfl) h1
  obtain ⟨a2, rfl, rfl, rfl, w2⟩ := open_int Tryz.underlying3 (hval 2 3 v2 rfl rfl) h2
  obtain ⟨a3, rfl, rfl, rfl, w3⟩ := open_int Tryz.underlying3 (hval 3 3 v3 rfl rfl) h3
  clear hA0 hval0
  refine (walk a0 a1 a2 a3 W w0 w1 w2 w3).mono fun e W' ⟨he, bel⟩ => ?_
  subst he
  exact ⟨_, rfl, _, _, _, [], _, [], hW', trodAll_mk1 (shut_bool Tryz.underlying4 _), (trodAll_cons_mk (shut_int Tryz.underlying3 w0) (trodAll_cons_mk (shut_int Tryz.underlying3 w1) (trodAll_cons_mk (shut_int Tryz.underlying3 w2) (trodAll_cons_mk (shut_int Tryz.underlying3 w3) trodAll_mk0)))), rfl, bel.frame _, fun h => by cases h⟩

theorem over : Rows.simpleFieldsRow.holds Tryz.pinned (OpenSpec.ofChange Rows.simpleFieldsSpec) :=
  OpenClaim.holds_of_wide 6 Tryz.f6 rfl rfl rfl rfl rfl rfl rfl ⟨rfl, rfl, rfl, rfl, rfl⟩ rfl rfl rfl rfl rfl (by kernel_rfl) Tryz.func6 (by kernel_rfl)
    (of_decide_eq_true (by kernel_rfl)) (by unfold Func.isWrapper; first | (rw [if_pos (by decide +kernel)]; kernel_rfl) | (rw [if_neg (by decide +kernel)]; exact ⟨rfl, rfl⟩))
    (fun os started H enc _ => lifted os started H enc)

/-- THE STATEMENT -/
theorem proved : Rows.SimpleFieldsSaid := over
#print axioms proved
end Go.Proofs.YtoklohfpkaiidaaGreat.simpleFields
