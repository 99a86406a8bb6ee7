/- The law HeapPlays returns true at every input, and leaves its arguments as they were. No condition. -/
import Derived.Test.YtljgnmbjidkjnaaRows
import Derived.WalkKit
import Derived.ProofKit
import Derived.OpenShut
import Derived.Test.YtljgnmbjidkjnaaPlay6
import Derived.Test.YtljgnmbjidkjnaaRec
import Derived.Deep.DeepCutAuto
import Derived.Deep.RegionHeld3
import Derived.ShutString
import Derived.ChangeOld
import Derived.Below
namespace Go.Proofs.Ytljgnmbjidkjnaa.heapPlays
open Go.ChangeShapes Go.WideShapes Go.ChangeAt Go.RowKit
open Go.ChangeMaps (open_string shut_string)
open Go.Proofs.Ytljgnmbjidkjnaa.Rec
open Go.Proofs.Ytljgnmbjidkjnaa.Gen
open Go.Proofs.Ytljgnmbjidkjnaa.Base
open Go.Proofs.Ytljgnmbjidkjnaa.Fr
open Go.Proofs.Ytljgnmbjidkjnaa.Hp
open Go.Proofs.Ytljgnmbjidkjnaa.Rf4
open Go.Proofs.Ytljgnmbjidkjnaa.Rf5
set_option linter.unusedVariables false

theorem own : ownKnob Try.prog.godebug = none := by kernel_rfl
theorem laidOut : laidOutB Try.prog = true := by kernel_rfl
theorem ro_cells6 {u : World} {ot : Nat} {oK oA oB oC oD oW : Int} {t : TypeId} (h : u.heap[ot]? = some (.cells #[.int .i64 oK, .int .i64 oA, .int .i64 oB, .int .i64 oC, .int .i64 oD, .int .u32 oW] t (0, 0))) :
    u.cell? ⟨ot, 0, none⟩ = some (.int .i64 oK) ∧ u.cell? ⟨ot, 1, none⟩ = some (.int .i64 oA) ∧ u.cell? ⟨ot, 2, none⟩ = some (.int .i64 oB) ∧ u.cell? ⟨ot, 3, none⟩ = some (.int .i64 oC) ∧ u.cell? ⟨ot, 4, none⟩ = some (.int .i64 oD) ∧ u.cell? ⟨ot, 5, none⟩ = some (.int .u32 oW) := by
  refine ⟨?_, ?_, ?_, ?_, ?_, ?_⟩ <;> (rw [cell_of_row u ot _ _ _ _ h]; rfl)
theorem ro_cells {u : World} {ot : Nat} {oK oA oB oC oD oW : Int} {t : TypeId} (h : u.heap[ot]? = some (.cells #[.int .i64 oK, .int .i64 oA, .int .i64 oB, .int .i64 oC, .int .i64 oD, .int .u32 oW] t (0, 0))) :
    u.cell? ⟨ot, 1, none⟩ = some (.int .i64 oA) ∧ u.cell? ⟨ot, 2, none⟩ = some (.int .i64 oB) ∧ u.cell? ⟨ot, 3, none⟩ = some (.int .i64 oC) ∧ u.cell? ⟨ot, 4, none⟩ = some (.int .i64 oD) ∧ u.cell? ⟨ot, 5, none⟩ = some (.int .u32 oW) := (ro_cells6 h).2

set_option maxRecDepth 100000 in
set_option maxHeartbeats 16000000 in
theorem walk (a0 : Int) (a1 : Option Addr) (len1 cap1 : Nat) (z1 : Nat → Nat → Int) (w : World) (w0 : (Lit.int .i64 a0).wf = true) (w1 : IsRecs w 6 (fun j => if j = 0 then .i64 else if j = 1 then .i64 else if j = 2 then .i64 else if j = 3 then .i64 else if j = 4 then .i64 else .u32) a1 len1 cap1 z1) :
    Calls Try.prog 3 #[.int .i64 a0, .slice a1 len1 cap1] w fun e w' => e = .returned (.bool true) ∧ Below w.heap.size w w' := by
  by_cases hbig : 1000 < a0 ∧ a0 < 65536
  · obtain ⟨q1, q2⟩ := hbig
    go_enter Try.func3, Try.ntmps3
    go_wp2_with fail
    refine (awake_any w).mono ?_
    rintro e w2 ⟨rfl, hb⟩
    dsimp only
    go_wp2_with fail
    go_ret
    exact ⟨rfl, hb⟩
  · obtain ⟨N, hNK, hNL, hN6, hNs⟩ : ∃ N : Nat, newK N a0 ∧ Sr.lenOf a0 = N ∧ N ≤ 65536 ∧ (a0 ≤ 1000 ∨ 65536 ≤ a0) := by
      refine ⟨(max 0 (min a0 65536)).toNat, ?_, rfl, by omega, by omega⟩
      unfold newK; omega
    have hn := hp_NewG N hN6 a0 hNL w
    have d0 : decide (a0 > 1000) = decide (1000 < a0) := rfl
    have hcond : (1000 < a0 → ¬ a0 < 65536) := by omega
    have HNK := Lib.hid hNK
    have hz6 : ∀ u, Sem.run Try.prog (zeroValue 30) u = .ok (.agg #[.int .i64 0, .int .i64 0, .int .i64 0, .int .i64 0, .int .i64 0, .int .u32 0]) u := z6_run
    clear hNK hNL hbig
    go_enter Try.func3, Try.ntmps3
    go_upto_region 1 with fail
    go_cut [21] (fun s21 wx => s21 = .bool false ∧ w = wx)
    case first =>
      by_cases c1 : 1000 < a0
      · have c2 : ¬ a0 < 65536 := by omega
        clear hNs hcond
        go_wp2_with fail
        go_meet
        exact ⟨rfl, rfl⟩
      · clear hNs hcond
        go_wp2_with fail
        go_meet
        exact ⟨rfl, rfl⟩
    case rest =>
      obtain ⟨rfl, rfl⟩ := hcut
      clear hNs hcond d0
      go_wp2_with fail
      refine hn.mono ?_
      rintro e u1 ⟨X1, rfl, hA1, hO1⟩
      have HA1 := Lib.hid hA1; have HO1 := Lib.hid hO1
      clear hA1 hO1 hn
      dsimp only
      go_wp2_with fail
      refine (r5_New u1 a0 w0 N HNK.out).mono ?_
      rintro e u2 ⟨h, r, g, rfl, hR2, ho2, hb2⟩
      have HB0 := Lib.hid (Bt0.start HA1.out HO1.out hR2 ho2 hb2)
      clear hR2 ho2 hb2 HA1 HO1
      generalize X1.h = hh at *
      dsimp only
      go_wp2_with fail
      go_loopw [7] (fun v7 wr => ∃ i : Nat, i ≤ min len1 30 ∧ v7 = .int .i64 i ∧ Bt0 w wr hh h r g N i) (fun v7 wr => 30 - (intOf v7).toNat)
      case atStart => exact ⟨0, by omega, rfl, HB0.out⟩
      case round =>
        obtain ⟨i, i1, rfl, hB⟩ := hrel
        by_cases hlt : i < min len1 30
        · have hbel := hB.bel
          obtain ⟨xb, xo, rfl, hle1, hcm, hrec⟩ : ∃ b o, a1 = some ⟨b, o, none⟩ ∧ len1 ≤ cap1 ∧ cap1 ≤ maxLen ∧ ∀ i, i < len1 → ∀ j, j < 6 → w.cell? ⟨b, o + (i * 6 + j), none⟩ = some (.int (if j = 0 then .i64 else if j = 1 then .i64 else if j = 2 then .i64 else if j = 3 then .i64 else if j = 4 then .i64 else .u32) (z1 i j)) ∧ (Lit.int (if j = 0 then .i64 else if j = 1 then .i64 else if j = 2 then .i64 else if j = 3 then .i64 else if j = 4 then .i64 else .u32) (z1 i j)).wf = true := by
            rcases w1 with e | e
            · omega
            · exact e
          obtain ⟨q0, hwK⟩ := hrec i (by omega) 0 (by omega)
          obtain ⟨q1, hwA⟩ := hrec i (by omega) 1 (by omega)
          obtain ⟨q2, hwB⟩ := hrec i (by omega) 2 (by omega)
          obtain ⟨q3, hwC⟩ := hrec i (by omega) 3 (by omega)
          obtain ⟨q4, hwD⟩ := hrec i (by omega) 4 (by omega)
          obtain ⟨q5, hwW⟩ := hrec i (by omega) 5 (by omega)
          simp only [if_true, if_false, Nat.reduceEqDiff] at q0 q1 q2 q3 q4 q5 hwK hwA hwB hwC hwD hwW
          generalize z1 i 0 = oK at *
          generalize z1 i 1 = oA at *
          generalize z1 i 2 = oB at *
          generalize z1 i 3 = oC at *
          generalize z1 i 4 = oD at *
          generalize z1 i 5 = oW at *
          have hxb : xb < w.heap.size := World.block_lt_of_cell? _ _ q0
          have hRG : wr.rangeAt xb (xo + i * 6) [.int .i64 oK, .int .i64 oA, .int .i64 oB, .int .i64 oC, .int .i64 oD, .int .u32 oW] := range6 fun j hj => by
            rw [hbel.cell (p := ⟨xb, xo + i * 6 + j, none⟩) hxb, Nat.add_assoc]
            match j, hj with
            | 0, _ => exact q0
            | 1, _ => exact q1
            | 2, _ => exact q2
            | 3, _ => exact q3
            | 4, _ => exact q4
            | 5, _ => exact q5
          have HRG := Lib.hid hRG
          have HB := Lib.hid (hB.alloc (.cells #[.int .i64 oK, .int .i64 oA, .int .i64 oB, .int .i64 oC, .int .i64 oD, .int .u32 oW] 30))
          clear hrec q0 q1 q2 q3 q4 q5 hRG hB hbel hcm
          have t1 : (i : Int) < (len1 : Int) := by omega
          have t2 : (i : Int) < 30 := by omega
          have t0 : (0 : Int) ≤ (i : Int) := by omega
          obtain ⟨s0, s1, s2, s3, s4, s5⟩ := ro_cells6 HB.out.row
          have hpl := place_any oK 10 (by omega) (by omega) hwK (wr.alloc (.cells #[.int .i64 oK, .int .i64 oA, .int .i64 oB, .int .i64 oC, .int .i64 oD, .int .u32 oW] 30))
          obtain ⟨k, hk, hk0, hk1⟩ : ∃ k : Int, oK % 10 = k ∧ 0 ≤ k ∧ k < 10 := ⟨_, rfl, by omega, by omega⟩
          rw [hk] at hpl
          clear hk
          go_upto_region 14 with (first
            | (refine wpList_load_mid (by rfl) 30 (Operand.tmp 41) (by rfl) xb (xo + i * 6) (by rfl) _ _ HRG.out Try.underlying30 rfl info6 ?_)
            | (refine wpList_store_row rfl 30 (Operand.tmp 8) (Operand.tmp 42) rfl wr.heap.size #[.int .i64 oK, .int .i64 oA, .int .i64 oB, .int .i64 oC, .int .i64 oD, .int .u32 oW] rfl rfl _ _ (heap_alloc_new wr _) info6 rfl rfl ?_; rw [World.setRow_alloc_new])
            | (go_at_call 11; (with_reducible refine hpl.mono ?_); rintro e w5 ⟨rfl, rfl⟩; dsimp only))
          have HBd := Lib.hid (HB.out.more (u' := (wr.alloc (.cells #[.int .i64 oK, .int .i64 oA, .int .i64 oB, .int .i64 oC, .int .i64 oD, .int .u32 oW] 30)).drew) ⟨rfl, rfl, rfl, Nat.le_refl _, fun _ _ => rfl⟩)
          have hSd := ro_cells HBd.out.row
          clear HRG hpl
          rcases (show k < 3 ∨ k = 3 ∨ (¬ k < 3 ∧ (k == 3) = false ∧ k < 6) ∨ (¬ k < 3 ∧ (k == 3) = false ∧ ¬ k < 6 ∧ k < 8) ∨ k = 8 ∨ k = 9 by simp only [beq_eq_false_iff_ne, ne_eq]; omega) with k3 | rfl | ⟨k3, k4, k6⟩ | ⟨k3, k4, k6, k8⟩ | rfl | rfl
          · as_aux_lemma =>
              go_wp2_with fail
              refine (st_Make HB.out (by omega) oA oB oC oD).mono ?_
              rintro e u3 ⟨a, y, rfl, hwa, hrow, hfol⟩
              unfold Fol at hfol
              obtain ⟨s1, s2, s3, s4, s5⟩ := ro_cells hrow
              have HFOL := Lib.hid hfol
              clear hfol hrow
              dsimp only
              go_wp2_with fail
              refine HFOL.out.mono ?_
              rintro e u4 ⟨rfl, hB4⟩
              have HB4 := Lib.hid hB4
              clear hB4
              dsimp only
              go_wp2_with fail
              refine (st_same HB4.out a 0 hwa (by decide)).mono ?_
              rintro e u5 ⟨rfl, hrow5, hB5⟩
              obtain ⟨s1, s2, s3, s4, s5⟩ := ro_cells hrow5
              have HB5 := Lib.hid hB5
              clear hB5 hrow5
              dsimp only
              go_wp2_with fail
              refine (st_same HB5.out oA oB hwA hwB).mono ?_
              rintro e u6 ⟨rfl, hrow6, hB6⟩
              have HT := Lib.hid hB6.t0
              clear hB6 hrow6
              dsimp only
              go_wp2_with fail
              refine ⟨⟨i + 1, by omega, by simp, HT.out⟩, by simp only [intOf]; omega⟩
          · as_aux_lemma =>
              go_upto_region 19 with fail
              refine wp_region_held_drew (S := (fun w' => w'.cell? ⟨wr.heap.size, 1, none⟩ = some (.int .i64 oA) ∧ w'.cell? ⟨wr.heap.size, 2, none⟩ = some (.int .i64 oB) ∧ w'.cell? ⟨wr.heap.size, 3, none⟩ = some (.int .i64 oC) ∧ w'.cell? ⟨wr.heap.size, 4, none⟩ = some (.int .i64 oD) ∧ w'.cell? ⟨wr.heap.size, 5, none⟩ = some (.int .u32 oW))) (by kernel_rfl) ?_ (fun hH0 => ?_)
              · (try dsimp only); exact hSd
              refine wpAnyH_take (i := 0) (oi := { dst := some 113, op := Op.move (Operand.tmp 5), type := 24, pos := "law.go:69", after := #[], guard := none }) (v := ?v1) rfl (by kernel_rfl) (by kernel_rfl) (by kernel_rfl) (fun _ _ _ h => h) (Or.inl ⟨by rfl, ?hy1⟩) (by assumption) ?_
              case hy1 => intro w hSw; (try dsimp only at hSw); go_simp; (try with_reducible rfl)
              try simp only [Act.put, List.setIfInBounds_toArray, List.set_cons_zero, List.set_cons_succ]
              refine wpAnyH_take (i := 1) (oi := { dst := some 114, op := Op.fieldAddr 30 (Operand.tmp 8) 1, type := 0, pos := "law.go:69", after := #[], guard := none }) (v := ?v2) rfl (by kernel_rfl) (by kernel_rfl) (by kernel_rfl) (fun _ _ _ h => h) (Or.inl ⟨by rfl, ?hy2⟩) (by assumption) ?_
              case hy2 => intro w hSw; (try dsimp only at hSw); go_simp; (try with_reducible rfl)
              try simp only [Act.put, List.setIfInBounds_toArray, List.set_cons_zero, List.set_cons_succ]
              refine wpAnyH_take (i := 2) (oi := { dst := some 115, op := Op.load 3 (Operand.tmp 114), type := 3, pos := "law.go:69", after := #[{ on := 1, ground := Ground.data }], guard := none }) (v := ?v3) rfl (by kernel_rfl) (by kernel_rfl) (by kernel_rfl) (fun _ _ _ h => h) (Or.inl ⟨by rfl, ?hy3⟩) (by assumption) ?_
              case hy3 => intro w hSw; (try dsimp only at hSw); go_simp; (try with_reducible rfl)
              try simp only [Act.put, List.setIfInBounds_toArray, List.set_cons_zero, List.set_cons_succ]
              refine wpAnyH_take (i := 4) (oi := { dst := some 117, op := Op.move (Operand.tmp 6), type := 26, pos := "law.go:69", after := #[], guard := none }) (v := ?v4) rfl (by kernel_rfl) (by kernel_rfl) (by kernel_rfl) (fun _ _ _ h => h) (Or.inl ⟨by rfl, ?hy4⟩) (by assumption) ?_
              case hy4 => intro w hSw; (try dsimp only at hSw); go_simp; (try with_reducible rfl)
              try simp only [Act.put, List.setIfInBounds_toArray, List.set_cons_zero, List.set_cons_succ]
              refine wpAnyH_take (i := 5) (oi := { dst := some 118, op := Op.fieldAddr 30 (Operand.tmp 8) 1, type := 0, pos := "law.go:69", after := #[], guard := none }) (v := ?v5) rfl (by kernel_rfl) (by kernel_rfl) (by kernel_rfl) (fun _ _ _ h => h) (Or.inl ⟨by rfl, ?hy5⟩) (by assumption) ?_
              case hy5 => intro w hSw; (try dsimp only at hSw); go_simp; (try with_reducible rfl)
              try simp only [Act.put, List.setIfInBounds_toArray, List.set_cons_zero, List.set_cons_succ]
              refine wpAnyH_take (i := 6) (oi := { dst := some 119, op := Op.load 3 (Operand.tmp 118), type := 3, pos := "law.go:69", after := #[{ on := 5, ground := Ground.data }], guard := none }) (v := ?v6) rfl (by kernel_rfl) (by kernel_rfl) (by kernel_rfl) (fun _ _ _ h => h) (Or.inl ⟨by rfl, ?hy6⟩) (by assumption) ?_
              case hy6 => intro w hSw; (try dsimp only at hSw); go_simp; (try with_reducible rfl)
              try simp only [Act.put, List.setIfInBounds_toArray, List.set_cons_zero, List.set_cons_succ]
              refine wpAnyH_ready (rs := [3]) (by kernel_rfl) (by simp) ?_
              refine AllReadyH.cons (o := { dst := some 116, op := Op.call { callee := Callee.value (Operand.func 15), args := #[Operand.tmp 113, Operand.tmp 115], argTypes := #[24, 3] }, type := 4, pos := "law.go:69", after := #[{ on := 0, ground := Ground.data }, { on := 2, ground := Ground.data }], guard := none }) rfl (fun K hK => ?_) AllReadyH.nil
              go_simp; go_at_call 15; with_reducible refine (st_Drop HBd.out oA hwA).mono ?_
              rintro e u3 ⟨b, rfl, hrow, hfol⟩
              unfold Fol at hfol
              have hS3 := ro_cells hrow
              have HFOL := Lib.hid hfol; have HROW := Lib.hid hrow
              clear hfol hrow
              dsimp only
              refine hK.out _ _ ?_ (fun hH1 => ?_)
              · (try dsimp only); first | exact hS4 | exact hS3
              clear hK K
              clear hH0
              try simp only [Act.put, List.setIfInBounds_toArray, List.set_cons_zero, List.set_cons_succ]
              refine wpAnyH_ready (rs := [7]) (by kernel_rfl) (by simp) ?_
              refine AllReadyH.cons (o := { dst := some 120, op := Op.call { callee := Callee.value (Operand.func 16), args := #[Operand.tmp 117, Operand.tmp 119], argTypes := #[26, 3] }, type := 4, pos := "law.go:69", after := #[{ on := 4, ground := Ground.data }, { on := 6, ground := Ground.data }, { on := 3, ground := Ground.chain }], guard := none }) rfl (fun K hK => ?_) AllReadyH.nil
              go_simp; go_at_call 16; refine HFOL.out.mono ?_
              rintro e u4 ⟨rfl, hB4⟩
              have hS4 := ro_cells hB4.row
              have HB4 := Lib.hid hB4
              clear hB4
              dsimp only
              refine hK.out _ _ ?_ (fun hH2 => ?_)
              · (try dsimp only); first | exact hS4 | exact hS3
              clear hK K
              clear hH1
              try simp only [Act.put, List.setIfInBounds_toArray, List.set_cons_zero, List.set_cons_succ]
              refine wpAnyH_take (i := 8) (oi := { dst := some 121, op := Op.binOp BinOp.eql 4 (Operand.tmp 116) (Operand.tmp 120) 4, type := 4, pos := "law.go:69", after := #[{ on := 3, ground := Ground.data }, { on := 7, ground := Ground.data }], guard := none }) (v := ?v9) rfl (by kernel_rfl) (by kernel_rfl) (by kernel_rfl) (fun _ _ _ h => h) (Or.inl ⟨by rfl, ?hy9⟩) (by assumption) ?_
              case hy9 => intro w hSw; (try dsimp only at hSw); go_simp; (try with_reducible rfl)
              try simp only [Act.put, List.setIfInBounds_toArray, List.set_cons_zero, List.set_cons_succ]
              refine wpAnyH_take (i := 9) (oi := { dst := some 9, op := Op.assign (Operand.tmp 121), type := 4, pos := "law.go:69", after := #[{ on := 8, ground := Ground.data }, { on := 7, ground := Ground.chain }, { on := 0, ground := Ground.phase }, { on := 1, ground := Ground.phase }, { on := 2, ground := Ground.phase }, { on := 3, ground := Ground.phase }, { on := 4, ground := Ground.phase }, { on := 5, ground := Ground.phase }, { on := 6, ground := Ground.phase }, { on := 7, ground := Ground.phase }, { on := 8, ground := Ground.phase }], guard := none }) (v := ?v10) rfl (by kernel_rfl) (by kernel_rfl) (by kernel_rfl) (fun _ _ _ h => h) (Or.inl ⟨by rfl, ?hy10⟩) (by assumption) ?_
              case hy10 => intro w hSw; (try dsimp only at hSw); go_simp; (try with_reducible rfl)
              try simp only [Act.put, List.setIfInBounds_toArray, List.set_cons_zero, List.set_cons_succ]
              refine wpAnyH_done (by kernel_rfl) ?_ _
              obtain ⟨s1, s2, s3, s4, s5⟩ := ro_cells HB4.out.row
              go_wp2_with fail
              refine (st_same HB4.out oA oB hwA hwB).mono ?_
              rintro e u5 ⟨rfl, hrow5, hB5⟩
              have HT := Lib.hid (hB5.le (n' := i + 1) (by omega)).t0
              clear hB5 hrow5
              dsimp only
              go_wp2_with fail
              refine ⟨⟨i + 1, by omega, by simp, HT.out⟩, by simp only [intOf]; omega⟩
          · as_aux_lemma =>
              go_upto_region 21 with fail
              refine wp_region_held_drew (S := (fun w' => w'.cell? ⟨wr.heap.size, 1, none⟩ = some (.int .i64 oA) ∧ w'.cell? ⟨wr.heap.size, 2, none⟩ = some (.int .i64 oB) ∧ w'.cell? ⟨wr.heap.size, 3, none⟩ = some (.int .i64 oC) ∧ w'.cell? ⟨wr.heap.size, 4, none⟩ = some (.int .i64 oD) ∧ w'.cell? ⟨wr.heap.size, 5, none⟩ = some (.int .u32 oW))) (by kernel_rfl) ?_ (fun hH0 => ?_)
              · (try dsimp only); exact hSd
              refine wpAnyH_take (i := 0) (oi := { dst := some 125, op := Op.move (Operand.tmp 5), type := 24, pos := "law.go:71", after := #[], guard := none }) (v := ?v11) rfl (by kernel_rfl) (by kernel_rfl) (by kernel_rfl) (fun _ _ _ h => h) (Or.inl ⟨by rfl, ?hy11⟩) (by assumption) ?_
              case hy11 => intro w hSw; (try dsimp only at hSw); go_simp; (try with_reducible rfl)
              try simp only [Act.put, List.setIfInBounds_toArray, List.set_cons_zero, List.set_cons_succ]
              refine wpAnyH_take (i := 1) (oi := { dst := some 126, op := Op.fieldAddr 30 (Operand.tmp 8) 1, type := 0, pos := "law.go:71", after := #[], guard := none }) (v := ?v12) rfl (by kernel_rfl) (by kernel_rfl) (by kernel_rfl) (fun _ _ _ h => h) (Or.inl ⟨by rfl, ?hy12⟩) (by assumption) ?_
              case hy12 => intro w hSw; (try dsimp only at hSw); go_simp; (try with_reducible rfl)
              try simp only [Act.put, List.setIfInBounds_toArray, List.set_cons_zero, List.set_cons_succ]
              refine wpAnyH_take (i := 2) (oi := { dst := some 127, op := Op.load 3 (Operand.tmp 126), type := 3, pos := "law.go:71", after := #[{ on := 1, ground := Ground.data }], guard := none }) (v := ?v13) rfl (by kernel_rfl) (by kernel_rfl) (by kernel_rfl) (fun _ _ _ h => h) (Or.inl ⟨by rfl, ?hy13⟩) (by assumption) ?_
              case hy13 => intro w hSw; (try dsimp only at hSw); go_simp; (try with_reducible rfl)
              try simp only [Act.put, List.setIfInBounds_toArray, List.set_cons_zero, List.set_cons_succ]
              refine wpAnyH_take (i := 3) (oi := { dst := some 128, op := Op.fieldAddr 30 (Operand.tmp 8) 2, type := 0, pos := "law.go:71", after := #[], guard := none }) (v := ?v14) rfl (by kernel_rfl) (by kernel_rfl) (by kernel_rfl) (fun _ _ _ h => h) (Or.inl ⟨by rfl, ?hy14⟩) (by assumption) ?_
              case hy14 => intro w hSw; (try dsimp only at hSw); go_simp; (try with_reducible rfl)
              try simp only [Act.put, List.setIfInBounds_toArray, List.set_cons_zero, List.set_cons_succ]
              refine wpAnyH_take (i := 4) (oi := { dst := some 129, op := Op.load 3 (Operand.tmp 128), type := 3, pos := "law.go:71", after := #[{ on := 3, ground := Ground.data }], guard := none }) (v := ?v15) rfl (by kernel_rfl) (by kernel_rfl) (by kernel_rfl) (fun _ _ _ h => h) (Or.inl ⟨by rfl, ?hy15⟩) (by assumption) ?_
              case hy15 => intro w hSw; (try dsimp only at hSw); go_simp; (try with_reducible rfl)
              try simp only [Act.put, List.setIfInBounds_toArray, List.set_cons_zero, List.set_cons_succ]
              refine wpAnyH_take (i := 5) (oi := { dst := some 130, op := Op.fieldAddr 30 (Operand.tmp 8) 5, type := 0, pos := "law.go:71", after := #[], guard := none }) (v := ?v16) rfl (by kernel_rfl) (by kernel_rfl) (by kernel_rfl) (fun _ _ _ h => h) (Or.inl ⟨by rfl, ?hy16⟩) (by assumption) ?_
              case hy16 => intro w hSw; (try dsimp only at hSw); go_simp; (try with_reducible rfl)
              try simp only [Act.put, List.setIfInBounds_toArray, List.set_cons_zero, List.set_cons_succ]
              refine wpAnyH_take (i := 6) (oi := { dst := some 131, op := Op.load 28 (Operand.tmp 130), type := 28, pos := "law.go:71", after := #[{ on := 5, ground := Ground.data }], guard := none }) (v := ?v17) rfl (by kernel_rfl) (by kernel_rfl) (by kernel_rfl) (fun _ _ _ h => h) (Or.inl ⟨by rfl, ?hy17⟩) (by assumption) ?_
              case hy17 => intro w hSw; (try dsimp only at hSw); go_simp; (try with_reducible rfl)
              try simp only [Act.put, List.setIfInBounds_toArray, List.set_cons_zero, List.set_cons_succ]
              refine wpAnyH_take (i := 8) (oi := { dst := some 133, op := Op.move (Operand.tmp 6), type := 26, pos := "law.go:71", after := #[], guard := none }) (v := ?v18) rfl (by kernel_rfl) (by kernel_rfl) (by kernel_rfl) (fun _ _ _ h => h) (Or.inl ⟨by rfl, ?hy18⟩) (by assumption) ?_
              case hy18 => intro w hSw; (try dsimp only at hSw); go_simp; (try with_reducible rfl)
              try simp only [Act.put, List.setIfInBounds_toArray, List.set_cons_zero, List.set_cons_succ]
              refine wpAnyH_take (i := 9) (oi := { dst := some 134, op := Op.fieldAddr 30 (Operand.tmp 8) 1, type := 0, pos := "law.go:71", after := #[], guard := none }) (v := ?v19) rfl (by kernel_rfl) (by kernel_rfl) (by kernel_rfl) (fun _ _ _ h => h) (Or.inl ⟨by rfl, ?hy19⟩) (by assumption) ?_
              case hy19 => intro w hSw; (try dsimp only at hSw); go_simp; (try with_reducible rfl)
              try simp only [Act.put, List.setIfInBounds_toArray, List.set_cons_zero, List.set_cons_succ]
              refine wpAnyH_take (i := 10) (oi := { dst := some 135, op := Op.load 3 (Operand.tmp 134), type := 3, pos := "law.go:71", after := #[{ on := 9, ground := Ground.data }], guard := none }) (v := ?v20) rfl (by kernel_rfl) (by kernel_rfl) (by kernel_rfl) (fun _ _ _ h => h) (Or.inl ⟨by rfl, ?hy20⟩) (by assumption) ?_
              case hy20 => intro w hSw; (try dsimp only at hSw); go_simp; (try with_reducible rfl)
              try simp only [Act.put, List.setIfInBounds_toArray, List.set_cons_zero, List.set_cons_succ]
              refine wpAnyH_take (i := 11) (oi := { dst := some 136, op := Op.fieldAddr 30 (Operand.tmp 8) 2, type := 0, pos := "law.go:71", after := #[], guard := none }) (v := ?v21) rfl (by kernel_rfl) (by kernel_rfl) (by kernel_rfl) (fun _ _ _ h => h) (Or.inl ⟨by rfl, ?hy21⟩) (by assumption) ?_
              case hy21 => intro w hSw; (try dsimp only at hSw); go_simp; (try with_reducible rfl)
              try simp only [Act.put, List.setIfInBounds_toArray, List.set_cons_zero, List.set_cons_succ]
              refine wpAnyH_take (i := 12) (oi := { dst := some 137, op := Op.load 3 (Operand.tmp 136), type := 3, pos := "law.go:71", after := #[{ on := 11, ground := Ground.data }], guard := none }) (v := ?v22) rfl (by kernel_rfl) (by kernel_rfl) (by kernel_rfl) (fun _ _ _ h => h) (Or.inl ⟨by rfl, ?hy22⟩) (by assumption) ?_
              case hy22 => intro w hSw; (try dsimp only at hSw); go_simp; (try with_reducible rfl)
              try simp only [Act.put, List.setIfInBounds_toArray, List.set_cons_zero, List.set_cons_succ]
              refine wpAnyH_take (i := 13) (oi := { dst := some 138, op := Op.fieldAddr 30 (Operand.tmp 8) 5, type := 0, pos := "law.go:71", after := #[], guard := none }) (v := ?v23) rfl (by kernel_rfl) (by kernel_rfl) (by kernel_rfl) (fun _ _ _ h => h) (Or.inl ⟨by rfl, ?hy23⟩) (by assumption) ?_
              case hy23 => intro w hSw; (try dsimp only at hSw); go_simp; (try with_reducible rfl)
              try simp only [Act.put, List.setIfInBounds_toArray, List.set_cons_zero, List.set_cons_succ]
              refine wpAnyH_take (i := 14) (oi := { dst := some 139, op := Op.load 28 (Operand.tmp 138), type := 28, pos := "law.go:71", after := #[{ on := 13, ground := Ground.data }], guard := none }) (v := ?v24) rfl (by kernel_rfl) (by kernel_rfl) (by kernel_rfl) (fun _ _ _ h => h) (Or.inl ⟨by rfl, ?hy24⟩) (by assumption) ?_
              case hy24 => intro w hSw; (try dsimp only at hSw); go_simp; (try with_reducible rfl)
              try simp only [Act.put, List.setIfInBounds_toArray, List.set_cons_zero, List.set_cons_succ]
              refine wpAnyH_ready (rs := [7]) (by kernel_rfl) (by simp) ?_
              refine AllReadyH.cons (o := { dst := some 132, op := Op.call { callee := Callee.value (Operand.func 17), args := #[Operand.tmp 125, Operand.tmp 127, Operand.tmp 129, Operand.tmp 131], argTypes := #[24, 3, 3, 28] }, type := 4, pos := "law.go:71", after := #[{ on := 0, ground := Ground.data }, { on := 2, ground := Ground.data }, { on := 4, ground := Ground.data }, { on := 6, ground := Ground.data }], guard := none }) rfl (fun K hK => ?_) AllReadyH.nil
              go_simp; go_at_call 17; with_reducible refine (st_SetField HBd.out oA oB oW hwA hwB hwW).mono ?_
              rintro e u3 ⟨b, rfl, hrow, hfol⟩
              unfold Fol at hfol
              have hS3 := ro_cells hrow
              have HFOL := Lib.hid hfol; have HROW := Lib.hid hrow
              clear hfol hrow
              dsimp only
              refine hK.out _ _ ?_ (fun hH1 => ?_)
              · (try dsimp only); first | exact hS4 | exact hS3
              clear hK K
              clear hH0
              try simp only [Act.put, List.setIfInBounds_toArray, List.set_cons_zero, List.set_cons_succ]
              refine wpAnyH_ready (rs := [15]) (by kernel_rfl) (by simp) ?_
              refine AllReadyH.cons (o := { dst := some 140, op := Op.call { callee := Callee.value (Operand.func 18), args := #[Operand.tmp 133, Operand.tmp 135, Operand.tmp 137, Operand.tmp 139], argTypes := #[26, 3, 3, 28] }, type := 4, pos := "law.go:71", after := #[{ on := 8, ground := Ground.data }, { on := 10, ground := Ground.data }, { on := 12, ground := Ground.data }, { on := 14, ground := Ground.data }, { on := 7, ground := Ground.chain }], guard := none }) rfl (fun K hK => ?_) AllReadyH.nil
              go_simp; go_at_call 18; refine HFOL.out.mono ?_
              rintro e u4 ⟨rfl, hB4⟩
              have hS4 := ro_cells hB4.row
              have HB4 := Lib.hid hB4
              clear hB4
              dsimp only
              refine hK.out _ _ ?_ (fun hH2 => ?_)
              · (try dsimp only); first | exact hS4 | exact hS3
              clear hK K
              clear hH1
              try simp only [Act.put, List.setIfInBounds_toArray, List.set_cons_zero, List.set_cons_succ]
              refine wpAnyH_take (i := 16) (oi := { dst := some 141, op := Op.binOp BinOp.eql 4 (Operand.tmp 132) (Operand.tmp 140) 4, type := 4, pos := "law.go:71", after := #[{ on := 7, ground := Ground.data }, { on := 15, ground := Ground.data }], guard := none }) (v := ?v27) rfl (by kernel_rfl) (by kernel_rfl) (by kernel_rfl) (fun _ _ _ h => h) (Or.inl ⟨by rfl, ?hy27⟩) (by assumption) ?_
              case hy27 => intro w hSw; (try dsimp only at hSw); go_simp; (try with_reducible rfl)
              try simp only [Act.put, List.setIfInBounds_toArray, List.set_cons_zero, List.set_cons_succ]
              refine wpAnyH_take (i := 17) (oi := { dst := some 9, op := Op.assign (Operand.tmp 141), type := 4, pos := "law.go:71", after := #[{ on := 16, ground := Ground.data }, { on := 15, ground := Ground.chain }, { on := 0, ground := Ground.phase }, { on := 1, ground := Ground.phase }, { on := 2, ground := Ground.phase }, { on := 3, ground := Ground.phase }, { on := 4, ground := Ground.phase }, { on := 5, ground := Ground.phase }, { on := 6, ground := Ground.phase }, { on := 7, ground := Ground.phase }, { on := 8, ground := Ground.phase }, { on := 9, ground := Ground.phase }, { on := 10, ground := Ground.phase }, { on := 11, ground := Ground.phase }, { on := 12, ground := Ground.phase }, { on := 13, ground := Ground.phase }, { on := 14, ground := Ground.phase }, { on := 15, ground := Ground.phase }, { on := 16, ground := Ground.phase }], guard := none }) (v := ?v28) rfl (by kernel_rfl) (by kernel_rfl) (by kernel_rfl) (fun _ _ _ h => h) (Or.inl ⟨by rfl, ?hy28⟩) (by assumption) ?_
              case hy28 => intro w hSw; (try dsimp only at hSw); go_simp; (try with_reducible rfl)
              try simp only [Act.put, List.setIfInBounds_toArray, List.set_cons_zero, List.set_cons_succ]
              refine wpAnyH_done (by kernel_rfl) ?_ _
              obtain ⟨s1, s2, s3, s4, s5⟩ := ro_cells HB4.out.row
              go_wp2_with fail
              refine (st_same HB4.out oA oB hwA hwB).mono ?_
              rintro e u5 ⟨rfl, hrow5, hB5⟩
              have HT := Lib.hid (hB5.le (n' := i + 1) (by omega)).t0
              clear hB5 hrow5
              dsimp only
              go_wp2_with fail
              refine ⟨⟨i + 1, by omega, by simp, HT.out⟩, by simp only [intOf]; omega⟩
          · as_aux_lemma =>
              go_upto_region 23 with fail
              refine wp_region_held_drew (S := (fun w' => w'.cell? ⟨wr.heap.size, 1, none⟩ = some (.int .i64 oA) ∧ w'.cell? ⟨wr.heap.size, 2, none⟩ = some (.int .i64 oB) ∧ w'.cell? ⟨wr.heap.size, 3, none⟩ = some (.int .i64 oC) ∧ w'.cell? ⟨wr.heap.size, 4, none⟩ = some (.int .i64 oD) ∧ w'.cell? ⟨wr.heap.size, 5, none⟩ = some (.int .u32 oW))) (by kernel_rfl) ?_ (fun hH0 => ?_)
              · (try dsimp only); exact hSd
              refine wpAnyH_take (i := 0) (oi := { dst := some 145, op := Op.move (Operand.tmp 5), type := 24, pos := "law.go:73", after := #[], guard := none }) (v := ?v29) rfl (by kernel_rfl) (by kernel_rfl) (by kernel_rfl) (fun _ _ _ h => h) (Or.inl ⟨by rfl, ?hy29⟩) (by assumption) ?_
              case hy29 => intro w hSw; (try dsimp only at hSw); go_simp; (try with_reducible rfl)
              try simp only [Act.put, List.setIfInBounds_toArray, List.set_cons_zero, List.set_cons_succ]
              refine wpAnyH_take (i := 1) (oi := { dst := some 146, op := Op.fieldAddr 30 (Operand.tmp 8) 1, type := 0, pos := "law.go:73", after := #[], guard := none }) (v := ?v30) rfl (by kernel_rfl) (by kernel_rfl) (by kernel_rfl) (fun _ _ _ h => h) (Or.inl ⟨by rfl, ?hy30⟩) (by assumption) ?_
              case hy30 => intro w hSw; (try dsimp only at hSw); go_simp; (try with_reducible rfl)
              try simp only [Act.put, List.setIfInBounds_toArray, List.set_cons_zero, List.set_cons_succ]
              refine wpAnyH_take (i := 2) (oi := { dst := some 147, op := Op.load 3 (Operand.tmp 146), type := 3, pos := "law.go:73", after := #[{ on := 1, ground := Ground.data }], guard := none }) (v := ?v31) rfl (by kernel_rfl) (by kernel_rfl) (by kernel_rfl) (fun _ _ _ h => h) (Or.inl ⟨by rfl, ?hy31⟩) (by assumption) ?_
              case hy31 => intro w hSw; (try dsimp only at hSw); go_simp; (try with_reducible rfl)
              try simp only [Act.put, List.setIfInBounds_toArray, List.set_cons_zero, List.set_cons_succ]
              refine wpAnyH_take (i := 3) (oi := { dst := some 148, op := Op.fieldAddr 30 (Operand.tmp 8) 2, type := 0, pos := "law.go:73", after := #[], guard := none }) (v := ?v32) rfl (by kernel_rfl) (by kernel_rfl) (by kernel_rfl) (fun _ _ _ h => h) (Or.inl ⟨by rfl, ?hy32⟩) (by assumption) ?_
              case hy32 => intro w hSw; (try dsimp only at hSw); go_simp; (try with_reducible rfl)
              try simp only [Act.put, List.setIfInBounds_toArray, List.set_cons_zero, List.set_cons_succ]
              refine wpAnyH_take (i := 4) (oi := { dst := some 149, op := Op.load 3 (Operand.tmp 148), type := 3, pos := "law.go:73", after := #[{ on := 3, ground := Ground.data }], guard := none }) (v := ?v33) rfl (by kernel_rfl) (by kernel_rfl) (by kernel_rfl) (fun _ _ _ h => h) (Or.inl ⟨by rfl, ?hy33⟩) (by assumption) ?_
              case hy33 => intro w hSw; (try dsimp only at hSw); go_simp; (try with_reducible rfl)
              try simp only [Act.put, List.setIfInBounds_toArray, List.set_cons_zero, List.set_cons_succ]
              refine wpAnyH_take (i := 5) (oi := { dst := some 150, op := Op.fieldAddr 30 (Operand.tmp 8) 3, type := 0, pos := "law.go:73", after := #[], guard := none }) (v := ?v34) rfl (by kernel_rfl) (by kernel_rfl) (by kernel_rfl) (fun _ _ _ h => h) (Or.inl ⟨by rfl, ?hy34⟩) (by assumption) ?_
              case hy34 => intro w hSw; (try dsimp only at hSw); go_simp; (try with_reducible rfl)
              try simp only [Act.put, List.setIfInBounds_toArray, List.set_cons_zero, List.set_cons_succ]
              refine wpAnyH_take (i := 6) (oi := { dst := some 151, op := Op.load 3 (Operand.tmp 150), type := 3, pos := "law.go:73", after := #[{ on := 5, ground := Ground.data }], guard := none }) (v := ?v35) rfl (by kernel_rfl) (by kernel_rfl) (by kernel_rfl) (fun _ _ _ h => h) (Or.inl ⟨by rfl, ?hy35⟩) (by assumption) ?_
              case hy35 => intro w hSw; (try dsimp only at hSw); go_simp; (try with_reducible rfl)
              try simp only [Act.put, List.setIfInBounds_toArray, List.set_cons_zero, List.set_cons_succ]
              refine wpAnyH_take (i := 8) (oi := { dst := some 153, op := Op.move (Operand.tmp 6), type := 26, pos := "law.go:73", after := #[], guard := none }) (v := ?v36) rfl (by kernel_rfl) (by kernel_rfl) (by kernel_rfl) (fun _ _ _ h => h) (Or.inl ⟨by rfl, ?hy36⟩) (by assumption) ?_
              case hy36 => intro w hSw; (try dsimp only at hSw); go_simp; (try with_reducible rfl)
              try simp only [Act.put, List.setIfInBounds_toArray, List.set_cons_zero, List.set_cons_succ]
              refine wpAnyH_take (i := 9) (oi := { dst := some 154, op := Op.fieldAddr 30 (Operand.tmp 8) 1, type := 0, pos := "law.go:73", after := #[], guard := none }) (v := ?v37) rfl (by kernel_rfl) (by kernel_rfl) (by kernel_rfl) (fun _ _ _ h => h) (Or.inl ⟨by rfl, ?hy37⟩) (by assumption) ?_
              case hy37 => intro w hSw; (try dsimp only at hSw); go_simp; (try with_reducible rfl)
              try simp only [Act.put, List.setIfInBounds_toArray, List.set_cons_zero, List.set_cons_succ]
              refine wpAnyH_take (i := 10) (oi := { dst := some 155, op := Op.load 3 (Operand.tmp 154), type := 3, pos := "law.go:73", after := #[{ on := 9, ground := Ground.data }], guard := none }) (v := ?v38) rfl (by kernel_rfl) (by kernel_rfl) (by kernel_rfl) (fun _ _ _ h => h) (Or.inl ⟨by rfl, ?hy38⟩) (by assumption) ?_
              case hy38 => intro w hSw; (try dsimp only at hSw); go_simp; (try with_reducible rfl)
              try simp only [Act.put, List.setIfInBounds_toArray, List.set_cons_zero, List.set_cons_succ]
              refine wpAnyH_take (i := 11) (oi := { dst := some 156, op := Op.fieldAddr 30 (Operand.tmp 8) 2, type := 0, pos := "law.go:73", after := #[], guard := none }) (v := ?v39) rfl (by kernel_rfl) (by kernel_rfl) (by kernel_rfl) (fun _ _ _ h => h) (Or.inl ⟨by rfl, ?hy39⟩) (by assumption) ?_
              case hy39 => intro w hSw; (try dsimp only at hSw); go_simp; (try with_reducible rfl)
              try simp only [Act.put, List.setIfInBounds_toArray, List.set_cons_zero, List.set_cons_succ]
              refine wpAnyH_take (i := 12) (oi := { dst := some 157, op := Op.load 3 (Operand.tmp 156), type := 3, pos := "law.go:73", after := #[{ on := 11, ground := Ground.data }], guard := none }) (v := ?v40) rfl (by kernel_rfl) (by kernel_rfl) (by kernel_rfl) (fun _ _ _ h => h) (Or.inl ⟨by rfl, ?hy40⟩) (by assumption) ?_
              case hy40 => intro w hSw; (try dsimp only at hSw); go_simp; (try with_reducible rfl)
              try simp only [Act.put, List.setIfInBounds_toArray, List.set_cons_zero, List.set_cons_succ]
              refine wpAnyH_take (i := 13) (oi := { dst := some 158, op := Op.fieldAddr 30 (Operand.tmp 8) 3, type := 0, pos := "law.go:73", after := #[], guard := none }) (v := ?v41) rfl (by kernel_rfl) (by kernel_rfl) (by kernel_rfl) (fun _ _ _ h => h) (Or.inl ⟨by rfl, ?hy41⟩) (by assumption) ?_
              case hy41 => intro w hSw; (try dsimp only at hSw); go_simp; (try with_reducible rfl)
              try simp only [Act.put, List.setIfInBounds_toArray, List.set_cons_zero, List.set_cons_succ]
              refine wpAnyH_take (i := 14) (oi := { dst := some 159, op := Op.load 3 (Operand.tmp 158), type := 3, pos := "law.go:73", after := #[{ on := 13, ground := Ground.data }], guard := none }) (v := ?v42) rfl (by kernel_rfl) (by kernel_rfl) (by kernel_rfl) (fun _ _ _ h => h) (Or.inl ⟨by rfl, ?hy42⟩) (by assumption) ?_
              case hy42 => intro w hSw; (try dsimp only at hSw); go_simp; (try with_reducible rfl)
              try simp only [Act.put, List.setIfInBounds_toArray, List.set_cons_zero, List.set_cons_succ]
              refine wpAnyH_ready (rs := [7]) (by kernel_rfl) (by simp) ?_
              refine AllReadyH.cons (o := { dst := some 152, op := Op.call { callee := Callee.value (Operand.func 19), args := #[Operand.tmp 145, Operand.tmp 147, Operand.tmp 149, Operand.tmp 151], argTypes := #[24, 3, 3, 3] }, type := 4, pos := "law.go:73", after := #[{ on := 0, ground := Ground.data }, { on := 2, ground := Ground.data }, { on := 4, ground := Ground.data }, { on := 6, ground := Ground.data }], guard := none }) rfl (fun K hK => ?_) AllReadyH.nil
              go_simp; go_at_call 19; with_reducible refine (st_SetByte HBd.out oA oB oC hwA hwB hwC).mono ?_
              rintro e u3 ⟨b, rfl, hrow, hfol⟩
              unfold Fol at hfol
              have hS3 := ro_cells hrow
              have HFOL := Lib.hid hfol; have HROW := Lib.hid hrow
              clear hfol hrow
              dsimp only
              refine hK.out _ _ ?_ (fun hH1 => ?_)
              · (try dsimp only); first | exact hS4 | exact hS3
              clear hK K
              clear hH0
              try simp only [Act.put, List.setIfInBounds_toArray, List.set_cons_zero, List.set_cons_succ]
              refine wpAnyH_ready (rs := [15]) (by kernel_rfl) (by simp) ?_
              refine AllReadyH.cons (o := { dst := some 160, op := Op.call { callee := Callee.value (Operand.func 20), args := #[Operand.tmp 153, Operand.tmp 155, Operand.tmp 157, Operand.tmp 159], argTypes := #[26, 3, 3, 3] }, type := 4, pos := "law.go:73", after := #[{ on := 8, ground := Ground.data }, { on := 10, ground := Ground.data }, { on := 12, ground := Ground.data }, { on := 14, ground := Ground.data }, { on := 7, ground := Ground.chain }], guard := none }) rfl (fun K hK => ?_) AllReadyH.nil
              go_simp; go_at_call 20; refine HFOL.out.mono ?_
              rintro e u4 ⟨rfl, hB4⟩
              have hS4 := ro_cells hB4.row
              have HB4 := Lib.hid hB4
              clear hB4
              dsimp only
              refine hK.out _ _ ?_ (fun hH2 => ?_)
              · (try dsimp only); first | exact hS4 | exact hS3
              clear hK K
              clear hH1
              try simp only [Act.put, List.setIfInBounds_toArray, List.set_cons_zero, List.set_cons_succ]
              refine wpAnyH_take (i := 16) (oi := { dst := some 161, op := Op.binOp BinOp.eql 4 (Operand.tmp 152) (Operand.tmp 160) 4, type := 4, pos := "law.go:73", after := #[{ on := 7, ground := Ground.data }, { on := 15, ground := Ground.data }], guard := none }) (v := ?v45) rfl (by kernel_rfl) (by kernel_rfl) (by kernel_rfl) (fun _ _ _ h => h) (Or.inl ⟨by rfl, ?hy45⟩) (by assumption) ?_
              case hy45 => intro w hSw; (try dsimp only at hSw); go_simp; (try with_reducible rfl)
              try simp only [Act.put, List.setIfInBounds_toArray, List.set_cons_zero, List.set_cons_succ]
              refine wpAnyH_take (i := 17) (oi := { dst := some 9, op := Op.assign (Operand.tmp 161), type := 4, pos := "law.go:73", after := #[{ on := 16, ground := Ground.data }, { on := 15, ground := Ground.chain }, { on := 0, ground := Ground.phase }, { on := 1, ground := Ground.phase }, { on := 2, ground := Ground.phase }, { on := 3, ground := Ground.phase }, { on := 4, ground := Ground.phase }, { on := 5, ground := Ground.phase }, { on := 6, ground := Ground.phase }, { on := 7, ground := Ground.phase }, { on := 8, ground := Ground.phase }, { on := 9, ground := Ground.phase }, { on := 10, ground := Ground.phase }, { on := 11, ground := Ground.phase }, { on := 12, ground := Ground.phase }, { on := 13, ground := Ground.phase }, { on := 14, ground := Ground.phase }, { on := 15, ground := Ground.phase }, { on := 16, ground := Ground.phase }], guard := none }) (v := ?v46) rfl (by kernel_rfl) (by kernel_rfl) (by kernel_rfl) (fun _ _ _ h => h) (Or.inl ⟨by rfl, ?hy46⟩) (by assumption) ?_
              case hy46 => intro w hSw; (try dsimp only at hSw); go_simp; (try with_reducible rfl)
              try simp only [Act.put, List.setIfInBounds_toArray, List.set_cons_zero, List.set_cons_succ]
              refine wpAnyH_done (by kernel_rfl) ?_ _
              obtain ⟨s1, s2, s3, s4, s5⟩ := ro_cells HB4.out.row
              go_wp2_with fail
              refine (st_same HB4.out oA oB hwA hwB).mono ?_
              rintro e u5 ⟨rfl, hrow5, hB5⟩
              have HT := Lib.hid (hB5.le (n' := i + 1) (by omega)).t0
              clear hB5 hrow5
              dsimp only
              go_wp2_with fail
              refine ⟨⟨i + 1, by omega, by simp, HT.out⟩, by simp only [intOf]; omega⟩
          · as_aux_lemma =>
              go_upto_region 25 with fail
              refine wp_region_held_drew (S := (fun w' => w'.cell? ⟨wr.heap.size, 1, none⟩ = some (.int .i64 oA) ∧ w'.cell? ⟨wr.heap.size, 2, none⟩ = some (.int .i64 oB) ∧ w'.cell? ⟨wr.heap.size, 3, none⟩ = some (.int .i64 oC) ∧ w'.cell? ⟨wr.heap.size, 4, none⟩ = some (.int .i64 oD) ∧ w'.cell? ⟨wr.heap.size, 5, none⟩ = some (.int .u32 oW))) (by kernel_rfl) ?_ (fun hH0 => ?_)
              · (try dsimp only); exact hSd
              refine wpAnyH_take (i := 0) (oi := { dst := some 165, op := Op.move (Operand.tmp 5), type := 24, pos := "law.go:75", after := #[], guard := none }) (v := ?v47) rfl (by kernel_rfl) (by kernel_rfl) (by kernel_rfl) (fun _ _ _ h => h) (Or.inl ⟨by rfl, ?hy47⟩) (by assumption) ?_
              case hy47 => intro w hSw; (try dsimp only at hSw); go_simp; (try with_reducible rfl)
              try simp only [Act.put, List.setIfInBounds_toArray, List.set_cons_zero, List.set_cons_succ]
              refine wpAnyH_take (i := 1) (oi := { dst := some 166, op := Op.fieldAddr 30 (Operand.tmp 8) 1, type := 0, pos := "law.go:75", after := #[], guard := none }) (v := ?v48) rfl (by kernel_rfl) (by kernel_rfl) (by kernel_rfl) (fun _ _ _ h => h) (Or.inl ⟨by rfl, ?hy48⟩) (by assumption) ?_
              case hy48 => intro w hSw; (try dsimp only at hSw); go_simp; (try with_reducible rfl)
              try simp only [Act.put, List.setIfInBounds_toArray, List.set_cons_zero, List.set_cons_succ]
              refine wpAnyH_take (i := 2) (oi := { dst := some 167, op := Op.load 3 (Operand.tmp 166), type := 3, pos := "law.go:75", after := #[{ on := 1, ground := Ground.data }], guard := none }) (v := ?v49) rfl (by kernel_rfl) (by kernel_rfl) (by kernel_rfl) (fun _ _ _ h => h) (Or.inl ⟨by rfl, ?hy49⟩) (by assumption) ?_
              case hy49 => intro w hSw; (try dsimp only at hSw); go_simp; (try with_reducible rfl)
              try simp only [Act.put, List.setIfInBounds_toArray, List.set_cons_zero, List.set_cons_succ]
              refine wpAnyH_take (i := 3) (oi := { dst := some 168, op := Op.fieldAddr 30 (Operand.tmp 8) 2, type := 0, pos := "law.go:75", after := #[], guard := none }) (v := ?v50) rfl (by kernel_rfl) (by kernel_rfl) (by kernel_rfl) (fun _ _ _ h => h) (Or.inl ⟨by rfl, ?hy50⟩) (by assumption) ?_
              case hy50 => intro w hSw; (try dsimp only at hSw); go_simp; (try with_reducible rfl)
              try simp only [Act.put, List.setIfInBounds_toArray, List.set_cons_zero, List.set_cons_succ]
              refine wpAnyH_take (i := 4) (oi := { dst := some 169, op := Op.load 3 (Operand.tmp 168), type := 3, pos := "law.go:75", after := #[{ on := 3, ground := Ground.data }], guard := none }) (v := ?v51) rfl (by kernel_rfl) (by kernel_rfl) (by kernel_rfl) (fun _ _ _ h => h) (Or.inl ⟨by rfl, ?hy51⟩) (by assumption) ?_
              case hy51 => intro w hSw; (try dsimp only at hSw); go_simp; (try with_reducible rfl)
              try simp only [Act.put, List.setIfInBounds_toArray, List.set_cons_zero, List.set_cons_succ]
              refine wpAnyH_take (i := 6) (oi := { dst := some 171, op := Op.move (Operand.tmp 6), type := 26, pos := "law.go:75", after := #[], guard := none }) (v := ?v52) rfl (by kernel_rfl) (by kernel_rfl) (by kernel_rfl) (fun _ _ _ h => h) (Or.inl ⟨by rfl, ?hy52⟩) (by assumption) ?_
              case hy52 => intro w hSw; (try dsimp only at hSw); go_simp; (try with_reducible rfl)
              try simp only [Act.put, List.setIfInBounds_toArray, List.set_cons_zero, List.set_cons_succ]
              refine wpAnyH_take (i := 7) (oi := { dst := some 172, op := Op.fieldAddr 30 (Operand.tmp 8) 1, type := 0, pos := "law.go:75", after := #[], guard := none }) (v := ?v53) rfl (by kernel_rfl) (by kernel_rfl) (by kernel_rfl) (fun _ _ _ h => h) (Or.inl ⟨by rfl, ?hy53⟩) (by assumption) ?_
              case hy53 => intro w hSw; (try dsimp only at hSw); go_simp; (try with_reducible rfl)
              try simp only [Act.put, List.setIfInBounds_toArray, List.set_cons_zero, List.set_cons_succ]
              refine wpAnyH_take (i := 8) (oi := { dst := some 173, op := Op.load 3 (Operand.tmp 172), type := 3, pos := "law.go:75", after := #[{ on := 7, ground := Ground.data }], guard := none }) (v := ?v54) rfl (by kernel_rfl) (by kernel_rfl) (by kernel_rfl) (fun _ _ _ h => h) (Or.inl ⟨by rfl, ?hy54⟩) (by assumption) ?_
              case hy54 => intro w hSw; (try dsimp only at hSw); go_simp; (try with_reducible rfl)
              try simp only [Act.put, List.setIfInBounds_toArray, List.set_cons_zero, List.set_cons_succ]
              refine wpAnyH_take (i := 9) (oi := { dst := some 174, op := Op.fieldAddr 30 (Operand.tmp 8) 2, type := 0, pos := "law.go:75", after := #[], guard := none }) (v := ?v55) rfl (by kernel_rfl) (by kernel_rfl) (by kernel_rfl) (fun _ _ _ h => h) (Or.inl ⟨by rfl, ?hy55⟩) (by assumption) ?_
              case hy55 => intro w hSw; (try dsimp only at hSw); go_simp; (try with_reducible rfl)
              try simp only [Act.put, List.setIfInBounds_toArray, List.set_cons_zero, List.set_cons_succ]
              refine wpAnyH_take (i := 10) (oi := { dst := some 175, op := Op.load 3 (Operand.tmp 174), type := 3, pos := "law.go:75", after := #[{ on := 9, ground := Ground.data }], guard := none }) (v := ?v56) rfl (by kernel_rfl) (by kernel_rfl) (by kernel_rfl) (fun _ _ _ h => h) (Or.inl ⟨by rfl, ?hy56⟩) (by assumption) ?_
              case hy56 => intro w hSw; (try dsimp only at hSw); go_simp; (try with_reducible rfl)
              try simp only [Act.put, List.setIfInBounds_toArray, List.set_cons_zero, List.set_cons_succ]
              refine wpAnyH_ready (rs := [5]) (by kernel_rfl) (by simp) ?_
              refine AllReadyH.cons (o := { dst := some 170, op := Op.call { callee := Callee.value (Operand.func 21), args := #[Operand.tmp 165, Operand.tmp 167, Operand.tmp 169], argTypes := #[24, 3, 3] }, type := 4, pos := "law.go:75", after := #[{ on := 0, ground := Ground.data }, { on := 2, ground := Ground.data }, { on := 4, ground := Ground.data }], guard := none }) rfl (fun K hK => ?_) AllReadyH.nil
              go_simp; go_at_call 21; with_reducible refine (st_SetClass HBd.out oA oB hwA hwB).mono ?_
              rintro e u3 ⟨b, rfl, hrow, hfol⟩
              unfold Fol at hfol
              have hS3 := ro_cells hrow
              have HFOL := Lib.hid hfol; have HROW := Lib.hid hrow
              clear hfol hrow
              dsimp only
              refine hK.out _ _ ?_ (fun hH1 => ?_)
              · (try dsimp only); first | exact hS4 | exact hS3
              clear hK K
              clear hH0
              try simp only [Act.put, List.setIfInBounds_toArray, List.set_cons_zero, List.set_cons_succ]
              refine wpAnyH_ready (rs := [11]) (by kernel_rfl) (by simp) ?_
              refine AllReadyH.cons (o := { dst := some 176, op := Op.call { callee := Callee.value (Operand.func 22), args := #[Operand.tmp 171, Operand.tmp 173, Operand.tmp 175], argTypes := #[26, 3, 3] }, type := 4, pos := "law.go:75", after := #[{ on := 6, ground := Ground.data }, { on := 8, ground := Ground.data }, { on := 10, ground := Ground.data }, { on := 5, ground := Ground.chain }], guard := none }) rfl (fun K hK => ?_) AllReadyH.nil
              go_simp; go_at_call 22; refine HFOL.out.mono ?_
              rintro e u4 ⟨rfl, hB4⟩
              have hS4 := ro_cells hB4.row
              have HB4 := Lib.hid hB4
              clear hB4
              dsimp only
              refine hK.out _ _ ?_ (fun hH2 => ?_)
              · (try dsimp only); first | exact hS4 | exact hS3
              clear hK K
              clear hH1
              try simp only [Act.put, List.setIfInBounds_toArray, List.set_cons_zero, List.set_cons_succ]
              refine wpAnyH_take (i := 12) (oi := { dst := some 177, op := Op.binOp BinOp.eql 4 (Operand.tmp 170) (Operand.tmp 176) 4, type := 4, pos := "law.go:75", after := #[{ on := 5, ground := Ground.data }, { on := 11, ground := Ground.data }], guard := none }) (v := ?v59) rfl (by kernel_rfl) (by kernel_rfl) (by kernel_rfl) (fun _ _ _ h => h) (Or.inl ⟨by rfl, ?hy59⟩) (by assumption) ?_
              case hy59 => intro w hSw; (try dsimp only at hSw); go_simp; (try with_reducible rfl)
              try simp only [Act.put, List.setIfInBounds_toArray, List.set_cons_zero, List.set_cons_succ]
              refine wpAnyH_take (i := 13) (oi := { dst := some 9, op := Op.assign (Operand.tmp 177), type := 4, pos := "law.go:75", after := #[{ on := 12, ground := Ground.data }, { on := 11, ground := Ground.chain }, { on := 0, ground := Ground.phase }, { on := 1, ground := Ground.phase }, { on := 2, ground := Ground.phase }, { on := 3, ground := Ground.phase }, { on := 4, ground := Ground.phase }, { on := 5, ground := Ground.phase }, { on := 6, ground := Ground.phase }, { on := 7, ground := Ground.phase }, { on := 8, ground := Ground.phase }, { on := 9, ground := Ground.phase }, { on := 10, ground := Ground.phase }, { on := 11, ground := Ground.phase }, { on := 12, ground := Ground.phase }], guard := none }) (v := ?v60) rfl (by kernel_rfl) (by kernel_rfl) (by kernel_rfl) (fun _ _ _ h => h) (Or.inl ⟨by rfl, ?hy60⟩) (by assumption) ?_
              case hy60 => intro w hSw; (try dsimp only at hSw); go_simp; (try with_reducible rfl)
              try simp only [Act.put, List.setIfInBounds_toArray, List.set_cons_zero, List.set_cons_succ]
              refine wpAnyH_done (by kernel_rfl) ?_ _
              obtain ⟨s1, s2, s3, s4, s5⟩ := ro_cells HB4.out.row
              go_wp2_with fail
              refine (st_same HB4.out oA oB hwA hwB).mono ?_
              rintro e u5 ⟨rfl, hrow5, hB5⟩
              have HT := Lib.hid (hB5.le (n' := i + 1) (by omega)).t0
              clear hB5 hrow5
              dsimp only
              go_wp2_with fail
              refine ⟨⟨i + 1, by omega, by simp, HT.out⟩, by simp only [intOf]; omega⟩
          · as_aux_lemma =>
              go_upto_region 13 with fail
              refine wp_region_held_drew (S := (fun w' => w'.cell? ⟨wr.heap.size, 1, none⟩ = some (.int .i64 oA) ∧ w'.cell? ⟨wr.heap.size, 2, none⟩ = some (.int .i64 oB) ∧ w'.cell? ⟨wr.heap.size, 3, none⟩ = some (.int .i64 oC) ∧ w'.cell? ⟨wr.heap.size, 4, none⟩ = some (.int .i64 oD) ∧ w'.cell? ⟨wr.heap.size, 5, none⟩ = some (.int .u32 oW))) (by kernel_rfl) ?_ (fun hH0 => ?_)
              · (try dsimp only); exact hSd
              refine wpAnyH_take (i := 0) (oi := { dst := some 46, op := Op.move (Operand.tmp 5), type := 24, pos := "law.go:77", after := #[], guard := none }) (v := ?v61) rfl (by kernel_rfl) (by kernel_rfl) (by kernel_rfl) (fun _ _ _ h => h) (Or.inl ⟨by rfl, ?hy61⟩) (by assumption) ?_
              case hy61 => intro w hSw; (try dsimp only at hSw); go_simp; (try with_reducible rfl)
              try simp only [Act.put, List.setIfInBounds_toArray, List.set_cons_zero, List.set_cons_succ]
              refine wpAnyH_take (i := 1) (oi := { dst := some 47, op := Op.fieldAddr 30 (Operand.tmp 8) 1, type := 0, pos := "law.go:77", after := #[], guard := none }) (v := ?v62) rfl (by kernel_rfl) (by kernel_rfl) (by kernel_rfl) (fun _ _ _ h => h) (Or.inl ⟨by rfl, ?hy62⟩) (by assumption) ?_
              case hy62 => intro w hSw; (try dsimp only at hSw); go_simp; (try with_reducible rfl)
              try simp only [Act.put, List.setIfInBounds_toArray, List.set_cons_zero, List.set_cons_succ]
              refine wpAnyH_take (i := 2) (oi := { dst := some 48, op := Op.load 3 (Operand.tmp 47), type := 3, pos := "law.go:77", after := #[{ on := 1, ground := Ground.data }], guard := none }) (v := ?v63) rfl (by kernel_rfl) (by kernel_rfl) (by kernel_rfl) (fun _ _ _ h => h) (Or.inl ⟨by rfl, ?hy63⟩) (by assumption) ?_
              case hy63 => intro w hSw; (try dsimp only at hSw); go_simp; (try with_reducible rfl)
              try simp only [Act.put, List.setIfInBounds_toArray, List.set_cons_zero, List.set_cons_succ]
              refine wpAnyH_take (i := 3) (oi := { dst := some 49, op := Op.fieldAddr 30 (Operand.tmp 8) 2, type := 0, pos := "law.go:77", after := #[], guard := none }) (v := ?v64) rfl (by kernel_rfl) (by kernel_rfl) (by kernel_rfl) (fun _ _ _ h => h) (Or.inl ⟨by rfl, ?hy64⟩) (by assumption) ?_
              case hy64 => intro w hSw; (try dsimp only at hSw); go_simp; (try with_reducible rfl)
              try simp only [Act.put, List.setIfInBounds_toArray, List.set_cons_zero, List.set_cons_succ]
              refine wpAnyH_take (i := 4) (oi := { dst := some 50, op := Op.load 3 (Operand.tmp 49), type := 3, pos := "law.go:77", after := #[{ on := 3, ground := Ground.data }], guard := none }) (v := ?v65) rfl (by kernel_rfl) (by kernel_rfl) (by kernel_rfl) (fun _ _ _ h => h) (Or.inl ⟨by rfl, ?hy65⟩) (by assumption) ?_
              case hy65 => intro w hSw; (try dsimp only at hSw); go_simp; (try with_reducible rfl)
              try simp only [Act.put, List.setIfInBounds_toArray, List.set_cons_zero, List.set_cons_succ]
              refine wpAnyH_take (i := 5) (oi := { dst := some 51, op := Op.fieldAddr 30 (Operand.tmp 8) 3, type := 0, pos := "law.go:77", after := #[], guard := none }) (v := ?v66) rfl (by kernel_rfl) (by kernel_rfl) (by kernel_rfl) (fun _ _ _ h => h) (Or.inl ⟨by rfl, ?hy66⟩) (by assumption) ?_
              case hy66 => intro w hSw; (try dsimp only at hSw); go_simp; (try with_reducible rfl)
              try simp only [Act.put, List.setIfInBounds_toArray, List.set_cons_zero, List.set_cons_succ]
              refine wpAnyH_take (i := 6) (oi := { dst := some 52, op := Op.load 3 (Operand.tmp 51), type := 3, pos := "law.go:77", after := #[{ on := 5, ground := Ground.data }], guard := none }) (v := ?v67) rfl (by kernel_rfl) (by kernel_rfl) (by kernel_rfl) (fun _ _ _ h => h) (Or.inl ⟨by rfl, ?hy67⟩) (by assumption) ?_
              case hy67 => intro w hSw; (try dsimp only at hSw); go_simp; (try with_reducible rfl)
              try simp only [Act.put, List.setIfInBounds_toArray, List.set_cons_zero, List.set_cons_succ]
              refine wpAnyH_take (i := 7) (oi := { dst := some 53, op := Op.binOp BinOp.rem 3 (Operand.tmp 52) (Operand.const (Value.int IntKind.i64 2)) 3, type := 3, pos := "law.go:77", after := #[{ on := 6, ground := Ground.data }], guard := none }) (v := ?v68) rfl (by kernel_rfl) (by kernel_rfl) (by kernel_rfl) (fun _ _ _ h => h) (Or.inl ⟨by rfl, ?hy68⟩) (by assumption) ?_
              case hy68 => intro w hSw; (try dsimp only at hSw); go_simp; (try with_reducible rfl)
              try simp only [Act.put, List.setIfInBounds_toArray, List.set_cons_zero, List.set_cons_succ]
              refine wpAnyH_take (i := 8) (oi := { dst := some 54, op := Op.binOp BinOp.eql 3 (Operand.tmp 53) (Operand.const (Value.int IntKind.i64 0)) 3, type := 4, pos := "law.go:77", after := #[{ on := 7, ground := Ground.data }], guard := none }) (v := ?v69) rfl (by kernel_rfl) (by kernel_rfl) (by kernel_rfl) (fun _ _ _ h => h) (Or.inl ⟨by rfl, ?hy69⟩) (by assumption) ?_
              case hy69 => intro w hSw; (try dsimp only at hSw); go_simp; (try with_reducible rfl)
              try simp only [Act.put, List.setIfInBounds_toArray, List.set_cons_zero, List.set_cons_succ]
              refine wpAnyH_take (i := 10) (oi := { dst := some 56, op := Op.move (Operand.tmp 6), type := 26, pos := "law.go:77", after := #[], guard := none }) (v := ?v70) rfl (by kernel_rfl) (by kernel_rfl) (by kernel_rfl) (fun _ _ _ h => h) (Or.inl ⟨by rfl, ?hy70⟩) (by assumption) ?_
              case hy70 => intro w hSw; (try dsimp only at hSw); go_simp; (try with_reducible rfl)
              try simp only [Act.put, List.setIfInBounds_toArray, List.set_cons_zero, List.set_cons_succ]
              refine wpAnyH_take (i := 11) (oi := { dst := some 57, op := Op.fieldAddr 30 (Operand.tmp 8) 1, type := 0, pos := "law.go:77", after := #[], guard := none }) (v := ?v71) rfl (by kernel_rfl) (by kernel_rfl) (by kernel_rfl) (fun _ _ _ h => h) (Or.inl ⟨by rfl, ?hy71⟩) (by assumption) ?_
              case hy71 => intro w hSw; (try dsimp only at hSw); go_simp; (try with_reducible rfl)
              try simp only [Act.put, List.setIfInBounds_toArray, List.set_cons_zero, List.set_cons_succ]
              refine wpAnyH_take (i := 12) (oi := { dst := some 58, op := Op.load 3 (Operand.tmp 57), type := 3, pos := "law.go:77", after := #[{ on := 11, ground := Ground.data }], guard := none }) (v := ?v72) rfl (by kernel_rfl) (by kernel_rfl) (by kernel_rfl) (fun _ _ _ h => h) (Or.inl ⟨by rfl, ?hy72⟩) (by assumption) ?_
              case hy72 => intro w hSw; (try dsimp only at hSw); go_simp; (try with_reducible rfl)
              try simp only [Act.put, List.setIfInBounds_toArray, List.set_cons_zero, List.set_cons_succ]
              refine wpAnyH_take (i := 13) (oi := { dst := some 59, op := Op.fieldAddr 30 (Operand.tmp 8) 2, type := 0, pos := "law.go:77", after := #[], guard := none }) (v := ?v73) rfl (by kernel_rfl) (by kernel_rfl) (by kernel_rfl) (fun _ _ _ h => h) (Or.inl ⟨by rfl, ?hy73⟩) (by assumption) ?_
              case hy73 => intro w hSw; (try dsimp only at hSw); go_simp; (try with_reducible rfl)
              try simp only [Act.put, List.setIfInBounds_toArray, List.set_cons_zero, List.set_cons_succ]
              refine wpAnyH_take (i := 14) (oi := { dst := some 60, op := Op.load 3 (Operand.tmp 59), type := 3, pos := "law.go:77", after := #[{ on := 13, ground := Ground.data }], guard := none }) (v := ?v74) rfl (by kernel_rfl) (by kernel_rfl) (by kernel_rfl) (fun _ _ _ h => h) (Or.inl ⟨by rfl, ?hy74⟩) (by assumption) ?_
              case hy74 => intro w hSw; (try dsimp only at hSw); go_simp; (try with_reducible rfl)
              try simp only [Act.put, List.setIfInBounds_toArray, List.set_cons_zero, List.set_cons_succ]
              refine wpAnyH_take (i := 15) (oi := { dst := some 61, op := Op.fieldAddr 30 (Operand.tmp 8) 3, type := 0, pos := "law.go:77", after := #[], guard := none }) (v := ?v75) rfl (by kernel_rfl) (by kernel_rfl) (by kernel_rfl) (fun _ _ _ h => h) (Or.inl ⟨by rfl, ?hy75⟩) (by assumption) ?_
              case hy75 => intro w hSw; (try dsimp only at hSw); go_simp; (try with_reducible rfl)
              try simp only [Act.put, List.setIfInBounds_toArray, List.set_cons_zero, List.set_cons_succ]
              refine wpAnyH_take (i := 16) (oi := { dst := some 62, op := Op.load 3 (Operand.tmp 61), type := 3, pos := "law.go:77", after := #[{ on := 15, ground := Ground.data }], guard := none }) (v := ?v76) rfl (by kernel_rfl) (by kernel_rfl) (by kernel_rfl) (fun _ _ _ h => h) (Or.inl ⟨by rfl, ?hy76⟩) (by assumption) ?_
              case hy76 => intro w hSw; (try dsimp only at hSw); go_simp; (try with_reducible rfl)
              try simp only [Act.put, List.setIfInBounds_toArray, List.set_cons_zero, List.set_cons_succ]
              refine wpAnyH_take (i := 17) (oi := { dst := some 63, op := Op.binOp BinOp.rem 3 (Operand.tmp 62) (Operand.const (Value.int IntKind.i64 2)) 3, type := 3, pos := "law.go:77", after := #[{ on := 16, ground := Ground.data }], guard := none }) (v := ?v77) rfl (by kernel_rfl) (by kernel_rfl) (by kernel_rfl) (fun _ _ _ h => h) (Or.inl ⟨by rfl, ?hy77⟩) (by assumption) ?_
              case hy77 => intro w hSw; (try dsimp only at hSw); go_simp; (try with_reducible rfl)
              try simp only [Act.put, List.setIfInBounds_toArray, List.set_cons_zero, List.set_cons_succ]
              refine wpAnyH_take (i := 18) (oi := { dst := some 64, op := Op.binOp BinOp.eql 3 (Operand.tmp 63) (Operand.const (Value.int IntKind.i64 0)) 3, type := 4, pos := "law.go:77", after := #[{ on := 17, ground := Ground.data }], guard := none }) (v := ?v78) rfl (by kernel_rfl) (by kernel_rfl) (by kernel_rfl) (fun _ _ _ h => h) (Or.inl ⟨by rfl, ?hy78⟩) (by assumption) ?_
              case hy78 => intro w hSw; (try dsimp only at hSw); go_simp; (try with_reducible rfl)
              try simp only [Act.put, List.setIfInBounds_toArray, List.set_cons_zero, List.set_cons_succ]
              refine wpAnyH_ready (rs := [9]) (by kernel_rfl) (by simp) ?_
              refine AllReadyH.cons (o := { dst := some 55, op := Op.call { callee := Callee.value (Operand.func 23), args := #[Operand.tmp 46, Operand.tmp 48, Operand.tmp 50, Operand.tmp 54], argTypes := #[24, 3, 3, 4] }, type := 4, pos := "law.go:77", after := #[{ on := 0, ground := Ground.data }, { on := 2, ground := Ground.data }, { on := 4, ground := Ground.data }, { on := 8, ground := Ground.data }], guard := none }) rfl (fun K hK => ?_) AllReadyH.nil
              go_simp; go_at_call 23; with_reducible refine (st_SetMark HBd.out oA oB _ hwA hwB).mono ?_
              rintro e u3 ⟨b, rfl, hrow, hfol⟩
              unfold Fol at hfol
              have hS3 := ro_cells hrow
              have HFOL := Lib.hid hfol; have HROW := Lib.hid hrow
              clear hfol hrow
              dsimp only
              refine hK.out _ _ ?_ (fun hH1 => ?_)
              · (try dsimp only); first | exact hS4 | exact hS3
              clear hK K
              clear hH0
              try simp only [Act.put, List.setIfInBounds_toArray, List.set_cons_zero, List.set_cons_succ]
              refine wpAnyH_ready (rs := [19]) (by kernel_rfl) (by simp) ?_
              refine AllReadyH.cons (o := { dst := some 65, op := Op.call { callee := Callee.value (Operand.func 24), args := #[Operand.tmp 56, Operand.tmp 58, Operand.tmp 60, Operand.tmp 64], argTypes := #[26, 3, 3, 4] }, type := 4, pos := "law.go:77", after := #[{ on := 10, ground := Ground.data }, { on := 12, ground := Ground.data }, { on := 14, ground := Ground.data }, { on := 18, ground := Ground.data }, { on := 9, ground := Ground.chain }], guard := none }) rfl (fun K hK => ?_) AllReadyH.nil
              go_simp; go_at_call 24; refine HFOL.out.mono ?_
              rintro e u4 ⟨rfl, hB4⟩
              have hS4 := ro_cells hB4.row
              have HB4 := Lib.hid hB4
              clear hB4
              dsimp only
              refine hK.out _ _ ?_ (fun hH2 => ?_)
              · (try dsimp only); first | exact hS4 | exact hS3
              clear hK K
              clear hH1
              try simp only [Act.put, List.setIfInBounds_toArray, List.set_cons_zero, List.set_cons_succ]
              refine wpAnyH_take (i := 20) (oi := { dst := some 66, op := Op.binOp BinOp.eql 4 (Operand.tmp 55) (Operand.tmp 65) 4, type := 4, pos := "law.go:77", after := #[{ on := 9, ground := Ground.data }, { on := 19, ground := Ground.data }], guard := none }) (v := ?v81) rfl (by kernel_rfl) (by kernel_rfl) (by kernel_rfl) (fun _ _ _ h => h) (Or.inl ⟨by rfl, ?hy81⟩) (by assumption) ?_
              case hy81 => intro w hSw; (try dsimp only at hSw); go_simp; (try with_reducible rfl)
              try simp only [Act.put, List.setIfInBounds_toArray, List.set_cons_zero, List.set_cons_succ]
              refine wpAnyH_take (i := 21) (oi := { dst := some 9, op := Op.assign (Operand.tmp 66), type := 4, pos := "law.go:77", after := #[{ on := 20, ground := Ground.data }, { on := 19, ground := Ground.chain }, { on := 0, ground := Ground.phase }, { on := 1, ground := Ground.phase }, { on := 2, ground := Ground.phase }, { on := 3, ground := Ground.phase }, { on := 4, ground := Ground.phase }, { on := 5, ground := Ground.phase }, { on := 6, ground := Ground.phase }, { on := 7, ground := Ground.phase }, { on := 8, ground := Ground.phase }, { on := 9, ground := Ground.phase }, { on := 10, ground := Ground.phase }, { on := 11, ground := Ground.phase }, { on := 12, ground := Ground.phase }, { on := 13, ground := Ground.phase }, { on := 14, ground := Ground.phase }, { on := 15, ground := Ground.phase }, { on := 16, ground := Ground.phase }, { on := 17, ground := Ground.phase }, { on := 18, ground := Ground.phase }, { on := 19, ground := Ground.phase }, { on := 20, ground := Ground.phase }], guard := none }) (v := ?v82) rfl (by kernel_rfl) (by kernel_rfl) (by kernel_rfl) (fun _ _ _ h => h) (Or.inl ⟨by rfl, ?hy82⟩) (by assumption) ?_
              case hy82 => intro w hSw; (try dsimp only at hSw); go_simp; (try with_reducible rfl)
              try simp only [Act.put, List.setIfInBounds_toArray, List.set_cons_zero, List.set_cons_succ]
              refine wpAnyH_done (by kernel_rfl) ?_ _
              obtain ⟨s1, s2, s3, s4, s5⟩ := ro_cells HB4.out.row
              go_wp2_with fail
              refine (st_same HB4.out oA oB hwA hwB).mono ?_
              rintro e u5 ⟨rfl, hrow5, hB5⟩
              have HT := Lib.hid (hB5.le (n' := i + 1) (by omega)).t0
              clear hB5 hrow5
              dsimp only
              go_wp2_with fail
              refine ⟨⟨i + 1, by omega, by simp, HT.out⟩, by simp only [intOf]; omega⟩
        · have HT := Lib.hid hB
          clear hB HB0
          go_upto_region 8 with fail
          go_cut [36] (fun s36 wx => s36 = .bool false ∧ wr = wx)
          case first =>
            by_cases c1 : i < len1
            · have t1 : (i : Int) < (len1 : Int) := by omega
              have t2 : ¬ (i : Int) < 30 := by omega
              go_wp2_with fail
              go_meet
              exact ⟨rfl, rfl⟩
            · have t1 : ¬ (i : Int) < (len1 : Int) := by omega
              go_wp2_with fail
              go_meet
              exact ⟨by first | rfl | (congr 1; simp; omega), rfl⟩
          case rest =>
            obtain ⟨rfl, rfl⟩ := hcut
            obtain ⟨X, ws, l, bg, lv, obs, rfl, hT, hK, hn⟩ := HT.out
            have HK := Lib.hid hK
            have HT0 := Lib.hid hT
            clear HT hT hK
            go_wp2_with fail
            go_loopw [15] (fun v15 wr => ∃ i2 : Nat, i2 ≤ obs.length ∧ v15 = .int .i64 i2 ∧ T0 w wr X ws l bg h r g lv obs l) (fun v15 wr => obs.length - (intOf v15).toNat)
            case atStart => exact ⟨0, Nat.zero_le _, rfl, HT0.out⟩
            case round =>
              obtain ⟨i2, hi2, rfl, hT⟩ := hrel
              obtain ⟨c0, -⟩ := hT.rf.c0
              obtain ⟨la, cap, hlv, hcap, hc⟩ := own_obs hT.rf.ls
              rw [hlv] at c0
              have hfew := hT.rf.few
              have HT := Lib.hid hT; have HC := Lib.hid hc
              clear hT hc hlv HT0
              by_cases hlt : i2 < obs.length
              · have t1 : (i2 : Int) < (obs.length : Int) := by omega
                have t0 : (0 : Int) ≤ (i2 : Int) := by omega
                obtain ⟨p, hp⟩ : ∃ p, obs[i2]? = some p := ⟨_, List.getElem?_eq_getElem hlt⟩
                obtain ⟨gl, rfl, hcell⟩ := HC.out i2 p hp
                have c1 := hcell 0 _ (by omega) rfl
                rw [Nat.add_zero] at c1
                have hpos := HT.out.rf.hi p (List.mem_of_getElem? hp)
                have hsm := same_any HT.out.hp HT.out.rf HK.out p.pos 0 (WalkArith.wf_i64 ⟨by omega, by omega⟩) (by decide)
                clear hcell hp hpos
                go_wp2_with fail
                refine hsm.mono ?_
                rintro e u5 ⟨rfl, hb5⟩
                have HT2 := Lib.hid (HT.out.more hb5)
                clear hb5 hsm
                dsimp only
                go_wp2_with fail
                refine ⟨⟨i2 + 1, by omega, by simp, HT2.out⟩, by simp only [intOf]; omega⟩
              · obtain rfl : i2 = obs.length := by omega
                go_wp2_with fail
                refine (awake_any wr).mono ?_
                rintro e u5 ⟨rfl, hb5⟩
                have hbl := HT.out.bel
                have HF := Lib.hid (hbl.trans (hb5.mono hbl.size))
                clear hb5 hbl
                dsimp only
                go_wp2_with fail
                go_ret
                exact ⟨rfl, HF.out⟩

set_option maxRecDepth 100000 in
theorem lifted (os : Os) (started : os.Started) (H : Type) (enc : TypeId × Value → H) :
    ReturnsInHanded {} Try.checked os 3 .any (Rows.heapPlaysSpec.pre6 enc Try.prog Try.f3 Rows.heapPlaysRow.domain false) (Rows.heapPlaysSpec.post enc Try.prog Try.f3 false true false false) := by
  refine returnsInHanded_of_change (C := Try.checked) own started (by kernel_rfl) Try.func3
    (ChangeSpec.witness6 (enc := enc) (C := Try.checked) false ⟨#[], #[.int .i64 0, .slice none 0 0], []⟩ 8 (by kernel_rfl) (by kernel_rfl) (by kernel_rfl) (by kernel_rfl)) ?_
  intro W base args ds gs before hval0 hW hcnd _
  have hval : ∀ (j : Nat) t v, Try.f3.params[j]? = some t → args[j]? = some v → Value.okWide Try.prog W .any base t v := hval0
  have hW' := hW
  obtain ⟨p, q, hA0, hV, rfl, hfz, hnd⟩ := hW
  have hA : DataW.TrodAll enc Try.prog W 0 (fun _ => true) true Try.f3.params.toList args.toList ds p := hA0
  rw [Try.params3] at hA hval
  obtain ⟨v0, vs0, d0, ds0, p0, q0, hargs, rfl, rfl, h0, r0⟩ := trodAll_cons hA
  obtain ⟨v1, vs1, d1, ds1, p1, q1, rfl, rfl, rfl, h1, r1⟩ := trodAll_cons r0
  obtain ⟨rfl, rfl, rfl⟩ := trodAll_nil r1
  obtain rfl : args = #[v0, v1] := by cases args; simp_all
  obtain ⟨rfl, rfl⟩ := trodVars_none hV
  obtain ⟨a0, rfl, rfl, rfl, w0⟩ := open_int Try.underlying3 (hval 0 3 v0 rfl rfl) h0
  obtain ⟨a1, len1, cap1, rfl⟩ := okWide_slice Try.underlying22 (hval 1 22 v1 rfl rfl)
  have k1 := h1
  have lt1 : ∀ x ∈ p1, x.block < W.heap.size := by obtain ⟨m, hm⟩ := k1; exact DataW.trod_lt m _ _ _ hm
  obtain ⟨z1, w1⟩ : ∃ z, IsRecs W 6 (fun j => if j = 0 then .i64 else if j = 1 then .i64 else if j = 2 then .i64 else if j = 3 then .i64 else if j = 4 then .i64 else .u32) a1 len1 cap1 z := by
    obtain ⟨fuel, hf⟩ := h1
    rcases open_recs (fun j => if j = 0 then .i64 else if j = 1 then .i64 else if j = 2 then .i64 else if j = 3 then .i64 else if j = 4 then .i64 else .u32) Try.underlying22 Try.underlying30 (by kernel_rfl) (by kernel_rfl) (by
      intro j f hf
      match j, hf with
      | 0, hf => (have hf' := Option.some.inj hf; rw [← hf']; rfl)
      | 1, hf => (have hf' := Option.some.inj hf; rw [← hf']; rfl)
      | 2, hf => (have hf' := Option.some.inj hf; rw [← hf']; rfl)
      | 3, hf => (have hf' := Option.some.inj hf; rw [← hf']; rfl)
      | 4, hf => (have hf' := Option.some.inj hf; rw [← hf']; rfl)
      | 5, hf => (have hf' := Option.some.inj hf; rw [← hf']; rfl)
      | j + 6, hf => simp at hf) hf with hcs | ⟨x, l, c, z, hcs, hl, hm, hcell⟩
    · simp [Value.cells] at hcs
      obtain ⟨rfl, rfl, rfl⟩ := hcs
      exact ⟨fun _ _ => 0, .inl rfl⟩
    · simp [Value.cells] at hcs
      obtain ⟨rfl, rfl, rfl⟩ := hcs
      rcases Nat.eq_zero_or_pos len1 with h0 | h0
      · exact ⟨z, .inl h0⟩
      · exact ⟨z, isRecs (by decide) hl hm hcell h0⟩
  clear hA0 hval0
  refine (walk a0 a1 len1 cap1 z1 W w0 w1).mono fun e W' ⟨he, bel⟩ => ?_
  subst he
  exact ⟨_, rfl, _, _, _, [], _, [], hW', trodAll_mk1 (shut_bool Try.underlying4 _), (trodAll_cons_mk (shut_int Try.underlying3 w0) (trodAll_cons_mk (Below.trod laidOut (by kernel_rfl) (of_decide_eq_true (by kernel_rfl)) k1 bel lt1) trodAll_mk0)), rfl, bel.frame _, fun h => by cases h⟩

theorem over : Rows.heapPlaysRow.holds Try.pinned (OpenSpec.ofChange Rows.heapPlaysSpec) :=
  OpenClaim.holds_of_wide 3 Try.f3 rfl rfl rfl rfl rfl rfl rfl ⟨rfl, rfl, rfl, rfl, rfl⟩ rfl rfl rfl rfl rfl (by kernel_rfl) Try.func3 (by kernel_rfl)
    (of_decide_eq_true (by kernel_rfl)) (by unfold Func.isWrapper; first | (rw [if_pos (by decide +kernel)]; kernel_rfl) | (rw [if_neg (by decide +kernel)]; exact ⟨rfl, rfl⟩))
    (fun os started H enc _ => lifted os started H enc)

/-- THE STATEMENT -/
theorem proved : Rows.HeapPlaysSaid := over
#print axioms proved
end Go.Proofs.Ytljgnmbjidkjnaa.heapPlays
