/- The law FrameHomes returns true at every input, and leaves its arguments as they were. No condition. -/
import Derived.Test.YtglilfjkjoogbaaRows
import Derived.WalkKit
import Derived.ProofKit
import Derived.OpenShut
import Derived.Test.YtglilfjkjoogbaaHm3
import Derived.Deep.RegionWith
import Derived.Deep.DeepCutAuto
import Derived.ShutString
import Derived.ChangeOld
import Derived.Below
namespace Go.Proofs.Ytglilfjkjoogbaa.frameHomes
open Go.ChangeShapes Go.WideShapes Go.ChangeAt Go.RowKit
open Go.ChangeMaps (open_string shut_string)

open Go.Proofs.Ytglilfjkjoogbaa.Gen Go.Proofs.Ytglilfjkjoogbaa.Base Go.Proofs.Ytglilfjkjoogbaa.Obj
set_option linter.unusedVariables false

theorem own : ownKnob Try.prog.godebug = none := by kernel_rfl
theorem laidOut : laidOutB Try.prog = true := by kernel_rfl
def idsL (n : Nat) : List Int := (List.range n).map fun a => (fi a : Int)
theorem idsL_len (n : Nat) : (idsL n).length = n := by simp [idsL]
theorem idsL_succ (n : Nat) : idsL (n + 1) = idsL n ++ [(fi n : Int)] := by simp [idsL, List.range_succ]
theorem idsL_at {n i : Nat} (h : i < (idsL n).length) : (idsL n)[i] = (fi i : Int) := by simp [idsL]
/-- The temps of the frames before this one are set, and so many of its own. -/
def Fp (kk : Nat) (F : Nat → List V) (i j : Nat) : Prop := ∀ a b, a < kk → b < 4 → (a < i ∨ (a = i ∧ b < j)) → elV (F a) ((6 + b : Nat) : Int) = (false, 10 * (a : Int) + (b : Int))
theorem Fp.step {kk i j : Nat} {F : Nat → List V} (h : Fp kk F i j) (hl : (F i).length = 22) (hj : j < 4) : Fp kk (fun a => if a = i then (F i).set (6 + j) (false, 10 * (i : Int) + (j : Int)) else F a) i (j + 1) := by
  intro a b ha hb hc
  by_cases c : a = i
  · subst c
    dsimp only
    rw [if_pos rfl]
    unfold elV
    rw [if_pos (by omega), Int.toNat_natCast]
    by_cases d : b = j
    · subst d
      rw [List.getElem?_set_self (by omega)]; rfl
    · rw [List.getElem?_set_ne (by omega)]
      have := h a b ha hb (.inr ⟨rfl, by omega⟩)
      unfold elV at this
      rw [if_pos (by omega), Int.toNat_natCast] at this
      exact this
  · dsimp only
    rw [if_neg c]
    exact h a b ha hb (.inl (by omega))
theorem Fp.next {kk i : Nat} {F : Nat → List V} (h : Fp kk F i 4) : Fp kk F (i + 1) 0 := fun a b ha hb hc => h a b ha hb (by omega)

set_option maxRecDepth 100000 in
set_option maxHeartbeats 16000000 in
theorem walk (a0 : Int) (a1 : Int) (a2 : Int) (w : World) (w0 : (Lit.int .i64 a0).wf = true) (w1 : (Lit.int .i64 a1).wf = true) (w2 : (Lit.int .i64 a2).wf = true) :
    Calls Try.prog 4 #[.int .i64 a0, .int .i64 a1, .int .i64 a2] w fun e w' => e = .returned (.bool true) ∧ Below w.heap.size w w' := by
  have hz := zV
  have HFS := Lib.hid (fs_First w)
  have hp0 := Int.emod_nonneg a0 (show (9 : Int) ≠ 0 by omega)
  have hp1 := Int.emod_lt_of_pos a0 (show (0 : Int) < 9 by omega)
  obtain ⟨kk, hkk⟩ : ∃ kk : Nat, a0 % 9 = (kk : Int) - 1 := ⟨(a0 % 9).toNat + 1, by omega⟩
  have hpl := place_any a0 9 (by omega) (by omega) w0
  rw [hkk] at hpl
  have hk1 : 1 ≤ kk ∧ kk ≤ 9 := by omega
  have ho0 := Int.emod_nonneg a1 (show (11 : Int) ≠ 0 by omega)
  have ho1 := Int.emod_lt_of_pos a1 (show (0 : Int) < 11 by omega)
  obtain ⟨o, hoo⟩ : ∃ o : Nat, a1 % 11 = (o : Int) := ⟨(a1 % 11).toNat, by omega⟩
  have hpo := place_any a1 11 (by omega) (by omega) w1
  rw [hoo] at hpo
  have ho : o ≤ 10 := by omega
  have ht0 := Int.emod_nonneg a2 (show (4 : Int) ≠ 0 by omega)
  have ht1 := Int.emod_lt_of_pos a2 (show (0 : Int) < 4 by omega)
  obtain ⟨t, htt⟩ : ∃ t : Nat, a2 % 4 = (t : Int) := ⟨(a2 % 4).toNat, by omega⟩
  have hpt := place_any a2 4 (by omega) (by omega) w2
  rw [htt] at hpt
  have ht : t ≤ 3 := by omega
  have HPO := Lib.hid hpo; have HPT := Lib.hid hpt
  clear hp0 hp1 hkk ho0 ho1 hoo ht0 ht1 htt w0 w1 w2 hpo hpt
  go_enter Try.func4, Try.ntmps4
  go_upto_region 1 with fail
  go_cut [7] (fun s7 wx => s7 = .int .i64 (kk : Int) ∧ w = wx)
  case first =>
    go_wp2_with (go_at_call 9; (with_reducible refine (hpl _).mono ?_); rintro e u0 ⟨rfl, rfl⟩; dsimp only)
    go_meet
    exact ⟨by congr 1; omega, rfl⟩
  case rest =>
    obtain ⟨rfl, rfl⟩ := hcut
    clear hpl
    go_wp2_with (first
      | (go_at_call 6; (with_reducible refine HFS.out.mono ?_); rintro e u1 ⟨la, lc, L, rfl, hD, hL⟩; have HLB := Lib.hid (LB.of hD 34 23); have HL := Lib.hid hL; clear hD hL; dsimp only)
      | (go_at_call 7; (with_reducible refine (law_Method HLB.out HL.out _).mono ?_); rintro e u2 ⟨rfl, a, c, L', hB, hL'⟩; have HLB2 := Lib.hid hB; have HL2 := Lib.hid hL'; clear hB hL'; dsimp only)
      | (go_at_call 18; (with_reducible refine (nl_Num _ _).mono ?_); rintro e u3 ⟨rfl, hb3⟩; have HLB3 := Lib.hid (HLB2.out.more hb3); clear hb3; dsimp only)
      | (go_at_call 17; (with_reducible refine (law_Start HLB3.out HL2.out).mono ?_); rintro e u4 ⟨rfl, a4, c4, L4, hB, hL4⟩; have HLB4 := Lib.hid hB; have HL4 := Lib.hid hL4; clear hB hL4; dsimp only)
      | (refine wpList_load_row rfl 31 (Operand.tmp 49) (by rfl) u1.heap.size (by rfl) _ _ (0, 0) _ HLB4.out.row Try.underlying31 rfl info13 ?_)
      | (go_at_call 8; (with_reducible refine (law_NewH HLB4.out HL4.out).mono ?_); rintro e u5 ⟨m, li, lv, dv, M, rfl, hb5, hN⟩; have HP := Lib.hid (Hp.start hN HL4.out); have HS := Lib.hid (Hst.lit hN.me (HLB4.out.bel.trans (hb5.mono HLB4.out.bel.size)) (fun k hk => Nat.le_trans HLB4.out.bel.size (hN.new k hk)) 25); clear hN hb5; dsimp only))
    clear HFS HLB HL HLB2 HL2 HLB3 HLB4 HL4
    go_loopw [11, 14, 15] (fun v11 v14 v15 wr => ∃ (i : Nat) (lv dv : Value) (M : MS) (F : Nat → List V), 1 ≤ i ∧ i ≤ kk ∧ v11 = .int .i64 (fi (i - 1) : Int) ∧ v15 = .int .i64 (i : Int) ∧ Hst w wr m li lv dv M v14 (idsL i) ∧ Hp M i F) (fun v11 v14 v15 wr => kk - (intOf v15).toNat)
    case atStart => exact ⟨1, lv, dv, M, fun _ => frF, by omega, by omega, rfl, rfl, HS.out, HP.out⟩
    case round =>
      clear HS HP
      obtain ⟨i, lv, dv, M, F, hi1, hik, rfl, rfl, hS, hP⟩ := hrel
      by_cases hlt : i < kk
      · have t1 : (i : Int) < (kk : Int) := by omega
        obtain ⟨ai, ci, hv, hci, -⟩ := hS.cells
        rw [idsL_len] at hv hci
        subst hv
        obtain ⟨sp, hfp⟩ := hP.fr (i - 1) (by omega)
        have HQ := Lib.hid hfp.has
        have HLK := Lib.hid hfp.isF.like
        have HST := Lib.hid (fun (fv fv2 : Value) => hP.step hi1 fv fv2)
        have HA0 := Lib.hid hS; have HP := Lib.hid hP
        have hi9 : i ≤ 9 := by omega
        clear hS hP hfp
        go_wp2_with (first
          | (go_at_call 19; (with_reducible refine (hm_Make HA0.out.me HP.out (by omega)).mono ?_); rintro e v1 ⟨rfl, lv', dv', fv, hM, hN⟩; have HA1 := Lib.hid (HA0.out.nx hM hN); clear hM hN; dsimp only)
          | (go_at_call 21; (with_reducible refine (nl_Obj _ _).mono ?_); rintro e v2 ⟨rfl, hb2⟩; have HA2 := Lib.hid (HA1.out.below hb2); clear hb2; dsimp only)
          | (go_at_call 20; (with_reducible refine (hm_Set0 HP.out HQ.out HA2.out.me).mono ?_); rintro e s0 ⟨rfl, hM, hN⟩; have HA3 := Lib.hid (HA2.out.nx hM hN); clear hM hN; dsimp only)
          | (go_at_call 20; (with_reducible refine (hm_Set1 HP.out HA3.out.me).mono ?_); rintro e s1 ⟨rfl, hM, hN⟩; have HA4 := Lib.hid (HA3.out.nx hM hN); clear hM hN; dsimp only)
          | (go_at_call 20; (with_reducible refine (hm_Set2 HP.out HA4.out.me).mono ?_); rintro e s2 ⟨rfl, hM, hN⟩; have HA5 := Lib.hid (HA4.out.nx hM hN); clear hM hN; dsimp only)
          | (go_at_call 20; (with_reducible refine (hm_Set3 HP.out HA5.out.me).mono ?_); rintro e s3 ⟨rfl, hM, hN⟩; have HA6 := Lib.hid (HA5.out.nx hM hN); clear hM hN; dsimp only)
          | (go_at_call 22; (with_reducible refine (hm_IsB HP.out HLK.out HA6.out.me).mono ?_); rintro e v7 ⟨rfl, hb7⟩; have HA7 := Lib.hid (HA6.out.below hb7); clear hb7; dsimp only)
          | (go_at_call 10; (with_reducible refine (hm_New HP.out hi1 (by omega) HA7.out.me).mono ?_); rintro e v8 ⟨rfl, lv9, dv9, fv2, hM, hN⟩; have HA8 := Lib.hid (HA7.out.nx hM hN); clear hM hN; dsimp only)
          | (at_builtin; go_loud (refine wpl_appI rfl (.tmp 118) (.tmp 120) (by rfl) (.slice ai i ci) i (ints (idsL i)) (by rfl) (World.ownsRow.alloc (by have := HA8.out.ins; rw [idsL_len] at this; exact this) _) (by have := HA8.out.bel.size; simp; omega) ⟨_, 0, none⟩ 1 1 (by rfl) [.int .i64 (fi i : Int)] rfl (fun j u hu => by rw [Addr.add_lit, Nat.zero_add]; exact new_cell _ #[.int .i64 (fi i : Int)] _ (by simpa using hu)) (fun u hu => by obtain rfl := List.mem_singleton.1 hu; rfl) (by omega) ?_)))
        intro v10 u10 own10 g10 e10
        have HA10 := Lib.hid (HA8.out.app (by rw [idsL_len]; exact own10) g10 (by rw [World.size_alloc]; exact e10))
        clear own10 g10 e10
        go_wp2_with fail
        exact ⟨⟨i + 1, lv9, dv9, _, _, by omega, by omega, rfl, by simp, by rw [idsL_succ]; exact HA10.out, HST.out fv fv2⟩, by simp only [intOf]; omega⟩
      · obtain rfl : i = kk := by omega
        clear hi1 hik hlt
        obtain ⟨ai, ci, hv, hci, hcc⟩ := hS.cells
        obtain ⟨g, rfl, -, -⟩ := hcc 0 (by rw [idsL_len]; omega)
        rw [idsL_len] at hv
        subst hv
        clear hcc hci
        have HCA : Hid (∀ u M' a, a < i → Hst w u m li lv dv M' (.slice (some ⟨g, 0, none⟩) i ci) (idsL i) → u.cell? ⟨g, a, none⟩ = some (.int .i64 (fi a : Int))) := Lib.hid fun u M' a ha h => by
          have h' : Hst w u m li lv dv M' (.slice (some ⟨g, 0, none⟩) (idsL i).length ci) (idsL i) := by rw [idsL_len]; exact h
          have := h'.cellAt (i := a) (by rw [idsL_len]; exact ha)
          rw [idsL_at] at this
          exact this
        have HS := Lib.hid hS; have HP := Lib.hid hP
        clear hS hP
        go_wp2_with fail
        go_loopw [20] (fun v20 wr => ∃ (a : Nat) (M : MS) (F : Nat → List V), a ≤ i ∧ v20 = .int .i64 (a : Int) ∧ Hst w wr m li lv dv M (.slice (some ⟨g, 0, none⟩) i ci) (idsL i) ∧ Hp M i F ∧ Fp i F a 0) (fun v20 wr => i - (intOf v20).toNat)
        case atStart => exact ⟨0, M, F, by omega, rfl, HS.out, HP.out, fun a b ha hb hc => by omega⟩
        case round =>
          clear HS HP
          obtain ⟨a, M, F, ha, rfl, hS, hP, hF⟩ := hrel
          by_cases hlt : a < i
          · have t1 : (a : Int) < (i : Int) := by omega
            have t0 : (0 : Int) ≤ (a : Int) := by omega
            have HS := Lib.hid hS; have HP := Lib.hid hP; have HF := Lib.hid hF
            clear hS hP hF
            go_wp2_with fail
            go_loopw [21] (fun v21 wr => ∃ (j : Nat) (M : MS) (F : Nat → List V), j ≤ 4 ∧ v21 = .int .i64 (j : Int) ∧ Hst w wr m li lv dv M (.slice (some ⟨g, 0, none⟩) i ci) (idsL i) ∧ Hp M i F ∧ Fp i F a j) (fun v21 wr => 4 - (intOf v21).toNat)
            case atStart => exact ⟨0, M, F, by omega, rfl, HS.out, HP.out, HF.out⟩
            case round =>
              clear HS HP HF
              obtain ⟨j, M, F, hj, rfl, hS, hP, hF⟩ := hrel
              by_cases hlj : j < 4
              · have t2 : (j : Int) < 4 := by omega
                have cg := HCA.out _ _ a hlt hS
                have hft : fits (10 * (a : Int) + (j : Int)) = true := by unfold fits; exact decide_eq_true (by omega)
                obtain ⟨sn, hfr⟩ := hP.fr a hlt
                have HSP := Lib.hid (hF.step hfr.len hlj)
                have HPP := Lib.hid (hP.put hlt (show j < 16 by omega) (false, 10 * (a : Int) + (j : Int)))
                have HSE := Lib.hid (hm_SetTemp hS.me hP hlt (show j < 16 by omega) (10 * (a : Int) + (j : Int)) hft)
                have HS := Lib.hid hS
                clear hS hP hF hfr hft
                go_wp2_with (go_at_call 23; (with_reducible refine HSE.out.mono ?_); rintro e x1 ⟨rfl, hM, hN⟩; have HS1 := Lib.hid (HS.out.nx hM hN); clear hM hN; dsimp only)
                exact ⟨⟨j + 1, _, _, by omega, by simp, HS1.out, HPP.out, HSP.out⟩, by simp only [intOf]; omega⟩
              · obtain rfl : j = 4 := by omega
                have HS := Lib.hid hS; have HP := Lib.hid hP; have HF := Lib.hid hF.next
                clear hS hP hF
                go_wp2_with fail
                exact ⟨⟨a + 1, M, F, by omega, by simp, HS.out, HP.out, HF.out⟩, by simp only [intOf]; omega⟩
          · obtain rfl : a = i := by omega
            clear ha hlt
            have hk9 : a ≤ 9 := hk1.2
            by_cases hin : o < a ∧ o ≤ 8
            · obtain ⟨hin1, hin2⟩ := hin
              have hx := hF (a - 1 - o) t (by omega) (by omega) (.inl (by omega))
              rw [show ((a - 1 - o : Nat) : Int) = (a : Int) - 1 - (o : Int) by omega] at hx
              have t5 : (o : Int) < (a : Int) := by omega
              have t6 : (o : Int) ≤ 8 := by omega
              have HT1 := Lib.hid (hm_Temp hS.me hP hk1.1 hin2 hin1 (show t < 16 by omega) hx)
              have HAL := Lib.hid fun (u : World) (o : Obj) => (Below.refl u.heap.size u).alloc (Nat.le_refl _) o
              have HS := Lib.hid hS; have HP := Lib.hid hP
              clear hS hP hF
              go_wp2_with (first
                | (go_at_call 9; (with_reducible refine (HPO.out _).mono ?_); rintro e p1 ⟨rfl, rfl⟩; dsimp only)
                | (go_at_call 9; (with_reducible refine (HPT.out _).mono ?_); rintro e p2 ⟨rfl, rfl⟩; dsimp only)
                | (go_at_call 14; (with_reducible refine HT1.out.mono ?_); rintro e x1 ⟨rfl, hb1⟩; have HX1 := Lib.hid ((HS.out.below hb1).below (HAL.out x1 (.cells #[.bool false, .int .i64 (10 * ((a : Int) - 1 - (o : Int)) + (t : Int))] 44))); clear hb1; dsimp only)
                | (refine wpList_store_row rfl 44 (Operand.tmp 24) (Operand.tmp 154) rfl x1.heap.size _ rfl rfl _ _ (heap_alloc_new x1 _) info2 (by rfl) (by simp [Value.oneCell']) ?_; rw [World.setRow_alloc_new])
                | (go_at_call 14; (with_reducible refine (hm_Temp16 HX1.out.me HP.out hk1.1).mono ?_); rintro e x2 ⟨rfl, hb2⟩; have HX2 := Lib.hid ((HX1.out.below hb2).below (HAL.out x2 (.cells #[.bool false, .int .i64 0] 44))); have HR2 := Lib.hid ((heap_alloc_old x2 (.cells #[.bool false, .int .i64 0] 44) (Nat.lt_of_lt_of_le (by simp) hb2.size)).trans ((hb2.block x1.heap.size (by simp)).trans (heap_alloc_new x1 (.cells #[.bool false, .int .i64 (10 * ((a : Int) - 1 - (o : Int)) + (t : Int))] 44)))); clear hb2; dsimp only)
                | (refine wpList_store_row rfl 44 (Operand.tmp 26) (Operand.tmp 160) rfl x2.heap.size _ rfl rfl _ _ (heap_alloc_new x2 _) info2 (by rfl) (by simp [Value.oneCell']) ?_; rw [World.setRow_alloc_new])
                | (go_at_call 14; (with_reducible refine (hm_Tempm1 HX2.out.me HP.out hk1.1).mono ?_); rintro e x3 ⟨rfl, hb3⟩; have HX3 := Lib.hid ((HX2.out.below hb3).below (HAL.out x3 (.cells #[.bool false, .int .i64 0] 44))); have hr3 := (heap_alloc_old x3 (.cells #[.bool false, .int .i64 0] 44) (Nat.lt_of_lt_of_le (Array.getElem?_eq_some_iff.1 HR2.out).1 hb3.size)).trans ((hb3.block x1.heap.size (Array.getElem?_eq_some_iff.1 HR2.out).1).trans HR2.out); have c0 := cell_row _ _ 0 _ _ _ hr3; have c1 := cell_row _ _ 1 _ _ _ hr3; rw [show (#[.bool false, .int .i64 (10 * ((a : Int) - 1 - (o : Int)) + (t : Int))] : Array Value)[0]? = some (.bool false) from rfl] at c0; rw [show (#[.bool false, .int .i64 (10 * ((a : Int) - 1 - (o : Int)) + (t : Int))] : Array Value)[1]? = some (.int .i64 (10 * ((a : Int) - 1 - (o : Int)) + (t : Int))) from rfl] at c1; clear hr3 hb3; dsimp only)
                | (refine wpList_store_row rfl 44 (Operand.tmp 28) (Operand.tmp 166) rfl x3.heap.size _ rfl rfl _ _ (heap_alloc_new x3 _) info2 (by rfl) (by simp [Value.oneCell']) ?_; rw [World.setRow_alloc_new])
                | (go_at_call 16; (with_reducible refine (fr_awake _).mono ?_); rintro e x4 ⟨rfl, hb4⟩; have HX4 := Lib.hid (HX3.out.below hb4); clear hb4; dsimp only))
              go_ret
              exact ⟨rfl, HX4.out.bel⟩
            · by_cases h1 : o < a
              · omega
              · have t5 : (a : Int) ≤ (o : Int) := by omega
                have d5 : decide ((o : Int) < (a : Int)) = false := decide_eq_false (by omega)
                have hor : a ≤ o ∨ 8 < o := by omega
                have HT1 := Lib.hid (hm_Temp_out (t := t) hS.me hP hk1.1 (o := o) hor)
                clear hin hor
                have HAL := Lib.hid fun (u : World) (o : Obj) => (Below.refl u.heap.size u).alloc (Nat.le_refl _) o
                have HS := Lib.hid hS; have HP := Lib.hid hP
                clear hS hP hF
                go_upto_region 32 with (first
                  | (go_at_call 9; (with_reducible refine (HPO.out _).mono ?_); rintro e p1 ⟨rfl, rfl⟩; dsimp only)
                  | (go_at_call 9; (with_reducible refine (HPT.out _).mono ?_); rintro e p2 ⟨rfl, rfl⟩; dsimp only)
                  | (go_at_call 14; (with_reducible refine HT1.out.mono ?_); rintro e x1 ⟨rfl, hb1⟩; have HX1 := Lib.hid ((HS.out.below hb1).below (HAL.out x1 (.cells #[.bool false, .int .i64 0] 44))); clear hb1; dsimp only)
                  | (refine wpList_store_row rfl 44 (Operand.tmp 24) (Operand.tmp 154) rfl x1.heap.size _ rfl rfl _ _ (heap_alloc_new x1 _) info2 (by rfl) (by simp [Value.oneCell']) ?_; rw [World.setRow_alloc_new])
                  | (go_at_call 14; (with_reducible refine (hm_Temp16 HX1.out.me HP.out hk1.1).mono ?_); rintro e x2 ⟨rfl, hb2⟩; have HX2 := Lib.hid ((HX1.out.below hb2).below (HAL.out x2 (.cells #[.bool false, .int .i64 0] 44))); have HR2 := Lib.hid ((heap_alloc_old x2 (.cells #[.bool false, .int .i64 0] 44) (Nat.lt_of_lt_of_le (by simp) hb2.size)).trans ((hb2.block x1.heap.size (by simp)).trans (heap_alloc_new x1 (.cells #[.bool false, .int .i64 0] 44)))); clear hb2; dsimp only)
                  | (refine wpList_store_row rfl 44 (Operand.tmp 26) (Operand.tmp 160) rfl x2.heap.size _ rfl rfl _ _ (heap_alloc_new x2 _) info2 (by rfl) (by simp [Value.oneCell']) ?_; rw [World.setRow_alloc_new])
                  | (go_at_call 14; (with_reducible refine (hm_Tempm1 HX2.out.me HP.out hk1.1).mono ?_); rintro e x3 ⟨rfl, hb3⟩; have HX3 := Lib.hid ((HX2.out.below hb3).below (HAL.out x3 (.cells #[.bool false, .int .i64 0] 44))); have hr3 := (heap_alloc_old x3 (.cells #[.bool false, .int .i64 0] 44) (Nat.lt_of_lt_of_le (Array.getElem?_eq_some_iff.1 HR2.out).1 hb3.size)).trans ((hb3.block x1.heap.size (Array.getElem?_eq_some_iff.1 HR2.out).1).trans HR2.out); have c0 := cell_row _ _ 0 _ _ _ hr3; have c1 := cell_row _ _ 1 _ _ _ hr3; rw [show (#[.bool false, .int .i64 0] : Array Value)[0]? = some (.bool false) from rfl] at c0; rw [show (#[.bool false, .int .i64 0] : Array Value)[1]? = some (.int .i64 0) from rfl] at c1; clear hr3 hb3; dsimp only)
                  | (refine wpList_store_row rfl 44 (Operand.tmp 28) (Operand.tmp 166) rfl x3.heap.size _ rfl rfl _ _ (heap_alloc_new x3 _) info2 (by rfl) (by simp [Value.oneCell']) ?_; rw [World.setRow_alloc_new]))
                go_cut [30] (fun s30 wx => s30 = .bool false ∧ (x3.alloc (.cells #[.bool false, .int .i64 0] 44)) = wx)
                case first =>
                  go_wp2_with fail
                  all_goals
                    go_meet
                    exact ⟨by first | rfl | simp [d5] | (simp; omega), rfl⟩
                case rest =>
                  obtain ⟨rfl, rfl⟩ := hcut
                  go_wp2_with (go_at_call 16; (with_reducible refine (fr_awake _).mono ?_); rintro e x4 ⟨rfl, hb4⟩; have HX4 := Lib.hid (HX3.out.below hb4); clear hb4; dsimp only)
                  go_ret
                  exact ⟨rfl, HX4.out.bel⟩

set_option maxRecDepth 100000 in
theorem lifted (os : Os) (started : os.Started) (H : Type) (enc : TypeId × Value → H) :
    ReturnsInHanded {} Try.checked os 4 .any (Rows.frameHomesSpec.pre6 enc Try.prog Try.f4 Rows.frameHomesRow.domain false) (Rows.frameHomesSpec.post enc Try.prog Try.f4 false true false false) := by
  refine returnsInHanded_of_change (C := Try.checked) own started (by kernel_rfl) Try.func4
    (ChangeSpec.witness6 (enc := enc) (C := Try.checked) false ⟨#[], #[.int .i64 0, .int .i64 0, .int .i64 0], []⟩ 8 (by kernel_rfl) (by kernel_rfl) (by kernel_rfl) (by kernel_rfl)) ?_
  intro W base args ds gs before hval0 hW hcnd _
  have hval : ∀ (j : Nat) t v, Try.f4.params[j]? = some t → args[j]? = some v → Value.okWide Try.prog W .any base t v := hval0
  have hW' := hW
  obtain ⟨p, q, hA0, hV, rfl, hfz, hnd⟩ := hW
  have hA : DataW.TrodAll enc Try.prog W 0 (fun _ => true) true Try.f4.params.toList args.toList ds p := hA0
  rw [Try.params4] at hA hval
  obtain ⟨v0, vs0, d0, ds0, p0, q0, hargs, rfl, rfl, h0, r0⟩ := trodAll_cons hA
  obtain ⟨v1, vs1, d1, ds1, p1, q1, rfl, rfl, rfl, h1, r1⟩ := trodAll_cons r0
  obtain ⟨v2, vs2, d2, ds2, p2, q2, rfl, rfl, rfl, h2, r2⟩ := trodAll_cons r1
  obtain ⟨rfl, rfl, rfl⟩ := trodAll_nil r2
  obtain rfl : args = #[v0, v1, v2] := by cases args; simp_all
  obtain ⟨rfl, rfl⟩ := trodVars_none hV
  obtain ⟨a0, rfl, rfl, rfl, w0⟩ := open_int Try.underlying3 (hval 0 3 v0 rfl rfl) h0
  obtain ⟨a1, rfl, rfl, rfl, w1⟩ := open_int Try.underlying3 (hval 1 3 v1 rfl rfl) h1
  obtain ⟨a2, rfl, rfl, rfl, w2⟩ := open_int Try.underlying3 (hval 2 3 v2 rfl rfl) h2
  clear hA0 hval0
  refine (walk a0 a1 a2 W w0 w1 w2).mono fun e W' ⟨he, bel⟩ => ?_
  subst he
  exact ⟨_, rfl, _, _, _, [], _, [], hW', trodAll_mk1 (shut_bool Try.underlying4 _), (trodAll_cons_mk (shut_int Try.underlying3 w0) (trodAll_cons_mk (shut_int Try.underlying3 w1) (trodAll_cons_mk (shut_int Try.underlying3 w2) trodAll_mk0))), rfl, bel.frame _, fun h => by cases h⟩

theorem over : Rows.frameHomesRow.holds Try.pinned (OpenSpec.ofChange Rows.frameHomesSpec) :=
  OpenClaim.holds_of_wide 4 Try.f4 rfl rfl rfl rfl rfl rfl rfl ⟨rfl, rfl, rfl, rfl, rfl⟩ rfl rfl rfl rfl rfl (by kernel_rfl) Try.func4 (by kernel_rfl)
    (of_decide_eq_true (by kernel_rfl)) (by unfold Func.isWrapper; first | (rw [if_pos (by decide +kernel)]; kernel_rfl) | (rw [if_neg (by decide +kernel)]; exact ⟨rfl, rfl⟩))
    (fun os started H enc _ => lifted os started H enc)

/-- THE STATEMENT -/
theorem proved : Rows.FrameHomesSaid := over
#print axioms proved
end Go.Proofs.Ytglilfjkjoogbaa.frameHomes
