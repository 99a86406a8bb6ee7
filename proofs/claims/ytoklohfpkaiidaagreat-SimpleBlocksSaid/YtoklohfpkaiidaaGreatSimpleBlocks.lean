/- The law SimpleBlocks returns true at every input, and leaves its arguments as they were. No condition. -/
import Derived.Test.YtoklohfpkaiidaaGreatRows
import Derived.WalkKit
import Derived.ProofKit
import Derived.OpenShut
import Derived.Test.YtoklohfpkaiidaaGreatSk3
import Derived.Deep.RegionWith
import Derived.Deep.DeepCutAuto
import Derived.ShutString
import Derived.ChangeOld
import Derived.Below
namespace Go.Proofs.YtoklohfpkaiidaaGreat.simpleBlocks
open Go.ChangeShapes Go.WideShapes Go.ChangeAt Go.RowKit
open Go.ChangeMaps (open_string shut_string)

open Go.Proofs.YtoklohfpkaiidaaGreat.Gen Go.Proofs.YtoklohfpkaiidaaGreat.Base Go.Proofs.YtoklohfpkaiidaaGreat.Obj
set_option linter.unusedVariables false

theorem own : ownKnob Tryz.prog.godebug = none := by kernel_rfl
theorem laidOut : laidOutB Tryz.prog = true := by kernel_rfl
theorem take_at {cs : Array Value} {n : Nat} {xs : List Value} (h : cs.toList.take n = xs) {j : Nat} {v : Value} (hv : xs[j]? = some v) : cs[j]? = some v := by
  rw [← h, List.getElem?_take] at hv
  split at hv
  · simpa using hv
  · cases hv

set_option maxRecDepth 100000 in
set_option maxHeartbeats 16000000 in
theorem walk (a0 : Int) (a1 : Int) (a2 : Int) (w : World) (w0 : (Lit.int .i64 a0).wf = true) (w1 : (Lit.int .i64 a1).wf = true) (w2 : (Lit.int .i64 a2).wf = true) :
    Calls Tryz.prog 5 #[.int .i64 a0, .int .i64 a1, .int .i64 a2] w fun e w' => e = .returned (.bool true) ∧ Below w.heap.size w w' := by
  have hz := zV
  have hzT := zT
  have hvn := val_N
  have HFS := Lib.hid (fs_First w)
  have hx0 := Int.emod_nonneg a0 (show (11 : Int) ≠ 0 by omega)
  have hx1 := Int.emod_lt_of_pos a0 (show (0 : Int) < 11 by omega)
  have hpx := place_any a0 11 (by omega) (by omega) w0
  have hy0 := Int.emod_nonneg a1 (show (11 : Int) ≠ 0 by omega)
  have hy1 := Int.emod_lt_of_pos a1 (show (0 : Int) < 11 by omega)
  have hpy := place_any a1 11 (by omega) (by omega) w1
  have hp0 := Int.emod_nonneg a2 (show (50 : Int) ≠ 0 by omega)
  have hp1 := Int.emod_lt_of_pos a2 (show (0 : Int) < 50 by omega)
  have hpp := place_any a2 50 (by omega) (by omega) w2
  generalize a0 % 11 = x at *
  generalize a1 % 11 = y at *
  generalize a2 % 50 = pc at *
  have HPX := Lib.hid hpx; have HPY := Lib.hid hpy; have HPP := Lib.hid hpp
  have HJ : Hid (∀ (W u : World) m li lv dv M F, Sk W u m li lv dv M F → Calls Tryz.prog 23 #[.pointer (some ⟨m, 0, none⟩), .int .i64 25, .agg #[.int .i64 13, .int .i64 0, .int .i64 pc]] u fun e w' => e = .returned (.bool true) ∧ ∃ M', Sk W w' m li lv dv M' (F.set 1 (false, pc))) := Lib.hid fun W u m li lv dv M F h => sk_jump h pc (by omega)
  clear hpx hpy hpp w0 w1 w2
  go_enter Tryz.func5, Tryz.ntmps5
  go_upto_region 9 with (first
    | (go_at_call 14; (with_reducible refine (HPX.out _).mono ?_); rintro e v1 ⟨rfl, rfl⟩; dsimp only)
    | (go_at_call 14; (with_reducible refine (HPY.out _).mono ?_); rintro e v1 ⟨rfl, rfl⟩; dsimp only)
    | (go_at_call 14; (with_reducible refine (HPP.out _).mono ?_); rintro e v1 ⟨rfl, rfl⟩; dsimp only)
    | (go_at_call 17; (with_reducible refine HFS.out.mono ?_); rintro e u1 ⟨la, lc, L, rfl, hD, hL⟩; have HLB := Lib.hid (LB.of hD 51 23); have HL := Lib.hid hL; clear hD hL; dsimp only)
    | (go_at_call 20; (with_reducible refine (law_MethodK0 HLB.out HL.out).mono ?_); rintro e u2 ⟨rfl, a7, c7, L7, hB, hL7⟩; have HLB7 := Lib.hid hB; have HL7 := Lib.hid hL7; clear hB hL7; dsimp only)
    | (go_at_call 19; (with_reducible refine (nl_Num _ _).mono ?_); rintro e u3 ⟨rfl, hbx⟩; have HLB7 := Lib.hid (HLB7.out.more hbx); clear hbx; dsimp only)
    | (go_at_call 21; (with_reducible refine (law_StartK HLB7.out HL7.out).mono ?_); rintro e u4 ⟨rfl, a8, c8, L8, hB, hL8⟩; have HLB8 := Lib.hid hB; have HL8 := Lib.hid hL8; clear hB hL8; dsimp only)
    | (refine wpList_load_row rfl 30 (Operand.tmp 34) (by rfl) u1.heap.size (by rfl) _ _ (0, 0) _ HLB8.out.row Tryz.underlying30 rfl info13 ?_)
    | (go_at_call 11; (with_reducible refine (law_NewK HLB8.out HL8.out).mono ?_); rintro e u5 ⟨m, li, lv, dv, M, rfl, hb5, hN⟩; have HQ := Lib.hid (Sk.start hN HL8.out (HLB8.out.bel.trans (hb5.mono HLB8.out.bel.size)) HLB8.out.bel.size); clear hN hb5; dsimp only)
    | (go_at_call 23; (with_reducible refine (HJ.out _ _ _ _ _ _ _ _ HQ.out).mono ?_); rintro e u6 ⟨rfl, M6, hQ6⟩; have HQ6 := Lib.hid hQ6; clear hQ6; dsimp only))
  clear HFS HLB HL HLB7 HL7 HLB8 HL8 HJ
  have hsp : elV (skF.set 1 (false, pc)) 2 = (false, 0) := rfl
  have hpc : elV (skF.set 1 (false, pc)) 1 = (false, pc) := rfl
  have HSP := Lib.hid hsp
  by_cases hc : x ≤ y ∧ y ≤ 8
  · obtain ⟨g1, g2⟩ := hc
    have HB := Lib.hid (sk_block HQ6.out hsp hpc (by omega) x y ⟨hx0, g1, g2⟩)
    have wr : IntKind.i64.wrap (pc + 1) = pc + 1 := IntWalk.i64_in _ ⟨by omega, by omega⟩
    clear hsp hpc HQ
    go_upto_region 15 with (first
      | (go_at_call 23; (with_reducible refine HB.out.mono ?_); rintro e u7 ⟨rfl, lv7, dv7, M7, hQ7⟩; have HQ7 := Lib.hid hQ7; clear hQ7; dsimp only)
      | (go_at_call 24; (with_reducible refine (sj_Get6 HQ7.out).mono ?_); rintro e u8 ⟨rfl, hb8⟩; have HQ8 := Lib.hid (HQ7.out.below hb8); clear hb8; dsimp only)
      | (go_at_call 25; (with_reducible refine (sj_Thing HQ8.out).mono ?_); rintro e u9 ⟨fin, hash, g, c, rfl, hrow, hg, hb9⟩; have HQ9 := Lib.hid (HQ8.out.below hb9); have HROW := Lib.hid hrow; clear hb9 hrow hg; dsimp only)
      | (refine wpList_store_row rfl 64 (Operand.tmp 15) (Operand.tmp 81) rfl u9.heap.size _ rfl rfl _ _ (heap_alloc_new u9 _) info6 (by rfl) (by simp [Value.oneCell']) ?_; rw [World.setRow_alloc_new]))
    obtain ⟨cs, hcs, htk⟩ := HROW.out
    have hgl : g < u9.heap.size := (Array.getElem?_eq_some_iff.1 hcs).1
    have kc : ∀ (o : Obj) (j : Nat) (v : Value), (vals (bkF 25 x y (pc + 1)))[j]? = some v → (u9.alloc o).cell? ⟨g, j, none⟩ = some v := fun o j v hv => (World.cell?_alloc_lt _ _ _ hgl).trans ((cell_row _ _ j _ _ _ hcs).trans (take_at htk hv))
    have k0 := fun o => kc o 0 _ rfl
    have k1 := fun o => kc o 1 _ rfl
    have k3 := fun o => kc o 3 _ rfl
    have k5 := fun o => kc o 5 _ rfl
    have k7 := fun o => kc o 7 _ rfl
    have HQ10 := Lib.hid (fun o => HQ9.out.below ((Below.refl _ _).alloc (Nat.le_refl _) o))
    clear kc htk HROW hcs
    go_wp2_with (first
      | (go_at_call 24; (with_reducible refine (sj_Get2 (HQ10.out _)).mono ?_); rintro e u10 ⟨rfl, hb10⟩; have HQ11 := Lib.hid ((HQ10.out _).below hb10); clear hb10; dsimp only)
      | (go_at_call 10; (with_reducible refine (sm_awake _).mono ?_); rintro e u12 ⟨rfl, hb12⟩; have HQ12 := Lib.hid (HQ11.out.below hb12); clear hb12; dsimp only))
    go_ret
    exact ⟨rfl, HQ12.out.st.bel⟩
  · have hcc : 8 < y ∨ y < x := by omega
    have HB := Lib.hid (sk_block_no HQ6.out x y ⟨hx0, by omega, hy0, by omega, hcc⟩)
    have HG2 : Hid (∀ u, Sk w u m li lv dv M6 (skF.set 1 (false, pc)) → Calls Tryz.prog 24 #[.pointer (some ⟨m, 0, none⟩), .int .i64 25, .int .i64 2] u fun e w' => e = .returned (.agg #[.bool false, .int .i64 0]) ∧ Below u.heap.size u w') := Lib.hid fun u h => sk_Get2 h hsp
    have hbb : (decide (x ≤ y) && decide (y ≤ 8)) = false := by
      rcases hcc with h | h
      · rw [decide_eq_false (show ¬ y ≤ 8 by omega), Bool.and_false]
      · rw [decide_eq_false (show ¬ x ≤ y by omega), Bool.false_and]
    clear hsp hpc HQ hc
    rcases hcc with h | h
    · have h1 : ¬ y ≤ 8 := by omega
      by_cases h2 : x ≤ y
      · clear hbb h
        go_wp2_with (first
          | (go_at_call 23; (with_reducible refine HB.out.mono ?_); rintro e u7 ⟨rfl, hQ7⟩; have HQ7 := Lib.hid hQ7; clear hQ7; dsimp only)
          | (go_at_call 24; (with_reducible refine (HG2.out _ HQ7.out).mono ?_); rintro e u8 ⟨rfl, hb8⟩; have HQ8 := Lib.hid (HQ7.out.below hb8); clear hb8; dsimp only)
          | (go_at_call 10; (with_reducible refine (sm_awake _).mono ?_); rintro e u12 ⟨rfl, hb12⟩; have HQ12 := Lib.hid (HQ8.out.below hb12); clear hb12; dsimp only))
        go_ret
        exact ⟨rfl, HQ12.out.st.bel⟩
      · clear hbb h
        go_wp2_with (first
          | (go_at_call 23; (with_reducible refine HB.out.mono ?_); rintro e u7 ⟨rfl, hQ7⟩; have HQ7 := Lib.hid hQ7; clear hQ7; dsimp only)
          | (go_at_call 24; (with_reducible refine (HG2.out _ HQ7.out).mono ?_); rintro e u8 ⟨rfl, hb8⟩; have HQ8 := Lib.hid (HQ7.out.below hb8); clear hb8; dsimp only)
          | (go_at_call 10; (with_reducible refine (sm_awake _).mono ?_); rintro e u12 ⟨rfl, hb12⟩; have HQ12 := Lib.hid (HQ8.out.below hb12); clear hb12; dsimp only))
        go_ret
        exact ⟨rfl, HQ12.out.st.bel⟩
    · have h2 : ¬ x ≤ y := by omega
      clear hbb h
      go_wp2_with (first
        | (go_at_call 23; (with_reducible refine HB.out.mono ?_); rintro e u7 ⟨rfl, hQ7⟩; have HQ7 := Lib.hid hQ7; clear hQ7; dsimp only)
        | (go_at_call 24; (with_reducible refine (HG2.out _ HQ7.out).mono ?_); rintro e u8 ⟨rfl, hb8⟩; have HQ8 := Lib.hid (HQ7.out.below hb8); clear hb8; dsimp only)
        | (go_at_call 10; (with_reducible refine (sm_awake _).mono ?_); rintro e u12 ⟨rfl, hb12⟩; have HQ12 := Lib.hid (HQ8.out.below hb12); clear hb12; dsimp only))
      go_ret
      exact ⟨rfl, HQ12.out.st.bel⟩

set_option maxRecDepth 100000 in
theorem lifted (os : Os) (started : os.Started) (H : Type) (enc : TypeId × Value → H) :
    ReturnsInHanded {} Tryz.checked os 5 .any (Rows.simpleBlocksSpec.pre6 enc Tryz.prog Tryz.f5 Rows.simpleBlocksRow.domain false) (Rows.simpleBlocksSpec.post enc Tryz.prog Tryz.f5 false true false false) := by
  refine returnsInHanded_of_change (C := Tryz.checked) own started (by kernel_rfl) Tryz.func5
    (ChangeSpec.witness6 (enc := enc) (C := Tryz.checked) false ⟨#[], #[.int .i64 0, .int .i64 0, .int .i64 0], []⟩ 8 (by kernel_rfl) (by kernel_rfl) (by kernel_rfl) (by kernel_rfl)) ?_
  intro W base args ds gs before hval0 hW hcnd _
  have hval : ∀ (j : Nat) t v, Tryz.f5.params[j]? = some t → args[j]? = some v → Value.okWide Tryz.prog W .any base t v := hval0
  have hW' := hW
  obtain ⟨p, q, hA0, hV, rfl, hfz, hnd⟩ := hW
  have hA : DataW.TrodAll enc Tryz.prog W 0 (fun _ => true) true Tryz.f5.params.toList args.toList ds p := hA0
  rw [Tryz.params5] at hA hval
  obtain ⟨v0, vs0, d0, ds0, p0, q0, hargs, rfl, rfl, h0, r0⟩ := trodAll_cons hA
  obtain ⟨v1, vs1, d1, ds1, p1, q1, rfl, rfl, rfl, h1, r1⟩ := trodAll_cons r0
  obtain ⟨v2, vs2, d2, ds2, p2, q2, rfl, rfl, rfl, h2, r2⟩ := trodAll_cons r1
  obtain ⟨rfl, rfl, rfl⟩ := trodAll_nil r2
  obtain rfl : args = #[v0, v1, v2] := by cases args; simp_all
  obtain ⟨rfl, rfl⟩ := trodVars_none hV
  obtain ⟨a0, rfl, rfl, rfl, w0⟩ := open_int Tryz.underlying3 (hval 0 3 v0 rfl rfl) h0
  obtain ⟨a1, rfl, rfl, rfl, w1⟩ := open_int Tryz.underlying3 (hval 1 3 v1 rfl rfl) h1
  obtain ⟨a2, rfl, rfl, rfl, w2⟩ := open_int Tryz.underlying3 (hval 2 3 v2 rfl rfl) h2
  clear hA0 hval0
  refine (walk a0 a1 a2 W w0 w1 w2).mono fun e W' ⟨he, bel⟩ => ?_
  subst he
  exact ⟨_, rfl, _, _, _, [], _, [], hW', trodAll_mk1 (shut_bool Tryz.underlying4 _), (trodAll_cons_mk (shut_int Tryz.underlying3 w0) (trodAll_cons_mk (shut_int Tryz.underlying3 w1) (trodAll_cons_mk (shut_int Tryz.underlying3 w2) trodAll_mk0))), rfl, bel.frame _, fun h => by cases h⟩

theorem over : Rows.simpleBlocksRow.holds Tryz.pinned (OpenSpec.ofChange Rows.simpleBlocksSpec) :=
  OpenClaim.holds_of_wide 5 Tryz.f5 rfl rfl rfl rfl rfl rfl rfl ⟨rfl, rfl, rfl, rfl, rfl⟩ rfl rfl rfl rfl rfl (by kernel_rfl) Tryz.func5 (by kernel_rfl)
    (of_decide_eq_true (by kernel_rfl)) (by unfold Func.isWrapper; first | (rw [if_pos (by decide +kernel)]; kernel_rfl) | (rw [if_neg (by decide +kernel)]; exact ⟨rfl, rfl⟩))
    (fun os started H enc _ => lifted os started H enc)

/-- THE STATEMENT -/
theorem proved : Rows.SimpleBlocksSaid := over
#print axioms proved
end Go.Proofs.YtoklohfpkaiidaaGreat.simpleBlocks
