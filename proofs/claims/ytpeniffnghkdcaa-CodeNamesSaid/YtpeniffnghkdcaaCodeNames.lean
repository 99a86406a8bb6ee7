/- The law CodeNames returns true at every input, and leaves its arguments as they were. No condition. -/
import Derived.Test.YtpeniffnghkdcaaRows
import Derived.WalkKit
import Derived.ProofKit
import Derived.OpenShut
import Derived.Test.YtpeniffnghkdcaaL13
namespace Go.Proofs.Ytpeniffnghkdcaa.codeNames
open Go.ChangeShapes Go.WideShapes Go.ChangeAt Go.RowKit
open Go.Proofs.Ytpeniffnghkdcaa.Gen
open Go.Proofs.Ytpeniffnghkdcaa.Base
open Go.Proofs.Ytpeniffnghkdcaa.Cd
set_option linter.unusedVariables false      -- a walk need not use every 'w<i>' (that an integer argument fits its kind)

theorem own : ownKnob Try.prog.godebug = none := by kernel_rfl

/-! ### STEP 1: THE WALK: the Go text returns true. 'Grown w w'': the world has at most new blocks (Derived/RowKit3.lean). Part the cases AHEAD of 'go_enter' where a test parts the walk; take each callee by a contract of your own. -/
set_option maxRecDepth 100000 in
set_option maxHeartbeats 16000000 in
theorem walk  (w : World) :
    Calls Try.prog 5 #[] w fun e w' => e = .returned (.bool true) ∧ Grown w w' := by
  go_enter Try.func5, Try.ntmps5
  go_wp2
  go_loopw [1] (fun v wr => ∃ k : Nat, k ≤ 27 ∧ v = .int .i64 ((k : Int) - 2) ∧ Gr w wr) (fun v wr => 27 - (intOf v + 2).toNat)
  case atStart => exact ⟨0, by omega, rfl, Gr.refl _⟩
  case round =>
    obtain ⟨k, k0, rfl, hg⟩ := hrel
    by_cases hlt : k < 27
    · have wfk : (Lit.int .i64 ((k : Int) - 2)).wf = true := i64_wf (by omega) (by omega)
      by_cases hin : 3 ≤ k ∧ k ≤ 24
      · obtain ⟨j, rfl⟩ : ∃ j, k = j + 2 := ⟨k - 2, by omega⟩
        have ej : ((j + 2 : Nat) : Int) - 2 = (j : Int) := by omega
        have hcm : cnm (j : Int) = cn j := by unfold cnm; rw [if_pos ⟨by omega, by omega⟩]; simp
        have hop := cn_op ⟨j, by omega⟩ (by simp; omega)
        simp only at hop
        have ⟨n1, n2, n3⟩ := cn_ne j (by omega) (by omega)
        have HCM := Lib.hid hcm; have HOP := Lib.hid hop
        clear hcm hop
        rw [ej] at wfk ⊢
        clear ej
        go_wp2_with fail
        refine (cd_Name _ wfk _).mono ?_; rintro e u1 ⟨rfl, g1⟩
        go_wp2_with fail
        refine (rf_Name _ wfk _).mono ?_; rintro e u2 ⟨rfl, g2⟩
        rw [HCM.out]
        go_wp2_with fail
        refine (cd_Op _ _).mono ?_; rintro e u3 ⟨rfl, g3⟩
        rw [HOP.out]
        go_wp2_with fail
        go_roundw
        case rel => exact ⟨j + 3, by omega, congrArg (Value.int .i64) (by omega), ((hg.trans g1).trans g2).trans g3⟩
        case measure => simp [intOf]; omega
      · have hcm : cnm ((k : Int) - 2) = ⟨#[]⟩ := by unfold cnm; rw [if_neg (by omega)]
        have HCM := Lib.hid hcm
        clear hcm
        have hs : (k : Int) - 2 < 1 ∨ 22 < (k : Int) - 2 := by omega
        have hv1 : -2 ≤ (k : Int) - 2 ∧ (k : Int) - 2 ≤ 24 := by omega
        clear hin
        generalize hv : (k : Int) - 2 = v at *
        rcases hs with hs | hs
        all_goals
          have HV := Lib.hid hv; clear hv
          go_wp2_with fail
          refine (cd_Name _ wfk _).mono ?_; rintro e u1 ⟨rfl, g1⟩
          go_wp2_with fail
          refine (rf_Name _ wfk _).mono ?_; rintro e u2 ⟨rfl, g2⟩
          rw [HCM.out]
          go_wp2_with fail
          go_roundw
          case rel => exact ⟨k + 1, by omega, congrArg (Value.int .i64) (by have := HV.out; omega), (hg.trans g1).trans g2⟩
          case measure => have := HV.out; simp [intOf]; omega
    · obtain rfl : k = 27 := by omega
      go_wp2_with fail
      refine (cd_Op _ _).mono ?_; rintro e u1 ⟨rfl, g1⟩
      rw [show opOf ⟨#[]⟩ = 0 from by decide]
      go_wp2_with fail
      refine (cd_Op _ _).mono ?_; rintro e u2 ⟨rfl, g2⟩
      rw [show opOf ⟨#[83, 101, 110, 100]⟩ = 0 from by decide]
      go_wp2_with fail
      refine (awake_any _).mono ?_; rintro e u3 ⟨rfl, g3⟩
      go_wp2_with fail
      go_ret
      exact ⟨rfl, Gr.toGrown (((hg.trans g1).trans g2).trans g3)⟩

/-! ### THE ROW's STEP: WRITTEN OUT: LEAVE IT -/
set_option maxRecDepth 100000 in
theorem lifted (os : Os) (started : os.Started) (H : Type) (enc : TypeId × Value → H) :
    ReturnsInHanded {} Try.checked os 5 .any (Rows.codeNamesSpec.pre6 enc Try.prog Try.f5 Rows.codeNamesRow.domain false) (Rows.codeNamesSpec.post enc Try.prog Try.f5 false true false false) := by
  refine returnsInHanded_of_change (C := Try.checked) own started (by kernel_rfl) Try.func5
    (ChangeSpec.witness6 (enc := enc) (C := Try.checked) false ⟨#[], #[], []⟩ 8 (by kernel_rfl) (by kernel_rfl) (by kernel_rfl) (by kernel_rfl)) ?_
  intro W base args ds gs before hval0 hW hcnd _
  have hval : ∀ (j : Nat) t v, Try.f5.params[j]? = some t → args[j]? = some v → Value.okWide Try.prog W .any base t v := hval0
  have hW' := hW
  obtain ⟨p, q, hA0, hV, rfl, hfz, hnd⟩ := hW
  have hA : DataW.TrodAll enc Try.prog W 0 (fun _ => true) true Try.f5.params.toList args.toList ds p := hA0
  rw [Try.params5] at hA hval
  obtain ⟨rfl, rfl, rfl⟩ := trodAll_none hA
  obtain ⟨rfl, rfl⟩ := trodVars_none hV
  clear hA0 hval0
  simp only [List.append_nil] at hW'
  refine (walk  W).mono fun e W' ⟨he, hg⟩ => ?_
  subst he
  exact ⟨_, rfl, post_of_same (pa := []) (pv := []) hW' (fun _ _ _ => (trodAll_cons_mk (shut_bool Try.underlying4 _) trodAll_mk0)) (fun sp _ => rfl) (fun _ _ => rfl) rfl
    (hg.frame _) hg.2.1 (ok_one (by kernel_rfl) rfl (okWide_bool_mk Try.underlying4 _))⟩

theorem over : Rows.codeNamesRow.holds Try.pinned (OpenSpec.ofChange Rows.codeNamesSpec) :=
  OpenClaim.holds_of_wide 5 Try.f5 rfl rfl rfl rfl rfl rfl rfl ⟨rfl, rfl, rfl, rfl, rfl⟩ rfl rfl rfl rfl rfl (by kernel_rfl) Try.func5 (by kernel_rfl)
    (of_decide_eq_true (by kernel_rfl)) (by unfold Func.isWrapper; first | (rw [if_pos (by decide +kernel)]; kernel_rfl) | (rw [if_neg (by decide +kernel)]; exact ⟨rfl, rfl⟩))
    (fun os started H enc _ => lifted os started H enc)

/-- THE STATEMENT -/
theorem proved : Rows.CodeNamesSaid :=
  over
#print axioms proved
end Go.Proofs.Ytpeniffnghkdcaa.codeNames
