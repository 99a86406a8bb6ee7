/- The law NumberNone returns true at every input, and leaves its arguments as they were. No condition. -/
import Derived.Test.YtbkpioheojaeaaaRows
import Derived.WalkKit
import Derived.ProofKit
import Derived.OpenShut
import Derived.Test.YtbkpioheojaeaaaNum5
import Derived.Deep.RegionWith
namespace Go.Proofs.Ytbkpioheojaeaaa.numberNone
open Go.ChangeShapes Go.WideShapes Go.ChangeAt Go.RowKit
open Go.Proofs.Ytbkpioheojaeaaa.Gen
open Go.Proofs.Ytbkpioheojaeaaa.Base
open Go.Proofs.Ytbkpioheojaeaaa.Nu
set_option linter.unusedVariables false      -- a walk need not use every 'w<i>' (that an integer argument fits its kind)

theorem own : ownKnob Try.prog.godebug = none := by kernel_rfl

theorem nm_all : ∀ i : Fin 16, ∀ j : Fin 16, 1 ≤ j.val → j.val < i.val → ((nm (i.val : Int)).toList == (nm (j.val : Int)).toList) = false ∧ (nm (i.val : Int)).toList.isEmpty = false := by decide +kernel
theorem nm_z {n : Int} (h : n < 1 ∨ 15 < n) : nm n = ⟨#[]⟩ := by unfold nm; rw [if_neg (by omega)]
theorem nm_none (n : Int) (h : n < 1 ∨ 15 < n) (h0 : -9223372036854775808 ≤ n) (h1 : n ≤ 9223372036854775807) (w : World) :
    Calls Try.prog 11 #[.int .i64 n] w fun e w' => e = .returned (.string ⟨#[]⟩) ∧ Gr w w' := by
  have c := nu_Name n (i64_wf h0 h1) w; rw [nm_z h] at c; exact c
/-! ### STEP 1: THE WALK: the Go text returns true. 'Grown w w'': the world has at most new blocks (Derived/RowKit3.lean). Part the cases AHEAD of 'go_enter' where a test parts the walk; take each callee by a contract of your own. -/
set_option maxHeartbeats 2000000 in
theorem walk (a0 : Int) (a1 : Int) (a2 : Int) (w0 : (Lit.int .i64 a0).wf = true) (w1 : (Lit.int .i64 a1).wf = true) (w2 : (Lit.int .i64 a2).wf = true) (w : World) :
    Calls Try.prog 7 #[.int .i64 a0, .int .i64 a1, .int .i64 a2] w fun e w' => e = .returned (.bool true) ∧ Grown w w' := by
  go_enter Try.func7, Try.ntmps7
  go_wp2_with fail
  refine (place_gen _ _ (by omega) (by omega) w1 _).mono ?_; rintro e w' ⟨x, x0, x1, rfl, rfl⟩
  go_wp2_with fail
  refine (nu_none _ _ _ (k_fa (by omega)) _).mono ?_; rintro e u1 ⟨rfl, g1⟩
  go_wp2_with fail
  refine (place_gen _ _ (by omega) (by omega) w2 _).mono ?_; rintro e w' ⟨y, y0, y1, rfl, rfl⟩
  go_wp2_with fail
  refine (nu_none _ _ _ (k_fb (by omega)) _).mono ?_; rintro e u2 ⟨rfl, g2⟩
  go_wp2_with fail
  refine (place_gen _ _ (by omega) (by omega) w0 _).mono ?_; rintro e w' ⟨z, z0, z1, rfl, rfl⟩
  go_wp2_with fail
  refine (nu_none _ _ _ (k_n (by omega)) _).mono ?_; rintro e u3 ⟨rfl, g3⟩
  go_wp2_with fail
  refine (nu_none _ _ _ (k_n (by omega)) _).mono ?_; rintro e u4 ⟨rfl, g4⟩
  go_wp2_with fail
  have G0 : Gr w (u4.alloc (.cells #[.bool false, .int .i64 0] 23)) := by repeat' (first | with_reducible exact Gr.refl _ | with_reducible assumption | with_reducible refine Gr.drewN ?_ _ | with_reducible refine Gr.drew ?_ | with_reducible refine Gr.alloc ?_ _ _ | with_reducible refine Gr.setCell ?_ ?_ _ | with_reducible refine Gr.trans ?_ (by with_reducible assumption) | (simp; done) | (simp; omega))
  generalize (u4.alloc (.cells #[.bool false, .int .i64 0] 23)) = uL at *
  clear g1 g2 g3 g4
  go_loopw [16] (fun v16 wr => ∃ i : Nat, 1 ≤ i ∧ i ≤ 16 ∧ v16 = .int .i64 i ∧ Gr w wr) (fun v16 wr => 16 - (intOf v16).toNat)
  case atStart => exact ⟨1, by omega, by omega, rfl, G0⟩
  case round =>
    obtain ⟨i, i1, i2, rfl, gi⟩ := hrel
    by_cases hi : i ≤ 15
    · have hd : decide ((i : Int) ≤ 15) = true := by simp; omega
      go_wp2_with fail
      obtain ⟨wo, rfl⟩ : ∃ wo : World, wo = wr := ⟨_, rfl⟩
      go_loopw [17] (fun v17 wr => ∃ j : Nat, 1 ≤ j ∧ j ≤ i ∧ v17 = .int .i64 j ∧ Gr w wr) (fun v17 wr => 16 - (intOf v17).toNat)
      case atStart => exact ⟨1, by omega, by omega, rfl, gi⟩
      case round =>
        obtain ⟨j, j1, j2, rfl, gj⟩ := hrel
        by_cases hj : j < i
        · obtain ⟨hn, he⟩ := nm_all ⟨i, by omega⟩ ⟨j, by omega⟩ j1 hj
          simp only at hn he
          have wi : (Lit.int .i64 (i : Int)).wf = true := i64_wf (by omega) (by omega)
          have wj : (Lit.int .i64 (j : Int)).wf = true := i64_wf (by omega) (by omega)
          go_wp2_with (first
            | (go_at_call_of 11 (Value.int .i64 (i : Int)); refine (nu_Name _ wi _).mono ?_; rintro e u5 ⟨rfl, g5⟩)
            | (go_at_call_of 11 (Value.int .i64 (j : Int)); refine (nu_Name _ wj _).mono ?_; rintro e u5 ⟨rfl, g5⟩))
          go_roundw
          case rel => first | exact ⟨j + 1, by omega, by omega, by go_num, by repeat' (first | with_reducible exact Gr.refl _ | with_reducible assumption | with_reducible refine Gr.drewN ?_ _ | with_reducible refine Gr.drew ?_ | with_reducible refine Gr.alloc ?_ _ _ | with_reducible refine Gr.setCell ?_ ?_ _ | with_reducible refine Gr.trans ?_ (by with_reducible assumption) | (simp; done) | (simp; omega))⟩ | ((repeat apply Exists.intro); refine ⟨?_, rfl⟩; exact ⟨j + 1, by omega, by omega, by go_num, by repeat' (first | with_reducible exact Gr.refl _ | with_reducible assumption | with_reducible refine Gr.drewN ?_ _ | with_reducible refine Gr.drew ?_ | with_reducible refine Gr.alloc ?_ _ _ | with_reducible refine Gr.setCell ?_ ?_ _ | with_reducible refine Gr.trans ?_ (by with_reducible assumption) | (simp; done) | (simp; omega))⟩)
          case measure => simp [intOf]; omega
        · go_wp2_with fail
          go_roundw
          case rel => first | exact ⟨i + 1, by omega, by omega, by go_num, by assumption⟩ | ((repeat apply Exists.intro); refine ⟨?_, rfl⟩; exact ⟨i + 1, by omega, by omega, by go_num, by assumption⟩)
          case measure => simp [intOf]; omega
    · go_wp2_with (first
        | (go_at_call 11; refine (nm_none _ (by omega) (by omega) (by omega) _).mono ?_; rintro e u5 ⟨rfl, g5⟩)
        | (go_at_call 13; refine (awake_any _).mono ?_; rintro e u5 ⟨rfl, g5⟩))
      go_ret
      exact ⟨rfl, Gr.toGrown (by repeat' (first | with_reducible exact Gr.refl _ | with_reducible assumption | with_reducible refine Gr.drewN ?_ _ | with_reducible refine Gr.drew ?_ | with_reducible refine Gr.alloc ?_ _ _ | with_reducible refine Gr.setCell ?_ ?_ _ | with_reducible refine Gr.trans ?_ (by with_reducible assumption) | (simp; done) | (simp; omega)))⟩

/-! ### THE ROW's STEP: WRITTEN OUT: LEAVE IT -/
set_option maxRecDepth 100000 in
theorem lifted (os : Os) (started : os.Started) (H : Type) (enc : TypeId × Value → H) :
    ReturnsInHanded {} Try.checked os 7 .any (Rows.numberNoneSpec.pre6 enc Try.prog Try.f7 Rows.numberNoneRow.domain false) (Rows.numberNoneSpec.post enc Try.prog Try.f7 false true false false) := by
  refine returnsInHanded_of_change (C := Try.checked) own started (by kernel_rfl) Try.func7
    (ChangeSpec.witness6 (enc := enc) (C := Try.checked) false ⟨#[], #[.int .i64 0, .int .i64 0, .int .i64 0], []⟩ 8 (by kernel_rfl) (by kernel_rfl) (by kernel_rfl) (by kernel_rfl)) ?_
  intro W base args ds gs before hval0 hW hcnd _
  have hval : ∀ (j : Nat) t v, Try.f7.params[j]? = some t → args[j]? = some v → Value.okWide Try.prog W .any base t v := hval0
  have hW' := hW
  obtain ⟨p, q, hA0, hV, rfl, hfz, hnd⟩ := hW
  have hA : DataW.TrodAll enc Try.prog W 0 (fun _ => true) true Try.f7.params.toList args.toList ds p := hA0
  rw [Try.params7] at hA hval
  obtain ⟨v0, vs0, d0, ds0, p0, q0, hargs, rfl, rfl, h0, r0⟩ := trodAll_cons hA
  obtain ⟨v1, vs1, d1, ds1, p1, q1, rfl, rfl, rfl, h1, r1⟩ := trodAll_cons r0
  obtain ⟨v2, vs2, d2, ds2, p2, q2, rfl, rfl, rfl, h2, r2⟩ := trodAll_cons r1
  obtain ⟨rfl, rfl, rfl⟩ := trodAll_nil r2
  obtain rfl : args = #[v0, v1, v2] := by cases args; simp_all
  obtain ⟨rfl, rfl⟩ := trodVars_none hV
  obtain ⟨a0, rfl, rfl, rfl, w0⟩ := open_int Try.underlying3 (hval 0 3 v0 rfl rfl) h0
  obtain ⟨a1, rfl, rfl, rfl, w1⟩ := open_int Try.underlying3 (hval 1 3 v1 rfl rfl) h1
  obtain ⟨a2, rfl, rfl, rfl, w2⟩ := open_int Try.underlying3 (hval 2 3 v2 rfl rfl) h2
  clear hA0 hval0
  simp only [List.append_nil] at hW'
  refine (walk a0 a1 a2 w0 w1 w2 W).mono fun e W' ⟨he, hg⟩ => ?_
  subst he
  exact ⟨_, rfl, post_of_same (pa := []) (pv := []) hW' (fun _ _ _ => (trodAll_cons_mk (shut_bool Try.underlying4 _) trodAll_mk0)) (fun sp _ => (trodAll_cons_mk (shut_int Try.underlying3 w0) (trodAll_cons_mk (shut_int Try.underlying3 w1) (trodAll_cons_mk (shut_int Try.underlying3 w2) trodAll_mk0)))) (fun _ _ => rfl) rfl
    (hg.frame _) hg.2.1 (ok_one (by kernel_rfl) rfl (okWide_bool_mk Try.underlying4 _))⟩

theorem over : Rows.numberNoneRow.holds Try.pinned (OpenSpec.ofChange Rows.numberNoneSpec) :=
  OpenClaim.holds_of_wide 7 Try.f7 rfl rfl rfl rfl rfl rfl rfl ⟨rfl, rfl, rfl, rfl, rfl⟩ rfl rfl rfl rfl rfl (by kernel_rfl) Try.func7 (by kernel_rfl)
    (of_decide_eq_true (by kernel_rfl)) (by unfold Func.isWrapper; first | (rw [if_pos (by decide +kernel)]; kernel_rfl) | (rw [if_neg (by decide +kernel)]; exact ⟨rfl, rfl⟩))
    (fun os started H enc _ => lifted os started H enc)

/-- THE STATEMENT -/
theorem proved : Rows.NumberNoneSaid :=
  over
#print axioms proved
end Go.Proofs.Ytbkpioheojaeaaa.numberNone
