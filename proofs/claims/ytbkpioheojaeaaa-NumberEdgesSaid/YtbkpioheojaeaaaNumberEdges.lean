/- The law NumberEdges returns true at every input, and leaves its arguments as they were. No condition. -/
import Derived.Test.YtbkpioheojaeaaaRows
import Derived.WalkKit
import Derived.ProofKit
import Derived.OpenShut
import Derived.Test.YtbkpioheojaeaaaNum5
import Derived.Test.YtbkpioheojaeaaaBase2
namespace Go.Proofs.Ytbkpioheojaeaaa.numberEdges
open Go.ChangeShapes Go.WideShapes Go.ChangeAt Go.RowKit
open Go.Proofs.Ytbkpioheojaeaaa.Gen
open Go.Proofs.Ytbkpioheojaeaaa.Base
open Go.Proofs.Ytbkpioheojaeaaa.Nu
set_option linter.unusedVariables false      -- a walk need not use every 'w<i>' (that an integer argument fits its kind)

theorem own : ownKnob Try.prog.godebug = none := by kernel_rfl

/-! ### STEP 1: THE WALK: the Go text returns true. 'Grown w w'': the world has at most new blocks (Derived/RowKit3.lean). Part the cases AHEAD of 'go_enter' where a test parts the walk; take each callee by a contract of your own. -/
set_option maxHeartbeats 2000000 in
theorem walk (a0 : Int) (a1 : Int) (w0 : (Lit.int .i64 a0).wf = true) (w1 : (Lit.int .i64 a1).wf = true) (w : World) :
    Calls Try.prog 5 #[.int .i64 a0, .int .i64 a1] w fun e w' => e = .returned (.bool true) ∧ Grown w w' := by
  go_enter Try.func5, Try.ntmps5
  go_wp2_with fail
  refine (place_gen _ _ (by omega) (by omega) w0 _).mono ?_; rintro e w' ⟨x, x0, x1, rfl, rfl⟩
  go_wp2_with fail
  refine (place_gen _ _ (by omega) (by omega) w1 _).mono ?_; rintro e w' ⟨n, n0, n1, rfl, rfl⟩
  have hp := shl_bd x0 x1 n0 (by omega)
  have W : wrap64 (x * 2 ^ n.toNat) = x * 2 ^ n.toNat := IntWalk.wrap64_in _ ⟨by omega, by omega⟩
  go_wp2_with fail
  refine (nu_num 1 _ _ 536870911 (by omega) (by omega) rfl rfl (by simp [rkV]; try omega) (by omega) _).mono ?_; rintro e u1 ⟨rfl, g1⟩
  go_wp2_with fail
  refine (nu_none _ _ _ (k_sum (by omega)) _).mono ?_; rintro e u2 ⟨rfl, g2⟩
  have s2 := g2.keep (new_cell u1 #[.bool false, .int .i64 536870911] 23 (i := 1) rfl)
  have q2 := g2.keep (new_cell u1 #[.bool false, .int .i64 536870911] 23 (i := 0) rfl)
  go_wp2_with fail
  refine (nu_num 2 _ _ (-536870912) (by omega) (by omega) rfl rfl (by simp [rkV]; try omega) (by omega) _).mono ?_; rintro e u3 ⟨rfl, g3⟩
  have s3 := g3.keep (keep_alloc (.cells #[.bool false, .int .i64 0] 23) s2)
  have q3 := g3.keep (keep_alloc (.cells #[.bool false, .int .i64 0] 23) q2)
  go_wp2_with fail
  refine (nu_none _ _ _ (k_dif (by omega)) _).mono ?_; rintro e u4 ⟨rfl, g4⟩
  have s4 := g4.keep (keep_alloc (.cells #[.bool false, .int .i64 (-536870912)] 23) s3)
  have q4 := g4.keep (keep_alloc (.cells #[.bool false, .int .i64 (-536870912)] 23) q3)
  have t4 := g4.keep (new_cell u3 #[.bool false, .int .i64 (-536870912)] 23 (i := 1) rfl)
  go_wp2_with fail
  by_cases hf : x * 2 ^ n.toNat < 536870912
  · have hd : decide (x * 2 ^ n.toNat < 536870912) = true := by simpa using hf
    refine (nu_num 15 x n (x * 2 ^ n.toNat) (by omega) (by omega) rfl (by simp [rkO, shO]; omega) (by show shV x n = _; exact shV_up x0 x1 n0 (by omega)) ⟨by omega, hf⟩ _).mono ?_; rintro e u5 ⟨rfl, g5⟩
    have s5 := g5.keep (keep_alloc (.cells #[.bool false, .int .i64 0] 23) s4)
    have q5 := g5.keep (keep_alloc (.cells #[.bool false, .int .i64 0] 23) q4)
    have t5 := g5.keep (keep_alloc (.cells #[.bool false, .int .i64 0] 23) t4)
    go_wp2_with fail
    refine (nu_num 15 (x * 2 ^ n.toNat) (-n) x ⟨by omega, hf⟩ (by omega) rfl (by simp [rkO, shO]; omega) (by show shV _ _ = _; exact shV_back x0 x1 n0 (by omega)) (by omega) _).mono ?_; rintro e u6 ⟨rfl, g6⟩
    have s6 := g6.keep (keep_alloc (.cells #[.bool false, .int .i64 (x * 2 ^ n.toNat)] 23) s5)
    have q6 := g6.keep (keep_alloc (.cells #[.bool false, .int .i64 (x * 2 ^ n.toNat)] 23) q5)
    have t6 := g6.keep (keep_alloc (.cells #[.bool false, .int .i64 (x * 2 ^ n.toNat)] 23) t5)
    have v6 := g6.keep (new_cell u5 #[.bool false, .int .i64 (x * 2 ^ n.toNat)] 23 (i := 1) rfl)
    go_wp2_with fail
    refine (nu_none _ _ _ (k_o rfl (by simp [rkO, shO]; omega)) _).mono ?_; rintro e u7 ⟨rfl, g7⟩
    have s7 := g7.keep (keep_alloc (.cells #[.bool false, .int .i64 x] 23) s6)
    have q7 := g7.keep (keep_alloc (.cells #[.bool false, .int .i64 x] 23) q6)
    have t7 := g7.keep (keep_alloc (.cells #[.bool false, .int .i64 x] 23) t6)
    have v7 := g7.keep (keep_alloc (.cells #[.bool false, .int .i64 x] 23) v6)
    have y7 := g7.keep (new_cell u6 #[.bool false, .int .i64 x] 23 (i := 1) rfl)
    have l1 := lt_of_cell s7
    have l3 := lt_of_cell t7
    have l5 := lt_of_cell v7
    have l6 := lt_of_cell y7
    go_wp2_with (go_at_call 13; refine (awake_any _).mono ?_; rintro e u8 ⟨rfl, g8⟩)
    go_ret
    exact ⟨rfl, Gr.toGrown (by repeat' (first | with_reducible exact Gr.refl _ | with_reducible assumption | with_reducible refine Gr.drewN ?_ _ | with_reducible refine Gr.drew ?_ | with_reducible refine Gr.alloc ?_ _ _ | with_reducible refine Gr.setCell ?_ ?_ _ | with_reducible refine Gr.trans ?_ (by with_reducible assumption) | (simp; done) | (simp; omega)))⟩
  · have hd : decide (x * 2 ^ n.toNat < 536870912) = false := by simpa using hf
    refine (nu_none 15 x n (k_v rfl (by show ¬ (_ ≤ shV x n ∧ shV x n < _); rw [shV_up x0 x1 n0 (by omega)]; omega)) _).mono ?_; rintro e u5 ⟨rfl, g5⟩
    have s5 := g5.keep (keep_alloc (.cells #[.bool false, .int .i64 0] 23) s4)
    have q5 := g5.keep (keep_alloc (.cells #[.bool false, .int .i64 0] 23) q4)
    have t5 := g5.keep (keep_alloc (.cells #[.bool false, .int .i64 0] 23) t4)
    go_wp2_with fail
    refine (nu_Op 15 0 (-n) _).mono ?_; rintro e u6 ⟨rfl, g6⟩
    have s6 := g6.keep (keep_alloc (.cells #[.bool false, .int .i64 0] 23) s5)
    have q6 := g6.keep (keep_alloc (.cells #[.bool false, .int .i64 0] 23) q5)
    have t6 := g6.keep (keep_alloc (.cells #[.bool false, .int .i64 0] 23) t5)
    have v6 := g6.keep (new_cell u5 #[.bool false, .int .i64 0] 23 (i := 1) rfl)
    go_wp2_with fail
    refine (nu_none _ _ _ (k_o rfl (by simp [rkO, shO]; omega)) _).mono ?_; rintro e u7 ⟨rfl, g7⟩
    have s7 := g7.keep (keep_alloc (.cells #[.bool (opO 15 0 (-n)), .int .i64 (opN 15 0 (-n))] 23) s6)
    have q7 := g7.keep (keep_alloc (.cells #[.bool (opO 15 0 (-n)), .int .i64 (opN 15 0 (-n))] 23) q6)
    have t7 := g7.keep (keep_alloc (.cells #[.bool (opO 15 0 (-n)), .int .i64 (opN 15 0 (-n))] 23) t6)
    have v7 := g7.keep (keep_alloc (.cells #[.bool (opO 15 0 (-n)), .int .i64 (opN 15 0 (-n))] 23) v6)
    have y7 := g7.keep (new_cell u6 #[.bool (opO 15 0 (-n)), .int .i64 (opN 15 0 (-n))] 23 (i := 1) rfl)
    have l1 := lt_of_cell s7
    have l3 := lt_of_cell t7
    have l5 := lt_of_cell v7
    have l6 := lt_of_cell y7
    go_wp2_with (go_at_call 13; refine (awake_any _).mono ?_; rintro e u8 ⟨rfl, g8⟩)
    go_ret
    exact ⟨rfl, Gr.toGrown (by repeat' (first | with_reducible exact Gr.refl _ | with_reducible assumption | with_reducible refine Gr.drewN ?_ _ | with_reducible refine Gr.drew ?_ | with_reducible refine Gr.alloc ?_ _ _ | with_reducible refine Gr.setCell ?_ ?_ _ | with_reducible refine Gr.trans ?_ (by with_reducible assumption) | (simp; done) | (simp; omega)))⟩

/-! ### THE ROW's STEP: WRITTEN OUT: LEAVE IT -/
set_option maxRecDepth 100000 in
theorem lifted (os : Os) (started : os.Started) (H : Type) (enc : TypeId × Value → H) :
    ReturnsInHanded {} Try.checked os 5 .any (Rows.numberEdgesSpec.pre6 enc Try.prog Try.f5 Rows.numberEdgesRow.domain false) (Rows.numberEdgesSpec.post enc Try.prog Try.f5 false true false false) := by
  refine returnsInHanded_of_change (C := Try.checked) own started (by kernel_rfl) Try.func5
    (ChangeSpec.witness6 (enc := enc) (C := Try.checked) false ⟨#[], #[.int .i64 0, .int .i64 0], []⟩ 8 (by kernel_rfl) (by kernel_rfl) (by kernel_rfl) (by kernel_rfl)) ?_
  intro W base args ds gs before hval0 hW hcnd _
  have hval : ∀ (j : Nat) t v, Try.f5.params[j]? = some t → args[j]? = some v → Value.okWide Try.prog W .any base t v := hval0
  have hW' := hW
  obtain ⟨p, q, hA0, hV, rfl, hfz, hnd⟩ := hW
  have hA : DataW.TrodAll enc Try.prog W 0 (fun _ => true) true Try.f5.params.toList args.toList ds p := hA0
  rw [Try.params5] at hA hval
  obtain ⟨v0, vs0, d0, ds0, p0, q0, hargs, rfl, rfl, h0, r0⟩ := trodAll_cons hA
  obtain ⟨v1, vs1, d1, ds1, p1, q1, rfl, rfl, rfl, h1, r1⟩ := trodAll_cons r0
  obtain ⟨rfl, rfl, rfl⟩ := trodAll_nil r1
  obtain rfl : args = #[v0, v1] := by cases args; simp_all
  obtain ⟨rfl, rfl⟩ := trodVars_none hV
  obtain ⟨a0, rfl, rfl, rfl, w0⟩ := open_int Try.underlying3 (hval 0 3 v0 rfl rfl) h0
  obtain ⟨a1, rfl, rfl, rfl, w1⟩ := open_int Try.underlying3 (hval 1 3 v1 rfl rfl) h1
  clear hA0 hval0
  simp only [List.append_nil] at hW'
  refine (walk a0 a1 w0 w1 W).mono fun e W' ⟨he, hg⟩ => ?_
  subst he
  exact ⟨_, rfl, post_of_same (pa := []) (pv := []) hW' (fun _ _ _ => (trodAll_cons_mk (shut_bool Try.underlying4 _) trodAll_mk0)) (fun sp _ => (trodAll_cons_mk (shut_int Try.underlying3 w0) (trodAll_cons_mk (shut_int Try.underlying3 w1) trodAll_mk0))) (fun _ _ => rfl) rfl
    (hg.frame _) hg.2.1 (ok_one (by kernel_rfl) rfl (okWide_bool_mk Try.underlying4 _))⟩

theorem over : Rows.numberEdgesRow.holds Try.pinned (OpenSpec.ofChange Rows.numberEdgesSpec) :=
  OpenClaim.holds_of_wide 5 Try.f5 rfl rfl rfl rfl rfl rfl rfl ⟨rfl, rfl, rfl, rfl, rfl⟩ rfl rfl rfl rfl rfl (by kernel_rfl) Try.func5 (by kernel_rfl)
    (of_decide_eq_true (by kernel_rfl)) (by unfold Func.isWrapper; first | (rw [if_pos (by decide +kernel)]; kernel_rfl) | (rw [if_neg (by decide +kernel)]; exact ⟨rfl, rfl⟩))
    (fun os started H enc _ => lifted os started H enc)

/-- THE STATEMENT -/
theorem proved : Rows.NumberEdgesSaid :=
  over
#print axioms proved
end Go.Proofs.Ytbkpioheojaeaaa.numberEdges
