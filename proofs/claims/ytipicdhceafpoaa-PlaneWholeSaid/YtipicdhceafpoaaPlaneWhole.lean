/- The law PlaneWhole returns true at every input, and leaves its arguments as they were. No condition. -/
import Derived.Test.YtipicdhceafpoaaRows
import Derived.WalkKit
import Derived.ProofKit
import Derived.OpenShut
import Derived.Test.YtipicdhceafpoaaPlane4
namespace Go.Proofs.Ytipicdhceafpoaa.planeWhole
open Go.ChangeShapes Go.WideShapes Go.ChangeAt Go.RowKit
open Go.Proofs.Ytipicdhceafpoaa.Gen
open Go.Proofs.Ytipicdhceafpoaa.Base
open Go.Proofs.Ytipicdhceafpoaa.Pl
open Go.Proofs.Ytipicdhceafpoaa.Flo
set_option linter.unusedVariables false      -- a walk need not use every 'w<i>' (that an integer argument fits its kind)

theorem own : ownKnob Try.prog.godebug = none := by kernel_rfl

theorem quo_inf (w : World) : (binOp .quo 32 (.float .f64 4607182418800017408) (.float .f64 0)).run Try.prog w = .ok (.float .f64 9218868437227405312) w :=
  run_float_arith w .quo _ .f64 _ _ _ (by decide)
theorem quo_nan (w : World) : (binOp .quo 32 (.float .f64 0) (.float .f64 0)).run Try.prog w = .ok (.float .f64 (nanB w 0 0)) w.drew := by
  have h : floatBits .quo .f64 0 0 = none := by decide
  have e : binOp .quo 32 (.float .f64 0) (.float .f64 0) = Op.floatArith .quo .f64 0 0 := by simp [binOp]
  rw [e]; exact run_nan w .quo 0 0 (Or.inr rfl) h
theorem add_nan (w : World) (a b c d p : Nat) (h1 : floatBits .add .f64 a c = some p) (h2 : floatBits .add .f64 b d = none) :
    (binOp .add 31 (.complex .f64 a b) (.complex .f64 c d)).run Try.prog w = .ok (.complex .f64 p (nanB w b d)) w.drew := by
  have e2 := run_nan (P := Try.prog) w .add b d (Or.inl rfl) h2
  have e3 : (Op.Complex.arith .add .f64 b d).run Try.prog w = .ok (nanB w b d) w.drew := by simp [Op.Complex.arith, e2]
  simp [binOp, Op.complexOp, run_carith w h1, e3]
theorem add_nan_none (w : World) (x y b : Nat) {s : Bool} {m : Nat} {i : Int} (hb : Ieee.double.read b = .number s m i) : floatBits .add .f64 b (nanB w x y) = none := by
  obtain ⟨s', f, hn⟩ := nan_read w x y
  show Ieee.double.add b (nanB w x y) = none
  unfold Ieee.Format.add; rw [hb, hn]; rfl
theorem add_inf (b : Nat) {s : Bool} {m : Nat} {i : Int} (hb : Ieee.double.read b = .number s m i) : floatBits .add .f64 b 9218868437227405312 = some 9218868437227405312 := by
  show Ieee.double.add b 9218868437227405312 = some 9218868437227405312
  have hi : Ieee.double.read 9218868437227405312 = .infinity false := by decide
  unfold Ieee.Format.add; rw [hb, hi]
  show some (Ieee.double.write (.infinity false)) = _
  decide
theorem c_of {a b c d p q : Nat} (h1 : floatBits .add .f64 a c = some p) (h2 : floatBits .add .f64 b d = some q) : cSumBits .add .f64 a b c d = some (p, q) := by
  unfold cSumBits; rw [h1, h2]; rfl
theorem rep_num {k x : Nat} {N : Int} (h : Rep k x N) : ∃ s m i, Ieee.double.read x = .number s m i := by obtain ⟨s, b, e, _⟩ := h; exact ⟨_, _, _, e⟩
theorem idx4 (v0 v1 v2 v3 : Value) (w : World) : (Instr.index 34 (.agg #[v0, v1, v2, v3]) (.int .i64 0)).run Try.prog w = .ok v0 w ∧ (Instr.index 34 (.agg #[v0, v1, v2, v3]) (.int .i64 1)).run Try.prog w = .ok v1 w ∧ (Instr.index 34 (.agg #[v0, v1, v2, v3]) (.int .i64 2)).run Try.prog w = .ok v2 w ∧ (Instr.index 34 (.agg #[v0, v1, v2, v3]) (.int .i64 3)).run Try.prog w = .ok v3 w :=
  ⟨by kernel_rfl, by kernel_rfl, by kernel_rfl, by kernel_rfl⟩
theorem nzr : Rep 0 (ng 0) 0 := ng_rep zero_rep
/-! ### STEP 1: THE WALK: the Go text returns true. 'Grown w w'': the world has at most new blocks (Derived/RowKit3.lean). Part the cases AHEAD of 'go_enter' where a test parts the walk; take each callee by a contract of your own. -/
set_option maxRecDepth 100000 in
set_option maxHeartbeats 16000000 in
theorem walk (a0 : Int) (a1 : Int) (a2 : Int) (w0 : (Lit.int .i64 a0).wf = true) (w1 : (Lit.int .i64 a1).wf = true) (w2 : (Lit.int .i64 a2).wf = true) (w : World) :
    Calls Try.prog 4 #[.int .i64 a0, .int .i64 a1, .int .i64 a2] w fun e w' => e = .returned (.bool true) ∧ Grown w w' := by
  have x0 : -1048576 ≤ a0 % 2097153 - 1048576 ∧ a0 % 2097153 - 1048576 ≤ 1048576 := by omega
  have y0 : -1048576 ≤ a1 % 2097153 - 1048576 ∧ a1 % 2097153 - 1048576 ≤ 1048576 := by omega
  have hq1 := quo_inf
  have hq2 := quo_nan
  have hn := ng_run 0
  have hh : a2 % 4 = 0 ∨ a2 % 4 = 1 ∨ a2 % 4 = 2 ∨ a2 % 4 = 3 := by omega
  have pa := place_any a0 2097153 (by decide) (by decide) w0 w
  have pb := place_any a1 2097153 (by decide) (by decide) w1 w
  have PA := Lib.hid pa; have PB := Lib.hid pb
  clear pa pb
  obtain ⟨x, hx⟩ : ∃ x, a0 % 2097153 - 1048576 = x := ⟨_, rfl⟩
  obtain ⟨y, hy⟩ : ∃ y, a1 % 2097153 - 1048576 = y := ⟨_, rfl⟩
  rw [hx] at x0; rw [hy] at y0
  have HX := Lib.hid hx; have HY := Lib.hid hy
  clear hx hy
  have fx := ri x0; have fy := ri y0
  obtain ⟨p0, e0, r0⟩ := rep_add (by decide) fx zero_rep (by omega)
  obtain ⟨q0, e1, r1⟩ := rep_add (by decide) fy zero_rep (by omega)
  rw [Int.add_zero] at r0 r1
  obtain ⟨p1, e2, r2⟩ := rep_add (by decide) (rep_int_k 1 (by decide) x (by omega)) half_rep (by omega)
  obtain ⟨q1, e3, r3⟩ := rep_add (by decide) (rep_int_k 2 (by decide) y (by omega)) quarter_rep (by omega)
  obtain ⟨s1, m1, i1, n1⟩ := rep_num fx
  obtain ⟨s2, m2, i2, n2⟩ := rep_num fy
  have c0 := fun w => run_complex_sum (P := Try.prog) w .add (Or.inl rfl) 31 .f64 _ _ _ _ _ _ (c_of (fa e2) (fa e1))
  have c1 := fun w => run_complex_sum (P := Try.prog) w .add (Or.inl rfl) 31 .f64 _ _ _ _ _ _ (c_of (fa e0) (fa e3))
  have c2 := fun w => run_complex_sum (P := Try.prog) w .add (Or.inl rfl) 31 .f64 _ _ _ _ _ _ (c_of (add_inf _ n1) (fa e1))
  have c3 := fun (u v : World) => add_nan v (floatOfInt .f64 x) (floatOfInt .f64 y) 0 (nanB u 0 0) p0 (fa e0) (add_nan_none u 0 0 _ n2)
  have W0 : NoW p1 := fun w => pl_whole_part 1 (by decide) p1 _ r2 (by omega) (by omega) w
  have W1 : NoW q1 := fun w => pl_whole_part 2 (by decide) q1 _ r3 (by omega) (by omega) w
  have W2 : NoW 9218868437227405312 := fun w => pl_whole_inf _ (by decide) w
  have W3 : ∀ (u v : World), NoW (nanB v (floatOfInt .f64 y) (nanB u 0 0)) := fun u v w => by
    obtain ⟨s, f, hf⟩ := nan_read v (floatOfInt .f64 y) (nanB u 0 0)
    exact pl_whole_nan _ (order_nan hf) w
  have WW0 := Lib.hid W0; have WW1 := Lib.hid W1; have WW2 := Lib.hid W2; have WW3 := Lib.hid W3
  have FX := Lib.hid fx; have FY := Lib.hid fy; have R0 := Lib.hid r0
  clear W0 W1 W2 W3 fx fy r0 r1 r2 r3 e0 e1 e2 e3 n1 n2
  rcases hh with hh | hh | hh | hh
  · have H4 := Lib.hid hh; clear hh c1 c2 c3
    have hi := fun v0 v1 v2 v3 w => (idx4 v0 v1 v2 v3 w).1
    go_enter Try.func4, Try.ntmps4
    go_wp2_with fail
    refine (PA.out).mono ?_; rintro e w' ⟨rfl, rfl⟩
    go_wp2_with fail
    refine (PB.out).mono ?_; rintro e w' ⟨rfl, rfl⟩
    go_upto_region 2 with fail
    rw [HX.out, HY.out]
    go_wp2_with fail
    refine (pl_Of _ _ x y FX.out FY.out x0 y0 _).mono ?_; rintro e w' ⟨rfl, rfl⟩
    go_wp2_with fail
    refine (place_any _ _ (by omega) (by omega) w2 _).mono ?_; rintro e w' ⟨rfl, rfl⟩
    rw [H4.out]
    go_wp2_with fail
    refine (pl_Of_re p1 q0 WW0.out _).mono ?_; rintro e w' ⟨rfl, rfl⟩
    go_wp2_with fail
    refine (pl_Of _ _ 0 y nzr FY.out (by decide) y0 _).mono ?_; rintro e w' ⟨rfl, rfl⟩
    go_wp2_with fail
    refine (awake_any _).mono ?_; rintro e u3 ⟨rfl, g3⟩
    go_wp2_with fail
    go_ret
    exact ⟨rfl, Gr.toGrown (Gr.trans (by repeat' (first | with_reducible exact Gr.refl _ | with_reducible refine Gr.drew ?_)) g3)⟩
  · have H4 := Lib.hid hh; clear hh c0 c2 c3
    have hi := fun v0 v1 v2 v3 w => (idx4 v0 v1 v2 v3 w).2.1
    go_enter Try.func4, Try.ntmps4
    go_wp2_with fail
    refine (PA.out).mono ?_; rintro e w' ⟨rfl, rfl⟩
    go_wp2_with fail
    refine (PB.out).mono ?_; rintro e w' ⟨rfl, rfl⟩
    go_upto_region 2 with fail
    rw [HX.out, HY.out]
    go_wp2_with fail
    refine (pl_Of _ _ x y FX.out FY.out x0 y0 _).mono ?_; rintro e w' ⟨rfl, rfl⟩
    go_wp2_with fail
    refine (place_any _ _ (by omega) (by omega) w2 _).mono ?_; rintro e w' ⟨rfl, rfl⟩
    rw [H4.out]
    go_wp2_with fail
    refine (pl_Of_im p0 q1 x R0.out x0 WW1.out _).mono ?_; rintro e w' ⟨rfl, rfl⟩
    go_wp2_with fail
    refine (pl_Of _ _ 0 y nzr FY.out (by decide) y0 _).mono ?_; rintro e w' ⟨rfl, rfl⟩
    go_wp2_with fail
    refine (awake_any _).mono ?_; rintro e u3 ⟨rfl, g3⟩
    go_wp2_with fail
    go_ret
    exact ⟨rfl, Gr.toGrown (Gr.trans (by repeat' (first | with_reducible exact Gr.refl _ | with_reducible refine Gr.drew ?_)) g3)⟩
  · have H4 := Lib.hid hh; clear hh c0 c1 c3
    have hi := fun v0 v1 v2 v3 w => (idx4 v0 v1 v2 v3 w).2.2.1
    go_enter Try.func4, Try.ntmps4
    go_wp2_with fail
    refine (PA.out).mono ?_; rintro e w' ⟨rfl, rfl⟩
    go_wp2_with fail
    refine (PB.out).mono ?_; rintro e w' ⟨rfl, rfl⟩
    go_upto_region 2 with fail
    rw [HX.out, HY.out]
    go_wp2_with fail
    refine (pl_Of _ _ x y FX.out FY.out x0 y0 _).mono ?_; rintro e w' ⟨rfl, rfl⟩
    go_wp2_with fail
    refine (place_any _ _ (by omega) (by omega) w2 _).mono ?_; rintro e w' ⟨rfl, rfl⟩
    rw [H4.out]
    go_wp2_with fail
    refine (pl_Of_re _ q0 WW2.out _).mono ?_; rintro e w' ⟨rfl, rfl⟩
    go_wp2_with fail
    refine (pl_Of _ _ 0 y nzr FY.out (by decide) y0 _).mono ?_; rintro e w' ⟨rfl, rfl⟩
    go_wp2_with fail
    refine (awake_any _).mono ?_; rintro e u3 ⟨rfl, g3⟩
    go_wp2_with fail
    go_ret
    exact ⟨rfl, Gr.toGrown (Gr.trans (by repeat' (first | with_reducible exact Gr.refl _ | with_reducible refine Gr.drew ?_)) g3)⟩
  · have H4 := Lib.hid hh; clear hh c0 c1 c2
    have hi := fun v0 v1 v2 v3 w => (idx4 v0 v1 v2 v3 w).2.2.2
    go_enter Try.func4, Try.ntmps4
    go_wp2_with fail
    refine (PA.out).mono ?_; rintro e w' ⟨rfl, rfl⟩
    go_wp2_with fail
    refine (PB.out).mono ?_; rintro e w' ⟨rfl, rfl⟩
    go_upto_region 2 with fail
    rw [HX.out, HY.out]
    go_wp2_with fail
    refine (pl_Of _ _ x y FX.out FY.out x0 y0 _).mono ?_; rintro e w' ⟨rfl, rfl⟩
    go_wp2_with fail
    refine (place_any _ _ (by omega) (by omega) w2 _).mono ?_; rintro e w' ⟨rfl, rfl⟩
    rw [H4.out]
    go_wp2_with fail
    refine (pl_Of_im p0 _ x R0.out x0 (WW3.out _ _) _).mono ?_; rintro e w' ⟨rfl, rfl⟩
    go_wp2_with fail
    refine (pl_Of _ _ 0 y nzr FY.out (by decide) y0 _).mono ?_; rintro e w' ⟨rfl, rfl⟩
    go_wp2_with fail
    refine (awake_any _).mono ?_; rintro e u3 ⟨rfl, g3⟩
    go_wp2_with fail
    go_ret
    exact ⟨rfl, Gr.toGrown (Gr.trans (by repeat' (first | with_reducible exact Gr.refl _ | with_reducible refine Gr.drew ?_)) g3)⟩

/-! ### THE ROW's STEP: WRITTEN OUT: LEAVE IT -/
set_option maxRecDepth 100000 in
theorem lifted (os : Os) (started : os.Started) (H : Type) (enc : TypeId × Value → H) :
    ReturnsInHanded {} Try.checked os 4 .any (Rows.planeWholeSpec.pre6 enc Try.prog Try.f4 Rows.planeWholeRow.domain false) (Rows.planeWholeSpec.post enc Try.prog Try.f4 false true false false) := by
  refine returnsInHanded_of_change (C := Try.checked) own started (by kernel_rfl) Try.func4
    (ChangeSpec.witness6 (enc := enc) (C := Try.checked) false ⟨#[], #[.int .i64 0, .int .i64 0, .int .i64 0], []⟩ 8 (by kernel_rfl) (by kernel_rfl) (by kernel_rfl) (by kernel_rfl)) ?_
  intro W base args ds gs before hval0 hW hcnd _
  have hval : ∀ (j : Nat) t v, Try.f4.params[j]? = some t → args[j]? = some v → Value.okWide Try.prog W .any base t v := hval0
  have hW' := hW
  obtain ⟨p, q, hA0, hV, rfl, hfz, hnd⟩ := hW
  have hA : DataW.TrodAll enc Try.prog W 0 (fun _ => true) true Try.f4.params.toList args.toList ds p := hA0
  rw [Try.params4] at hA hval
  obtain ⟨v0, vs0, d0, ds0, p0, q0, hargs, rfl, rfl, h0, r0⟩ := trodAll_cons hA
  obtain ⟨v1, vs1, d1, ds1, p1, q1, rfl, rfl, rfl, h1, r1⟩ := trodAll_cons r0
  obtain ⟨v2, vs2, d2, ds2, p2, q2, rfl, rfl, rfl, h2, r2⟩ := trodAll_cons r1
  obtain ⟨rfl, rfl, rfl⟩ := trodAll_nil r2
  obtain rfl : args = #[v0, v1, v2] := by cases args; simp_all
  obtain ⟨rfl, rfl⟩ := trodVars_none hV
  obtain ⟨a0, rfl, rfl, rfl, w0⟩ := open_int Try.underlying3 (hval 0 3 v0 rfl rfl) h0
  obtain ⟨a1, rfl, rfl, rfl, w1⟩ := open_int Try.underlying3 (hval 1 3 v1 rfl rfl) h1
  obtain ⟨a2, rfl, rfl, rfl, w2⟩ := open_int Try.underlying3 (hval 2 3 v2 rfl rfl) h2
  clear hA0 hval0
  simp only [List.append_nil] at hW'
  refine (walk a0 a1 a2 w0 w1 w2 W).mono fun e W' ⟨he, hg⟩ => ?_
  subst he
  exact ⟨_, rfl, post_of_same (pa := []) (pv := []) hW' (fun _ _ _ => (trodAll_cons_mk (shut_bool Try.underlying4 _) trodAll_mk0)) (fun sp _ => (trodAll_cons_mk (shut_int Try.underlying3 w0) (trodAll_cons_mk (shut_int Try.underlying3 w1) (trodAll_cons_mk (shut_int Try.underlying3 w2) trodAll_mk0)))) (fun _ _ => rfl) rfl
    (hg.frame _) hg.2.1 (ok_one (by kernel_rfl) rfl (okWide_bool_mk Try.underlying4 _))⟩

theorem over : Rows.planeWholeRow.holds Try.pinned (OpenSpec.ofChange Rows.planeWholeSpec) :=
  OpenClaim.holds_of_wide 4 Try.f4 rfl rfl rfl rfl rfl rfl rfl ⟨rfl, rfl, rfl, rfl, rfl⟩ rfl rfl rfl rfl rfl (by kernel_rfl) Try.func4 (by kernel_rfl)
    (of_decide_eq_true (by kernel_rfl)) (by unfold Func.isWrapper; first | (rw [if_pos (by decide +kernel)]; kernel_rfl) | (rw [if_neg (by decide +kernel)]; exact ⟨rfl, rfl⟩))
    (fun os started H enc _ => lifted os started H enc)

/-- THE STATEMENT -/
theorem proved : Rows.PlaneWholeSaid :=
  over
#print axioms proved
end Go.Proofs.Ytipicdhceafpoaa.planeWhole
