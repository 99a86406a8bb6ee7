/- The law HeaderBack returns true at every input, and leaves its arguments as they were. No condition. -/
import Derived.Test.YthdidhpblhfcbabRows
import Derived.WalkKit
import Derived.ProofKit
import Derived.OpenShut
import Derived.Test.YthdidhpblhfcbabHead2
import Derived.Deep.RegionHeld3
import Derived.Deep.DrawnRows
namespace Go.Proofs.Ythdidhpblhfcbab.headerBack
open Go.ChangeShapes Go.WideShapes Go.ChangeAt Go.RowKit
open Go.Proofs.Ythdidhpblhfcbab.Gen
open Go.Proofs.Ythdidhpblhfcbab.Base
open Go.Proofs.Ythdidhpblhfcbab.Hd
set_option linter.unusedVariables false      -- a walk need not use every 'w<i>' (that an integer argument fits its kind)

theorem own : ownKnob Try.prog.godebug = none := by kernel_rfl

theorem keepS {W wa wb : World} {p q : Nat} {x0 x1 x2 x3 x4 x5 y0 y1 y2 y3 y4 y5 : Value} (h : Gr W wa ∧ p < wa.heap.size ∧ q < wa.heap.size ∧ wa.cell? ⟨p, 0, none⟩ = some x0 ∧ wa.cell? ⟨p, 1, none⟩ = some x1 ∧ wa.cell? ⟨p, 2, none⟩ = some x2 ∧ wa.cell? ⟨p, 3, none⟩ = some x3 ∧ wa.cell? ⟨p, 4, none⟩ = some x4 ∧ wa.cell? ⟨p, 5, none⟩ = some x5 ∧ wa.cell? ⟨q, 0, none⟩ = some y0 ∧ wa.cell? ⟨q, 1, none⟩ = some y1 ∧ wa.cell? ⟨q, 2, none⟩ = some y2 ∧ wa.cell? ⟨q, 3, none⟩ = some y3 ∧ wa.cell? ⟨q, 4, none⟩ = some y4 ∧ wa.cell? ⟨q, 5, none⟩ = some y5) (hg : Gr wa wb) : Gr W wb ∧ p < wb.heap.size ∧ q < wb.heap.size ∧ wb.cell? ⟨p, 0, none⟩ = some x0 ∧ wb.cell? ⟨p, 1, none⟩ = some x1 ∧ wb.cell? ⟨p, 2, none⟩ = some x2 ∧ wb.cell? ⟨p, 3, none⟩ = some x3 ∧ wb.cell? ⟨p, 4, none⟩ = some x4 ∧ wb.cell? ⟨p, 5, none⟩ = some x5 ∧ wb.cell? ⟨q, 0, none⟩ = some y0 ∧ wb.cell? ⟨q, 1, none⟩ = some y1 ∧ wb.cell? ⟨q, 2, none⟩ = some y2 ∧ wb.cell? ⟨q, 3, none⟩ = some y3 ∧ wb.cell? ⟨q, 4, none⟩ = some y4 ∧ wb.cell? ⟨q, 5, none⟩ = some y5 := by
  obtain ⟨a, b, c, h0, h1, h2, h3, h4, h5, g0, g1, g2, g3, g4, g5⟩ := h
  have hs := hg.size
  refine ⟨Gr.trans a hg, by omega, by omega, ?_, ?_, ?_, ?_, ?_, ?_, ?_, ?_, ?_, ?_, ?_, ?_⟩ <;> (rw [hg.cell _ _ (by assumption)]; assumption)
attribute [local go_sem ↓] Go.wp_at_zero Go.wp_at_succ
/-! ### STEP 1: THE WALK: the Go text returns true. 'Grown w w'': the world has at most new blocks (Derived/RowKit3.lean). Part the cases AHEAD of 'go_enter' where a test parts the walk; take each callee by a contract of your own. -/
set_option maxHeartbeats 2000000 in
theorem walk (a0 : Int) (a1 : Int) (a2 : Int) (a3 : Int) (a4 : Bool) (a5 : Bool) (a6 : Int) (w0 : (Lit.int .i64 a0).wf = true) (w1 : (Lit.int .i64 a1).wf = true) (w2 : (Lit.int .i64 a2).wf = true) (w3 : (Lit.int .i64 a3).wf = true) (w6 : (Lit.int .u32 a6).wf = true) (w : World) :
    Calls Try.prog 4 #[.int .i64 a0, .int .i64 a1, .int .i64 a2, .int .i64 a3, .bool a4, .bool a5, .int .u32 a6] w fun e w' => e = .returned (.bool true) ∧ Grown w w' := by
  have b6 := bounds_u32 w6
  go_enter Try.func4, Try.ntmps4
  go_wp2_with fail
  refine (place_gen _ _ (by omega) (by omega) w0 _).mono ?_
  rintro e w' ⟨s, s0, s1, rfl, rfl⟩
  go_wp2_with fail
  refine (place_gen _ _ (by omega) (by omega) w1 _).mono ?_
  rintro e w' ⟨f, f0, f1, rfl, rfl⟩
  go_wp2_with fail
  refine (place_gen _ _ (by omega) (by omega) w2 _).mono ?_
  rintro e w' ⟨o, o0, o1, rfl, rfl⟩
  go_wp2_with fail
  refine (place_gen _ _ (by omega) (by omega) w3 _).mono ?_
  rintro e w' ⟨c, c0, c1, rfl, rfl⟩
  have hb := hput_bd s f o c a4 a5
  have wf1 := u32_wf (v := hput s f o c a4 a5) (by omega) (by omega)
  have wf2 := u32_wf (v := hput s f o c a4 a5 + a6 % 256 * 16777216) (by omega) (by omega)
  have M := more_or s f o c a4 a5 a6 b6.1
  have q1 := siz_put f o c a4 a5 (a6 % 256) s0 s1
  have q2 := fmt_put s o c a4 a5 (a6 % 256) f0 f1
  have q3 := odd_put s f c a4 a5 (a6 % 256) o0 o1
  have q4 := col_put s f o a4 a5 (a6 % 256) c0 c1
  have q5 := fin_put s f o c a4 a5 (a6 % 256)
  have q6 := liv_put s f o c a4 a5 (a6 % 256)
  have p1 := siz_put f o c a4 a5 0 s0 s1
  have p2 := fmt_put s o c a4 a5 0 f0 f1
  have p3 := odd_put s f c a4 a5 0 o0 o1
  have p4 := col_put s f o a4 a5 0 c0 c1
  have p5 := fin_put s f o c a4 a5 0
  have p6 := liv_put s f o c a4 a5 0
  simp only [Int.zero_mul, Int.add_zero] at p1 p2 p3 p4 p5 p6
  go_wp2_with fail
  refine (hd_Put _ _ _ _ _ _ _).mono ?_
  rintro e u1 ⟨rfl, g1⟩
  have k1 := g1.cell
  have z1 := g1.size
  simp at z1
  go_wp2_with fail
  refine (hd_Get _ wf2 _).mono ?_
  rintro e u2 ⟨rfl, g2⟩
  have k2 := g2.cell
  have z2 := g2.size
  have G2 : Gr w u2 := Gr.trans (Gr.trans (Gr.alloc (Gr.refl _) _ _) g1) g2
  have zz : w.heap.size < u2.heap.size := by omega
  have e0 : u2.cell? ⟨w.heap.size, 0, none⟩ = some (.int .i64 s) := by rw [k2 _ _ (by omega), k1 _ _ (by simp)]; simp [go_sem]
  have e1 : u2.cell? ⟨w.heap.size, 1, none⟩ = some (.int .i64 f) := by rw [k2 _ _ (by omega), k1 _ _ (by simp)]; simp [go_sem]
  have e2 : u2.cell? ⟨w.heap.size, 2, none⟩ = some (.int .i64 o) := by rw [k2 _ _ (by omega), k1 _ _ (by simp)]; simp [go_sem]
  have e3 : u2.cell? ⟨w.heap.size, 3, none⟩ = some (.int .i64 c) := by rw [k2 _ _ (by omega), k1 _ _ (by simp)]; simp [go_sem]
  have e4 : u2.cell? ⟨w.heap.size, 4, none⟩ = some (.bool a4) := by rw [k2 _ _ (by omega), k1 _ _ (by simp)]; simp [go_sem]
  have e5 : u2.cell? ⟨w.heap.size, 5, none⟩ = some (.bool a5) := by rw [k2 _ _ (by omega), k1 _ _ (by simp)]; simp [go_sem]
  clear k1 k2 g1 g2
  go_wp2_with fail
  have hS : Gr w (u2.alloc (.cells #[.int .i64 s, .int .i64 f, .int .i64 o, .int .i64 c, .bool a4, .bool a5] 25)) ∧ w.heap.size < (u2.alloc (.cells #[.int .i64 s, .int .i64 f, .int .i64 o, .int .i64 c, .bool a4, .bool a5] 25)).heap.size ∧ u2.heap.size < (u2.alloc (.cells #[.int .i64 s, .int .i64 f, .int .i64 o, .int .i64 c, .bool a4, .bool a5] 25)).heap.size ∧ (u2.alloc (.cells #[.int .i64 s, .int .i64 f, .int .i64 o, .int .i64 c, .bool a4, .bool a5] 25)).cell? ⟨w.heap.size, 0, none⟩ = some (.int .i64 s) ∧ (u2.alloc (.cells #[.int .i64 s, .int .i64 f, .int .i64 o, .int .i64 c, .bool a4, .bool a5] 25)).cell? ⟨w.heap.size, 1, none⟩ = some (.int .i64 f) ∧ (u2.alloc (.cells #[.int .i64 s, .int .i64 f, .int .i64 o, .int .i64 c, .bool a4, .bool a5] 25)).cell? ⟨w.heap.size, 2, none⟩ = some (.int .i64 o) ∧ (u2.alloc (.cells #[.int .i64 s, .int .i64 f, .int .i64 o, .int .i64 c, .bool a4, .bool a5] 25)).cell? ⟨w.heap.size, 3, none⟩ = some (.int .i64 c) ∧ (u2.alloc (.cells #[.int .i64 s, .int .i64 f, .int .i64 o, .int .i64 c, .bool a4, .bool a5] 25)).cell? ⟨w.heap.size, 4, none⟩ = some (.bool a4) ∧ (u2.alloc (.cells #[.int .i64 s, .int .i64 f, .int .i64 o, .int .i64 c, .bool a4, .bool a5] 25)).cell? ⟨w.heap.size, 5, none⟩ = some (.bool a5) ∧ (u2.alloc (.cells #[.int .i64 s, .int .i64 f, .int .i64 o, .int .i64 c, .bool a4, .bool a5] 25)).cell? ⟨u2.heap.size, 0, none⟩ = some (.int .i64 s) ∧ (u2.alloc (.cells #[.int .i64 s, .int .i64 f, .int .i64 o, .int .i64 c, .bool a4, .bool a5] 25)).cell? ⟨u2.heap.size, 1, none⟩ = some (.int .i64 f) ∧ (u2.alloc (.cells #[.int .i64 s, .int .i64 f, .int .i64 o, .int .i64 c, .bool a4, .bool a5] 25)).cell? ⟨u2.heap.size, 2, none⟩ = some (.int .i64 o) ∧ (u2.alloc (.cells #[.int .i64 s, .int .i64 f, .int .i64 o, .int .i64 c, .bool a4, .bool a5] 25)).cell? ⟨u2.heap.size, 3, none⟩ = some (.int .i64 c) ∧ (u2.alloc (.cells #[.int .i64 s, .int .i64 f, .int .i64 o, .int .i64 c, .bool a4, .bool a5] 25)).cell? ⟨u2.heap.size, 4, none⟩ = some (.bool a4) ∧ (u2.alloc (.cells #[.int .i64 s, .int .i64 f, .int .i64 o, .int .i64 c, .bool a4, .bool a5] 25)).cell? ⟨u2.heap.size, 5, none⟩ = some (.bool a5) := by
    refine ⟨Gr.alloc G2 _ _, by simp; omega, by simp, ?_⟩
    have hlt : w.heap.size < u2.heap.size := zz
    simp [go_sem, *]
  generalize (u2.alloc (.cells #[.int .i64 s, .int .i64 f, .int .i64 o, .int .i64 c, .bool a4, .bool a5] 25)) = u3 at hS ⊢
  clear e0 e1 e2 e3 e4 e5 G2
  go_region_held3 (fun w' => Gr w w' ∧ w.heap.size < w'.heap.size ∧ u2.heap.size < w'.heap.size ∧ w'.cell? ⟨w.heap.size, 0, none⟩ = some (.int .i64 s) ∧ w'.cell? ⟨w.heap.size, 1, none⟩ = some (.int .i64 f) ∧ w'.cell? ⟨w.heap.size, 2, none⟩ = some (.int .i64 o) ∧ w'.cell? ⟨w.heap.size, 3, none⟩ = some (.int .i64 c) ∧ w'.cell? ⟨w.heap.size, 4, none⟩ = some (.bool a4) ∧ w'.cell? ⟨w.heap.size, 5, none⟩ = some (.bool a5) ∧ w'.cell? ⟨u2.heap.size, 0, none⟩ = some (.int .i64 s) ∧ w'.cell? ⟨u2.heap.size, 1, none⟩ = some (.int .i64 f) ∧ w'.cell? ⟨u2.heap.size, 2, none⟩ = some (.int .i64 o) ∧ w'.cell? ⟨u2.heap.size, 3, none⟩ = some (.int .i64 c) ∧ w'.cell? ⟨u2.heap.size, 4, none⟩ = some (.bool a4) ∧ w'.cell? ⟨u2.heap.size, 5, none⟩ = some (.bool a5))
    (first
      | exact ⟨Gr.drew hS.1, hS.2⟩
      | exact keepS (by assumption) hg)
    (first
      | (go_at_call 10; refine (hd_Get _ wf1 _).mono ?_; rintro e w' ⟨rfl, hg⟩; have hk := hg.cell; have hz := hg.size)
      | (go_at_call 7; refine (hd_Put _ _ _ _ _ _ _).mono ?_; rintro e w' ⟨rfl, hg⟩; have hk := hg.cell; have hz := hg.size)
      | (go_at_call 12; refine (awake_any _).mono ?_; rintro e w' ⟨rfl, hg⟩; have hk := hg.cell; have hz := hg.size))
  go_wp2
  go_ret
  exact ⟨rfl, Gr.toGrown (And.left (by assumption))⟩

/-! ### THE ROW's STEP: WRITTEN OUT: LEAVE IT -/
set_option maxRecDepth 100000 in
theorem lifted (os : Os) (started : os.Started) (H : Type) (enc : TypeId × Value → H) :
    ReturnsInHanded {} Try.checked os 4 .any (Rows.headerBackSpec.pre6 enc Try.prog Try.f4 Rows.headerBackRow.domain false) (Rows.headerBackSpec.post enc Try.prog Try.f4 false true false false) := by
  refine returnsInHanded_of_change (C := Try.checked) own started (by kernel_rfl) Try.func4
    (ChangeSpec.witness6 (enc := enc) (C := Try.checked) false ⟨#[], #[.int .i64 0, .int .i64 0, .int .i64 0, .int .i64 0, .bool false, .bool false, .int .u32 0], []⟩ 8 (by kernel_rfl) (by kernel_rfl) (by kernel_rfl) (by kernel_rfl)) ?_
  intro W base args ds gs before hval0 hW hcnd _
  have hval : ∀ (j : Nat) t v, Try.f4.params[j]? = some t → args[j]? = some v → Value.okWide Try.prog W .any base t v := hval0
  have hW' := hW
  obtain ⟨p, q, hA0, hV, rfl, hfz, hnd⟩ := hW
  have hA : DataW.TrodAll enc Try.prog W 0 (fun _ => true) true Try.f4.params.toList args.toList ds p := hA0
  rw [Try.params4] at hA hval
  obtain ⟨v0, vs0, d0, ds0, p0, q0, hargs, rfl, rfl, h0, r0⟩ := trodAll_cons hA
  obtain ⟨v1, vs1, d1, ds1, p1, q1, rfl, rfl, rfl, h1, r1⟩ := trodAll_cons r0
  obtain ⟨v2, vs2, d2, ds2, p2, q2, rfl, rfl, rfl, h2, r2⟩ := trodAll_cons r1
  obtain ⟨v3, vs3, d3, ds3, p3, q3, rfl, rfl, rfl, h3, r3⟩ := trodAll_cons r2
  obtain ⟨v4, vs4, d4, ds4, p4, q4, rfl, rfl, rfl, h4, r4⟩ := trodAll_cons r3
  obtain ⟨v5, vs5, d5, ds5, p5, q5, rfl, rfl, rfl, h5, r5⟩ := trodAll_cons r4
  obtain ⟨v6, vs6, d6, ds6, p6, q6, rfl, rfl, rfl, h6, r6⟩ := trodAll_cons r5
  obtain ⟨rfl, rfl, rfl⟩ := trodAll_nil r6
  obtain rfl : args = #[v0, v1, v2, v3, v4, v5, v6] := by cases args; simp_all
  obtain ⟨rfl, rfl⟩ := trodVars_none hV
  obtain ⟨a0, rfl, rfl, rfl, w0⟩ := open_int Try.underlying3 (hval 0 3 v0 rfl rfl) h0
  obtain ⟨a1, rfl, rfl, rfl, w1⟩ := open_int Try.underlying3 (hval 1 3 v1 rfl rfl) h1
  obtain ⟨a2, rfl, rfl, rfl, w2⟩ := open_int Try.underlying3 (hval 2 3 v2 rfl rfl) h2
  obtain ⟨a3, rfl, rfl, rfl, w3⟩ := open_int Try.underlying3 (hval 3 3 v3 rfl rfl) h3
  obtain ⟨a4, rfl, rfl, rfl⟩ := open_bool Try.underlying4 (hval 4 4 v4 rfl rfl) h4
  obtain ⟨a5, rfl, rfl, rfl⟩ := open_bool Try.underlying4 (hval 5 4 v5 rfl rfl) h5
  obtain ⟨a6, rfl, rfl, rfl, w6⟩ := open_int Try.underlying22 (hval 6 22 v6 rfl rfl) h6
  clear hA0 hval0
  simp only [List.append_nil] at hW'
  refine (walk a0 a1 a2 a3 a4 a5 a6 w0 w1 w2 w3 w6 W).mono fun e W' ⟨he, hg⟩ => ?_
  subst he
  exact ⟨_, rfl, post_of_same (pa := []) (pv := []) hW' (fun _ _ _ => (trodAll_cons_mk (shut_bool Try.underlying4 _) trodAll_mk0)) (fun sp _ => (trodAll_cons_mk (shut_int Try.underlying3 w0) (trodAll_cons_mk (shut_int Try.underlying3 w1) (trodAll_cons_mk (shut_int Try.underlying3 w2) (trodAll_cons_mk (shut_int Try.underlying3 w3) (trodAll_cons_mk (shut_bool Try.underlying4 _) (trodAll_cons_mk (shut_bool Try.underlying4 _) (trodAll_cons_mk (shut_int Try.underlying22 w6) trodAll_mk0)))))))) (fun _ _ => rfl) rfl
    (hg.frame _) hg.2.1 (ok_one (by kernel_rfl) rfl (okWide_bool_mk Try.underlying4 _))⟩

theorem over : Rows.headerBackRow.holds Try.pinned (OpenSpec.ofChange Rows.headerBackSpec) :=
  OpenClaim.holds_of_wide 4 Try.f4 rfl rfl rfl rfl rfl rfl rfl ⟨rfl, rfl, rfl, rfl, rfl⟩ rfl rfl rfl rfl rfl (by kernel_rfl) Try.func4 (by kernel_rfl)
    (of_decide_eq_true (by kernel_rfl)) (by unfold Func.isWrapper; first | (rw [if_pos (by decide +kernel)]; kernel_rfl) | (rw [if_neg (by decide +kernel)]; exact ⟨rfl, rfl⟩))
    (fun os started H enc _ => lifted os started H enc)

/-- THE STATEMENT -/
theorem proved : Rows.HeaderBackSaid :=
  over
#print axioms proved
end Go.Proofs.Ythdidhpblhfcbab.headerBack
