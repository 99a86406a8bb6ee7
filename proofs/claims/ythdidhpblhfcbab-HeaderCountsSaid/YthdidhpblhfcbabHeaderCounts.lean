/- The law HeaderCounts returns true at every input, and leaves its arguments as they were. No condition. -/
import Derived.Test.YthdidhpblhfcbabRows
import Derived.WalkKit
import Derived.ProofKit
import Derived.OpenShut
import Derived.Test.YthdidhpblhfcbabHead2
import Derived.Deep.RegionHeld3
import Derived.Deep.DrawnRows
import Derived.Deep.DeepCutAuto
namespace Go.Proofs.Ythdidhpblhfcbab.headerCounts
open Go.ChangeShapes Go.WideShapes Go.ChangeAt Go.RowKit
open Go.Proofs.Ythdidhpblhfcbab.Gen
open Go.Proofs.Ythdidhpblhfcbab.Base
open Go.Proofs.Ythdidhpblhfcbab.Hd
set_option linter.unusedVariables false      -- a walk need not use every 'w<i>' (that an integer argument fits its kind)

theorem own : ownKnob Try.prog.godebug = none := by kernel_rfl

attribute [local go_sem ↓] Go.wp_at_zero Go.wp_at_succ
theorem keep6 {W wa wb : World} {p : Nat} {x0 x1 x2 x3 x4 x5 : Value} (h : Gr W wa ∧ p < wa.heap.size ∧ wa.cell? ⟨p, 0, none⟩ = some x0 ∧ wa.cell? ⟨p, 1, none⟩ = some x1 ∧ wa.cell? ⟨p, 2, none⟩ = some x2 ∧ wa.cell? ⟨p, 3, none⟩ = some x3 ∧ wa.cell? ⟨p, 4, none⟩ = some x4 ∧ wa.cell? ⟨p, 5, none⟩ = some x5) (hg : Gr wa wb) : Gr W wb ∧ p < wb.heap.size ∧ wb.cell? ⟨p, 0, none⟩ = some x0 ∧ wb.cell? ⟨p, 1, none⟩ = some x1 ∧ wb.cell? ⟨p, 2, none⟩ = some x2 ∧ wb.cell? ⟨p, 3, none⟩ = some x3 ∧ wb.cell? ⟨p, 4, none⟩ = some x4 ∧ wb.cell? ⟨p, 5, none⟩ = some x5 := by
  obtain ⟨a, b, h0, h1, h2, h3, h4, h5⟩ := h
  have hs := hg.size
  refine ⟨Gr.trans a hg, by omega, ?_, ?_, ?_, ?_, ?_, ?_⟩ <;> (rw [hg.cell _ _ (by assumption)]; assumption)
theorem beq_t {a b : Int} (h : a = b) : (a == b) = true := by simp [h]
theorem heads_eq (x y : Int) (hx : x % 16777216 = x) (hy : y % 16777216 = y) (h1 : hsiz x = hsiz y) (h2 : hfmt x = hfmt y) (h3 : hodd x = hodd y) (h4 : hcol x = hcol y) (h5 : hfin x = hfin y) (h6 : hliv x = hliv y) : x = y := by
  rw [← hx, ← hy, ← put_get x, ← put_get y, h1, h2, h3, h4, h5, h6]
theorem liv_beq {x y : Int} (hx : x % 16777216 = x) (hy : y % 16777216 = y) (h1 : hsiz x = hsiz y) (h2 : hfmt x = hfmt y) (h3 : hodd x = hodd y) (h4 : hcol x = hcol y) (h5 : hfin x = hfin y) : (hliv x == hliv y) = (x == y) := by
  rw [Bool.eq_iff_iff]; simp only [beq_iff_eq]
  exact ⟨fun h => heads_eq x y hx hy h1 h2 h3 h4 h5 h, fun h => by rw [h]⟩
/-! ### STEP 1: THE WALK: the Go text returns true. 'Grown w w'': the world has at most new blocks (Derived/RowKit3.lean). Part the cases AHEAD of 'go_enter' where a test parts the walk; take each callee by a contract of your own. -/
set_option maxHeartbeats 2000000 in
theorem walk (a0 : Int) (a1 : Int) (w0 : (Lit.int .u32 a0).wf = true) (w1 : (Lit.int .u32 a1).wf = true) (w : World) :
    Calls Try.prog 6 #[.int .u32 a0, .int .u32 a1] w fun e w' => e = .returned (.bool true) ∧ Grown w w' := by
  have b0 := bounds_u32 w0
  have b1 := bounds_u32 w1
  have m0 : bits .and .u32 a0 16777215 = a0 % 16777216 := u32_mask 24 a0 (by decide) (by omega) (by omega)
  have m1 : bits .and .u32 a1 16777215 = a1 % 16777216 := u32_mask 24 a1 (by decide) (by omega) (by omega)
  go_enter Try.func6, Try.ntmps6
  go_wp2_with fail
  have ex : a0 % 16777216 % 16777216 = a0 % 16777216 := by omega
  have ey : a1 % 16777216 % 16777216 = a1 % 16777216 := by omega
  have hx0 : 0 ≤ a0 % 16777216 := by omega
  have hx1 : a0 % 16777216 ≤ 4294967295 := by omega
  have hy0 : 0 ≤ a1 % 16777216 := by omega
  have hy1 : a1 % 16777216 ≤ 4294967295 := by omega
  clear m0 m1
  generalize a0 % 16777216 = x at *
  generalize a1 % 16777216 = y at *
  have x0 : (Lit.int .u32 x).wf = true := u32_wf hx0 hx1
  have x1 : (Lit.int .u32 y).wf = true := u32_wf hy0 hy1
  have P := Lib.hid (put_get x)
  have Ex := Lib.hid ex
  have Ey := Lib.hid ey
  clear ex ey
  refine (hd_Get _ x0 _).mono ?_
  rintro e u1 ⟨rfl, g1⟩
  go_wp2_with fail
  refine (hd_Get _ x1 _).mono ?_
  rintro e u2 ⟨rfl, g2⟩
  go_upto_region 3 with fail
  go_cut [9] (fun s9 wx => s9 = .bool (x == y) ∧ wx = (u2.alloc (.cells #[.int .i64 (hsiz x), .int .i64 (hfmt x), .int .i64 (hodd x), .int .i64 (hcol x), .bool (hfin x), .bool (hliv x)] 25)).alloc (.cells #[.int .i64 (hsiz y), .int .i64 (hfmt y), .int .i64 (hodd y), .int .i64 (hcol y), .bool (hfin y), .bool (hliv y)] 25))
  case first =>
    go_wp2_with fail
    all_goals
      go_meet
      refine ⟨congrArg Value.bool ?_, by simp [*]⟩
      first
        | (rw [eq_comm, beq_eq_false_iff_ne]; rintro rfl; exact absurd rfl (by assumption))
        | exact liv_beq Ex.out Ey.out (by assumption) (by assumption) (by assumption) (by assumption) (by assumption)
  case rest =>
    obtain ⟨rfl, rfl⟩ := hcut
    have hS : Gr w ((u2.alloc (.cells #[.int .i64 (hsiz x), .int .i64 (hfmt x), .int .i64 (hodd x), .int .i64 (hcol x), .bool (hfin x), .bool (hliv x)] 25)).alloc (.cells #[.int .i64 (hsiz y), .int .i64 (hfmt y), .int .i64 (hodd y), .int .i64 (hcol y), .bool (hfin y), .bool (hliv y)] 25)) ∧ u2.heap.size < ((u2.alloc (.cells #[.int .i64 (hsiz x), .int .i64 (hfmt x), .int .i64 (hodd x), .int .i64 (hcol x), .bool (hfin x), .bool (hliv x)] 25)).alloc (.cells #[.int .i64 (hsiz y), .int .i64 (hfmt y), .int .i64 (hodd y), .int .i64 (hcol y), .bool (hfin y), .bool (hliv y)] 25)).heap.size ∧ ((u2.alloc (.cells #[.int .i64 (hsiz x), .int .i64 (hfmt x), .int .i64 (hodd x), .int .i64 (hcol x), .bool (hfin x), .bool (hliv x)] 25)).alloc (.cells #[.int .i64 (hsiz y), .int .i64 (hfmt y), .int .i64 (hodd y), .int .i64 (hcol y), .bool (hfin y), .bool (hliv y)] 25)).cell? ⟨u2.heap.size, 0, none⟩ = some (.int .i64 (hsiz x)) ∧ ((u2.alloc (.cells #[.int .i64 (hsiz x), .int .i64 (hfmt x), .int .i64 (hodd x), .int .i64 (hcol x), .bool (hfin x), .bool (hliv x)] 25)).alloc (.cells #[.int .i64 (hsiz y), .int .i64 (hfmt y), .int .i64 (hodd y), .int .i64 (hcol y), .bool (hfin y), .bool (hliv y)] 25)).cell? ⟨u2.heap.size, 1, none⟩ = some (.int .i64 (hfmt x)) ∧ ((u2.alloc (.cells #[.int .i64 (hsiz x), .int .i64 (hfmt x), .int .i64 (hodd x), .int .i64 (hcol x), .bool (hfin x), .bool (hliv x)] 25)).alloc (.cells #[.int .i64 (hsiz y), .int .i64 (hfmt y), .int .i64 (hodd y), .int .i64 (hcol y), .bool (hfin y), .bool (hliv y)] 25)).cell? ⟨u2.heap.size, 2, none⟩ = some (.int .i64 (hodd x)) ∧ ((u2.alloc (.cells #[.int .i64 (hsiz x), .int .i64 (hfmt x), .int .i64 (hodd x), .int .i64 (hcol x), .bool (hfin x), .bool (hliv x)] 25)).alloc (.cells #[.int .i64 (hsiz y), .int .i64 (hfmt y), .int .i64 (hodd y), .int .i64 (hcol y), .bool (hfin y), .bool (hliv y)] 25)).cell? ⟨u2.heap.size, 3, none⟩ = some (.int .i64 (hcol x)) ∧ ((u2.alloc (.cells #[.int .i64 (hsiz x), .int .i64 (hfmt x), .int .i64 (hodd x), .int .i64 (hcol x), .bool (hfin x), .bool (hliv x)] 25)).alloc (.cells #[.int .i64 (hsiz y), .int .i64 (hfmt y), .int .i64 (hodd y), .int .i64 (hcol y), .bool (hfin y), .bool (hliv y)] 25)).cell? ⟨u2.heap.size, 4, none⟩ = some (.bool (hfin x)) ∧ ((u2.alloc (.cells #[.int .i64 (hsiz x), .int .i64 (hfmt x), .int .i64 (hodd x), .int .i64 (hcol x), .bool (hfin x), .bool (hliv x)] 25)).alloc (.cells #[.int .i64 (hsiz y), .int .i64 (hfmt y), .int .i64 (hodd y), .int .i64 (hcol y), .bool (hfin y), .bool (hliv y)] 25)).cell? ⟨u2.heap.size, 5, none⟩ = some (.bool (hliv x)) := by
      refine ⟨Gr.alloc (Gr.alloc (Gr.trans g1 g2) _ _) _ _, by simp; omega, ?_⟩
      simp [go_sem]
    generalize ((u2.alloc (.cells #[.int .i64 (hsiz x), .int .i64 (hfmt x), .int .i64 (hodd x), .int .i64 (hcol x), .bool (hfin x), .bool (hliv x)] 25)).alloc (.cells #[.int .i64 (hsiz y), .int .i64 (hfmt y), .int .i64 (hodd y), .int .i64 (hcol y), .bool (hfin y), .bool (hliv y)] 25)) = u3 at hS ⊢
    have E := Lib.hid (show hsiz x % 65536 = hsiz x from by have := hsiz_bd x; omega)
    have wz : (Lit.int .i64 (hsiz x)).wf = true := by have := hsiz_bd x; exact i64_wf (by omega) (by omega)
    cases hxy : (x == y)
    all_goals
      go_wp2_with fail
      go_region_held3 (fun w' => Gr w w' ∧ u2.heap.size < w'.heap.size ∧ w'.cell? ⟨u2.heap.size, 0, none⟩ = some (.int .i64 (hsiz x)) ∧ w'.cell? ⟨u2.heap.size, 1, none⟩ = some (.int .i64 (hfmt x)) ∧ w'.cell? ⟨u2.heap.size, 2, none⟩ = some (.int .i64 (hodd x)) ∧ w'.cell? ⟨u2.heap.size, 3, none⟩ = some (.int .i64 (hcol x)) ∧ w'.cell? ⟨u2.heap.size, 4, none⟩ = some (.bool (hfin x)) ∧ w'.cell? ⟨u2.heap.size, 5, none⟩ = some (.bool (hliv x)))
        (first
          | exact ⟨Gr.drew hS.1, hS.2⟩
          | exact keep6 (by assumption) hg)
        (first
          | (go_at_call 7; refine (hd_Put _ _ _ _ _ _ _).mono ?_; rintro e w' ⟨rfl, hg⟩; rw [P.out, Ex.out])
          | (go_at_call 13; refine (place_gr (hsiz x) 65536 (by decide) (by decide) wz _).mono ?_; rintro e w' ⟨rfl, hg⟩; rw [E.out])
          | (go_at_call 12; refine (awake_any _).mono ?_; rintro e w' ⟨rfl, hg⟩))
      all_goals
        go_wp2
        go_ret
        exact ⟨rfl, Gr.toGrown (And.left (by assumption))⟩

/-! ### THE ROW's STEP: WRITTEN OUT: LEAVE IT -/
set_option maxRecDepth 100000 in
theorem lifted (os : Os) (started : os.Started) (H : Type) (enc : TypeId × Value → H) :
    ReturnsInHanded {} Try.checked os 6 .any (Rows.headerCountsSpec.pre6 enc Try.prog Try.f6 Rows.headerCountsRow.domain false) (Rows.headerCountsSpec.post enc Try.prog Try.f6 false true false false) := by
  refine returnsInHanded_of_change (C := Try.checked) own started (by kernel_rfl) Try.func6
    (ChangeSpec.witness6 (enc := enc) (C := Try.checked) false ⟨#[], #[.int .u32 0, .int .u32 0], []⟩ 8 (by kernel_rfl) (by kernel_rfl) (by kernel_rfl) (by kernel_rfl)) ?_
  intro W base args ds gs before hval0 hW hcnd _
  have hval : ∀ (j : Nat) t v, Try.f6.params[j]? = some t → args[j]? = some v → Value.okWide Try.prog W .any base t v := hval0
  have hW' := hW
  obtain ⟨p, q, hA0, hV, rfl, hfz, hnd⟩ := hW
  have hA : DataW.TrodAll enc Try.prog W 0 (fun _ => true) true Try.f6.params.toList args.toList ds p := hA0
  rw [Try.params6] at hA hval
  obtain ⟨v0, vs0, d0, ds0, p0, q0, hargs, rfl, rfl, h0, r0⟩ := trodAll_cons hA
  obtain ⟨v1, vs1, d1, ds1, p1, q1, rfl, rfl, rfl, h1, r1⟩ := trodAll_cons r0
  obtain ⟨rfl, rfl, rfl⟩ := trodAll_nil r1
  obtain rfl : args = #[v0, v1] := by cases args; simp_all
  obtain ⟨rfl, rfl⟩ := trodVars_none hV
  obtain ⟨a0, rfl, rfl, rfl, w0⟩ := open_int Try.underlying22 (hval 0 22 v0 rfl rfl) h0
  obtain ⟨a1, rfl, rfl, rfl, w1⟩ := open_int Try.underlying22 (hval 1 22 v1 rfl rfl) h1
  clear hA0 hval0
  simp only [List.append_nil] at hW'
  refine (walk a0 a1 w0 w1 W).mono fun e W' ⟨he, hg⟩ => ?_
  subst he
  exact ⟨_, rfl, post_of_same (pa := []) (pv := []) hW' (fun _ _ _ => (trodAll_cons_mk (shut_bool Try.underlying4 _) trodAll_mk0)) (fun sp _ => (trodAll_cons_mk (shut_int Try.underlying22 w0) (trodAll_cons_mk (shut_int Try.underlying22 w1) trodAll_mk0))) (fun _ _ => rfl) rfl
    (hg.frame _) hg.2.1 (ok_one (by kernel_rfl) rfl (okWide_bool_mk Try.underlying4 _))⟩

theorem over : Rows.headerCountsRow.holds Try.pinned (OpenSpec.ofChange Rows.headerCountsSpec) :=
  OpenClaim.holds_of_wide 6 Try.f6 rfl rfl rfl rfl rfl rfl rfl ⟨rfl, rfl, rfl, rfl, rfl⟩ rfl rfl rfl rfl rfl (by kernel_rfl) Try.func6 (by kernel_rfl)
    (of_decide_eq_true (by kernel_rfl)) (by unfold Func.isWrapper; first | (rw [if_pos (by decide +kernel)]; kernel_rfl) | (rw [if_neg (by decide +kernel)]; exact ⟨rfl, rfl⟩))
    (fun os started H enc _ => lifted os started H enc)

/-- THE STATEMENT -/
theorem proved : Rows.HeaderCountsSaid :=
  over
#print axioms proved
end Go.Proofs.Ythdidhpblhfcbab.headerCounts
