/- The law GreyOrder returns true at every input, and leaves its arguments as they were. No condition. -/
import Derived.Test.YtlancbacdjiciaaRows
import Derived.WalkKit
import Derived.ProofKit
import Derived.OpenShut
import Derived.Test.YtlancbacdjiciaaL09
import Derived.Deep.DeepCutAuto
import Derived.ShutString
import Derived.ChangeOld
import Derived.Below
namespace Go.Proofs.Ytlancbacdjiciaa.greyOrder
open Go.ChangeShapes Go.WideShapes Go.ChangeAt Go.RowKit
open Go.ChangeMaps (open_string shut_string)
open Go.Proofs.Ytlancbacdjiciaa.Gen
open Go.Proofs.Ytlancbacdjiciaa.Base
open Go.Proofs.Ytlancbacdjiciaa.Gy
open Go.Proofs.Ytlancbacdjiciaa.L09
set_option linter.unusedVariables false

theorem own : ownKnob Try.prog.godebug = none := by kernel_rfl
theorem laidOut : laidOutB Try.prog = true := by kernel_rfl

/-- WHAT THE WALK IS TOLD OF A SLICE OF INTEGERS THAT CAME IN: it is nil; or it leads to a row of 'cap' cells, the numbers 'zs' (the first 'len' are its elements, the rest its spare room), each fitting its kind. -/
def IsRow (k : IntKind) (w : World) (a : Option Addr) (len cap : Nat) (zs : List Int) : Prop :=
  (a = none ∧ len = 0 ∧ cap = 0 ∧ zs = []) ∨
  ∃ x, a = some x ∧ len ≤ cap ∧ cap ≤ maxLen ∧ zs.length = cap ∧ (∀ i, i < zs.length → w.cell? (x.add i) = some (.int k (zs.getD i 0))) ∧ ∀ n ∈ zs, (Lit.int k n).wf = true

theorem take_take {z : List Int} {i : Nat} (h : i < z.length) : z.take i ++ [z[i]?.getD 0] = z.take (i + 1) := by
  rw [List.take_succ_eq_append_getElem h]; simp [h]
/-! ### STEP 1: THE WALK: the Go text returns true, AND WRITES NOTHING THAT WAS THERE: 'Below w.heap.size w w'' (Derived/Below.lean: '.refl', '.alloc', '.drew', '.setCell' at a new block, '.trans'). Open each 'IsRow' by 'rcases' AHEAD of 'go_enter'; part every test ahead of the walk. -/
set_option maxRecDepth 100000 in
set_option maxHeartbeats 2000000 in
theorem walk (a0 : Int) (a1 : Option Addr) (len1 cap1 : Nat) (z1 : List Int) (w : World) (w0 : (Lit.int .i64 a0).wf = true) (w1 : IsRow .i64 w a1 len1 cap1 z1) :
    Calls Try.prog 4 #[.int .i64 a0, .slice a1 len1 cap1] w fun e w' => e = .returned (.bool true) ∧ Below w.heap.size w w' := by
  by_cases hlen : len1 = 0
  · subst hlen
    go_enter Try.func4, Try.ntmps4
    go_wp2_with fail
    refine (place_gen _ _ (by omega) (by omega) w0 _).mono ?_; rintro e w' ⟨m, m0, m1, rfl, rfl⟩
    go_upto_region 2 with fail
    go_cut [6] (fun s6 wx => s6 = .int .i64 (mostOf m : Int) ∧ w = wx)
    case first =>
      go_wp2_with fail
      all_goals
        go_meet
        exact ⟨congrArg (Value.int .i64) (by unfold mostOf; omega), rfl⟩
    case rest =>
      obtain ⟨rfl, rfl⟩ := hcut
      have K1 : 1 ≤ mostOf m := by unfold mostOf; omega
      have K2 : mostOf m ≤ 100 := by unfold mostOf; omega
      go_wp2_with fail
      refine (new_any m _).mono ?_; rintro e u1 ⟨rfl, hS, g1, hb⟩
      generalize mostOf m = K at *
      have d1 : (0 : Int) < (K : Int) := by omega
      have B1 : w.heap.size ≤ u1.heap.size := g1.size
      go_wp2_with fail
      refine wp_loop_rounds 1 ?_
      rw [rounds_succ]
      go_wp2_with fail
      refine wp_loop_rounds 1 ?_
      rw [rounds_succ]
      go_wp2_with fail
      refine (clear_any _ _ _ _ _ hS).mono ?_; rintro e u2 ⟨rfl, hs2, k2⟩
      go_wp2_with (first
        | (go_at_call 11; refine (pop_none _ _ _ _ hs2).mono ?_; rintro e u3 ⟨rfl, rfl⟩)
        | (go_at_call 15; refine (over_any _ _ _ _ _ hs2).mono ?_; rintro e u3 ⟨rfl, rfl⟩)
        | (go_at_call 14; refine (len_any _ _ _ _ _ hs2).mono ?_; rintro e u3 ⟨rfl, rfl⟩)
        | (go_at_call 16; refine (awake_any _).mono ?_; rintro e u4 ⟨rfl, b4⟩))
      go_ret
      have hsz := k2.1
      exact ⟨rfl, (g1.2.trans (k2.below (Nat.le_refl _) (by omega))).trans (b4.mono (by omega))⟩
  · rcases w1 with ⟨rfl, rfl, rfl, rfl⟩ | ⟨x, rfl, hl, hm, hz, hcell, hwz⟩
    · exact absurd rfl hlen
    obtain ⟨xb, xo, spot⟩ := x
    have hspot : spot = none := by simpa [Addr.add] using World.cell?_spot (hcell 0 (by omega))
    subst hspot
    have hcell' : ∀ i, i < z1.length → w.cell? ⟨xb, xo + i, none⟩ = some (.int .i64 (z1[i]?.getD 0)) := fun i hi => by
      have h := hcell i hi
      by_cases e : i = 0
      · subst e; simpa [Addr.add] using h
      · simpa [Addr.add, e] using h
    have hxb : xb < w.heap.size := World.block_lt_of_cell? _ _ (hcell' 0 (by omega))
    have HC := Lib.hid hcell'
    unfold maxLen at hm
    clear hcell hcell' hwz
    go_enter Try.func4, Try.ntmps4
    go_wp2_with fail
    refine (place_gen _ _ (by omega) (by omega) w0 _).mono ?_; rintro e w' ⟨m, m0, m1, rfl, rfl⟩
    go_upto_region 2 with fail
    go_cut [6] (fun s6 wx => s6 = .int .i64 (mostOf m : Int) ∧ w = wx)
    case first =>
      go_wp2_with fail
      all_goals
        go_meet
        exact ⟨congrArg (Value.int .i64) (by unfold mostOf; omega), rfl⟩
    case rest =>
      obtain ⟨rfl, rfl⟩ := hcut
      have K1 : 1 ≤ mostOf m := by unfold mostOf; omega
      have K2 : mostOf m ≤ 100 := by unfold mostOf; omega
      go_wp2_with fail
      refine (new_any m _).mono ?_; rintro e u1 ⟨rfl, hS, g1, hb⟩
      generalize mostOf m = K at *
      go_upto_region 6 with fail
      go_cut [8] (fun s8 wx => s8 = .int .i64 ((min len1 150 : Nat) : Int) ∧ u1 = wx)
      case first =>
        go_wp2_with fail
        all_goals
          go_meet
          exact ⟨congrArg (Value.int .i64) (by omega), rfl⟩
      case rest =>
        obtain ⟨rfl, rfl⟩ := hcut
        have N1 : min len1 150 ≤ z1.length := by omega
        have N2 : min len1 150 ≤ 150 := by omega
        have N3 : min len1 150 ≤ len1 := by omega
        generalize min len1 150 = N at *
        go_wp2_with fail
        have B1 : w.heap.size ≤ u1.heap.size := g1.size
        go_loopw [9] (fun v9 wr => ∃ i : Nat, i ≤ N ∧ v9 = .int .i64 i ∧ Stk wr w.heap.size (z1.take (min i K)) K (decide (K < i)) ∧ Chg w.heap.size u1 wr) (fun v9 wr => N - (intOf v9).toNat)
        case atStart => exact ⟨0, by omega, rfl, by simpa using hS, Chg.refl _ _⟩
        case round =>
          obtain ⟨i, i0, rfl, hs, hk⟩ := hrel
          have bel : Below w.heap.size w wr := g1.2.trans (hk.below (Nat.le_refl _) (by omega))
          by_cases hi : i < N
          · have hx : wr.cell? ⟨xb, xo + i, none⟩ = some (.int .i64 (z1[i]?.getD 0)) := by rw [bel.cell (p := ⟨xb, xo + i, none⟩) hxb]; exact HC.out i (by omega)
            have i1 : (0 : Int) ≤ (i : Int) := by omega
            have i2 : (i : Int) < (len1 : Int) := by omega
            by_cases hik : i < K
            · have d1 : decide (i < K) = true := by simp; omega
              have d2 : decide (K ≤ i) = false := by simp; omega
              have e1 : min i K = i := by omega
              have e2 : min (i + 1) K = i + 1 := by omega
              have e3 : decide (K < i) = false := by simp; omega
              have e4 : decide (K < i + 1) = false := by simp; omega
              have hlen2 : (z1.take i).length = i := by simp; omega
              rw [e1, e3] at hs
              have E := Lib.hid (show min (i + 1) K = i + 1 ∧ decide (K < i + 1) = false from ⟨e2, e4⟩)
              have T := Lib.hid (take_take (z := z1) (i := i) (by omega))
              have HL := Lib.hid hlen2
              clear e1 e2 e3 e4 hlen2
              go_wp2_with fail
              refine (push_ok _ _ _ _ _ _ hs (by rw [HL.out]; omega)).mono ?_; rintro e u2 ⟨rfl, hs2, k2⟩
              rw [T.out] at hs2
              go_wp2_with (go_at_call 15; refine (over_any _ _ _ _ _ hs2).mono ?_; rintro e u3 ⟨rfl, rfl⟩)
              go_roundw
              case rel => exact ⟨i + 1, by omega, by go_num, by rw [E.out.1, E.out.2]; exact hs2, hk.trans k2⟩
              case measure => simp [intOf]; omega
            · have d1 : decide (i < K) = false := by simp; omega
              have d2 : decide (K ≤ i) = true := by simp; omega
              have e1 : min i K = K := by omega
              have e2 : min (i + 1) K = K := by omega
              have e4 : decide (K < i + 1) = true := by simp; omega
              have hlen2 : (z1.take K).length = K := by simp; omega
              rw [e1] at hs
              have E := Lib.hid (show min (i + 1) K = K ∧ decide (K < i + 1) = true from ⟨e2, e4⟩)
              have HL := Lib.hid hlen2
              clear e1 e2 e4 hlen2
              go_wp2_with fail
              refine (push_full _ _ _ _ _ _ hs HL.out).mono ?_; rintro e u2 ⟨rfl, hs2, k2⟩
              go_wp2_with (go_at_call 15; refine (over_any _ _ _ _ _ hs2).mono ?_; rintro e u3 ⟨rfl, rfl⟩)
              go_roundw
              case rel => exact ⟨i + 1, by omega, by go_num, by rw [E.out.1, E.out.2]; exact hs2, hk.trans k2⟩
              case measure => simp [intOf]; omega
          · obtain rfl : i = N := by omega
            go_upto_region 12 with fail
            go_cut [10] (fun s10 wx => s10 = .int .i64 (((min i K : Nat) : Int) - 1) ∧ wr = wx)
            case first =>
              go_wp2_with fail
              all_goals
                go_meet
                exact ⟨congrArg (Value.int .i64) (by omega), rfl⟩
            case rest =>
              obtain ⟨rfl, rfl⟩ := hcut
              obtain ⟨wo, rfl⟩ : ∃ wo : World, wo = wr := ⟨_, rfl⟩
              go_wp2_with fail
              go_loopw [10] (fun v10 wr => ∃ j : Nat, j ≤ min i K ∧ v10 = .int .i64 ((j : Int) - 1) ∧ Stk wr w.heap.size (z1.take j) K (decide (K < i)) ∧ Chg w.heap.size u1 wr) (fun v10 wr => (intOf v10 + 1).toNat)
              case atStart => exact ⟨min i K, by omega, rfl, hs, hk⟩
              case round =>
                obtain ⟨j, j0, rfl, hs, hk⟩ := hrel
                have bel : Below w.heap.size w wr := g1.2.trans (hk.below (Nat.le_refl _) (by omega))
                by_cases hj : 0 < j
                · obtain ⟨q, rfl⟩ : ∃ q, j = q + 1 := ⟨j - 1, by omega⟩
                  have q0 : ((q + 1 : Nat) : Int) - 1 = (q : Int) := by omega
                  have hx : wr.cell? ⟨xb, xo + q, none⟩ = some (.int .i64 (z1[q]?.getD 0)) := by rw [bel.cell (p := ⟨xb, xo + q, none⟩) hxb]; exact HC.out q (by omega)
                  rw [q0]; clear q0
                  have i1 : (0 : Int) ≤ (q : Int) := by omega
                  have i2 : (q : Int) < (len1 : Int) := by omega
                  rw [← take_take (show q < z1.length by omega)] at hs
                  cases hov : decide (K < i)
                  all_goals
                    rw [hov] at hs
                    have hd2 := hov
                    have HOV := Lib.hid hov; clear hov
                    go_wp2_with fail
                    refine (pop_ok _ _ _ _ _ _ hs).mono ?_; rintro e u2 ⟨rfl, hs2, k2⟩
                    have hx2 : u2.cell? ⟨xb, xo + q, none⟩ = some (.int .i64 (z1[q]?.getD 0)) := by rw [(k2.below (B := w.heap.size) (Nat.le_refl _) (by have := hk.1; omega)).cell (p := ⟨xb, xo + q, none⟩) hxb]; exact hx
                    go_wp2_with (go_at_call 15; refine (over_any _ _ _ _ _ hs2).mono ?_; rintro e u3 ⟨rfl, rfl⟩)
                    go_roundw
                    case rel => exact ⟨q, by omega, rfl, hs2, hk.trans k2⟩
                    case measure => simp [intOf]
                · obtain rfl : j = 0 := by omega
                  have hs0 : Stk wr w.heap.size [] K (decide (K < i)) := by simpa using hs
                  go_wp2_with fail
                  refine (clear_any _ _ _ _ _ hs0).mono ?_; rintro e u2 ⟨rfl, hs2, k2⟩
                  go_wp2_with (first
                    | (go_at_call 11; refine (pop_none _ _ _ _ hs2).mono ?_; rintro e u3 ⟨rfl, rfl⟩)
                    | (go_at_call 15; refine (over_any _ _ _ _ _ hs2).mono ?_; rintro e u3 ⟨rfl, rfl⟩)
                    | (go_at_call 14; refine (len_any _ _ _ _ _ hs2).mono ?_; rintro e u3 ⟨rfl, rfl⟩)
                    | (go_at_call 16; refine (awake_any _).mono ?_; rintro e u4 ⟨rfl, b4⟩))
                  go_ret
                  have hsz := (hk.trans k2).1
                  exact ⟨rfl, (g1.2.trans ((hk.trans k2).below (Nat.le_refl _) (by omega))).trans (b4.mono (by omega))⟩

/-! ### THE ROW's STEP: WRITTEN OUT: LEAVE IT -/
set_option maxRecDepth 100000 in
theorem lifted (os : Os) (started : os.Started) (H : Type) (enc : TypeId × Value → H) :
    ReturnsInHanded {} Try.checked os 4 .any (Rows.greyOrderSpec.pre6 enc Try.prog Try.f4 Rows.greyOrderRow.domain false) (Rows.greyOrderSpec.post enc Try.prog Try.f4 false true false false) := by
  refine returnsInHanded_of_change (C := Try.checked) own started (by kernel_rfl) Try.func4
    (ChangeSpec.witness6 (enc := enc) (C := Try.checked) false ⟨#[], #[.int .i64 0, .slice none 0 0], []⟩ 8 (by kernel_rfl) (by kernel_rfl) (by kernel_rfl) (by kernel_rfl)) ?_
  intro W base args ds gs before hval0 hW hcnd _
  have hval : ∀ (j : Nat) t v, Try.f4.params[j]? = some t → args[j]? = some v → Value.okWide Try.prog W .any base t v := hval0
  have hW' := hW
  obtain ⟨p, q, hA0, hV, rfl, hfz, hnd⟩ := hW
  have hA : DataW.TrodAll enc Try.prog W 0 (fun _ => true) true Try.f4.params.toList args.toList ds p := hA0
  rw [Try.params4] at hA hval
  obtain ⟨v0, vs0, d0, ds0, p0, q0, hargs, rfl, rfl, h0, r0⟩ := trodAll_cons hA
  obtain ⟨v1, vs1, d1, ds1, p1, q1, rfl, rfl, rfl, h1, r1⟩ := trodAll_cons r0
  obtain ⟨rfl, rfl, rfl⟩ := trodAll_nil r1
  obtain rfl : args = #[v0, v1] := by cases args; simp_all
  obtain ⟨rfl, rfl⟩ := trodVars_none hV
  obtain ⟨a0, rfl, rfl, rfl, w0⟩ := open_int Try.underlying3 (hval 0 3 v0 rfl rfl) h0
  obtain ⟨a1, len1, cap1, rfl⟩ := okWide_slice Try.underlying33 (hval 1 33 v1 rfl rfl)
  have k1 := h1
  have lt1 : ∀ x ∈ p1, x.block < W.heap.size := by obtain ⟨m, hm⟩ := k1; exact DataW.trod_lt m _ _ _ hm
  obtain ⟨z1, w1⟩ : ∃ zs, IsRow .i64 W a1 len1 cap1 zs := by
    obtain ⟨fuel, hf⟩ := h1
    rcases open_ints Try.underlying33 Try.underlying3 (by kernel_rfl) hf with ⟨hcs, _⟩ | ⟨x, l, c, zs, hcs, _, hl, hm, hz, _, hcell, hwz⟩
    · simp [Value.cells] at hcs
      obtain ⟨rfl, rfl, rfl⟩ := hcs
      exact ⟨[], .inl ⟨rfl, rfl, rfl, rfl⟩⟩
    · simp [Value.cells] at hcs
      obtain ⟨rfl, rfl, rfl⟩ := hcs
      exact ⟨zs, .inr ⟨_, rfl, hl, hm, by simpa using hz, hcell, hwz⟩⟩
  clear hA0 hval0
  refine (walk a0 a1 len1 cap1 z1 W w0 w1).mono fun e W' ⟨he, bel⟩ => ?_
  subst he
  exact ⟨_, rfl, _, _, _, [], _, [], hW', trodAll_mk1 (shut_bool Try.underlying4 _), (trodAll_cons_mk (shut_int Try.underlying3 w0) (trodAll_cons_mk (Below.trod laidOut (by kernel_rfl) (of_decide_eq_true (by kernel_rfl)) k1 bel lt1) trodAll_mk0)), rfl, bel.frame _, fun h => by cases h⟩

theorem over : Rows.greyOrderRow.holds Try.pinned (OpenSpec.ofChange Rows.greyOrderSpec) :=
  OpenClaim.holds_of_wide 4 Try.f4 rfl rfl rfl rfl rfl rfl rfl ⟨rfl, rfl, rfl, rfl, rfl⟩ rfl rfl rfl rfl rfl (by kernel_rfl) Try.func4 (by kernel_rfl)
    (of_decide_eq_true (by kernel_rfl)) (by unfold Func.isWrapper; first | (rw [if_pos (by decide +kernel)]; kernel_rfl) | (rw [if_neg (by decide +kernel)]; exact ⟨rfl, rfl⟩))
    (fun os started H enc _ => lifted os started H enc)

/-- THE STATEMENT -/
theorem proved : Rows.GreyOrderSaid := over
#print axioms proved
end Go.Proofs.Ytlancbacdjiciaa.greyOrder
