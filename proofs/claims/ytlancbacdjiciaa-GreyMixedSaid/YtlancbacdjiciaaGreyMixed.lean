/- The law GreyMixed returns true at every input, and leaves its arguments as they were. No condition. -/
import Derived.Test.YtlancbacdjiciaaRows
import Derived.WalkKit
import Derived.ProofKit
import Derived.OpenShut
import Derived.Test.YtlancbacdjiciaaL09
import Derived.Laws.AppendOwn
import Derived.OwnWalk
import Derived.WalkSmall
import Derived.ShutString
import Derived.ChangeOld
import Derived.Below
namespace Go.Proofs.Ytlancbacdjiciaa.greyMixed
open Go.ChangeShapes Go.WideShapes Go.ChangeAt Go.RowKit
open Go.ChangeMaps (open_string shut_string)
open Go.Proofs.Ytlancbacdjiciaa.Gen
open Go.Proofs.Ytlancbacdjiciaa.Base
open Go.Proofs.Ytlancbacdjiciaa.Gy
open Go.Proofs.Ytlancbacdjiciaa.L09
set_option linter.unusedVariables false

theorem own : ownKnob Try.prog.godebug = none := by kernel_rfl
theorem laidOut : laidOutB Try.prog = true := by kernel_rfl

/-- WHAT THE WALK IS TOLD OF A SLICE OF INTEGERS THAT CAME IN: it is nil; or it leads to a row of 'cap' cells, the numbers 'zs' (the first 'len' are its elements, the rest its spare room), each fitting its kind. -/
def IsRow (k : IntKind) (w : World) (a : Option Addr) (len cap : Nat) (zs : List Int) : Prop :=
  (a = none ∧ len = 0 ∧ cap = 0 ∧ zs = []) ∨
  ∃ x, a = some x ∧ len ≤ cap ∧ cap ≤ maxLen ∧ zs.length = cap ∧ (∀ i, i < zs.length → w.cell? (x.add i) = some (.int k (zs.getD i 0))) ∧ ∀ n ∈ zs, (Lit.int k n).wf = true

theorem info3 : (Try.prog.info? 3).map (fun i => (i.zero, i.size, i.bytes)) = some (some (.int .i64 0), 1, 8) := by kernel_rfl
def Row (w : World) (base : Nat) (ga : Option Addr) (cap : Nat) (l : List Int) : Prop := w.ownsRow base 3 1 (.slice ga l.length cap) l.length (l.map (.int .i64))
theorem Row.nil (w : World) (base : Nat) : Row w base none 0 [] := ⟨by simp, .inl ⟨rfl, rfl⟩⟩
theorem Row.chg {w w' : World} {base b : Nat} {ga : Option Addr} {cap : Nat} {l : List Int} (h : Row w base ga cap l) (hc : Chg b w w') (hb : b < base) : Row w' base ga cap l := by
  obtain ⟨h1, h2⟩ := h
  refine ⟨h1, ?_⟩
  rcases h2 with h2 | ⟨g, c, cur, e, hg, hh, r⟩
  · exact .inl h2
  · exact .inr ⟨g, c, cur, e, hg, hc.block (by omega) hh, r⟩
theorem Row.form {w : World} {base : Nat} {ga : Option Addr} {cap : Nat} {l : List Int} (h : Row w base ga cap l) : (ga = none ∧ cap = 0 ∧ l = []) ∨ ∃ g, ga = some ⟨g, 0, none⟩ ∧ base ≤ g ∧ l.length ≤ cap ∧ cap ≤ 9223372036854775807 := by
  obtain ⟨h1, h2⟩ := h
  rcases h2 with ⟨h2, h3⟩ | ⟨g, c, cur, e, hg, hh, h3, h4, h5⟩
  · simp at h2; exact .inl ⟨h2.1, h2.2.2, List.eq_nil_of_length_eq_zero h3⟩
  · simp at e; unfold maxLen at h4; exact .inr ⟨g, e.1, hg, by omega, by omega⟩
theorem Row.last {w : World} {base : Nat} {g cap : Nat} {l : List Int} {x : Int} (h : Row w base (some ⟨g, 0, none⟩) cap (l ++ [x])) : w.cell? ⟨g, l.length, none⟩ = some (.int .i64 x) := by
  have hc := World.ownsRow.cells h (g := g) (by simp [Value.ownBlock]) l.length (.int .i64 x) (by simp)
  by_cases e : l.length = 0
  · simpa [Addr.add, e] using hc
  · simpa [Addr.add, e] using hc
theorem Row.pop {w : World} {base : Nat} {g cap : Nat} {l : List Int} {x : Int} (h : Row w base (some ⟨g, 0, none⟩) cap (l ++ [x])) : Row w base (some ⟨g, 0, none⟩) cap l := by
  have h' : w.ownsRow base 3 1 (.slice (some ⟨g, 0, none⟩) (l.length + 1) cap) (l.length + 1) (l.map (.int .i64) ++ [.int .i64 x]) := by
    have := h; unfold Row at this; simpa using this
  exact ownsRow_pop (by simp) h'
theorem Row.mk {w : World} {base : Nat} {v : Value} {l : List Int} (h : w.ownsRow base 3 1 v l.length (l.map (.int .i64))) : ∃ ga cap, v = .slice ga l.length cap ∧ Row w base ga cap l := by
  obtain ⟨h1, h2⟩ := h
  rcases h2 with ⟨rfl, h3⟩ | ⟨g, c, cur, rfl, r⟩
  · exact ⟨none, 0, by rw [h3], h1, .inl ⟨by rw [h3], h3⟩⟩
  · exact ⟨_, _, rfl, h1, .inr ⟨g, c, cur, rfl, r⟩⟩
theorem Row.own {w : World} {base : Nat} {ga : Option Addr} {cap : Nat} {l : List Int} (h : Row w base ga cap l) : ∀ k, (Value.slice ga l.length cap).ownBlock = some k → base ≤ k := by
  intro k hk
  rcases h.form with ⟨rfl, _⟩ | ⟨g, rfl, hg, _⟩
  · simp [Value.ownBlock] at hk
  · simp [Value.ownBlock] at hk; omega
theorem append_all {u2 w1 : World} {base b B : Nat} {ga : Option Addr} {cap : Nat} {l : List Int} {v : Int} {v' : Value} {K : Nat} {ov : Bool} {o : Obj}
    (row2 : Row u2 base ga cap l) (hs2 : Stk u2 b (l ++ [v]) K ov) (hb : b < base) (hbz : base ≤ u2.heap.size) (hB : B ≤ b)
    (hg : (u2.alloc o).grownBy w1 (Value.slice ga l.length cap).ownBlock) (hown : w1.ownsRow base 3 1 v' (l.length + 1) (l.map (.int .i64) ++ [.int .i64 v])) :
    (∃ ga' cap', v' = .slice ga' (l ++ [v]).length cap' ∧ Row w1 base ga' cap' (l ++ [v])) ∧ Stk w1 b (l ++ [v]) K ov ∧ Below B u2 w1 ∧ u2.heap.size ≤ w1.heap.size := by
  have hsz : u2.heap.size + 1 ≤ w1.heap.size := by have := hg.size; simpa using this
  refine ⟨?_, ?_, ?_, by omega⟩
  · exact Row.mk (by simpa using hown)
  · refine hs2.of_block ?_
    rw [hg.block b (by simp; omega) (fun e => by have := row2.own b e.symm; omega), Below.heap_alloc _ _ _ (by omega)]
  · exact Below.grown ((Below.refl B u2).alloc (by omega) o) hg (by simp; omega) (fun k hk => by have := row2.own k hk; omega)
/-! ### STEP 1: THE WALK: the Go text returns true, AND WRITES NOTHING THAT WAS THERE: 'Below w.heap.size w w'' (Derived/Below.lean: '.refl', '.alloc', '.drew', '.setCell' at a new block, '.trans'). Open each 'IsRow' by 'rcases' AHEAD of 'go_enter'; part every test ahead of the walk. -/
set_option maxRecDepth 100000 in
set_option maxHeartbeats 2000000 in
theorem walk (a0 : Int) (a1 : Option Addr) (len1 cap1 : Nat) (z1 : List Int) (w : World) (w0 : (Lit.int .i64 a0).wf = true) (w1 : IsRow .i64 w a1 len1 cap1 z1) :
    Calls Try.prog 5 #[.int .i64 a0, .slice a1 len1 cap1] w fun e w' => e = .returned (.bool true) ∧ Below w.heap.size w w' := by
  by_cases hlen : len1 = 0
  · subst hlen
    go_enter Try.func5, Try.ntmps5
    go_wp2_with fail
    refine (place_gen _ _ (by omega) (by omega) w0 _).mono ?_; rintro e w' ⟨m, m0, m1, rfl, rfl⟩
    go_wp2_with fail
    refine (new_any _ _).mono ?_; rintro e u1 ⟨rfl, hS, g1, hb⟩
    go_wp2_with fail
    refine wp_loop_rounds 1 ?_
    rw [rounds_succ]
    go_wp2_with (go_at_call 16; refine (awake_any _).mono ?_; rintro e u4 ⟨rfl, b4⟩)
    go_ret
    exact ⟨rfl, g1.2.trans (b4.mono (by omega))⟩
  · rcases w1 with ⟨rfl, rfl, rfl, rfl⟩ | ⟨x, rfl, hl, hm, hz, hcell, hwz⟩
    · exact absurd rfl hlen
    obtain ⟨xb, xo, spot⟩ := x
    have hspot : spot = none := by simpa [Addr.add] using World.cell?_spot (hcell 0 (by omega))
    subst hspot
    have hcell' : ∀ i, i < z1.length → w.cell? ⟨xb, xo + i, none⟩ = some (.int .i64 (z1[i]?.getD 0)) ∧ (Lit.int .i64 (z1[i]?.getD 0)).wf = true := fun i hi => by
      refine ⟨?_, hwz _ (by simp [hi])⟩
      have h := hcell i hi
      by_cases e : i = 0
      · subst e; simpa [Addr.add] using h
      · simpa [Addr.add, e] using h
    have hxb : xb < w.heap.size := World.block_lt_of_cell? _ _ (hcell' 0 (by omega)).1
    have HC := Lib.hid hcell'
    unfold maxLen at hm
    clear hcell hcell' hwz
    obtain ⟨ti, hti, hz0, hz1, hz2⟩ := info_parts info3
    go_enter Try.func5, Try.ntmps5
    go_wp2_with fail
    refine (place_gen _ _ (by omega) (by omega) w0 _).mono ?_; rintro e w' ⟨m, m0, m1, rfl, rfl⟩
    go_wp2_with fail
    refine (new_any _ _).mono ?_; rintro e u1 ⟨rfl, hS, g1, hb⟩
    have hK : mostOf (1 + m) = (1 + m).toNat := by unfold mostOf; omega
    rw [hK] at hS
    obtain ⟨K, hk⟩ := Int.eq_ofNat_of_zero_le (show 0 ≤ 1 + m by omega)
    rw [hk] at hS ⊢
    have k1 : 1 ≤ K := by omega
    have k2 : K ≤ 20 := by omega
    clear hK hk
    rw [Int.toNat_natCast] at hS
    go_wp2_with fail
    have B1 : w.heap.size < u1.heap.size := hb
    go_loopw [7, 8, 9] (fun v7 v8 v9 wr => ∃ (i : Nat) (ga : Option Addr) (cap : Nat) (l : List Int) (ov : Bool), i ≤ min len1 200 ∧ v9 = .int .i64 i ∧ v7 = .slice ga l.length cap ∧ v8 = .bool ov ∧ Row wr u1.heap.size ga cap l ∧ Stk wr w.heap.size l K ov ∧ Below w.heap.size w wr ∧ u1.heap.size ≤ wr.heap.size) (fun v7 v8 v9 wr => 200 - (intOf v9).toNat)
    case atStart => exact ⟨0, none, 0, [], false, by omega, rfl, rfl, rfl, Row.nil _ _, hS, g1.2, Nat.le_refl _⟩
    case round =>
      obtain ⟨i, ga, cap, l, ov, i0, rfl, rfl, rfl, hrow, hs, bel, bsz⟩ := hrel
      by_cases hi : i < min len1 200
      · obtain ⟨hx0, hxw⟩ := HC.out i (by omega)
        have hx : wr.cell? ⟨xb, xo + i, none⟩ = some (.int .i64 (z1[i]?.getD 0)) := by rw [bel.cell (p := ⟨xb, xo + i, none⟩) hxb]; exact hx0
        have i1 : (0 : Int) ≤ (i : Int) := by omega
        have i2 : (i : Int) < (len1 : Int) := by omega
        have i3 : decide (i < len1) = true := by simp; omega
        have hlK : l.length ≤ K := hs.cell.2.2.2.2.2.2.1
        clear hx0
        go_wp2_with fail
        refine (place_gen _ _ (by omega) (by omega) hxw _).mono ?_; rintro e w' ⟨v, v0, v1, rfl, rfl⟩
        by_cases h4 : v % 5 = 4
        · go_wp2_with fail
          refine (clear_any _ _ _ _ _ hs).mono ?_; rintro e u2 ⟨rfl, hs2, c2⟩
          have row2 := hrow.chg c2 (by omega)
          go_wp2_with (first
            | (go_at_call 14; refine (len_any _ _ _ _ _ hs2).mono ?_; rintro e u5 ⟨rfl, rfl⟩)
            | (go_at_call 15; refine (over_any _ _ _ _ _ hs2).mono ?_; rintro e u5 ⟨rfl, rfl⟩))
          go_roundw
          case rel => exact ⟨i + 1, _, _, _, _, by omega, by go_num, rfl, rfl, row2, hs2, bel.trans (c2.below (Nat.le_refl _) bel.size), by have := c2.1; omega⟩
          case measure => simp [intOf]; omega
        · by_cases h3 : v % 5 = 3
          · rcases List.eq_nil_or_concat l with rfl | ⟨l', x, rfl⟩
            · rcases hrow.form with ⟨rfl, rfl, _⟩ | ⟨g, rfl, hg, hc1, hc2⟩
              · go_wp2_with fail
                refine (pop_none _ _ _ _ hs).mono ?_; rintro e u2 ⟨rfl, rfl⟩
                go_wp2_with (first
                  | (go_at_call 14; refine (len_any _ _ _ _ _ hs).mono ?_; rintro e u5 ⟨rfl, rfl⟩)
                  | (go_at_call 15; refine (over_any _ _ _ _ _ hs).mono ?_; rintro e u5 ⟨rfl, rfl⟩))
                go_roundw
                case rel => exact ⟨i + 1, _, _, _, _, by omega, by go_num, rfl, rfl, hrow, hs, bel, bsz⟩
                case measure => simp [intOf]; omega
              · go_wp2_with fail
                refine (pop_none _ _ _ _ hs).mono ?_; rintro e u2 ⟨rfl, rfl⟩
                go_wp2_with (first
                  | (go_at_call 14; refine (len_any _ _ _ _ _ hs).mono ?_; rintro e u5 ⟨rfl, rfl⟩)
                  | (go_at_call 15; refine (over_any _ _ _ _ _ hs).mono ?_; rintro e u5 ⟨rfl, rfl⟩))
                go_roundw
                case rel => exact ⟨i + 1, _, _, _, _, by omega, by go_num, rfl, rfl, hrow, hs, bel, bsz⟩
                case measure => simp [intOf]; omega
            · rw [List.concat_eq_append] at *
              rcases hrow.form with ⟨_, _, h0⟩ | ⟨g, rfl, hg, hc1, hc2⟩
              · simp at h0
              have hlen3 : (l' ++ [x]).length = l'.length + 1 := by simp
              rw [hlen3] at hc1 ⊢
              have d1 : (0 : Int) ≤ (l'.length : Int) := by omega
              have d2 : (l'.length : Int) < (cap : Int) := by omega
              go_wp2_with fail
              refine (pop_ok _ _ _ _ _ _ hs).mono ?_; rintro e u2 ⟨rfl, hs2, c2⟩
              have row2 := hrow.chg c2 (by omega)
              have hx2 := row2.last
              have row3 := row2.pop
              go_wp2_with (first
                | (go_at_call 14; refine (len_any _ _ _ _ _ hs2).mono ?_; rintro e u5 ⟨rfl, rfl⟩)
                | (go_at_call 15; refine (over_any _ _ _ _ _ hs2).mono ?_; rintro e u5 ⟨rfl, rfl⟩))
              go_roundw
              case rel => exact ⟨i + 1, _, _, _, _, by omega, by go_num, rfl, rfl, row3, hs2, bel.trans (c2.below (Nat.le_refl _) bel.size), by have := c2.1; omega⟩
              case measure => simp [intOf]; omega
          · have h012 : v % 5 = 0 ∨ v % 5 = 1 ∨ v % 5 = 2 := by omega
            by_cases hfull : l.length = K
            · have HF := Lib.hid hfull
              have d1 : decide (l.length < K) = false := by simp; omega
              have d2 : decide ((l.length : Int) < (K : Int)) = false := by simp; omega
              clear hfull
              rcases h012 with h0 | h0 | h0
              all_goals
                go_wp2_with fail
                refine (push_full _ _ _ _ _ _ hs HF.out).mono ?_; rintro e u2 ⟨rfl, hs2, c2⟩
                have row2 := hrow.chg c2 (by omega)
                cases ov
                all_goals
                  go_wp2_with (first
                    | (go_at_call 14; refine (len_any _ _ _ _ _ hs2).mono ?_; rintro e u5 ⟨rfl, rfl⟩)
                    | (go_at_call 15; refine (over_any _ _ _ _ _ hs2).mono ?_; rintro e u5 ⟨rfl, rfl⟩))
                  go_roundw
                  case rel => exact ⟨i + 1, _, _, _, _, by omega, by go_num, rfl, rfl, row2, hs2, bel.trans (c2.below (Nat.le_refl _) bel.size), by have := c2.1; omega⟩
                  case measure => simp [intOf]; omega
            · have d1 : decide (l.length < K) = true := by simp; omega
              have d2 : decide ((l.length : Int) < (K : Int)) = true := by simp; omega
              rcases h012 with h0 | h0 | h0
              all_goals
                go_wp2_with fail
                refine (push_ok _ _ _ _ _ _ hs (by omega)).mono ?_; rintro e u2 ⟨rfl, hs2, c2⟩
                have row2 := hrow.chg c2 (by omega)
                have hbz : u1.heap.size ≤ u2.heap.size := by have := c2.1; omega
                go_wp2_with (at_builtin; refine wpList_append_own _ rfl _ _ 33 rfl u1.heap.size 3 ti (.int .i64 0) 1 8 Try.underlying33 hti hz0 hz1 hz2 rfl (by decide) _ _ _ rfl (World.ownsRow.alloc row2 _) ⟨u2.heap.size, 0, none⟩ 1 1 [.int .i64 v] rfl rfl ?c1 ?c2 ?c3 ?c4 ?c5 ?_)
                case c1 => intro j u hu; cases j with | zero => (simp at hu; subst hu; simp [Addr.add]) | succ j => simp at hu
                case c2 => intro u hu; simp at hu; subst hu; rfl
                case c3 => unfold maxLen; omega
                case c4 => omega
                case c5 => simp; omega
                intro v' w1 hown hgrow _
                obtain ⟨⟨ga', cap', rfl, row3⟩, hs3, bel3, bsz3⟩ := append_all row2 hs2 hb hbz (Nat.le_refl _) hgrow hown
                clear hgrow hown
                cases ov
                all_goals
                  go_wp2_with (first
                    | (go_at_call 14; refine (len_any _ _ _ _ _ hs3).mono ?_; rintro e u5 ⟨rfl, rfl⟩)
                    | (go_at_call 15; refine (over_any _ _ _ _ _ hs3).mono ?_; rintro e u5 ⟨rfl, rfl⟩))
                  go_roundw
                  case rel => exact ⟨i + 1, _, _, _, _, by omega, by go_num, by simp, rfl, row3, hs3, (bel.trans (c2.below (Nat.le_refl _) bel.size)).trans bel3, by omega⟩
                  case measure => simp [intOf]; omega
      · go_wp2_with (go_at_call 16; refine (awake_any _).mono ?_; rintro e u4 ⟨rfl, b4⟩)
        all_goals
          go_ret
          exact ⟨rfl, bel.trans (b4.mono bel.size)⟩

/-! ### THE ROW's STEP: WRITTEN OUT: LEAVE IT -/
set_option maxRecDepth 100000 in
theorem lifted (os : Os) (started : os.Started) (H : Type) (enc : TypeId × Value → H) :
    ReturnsInHanded {} Try.checked os 5 .any (Rows.greyMixedSpec.pre6 enc Try.prog Try.f5 Rows.greyMixedRow.domain false) (Rows.greyMixedSpec.post enc Try.prog Try.f5 false true false false) := by
  refine returnsInHanded_of_change (C := Try.checked) own started (by kernel_rfl) Try.func5
    (ChangeSpec.witness6 (enc := enc) (C := Try.checked) false ⟨#[], #[.int .i64 0, .slice none 0 0], []⟩ 8 (by kernel_rfl) (by kernel_rfl) (by kernel_rfl) (by kernel_rfl)) ?_
  intro W base args ds gs before hval0 hW hcnd _
  have hval : ∀ (j : Nat) t v, Try.f5.params[j]? = some t → args[j]? = some v → Value.okWide Try.prog W .any base t v := hval0
  have hW' := hW
  obtain ⟨p, q, hA0, hV, rfl, hfz, hnd⟩ := hW
  have hA : DataW.TrodAll enc Try.prog W 0 (fun _ => true) true Try.f5.params.toList args.toList ds p := hA0
  rw [Try.params5] at hA hval
  obtain ⟨v0, vs0, d0, ds0, p0, q0, hargs, rfl, rfl, h0, r0⟩ := trodAll_cons hA
  obtain ⟨v1, vs1, d1, ds1, p1, q1, rfl, rfl, rfl, h1, r1⟩ := trodAll_cons r0
  obtain ⟨rfl, rfl, rfl⟩ := trodAll_nil r1
  obtain rfl : args = #[v0, v1] := by cases args; simp_all
  obtain ⟨rfl, rfl⟩ := trodVars_none hV
  obtain ⟨a0, rfl, rfl, rfl, w0⟩ := open_int Try.underlying3 (hval 0 3 v0 rfl rfl) h0
  obtain ⟨a1, len1, cap1, rfl⟩ := okWide_slice Try.underlying33 (hval 1 33 v1 rfl rfl)
  have k1 := h1
  have lt1 : ∀ x ∈ p1, x.block < W.heap.size := by obtain ⟨m, hm⟩ := k1; exact DataW.trod_lt m _ _ _ hm
  obtain ⟨z1, w1⟩ : ∃ zs, IsRow .i64 W a1 len1 cap1 zs := by
    obtain ⟨fuel, hf⟩ := h1
    rcases open_ints Try.underlying33 Try.underlying3 (by kernel_rfl) hf with ⟨hcs, _⟩ | ⟨x, l, c, zs, hcs, _, hl, hm, hz, _, hcell, hwz⟩
    · simp [Value.cells] at hcs
      obtain ⟨rfl, rfl, rfl⟩ := hcs
      exact ⟨[], .inl ⟨rfl, rfl, rfl, rfl⟩⟩
    · simp [Value.cells] at hcs
      obtain ⟨rfl, rfl, rfl⟩ := hcs
      exact ⟨zs, .inr ⟨_, rfl, hl, hm, by simpa using hz, hcell, hwz⟩⟩
  clear hA0 hval0
  refine (walk a0 a1 len1 cap1 z1 W w0 w1).mono fun e W' ⟨he, bel⟩ => ?_
  subst he
  exact ⟨_, rfl, _, _, _, [], _, [], hW', trodAll_mk1 (shut_bool Try.underlying4 _), (trodAll_cons_mk (shut_int Try.underlying3 w0) (trodAll_cons_mk (Below.trod laidOut (by kernel_rfl) (of_decide_eq_true (by kernel_rfl)) k1 bel lt1) trodAll_mk0)), rfl, bel.frame _, fun h => by cases h⟩

theorem over : Rows.greyMixedRow.holds Try.pinned (OpenSpec.ofChange Rows.greyMixedSpec) :=
  OpenClaim.holds_of_wide 5 Try.f5 rfl rfl rfl rfl rfl rfl rfl ⟨rfl, rfl, rfl, rfl, rfl⟩ rfl rfl rfl rfl rfl (by kernel_rfl) Try.func5 (by kernel_rfl)
    (of_decide_eq_true (by kernel_rfl)) (by unfold Func.isWrapper; first | (rw [if_pos (by decide +kernel)]; kernel_rfl) | (rw [if_neg (by decide +kernel)]; exact ⟨rfl, rfl⟩))
    (fun os started H enc _ => lifted os started H enc)

/-- THE STATEMENT -/
theorem proved : Rows.GreyMixedSaid := over
#print axioms proved
end Go.Proofs.Ytlancbacdjiciaa.greyMixed
