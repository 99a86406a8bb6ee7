/- The law StoreKeeps returns true at every input, and leaves its arguments as they were. No condition. -/
import Derived.Test.YtjeminkcaofgaaaRows
import Derived.WalkKit
import Derived.ProofKit
import Derived.OpenShut
import Derived.Test.YtjeminkcaofgaaaL03
import Derived.ShutString
import Derived.ChangeOld
import Derived.Below
namespace Go.Proofs.Ytjeminkcaofgaaa.storeKeeps
open Go.ChangeShapes Go.WideShapes Go.ChangeAt Go.RowKit
open Go.ChangeMaps (open_string shut_string)
open Go.Proofs.Ytjeminkcaofgaaa.Gen
open Go.Proofs.Ytjeminkcaofgaaa.Base
open Go.Proofs.Ytjeminkcaofgaaa.Sr
open Go.Proofs.Ytjeminkcaofgaaa.L03
set_option linter.unusedVariables false

theorem own : ownKnob Try.prog.godebug = none := by kernel_rfl
theorem laidOut : laidOutB Try.prog = true := by kernel_rfl

/-- WHAT THE WALK IS TOLD OF A SLICE OF INTEGERS THAT CAME IN: it is nil; or it leads to a row of 'cap' cells, the numbers 'zs' (the first 'len' are its elements, the rest its spare room), each fitting its kind. -/
def IsRow (k : IntKind) (w : World) (a : Option Addr) (len cap : Nat) (zs : List Int) : Prop :=
  (a = none ∧ len = 0 ∧ cap = 0 ∧ zs = []) ∨
  ∃ x, a = some x ∧ len ≤ cap ∧ cap ≤ maxLen ∧ zs.length = cap ∧ (∀ i, i < zs.length → w.cell? (x.add i) = some (.int k (zs.getD i 0))) ∧ ∀ n ∈ zs, (Lit.int k n).wf = true

def z80 : List Int := List.replicate 80 0
theorem zero80 (w : World) : Sem.run Try.prog (zeroValue 42) w = .ok (.agg (wds z80)) w := by kernel_rfl
def isL (W : List Int) : List Int := W ++ List.replicate (80 - W.length) 0
theorem isL_len {W : List Int} (h : W.length ≤ 80) : (isL W).length = 80 := by simp [isL]; omega
theorem isL_0 (K : Nat) (h : K ≤ 80) : isL (List.replicate K 0) = z80 := by
  unfold isL z80; rw [List.length_replicate, List.replicate_append_replicate]; congr 1; omega
theorem isL_set {W : List Int} {j : Nat} (h : j < W.length) (v : Int) : (isL W).set j v = isL (W.set j v) := by
  unfold isL; rw [List.set_append_left _ _ h, List.length_set]
theorem isL_get {W : List Int} {i : Nat} (hi : i < 80) : (isL W)[i]?.getD 0 = getS W (i : Int) := by
  unfold isL getS
  by_cases h : i < W.length
  · rw [List.getElem?_append_left h, if_pos (by omega)]; simp
  · rw [List.getElem?_append_right (by omega), if_neg (by omega)]
    by_cases h2 : i - W.length < 80 - W.length
    · simp [h2]
    · simp [h2]
theorem put_in (w : World) (b g : Nat) (l : List Int) (j : Nat) (v : Int) (h : Sto w b g l) (hj : j < l.length) :
    Calls Try.prog 10 #[.pointer (some ⟨b, 0, none⟩), .int .i64 j, .int .u32 v] w fun e w' => e = .returned (.bool true) ∧ Sto w' b g (l.set j v) ∧ Chg g w w' := by
  have c := put_any w b g l j v h
  rw [show decide (0 ≤ (j : Int) ∧ (j : Int) < l.length) = true by simp; omega, show putS l j v = l.set j v by unfold putS; rw [if_pos (by omega)]; simp] at c
  exact c
theorem put_out (w : World) (b g : Nat) (l : List Int) (x : Int) (v : Int) (h : Sto w b g l) (hj : ¬ (0 ≤ x ∧ x < l.length)) :
    Calls Try.prog 10 #[.pointer (some ⟨b, 0, none⟩), .int .i64 x, .int .u32 v] w fun e w' => e = .returned (.bool false) ∧ Sto w' b g l ∧ Chg g w w' := by
  have c := put_any w b g l x v h
  rw [show decide (0 ≤ x ∧ x < (l.length : Int)) = false by simp only [decide_eq_false_iff_not]; exact hj, show putS l x v = l by unfold putS; rw [if_neg hj]] at c
  exact c
theorem no_move (K : Nat) : lieB K 0 1 = false ∨ (lieB K 0 1 = true ∧ lieB K (K : Int) 1 = false) := by
  cases h : lieB K 0 1
  · exact .inl rfl
  · refine .inr ⟨rfl, ?_⟩
    rw [Bool.eq_false_iff]; intro hh
    have := lie_iff.1 hh; omega
/-! ### STEP 1: THE WALK: the Go text returns true, AND WRITES NOTHING THAT WAS THERE: 'Below w.heap.size w w'' (Derived/Below.lean: '.refl', '.alloc', '.drew', '.setCell' at a new block, '.trans'). Open each 'IsRow' by 'rcases' AHEAD of 'go_enter'; part every test ahead of the walk. -/
set_option maxRecDepth 100000 in
set_option maxHeartbeats 2000000 in
theorem walk (a0 : Int) (a1 : Option Addr) (len1 cap1 : Nat) (z1 : List Int) (w : World) (w0 : (Lit.int .i64 a0).wf = true) (w1 : IsRow .i64 w a1 len1 cap1 z1) :
    Calls Try.prog 5 #[.int .i64 a0, .slice a1 len1 cap1] w fun e w' => e = .returned (.bool true) ∧ Below w.heap.size w w' := by
  obtain ⟨xb, xo, HC⟩ : ∃ xb xo, len1 = 0 ∨ (a1 = some ⟨xb, xo, none⟩ ∧ len1 ≤ 9223372036854775807 ∧ xb < w.heap.size ∧ ∀ i, i < len1 → w.cell? ⟨xb, xo + i, none⟩ = some (.int .i64 (z1[i]?.getD 0)) ∧ (Lit.int .i64 (z1[i]?.getD 0)).wf = true) := by
    rcases w1 with ⟨rfl, rfl, rfl, rfl⟩ | ⟨x, rfl, hl, hm, hz, hcell, hwz⟩
    · exact ⟨0, 0, .inl rfl⟩
    · by_cases hlen : len1 = 0
      · exact ⟨0, 0, .inl hlen⟩
      obtain ⟨xb, xo, spot⟩ := x
      have hspot : spot = none := by simpa [Addr.add] using World.cell?_spot (hcell 0 (by omega))
      subst hspot
      have hc : ∀ i, i < z1.length → w.cell? ⟨xb, xo + i, none⟩ = some (.int .i64 (z1[i]?.getD 0)) := fun i hi => by
        have h := hcell i hi
        by_cases e : i = 0
        · subst e; simpa [Addr.add] using h
        · simpa [Addr.add, e] using h
      refine ⟨xb, xo, .inr ⟨rfl, by unfold maxLen at hm; omega, World.block_lt_of_cell? _ _ (hc 0 (by omega)), fun i hi => ⟨hc i (by omega), hwz _ (by simp [show i < z1.length by omega])⟩⟩⟩
  have HC := Lib.hid HC
  have hz80 := zero80
  go_enter Try.func5, Try.ntmps5
  go_wp2_with fail
  refine (place_gen _ _ (by omega) (by omega) w0 _).mono ?_; rintro e w' ⟨m, m0, m1, rfl, rfl⟩
  go_wp2_with fail
  refine (new_any _ _).mono ?_; rintro e u1 ⟨rfl, hS, g1, hb⟩
  have hd : w.heap.size + 2 ≤ u1.heap.size := by omega
  clear hb
  obtain ⟨K, rfl⟩ := Int.eq_ofNat_of_zero_le m0
  have hK : lenOf (K : Int) = K := by unfold lenOf; omega
  rw [hK] at hS
  clear hK
  go_wp2_with fail
  refine (len_any _ _ _ _ hS).mono ?_; rintro e u2 ⟨rfl, rfl⟩
  rw [List.length_replicate]
  go_upto_region 6 with fail
  have hS1 : Sto (u1.alloc (.cells (wds z80) 42)) (w.heap.size + 1) w.heap.size (List.replicate K 0) := hS.of_blocks (Below.heap_alloc _ _ _ (by omega)) (Below.heap_alloc _ _ _ (by omega))
  have hI1 : (u1.alloc (.cells (wds z80) 42)).heap[u1.heap.size]? = some (.cells (wds (isL (List.replicate K 0))) 42 (0, 0)) := by rw [heap_alloc_new, isL_0 K (by omega)]
  have bel1 : Below w.heap.size w (u1.alloc (.cells (wds z80) 42)) := g1.2.alloc g1.size _
  have hsz1 : u1.heap.size < (u1.alloc (.cells (wds z80) 42)).heap.size := by simp
  generalize (u1.alloc (.cells (wds z80) 42)) = u3 at *
  generalize u1.heap.size = d at *
  clear hS g1
  go_wp2_with fail
  go_loopw [8] (fun v8 wr => ∃ (i : Nat) (W : List Int), i ≤ min len1 60 ∧ v8 = .int .i64 i ∧ Sto wr (w.heap.size + 1) w.heap.size W ∧ W.length = K ∧ wr.heap[d]? = some (.cells (wds (isL W)) 42 (0, 0)) ∧ Below w.heap.size w wr) (fun v8 wr => 60 - (intOf v8).toNat)
  case atStart => exact ⟨0, _, by omega, rfl, hS1, by simp, hI1, bel1⟩
  case round =>
    obtain ⟨i, W, i0, rfl, hs, hWK, hI, bel⟩ := hrel
    by_cases hi : i < min len1 60
    · rcases HC.out with h0 | ⟨rfl, hm, hxb, hcell⟩
      · omega
      obtain ⟨hx0, hxw⟩ := hcell i (by omega)
      have hx : wr.cell? ⟨xb, xo + i, none⟩ = some (.int .i64 (z1[i]?.getD 0)) := by rw [bel.cell (p := ⟨xb, xo + i, none⟩) hxb]; exact hx0
      have i1 : (0 : Int) ≤ (i : Int) := by omega
      have i2 : (i : Int) < (len1 : Int) := by omega
      have i3 : decide (i < len1) = true := by simp; omega
      clear hcell hx0
      have HW := Lib.hid hWK; clear hWK
      go_wp2_with fail
      refine (place_gen _ _ (by omega) (by omega) hxw _).mono ?_; rintro e w' ⟨v, v0, v1, rfl, rfl⟩
      go_wp2_with fail
      obtain ⟨j, hj⟩ := Int.eq_ofNat_of_zero_le (show 0 ≤ v % 80 by omega)
      have hj80 : j < 80 := by omega
      rw [hj]
      have HJ := Lib.hid hj; clear hj
      have vm : v % 4294967296 = v := by omega
      have VM := Lib.hid vm; clear vm
      have cj : ∃ old, wr.cell? ⟨d, j, none⟩ = some old := by
        rw [cell_of_row wr d j _ _ _ hI, wds_get]
        exact ⟨_, by rw [List.getElem?_eq_getElem (by rw [isL_len (by have := HW.out; omega)]; exact hj80)]; rfl⟩
      obtain ⟨old, cj⟩ := cj
      have j1 : (0 : Int) ≤ (j : Int) := by omega
      have j2 : (j : Int) < 80 := by omega
      by_cases hjK : j < K
      · have dj : decide (j < K) = true := by simp; omega
        refine (put_in _ _ _ _ _ _ hs (by rw [HW.out]; exact hjK)).mono ?_; rintro e u4 ⟨rfl, hs4, k4⟩
        have hI4 : u4.heap[d]? = some (.cells (wds (isL W)) 42 (0, 0)) := k4.block (by omega) hI
        have cj4 : u4.cell? ⟨d, j, none⟩ = some old := by rw [cell_of_row u4 d j _ _ _ hI4]; rw [cell_of_row wr d j _ _ _ hI] at cj; exact cj
        have zj4 : u4.frozen? ⟨d, j, none⟩ = false := frozen_of_row u4 d j _ _ hI4
        go_wp2_with fail
        go_roundw
        case rel =>
          refine ⟨i + 1, W.set j v, by omega, by go_num, ?_, by rw [List.length_set]; exact HW.out, ?_, (bel.trans (k4.below (Nat.le_refl _) bel.size)).setCell (by simp; omega) _⟩
          · exact hs4.of_blocks (heap_setCell_other _ _ _ _ (by simp; omega)) (heap_setCell_other _ _ _ _ (by simp; omega))
          · rw [heap_setCell_same u4 d j _ _ _ hI4, wds_set, isL_set (by rw [HW.out]; exact hjK)]
        case measure => simp [intOf]; omega
      · have dj : decide (j < K) = false := by simp; omega
        refine (put_out _ _ _ _ _ _ hs (by rw [HW.out]; omega)).mono ?_; rintro e u4 ⟨rfl, hs4, k4⟩
        have hI4 : u4.heap[d]? = some (.cells (wds (isL W)) 42 (0, 0)) := k4.block (by omega) hI
        go_wp2_with fail
        go_roundw
        case rel => exact ⟨i + 1, W, by omega, by go_num, hs4, HW.out, hI4, bel.trans (k4.below (Nat.le_refl _) bel.size)⟩
        case measure => simp [intOf]; omega
    · have hW80 : W.length ≤ 80 := by omega
      have k0 : (0 : Int) ≤ (K : Int) := by omega
      obtain ⟨wo, rfl⟩ : ∃ wo : World, wo = wr := ⟨_, rfl⟩
      go_wp2_with fail
      all_goals
        go_loopw [11] (fun v11 wr => ∃ i : Nat, i ≤ 80 ∧ v11 = .int .i64 i ∧ Sto wr (w.heap.size + 1) w.heap.size W ∧ wr.heap[d]? = some (.cells (wds (isL W)) 42 (0, 0)) ∧ Below w.heap.size w wr) (fun v11 wr => 80 - (intOf v11).toNat)
        case atStart => exact ⟨0, by omega, rfl, hs, hI, bel⟩
        case round =>
          obtain ⟨q, q0, rfl, hs, hI, bel⟩ := hrel
          by_cases hq : q < 80
          · have q1 : (0 : Int) ≤ (q : Int) := by omega
            have q2 : (q : Int) < 80 := by omega
            have cq : wr.cell? ⟨d, q, none⟩ = some (.int .u32 (getS W (q : Int))) := by
              rw [cell_of_row wr d q _ _ _ hI, wds_get, ← isL_get hq, List.getElem?_eq_getElem (by rw [isL_len hW80]; exact hq)]; rfl
            go_wp2_with fail
            go_quiet ((go_at_call 14; exact same_quiet (get_any _ _ _ _ _ (hs.of_blocks rfl rfl))))
            go_wp2_with fail
            go_roundw
            case rel => exact ⟨q + 1, by omega, by go_num, hs.of_blocks rfl rfl, hI, below_drewN bel _⟩
            case measure => simp [intOf]; omega
          · have e1 : getS W (-1) = 0 := by unfold getS; rw [if_neg (by omega)]
            have E1 := Lib.hid e1; clear e1
            go_wp2_with fail
            refine (get_any _ _ _ _ _ hs).mono ?_; rintro e u5 ⟨rfl, rfl⟩; rw [E1.out]
            go_wp2_with fail
            refine (put_out _ _ _ _ _ _ hs (by omega)).mono ?_; rintro e u5 ⟨rfl, hs5, k5⟩
            go_wp2_with fail
            refine (move_no _ _ _ _ 0 (K : Int) 1 hs5 (by rw [hWK]; exact no_move K)).mono ?_; rintro e u6 ⟨rfl, rfl⟩
            go_wp2_with fail
            refine (move_zero _ _ _ _ K K hs5 (by omega) (by omega)).mono ?_; rintro e u6 ⟨rfl, hs6, k6⟩
            go_wp2_with (go_at_call 16; refine (awake_any _).mono ?_; rintro e u7 ⟨rfl, b7⟩)
            go_ret
            exact ⟨rfl, (bel.trans ((k5.trans k6).below (Nat.le_refl _) bel.size)).trans (b7.mono (by have := (k5.trans k6).1; have := bel.size; omega))⟩

/-! ### THE ROW's STEP: WRITTEN OUT: LEAVE IT -/
set_option maxRecDepth 100000 in
theorem lifted (os : Os) (started : os.Started) (H : Type) (enc : TypeId × Value → H) :
    ReturnsInHanded {} Try.checked os 5 .any (Rows.storeKeepsSpec.pre6 enc Try.prog Try.f5 Rows.storeKeepsRow.domain false) (Rows.storeKeepsSpec.post enc Try.prog Try.f5 false true false false) := by
  refine returnsInHanded_of_change (C := Try.checked) own started (by kernel_rfl) Try.func5
    (ChangeSpec.witness6 (enc := enc) (C := Try.checked) false ⟨#[], #[.int .i64 0, .slice none 0 0], []⟩ 8 (by kernel_rfl) (by kernel_rfl) (by kernel_rfl) (by kernel_rfl)) ?_
  intro W base args ds gs before hval0 hW hcnd _
  have hval : ∀ (j : Nat) t v, Try.f5.params[j]? = some t → args[j]? = some v → Value.okWide Try.prog W .any base t v := hval0
  have hW' := hW
  obtain ⟨p, q, hA0, hV, rfl, hfz, hnd⟩ := hW
  have hA : DataW.TrodAll enc Try.prog W 0 (fun _ => true) true Try.f5.params.toList args.toList ds p := hA0
  rw [Try.params5] at hA hval
  obtain ⟨v0, vs0, d0, ds0, p0, q0, hargs, rfl, rfl, h0, r0⟩ := trodAll_cons hA
  obtain ⟨v1, vs1, d1, ds1, p1, q1, rfl, rfl, rfl, h1, r1⟩ := trodAll_cons r0
  obtain ⟨rfl, rfl, rfl⟩ := trodAll_nil r1
  obtain rfl : args = #[v0, v1] := by cases args; simp_all
  obtain ⟨rfl, rfl⟩ := trodVars_none hV
  obtain ⟨a0, rfl, rfl, rfl, w0⟩ := open_int Try.underlying3 (hval 0 3 v0 rfl rfl) h0
  obtain ⟨a1, len1, cap1, rfl⟩ := okWide_slice Try.underlying41 (hval 1 41 v1 rfl rfl)
  have k1 := h1
  have lt1 : ∀ x ∈ p1, x.block < W.heap.size := by obtain ⟨m, hm⟩ := k1; exact DataW.trod_lt m _ _ _ hm
  obtain ⟨z1, w1⟩ : ∃ zs, IsRow .i64 W a1 len1 cap1 zs := by
    obtain ⟨fuel, hf⟩ := h1
    rcases open_ints Try.underlying41 Try.underlying3 (by kernel_rfl) hf with ⟨hcs, _⟩ | ⟨x, l, c, zs, hcs, _, hl, hm, hz, _, hcell, hwz⟩
    · simp [Value.cells] at hcs
      obtain ⟨rfl, rfl, rfl⟩ := hcs
      exact ⟨[], .inl ⟨rfl, rfl, rfl, rfl⟩⟩
    · simp [Value.cells] at hcs
      obtain ⟨rfl, rfl, rfl⟩ := hcs
      exact ⟨zs, .inr ⟨_, rfl, hl, hm, by simpa using hz, hcell, hwz⟩⟩
  clear hA0 hval0
  refine (walk a0 a1 len1 cap1 z1 W w0 w1).mono fun e W' ⟨he, bel⟩ => ?_
  subst he
  exact ⟨_, rfl, _, _, _, [], _, [], hW', trodAll_mk1 (shut_bool Try.underlying4 _), (trodAll_cons_mk (shut_int Try.underlying3 w0) (trodAll_cons_mk (Below.trod laidOut (by kernel_rfl) (of_decide_eq_true (by kernel_rfl)) k1 bel lt1) trodAll_mk0)), rfl, bel.frame _, fun h => by cases h⟩

theorem over : Rows.storeKeepsRow.holds Try.pinned (OpenSpec.ofChange Rows.storeKeepsSpec) :=
  OpenClaim.holds_of_wide 5 Try.f5 rfl rfl rfl rfl rfl rfl rfl ⟨rfl, rfl, rfl, rfl, rfl⟩ rfl rfl rfl rfl rfl (by kernel_rfl) Try.func5 (by kernel_rfl)
    (of_decide_eq_true (by kernel_rfl)) (by unfold Func.isWrapper; first | (rw [if_pos (by decide +kernel)]; kernel_rfl) | (rw [if_neg (by decide +kernel)]; exact ⟨rfl, rfl⟩))
    (fun os started H enc _ => lifted os started H enc)

/-- THE STATEMENT -/
theorem proved : Rows.StoreKeepsSaid := over
#print axioms proved
end Go.Proofs.Ytjeminkcaofgaaa.storeKeeps
