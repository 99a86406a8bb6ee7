/- The law FrameStack returns true at every input, and leaves its arguments as they were. No condition. -/
import Derived.Test.YtglilfjkjoogbaaRows
import Derived.WalkKit
import Derived.ProofKit
import Derived.OpenShut
import Derived.Test.YtglilfjkjoogbaaFs3
import Derived.Deep.RegionWith
import Derived.Deep.DeepCutAuto
import Derived.ShutString
import Derived.ChangeOld
import Derived.Below
namespace Go.Proofs.Ytglilfjkjoogbaa.frameStack
open Go.ChangeShapes Go.WideShapes Go.ChangeAt Go.RowKit
open Go.ChangeMaps (open_string shut_string)
open Go.Proofs.Ytglilfjkjoogbaa.Gen Go.Proofs.Ytglilfjkjoogbaa.Base Go.Proofs.Ytglilfjkjoogbaa.Obj
set_option linter.unusedVariables false

theorem own : ownKnob Try.prog.godebug = none := by kernel_rfl
theorem laidOut : laidOutB Try.prog = true := by kernel_rfl

/-- WHAT THE WALK IS TOLD OF A SLICE OF INTEGERS THAT CAME IN: it is nil; or it leads to a row of 'cap' cells, the numbers 'zs' (the first 'len' are its elements, the rest its spare room), each fitting its kind. -/
def IsRow (k : IntKind) (w : World) (a : Option Addr) (len cap : Nat) (zs : List Int) : Prop :=
  (a = none ∧ len = 0 ∧ cap = 0 ∧ zs = []) ∨
  ∃ x, a = some x ∧ len ≤ cap ∧ cap ≤ maxLen ∧ zs.length = cap ∧ (∀ i, i < zs.length → w.cell? (x.add i) = some (.int k (zs.getD i 0))) ∧ ∀ n ∈ zs, (Lit.int k n).wf = true

theorem row_at {w : World} {a : Option Addr} {len cap : Nat} {zs : List Int} (h : IsRow .i64 w a len cap zs) :
    (len : Int) ≤ 9223372036854775807 ∧ ∀ i, i < len → ∃ xb xo, a = some ⟨xb, xo, none⟩ ∧ xb < w.heap.size ∧ w.cell? ⟨xb, xo + i, none⟩ = some (.int .i64 (zs[i]?.getD 0)) ∧ (Lit.int .i64 (zs[i]?.getD 0)).wf = true := by
  rcases h with ⟨rfl, rfl, rfl, rfl⟩ | ⟨x, rfl, hl, hm, hz, hcell, hwz⟩
  · exact ⟨by omega, fun i hi => by omega⟩
  · refine ⟨by unfold maxLen at hm; omega, fun i hi => ?_⟩
    obtain ⟨xb, xo, spot⟩ := x
    have hspot : spot = none := by simpa [Addr.add] using World.cell?_spot (hcell 0 (by omega))
    subst hspot
    have hc : w.cell? ⟨xb, xo + i, none⟩ = some (.int .i64 (zs[i]?.getD 0)) := by
      have h := hcell i (by omega)
      by_cases e : i = 0
      · subst e; simpa [Addr.add] using h
      · simpa [Addr.add, e] using h
    exact ⟨xb, xo, rfl, World.block_lt_of_cell? _ _ hc, hc, hwz _ (by simp [show i < zs.length by omega])⟩
/-! ### STEP 1: THE WALK: the Go text returns true, AND WRITES NOTHING THAT WAS THERE: 'Below w.heap.size w w'' (Derived/Below.lean: '.refl', '.alloc', '.drew', '.setCell' at a new block, '.trans'). Open each 'IsRow' by 'rcases' AHEAD of 'go_enter'; part every test ahead of the walk. -/
set_option maxRecDepth 100000 in
set_option maxHeartbeats 16000000 in
theorem walk (a0 : Option Addr) (len0 cap0 : Nat) (z0 : List Int) (a1 : Int) (w : World) (w0 : IsRow .i64 w a0 len0 cap0 z0) (w1 : (Lit.int .i64 a1).wf = true) :
    Calls Try.prog 3 #[.slice a0 len0 cap0, .int .i64 a1] w fun e w' => e = .returned (.bool true) ∧ Below w.heap.size w w' := by
  obtain ⟨hl0, hcell⟩ := row_at w0
  have HCELL := Lib.hid hcell; clear hcell w0
  have hz := zV
  have HFS := Lib.hid (fs_First w)
  have hpl := place_any a1 9 (by omega) (by omega) w1
  have hp0 := Int.emod_nonneg a1 (show (9 : Int) ≠ 0 by omega)
  have hp1 := Int.emod_lt_of_pos a1 (show (0 : Int) < 9 by omega)
  obtain ⟨t, htt⟩ : ∃ t : Nat, a1 % 9 = (t : Int) := ⟨(a1 % 9).toNat, by omega⟩
  rw [htt] at hpl
  have ht8 : t ≤ 8 := by omega
  clear hp0 hp1 htt w1
  go_enter Try.func3, Try.ntmps3
  go_upto_region 10 with (first
    | (go_at_call 6; (with_reducible refine HFS.out.mono ?_); rintro e u1 ⟨la, lc, L, rfl, hD, hL⟩; have HLB := Lib.hid (LB.of hD 34 23); have HL := Lib.hid hL; clear hD hL; dsimp only)
    | (go_at_call 7; (with_reducible refine (law_Method HLB.out HL.out _).mono ?_); rintro e u2 ⟨rfl, a, c, L', hB, hL'⟩; have HLB2 := Lib.hid hB; have HL2 := Lib.hid hL'; clear hB hL'; dsimp only)
    | (refine wpList_load_row rfl 31 (Operand.tmp 33) (by rfl) u1.heap.size (by rfl) _ _ (0, 0) _ HLB2.out.row Try.underlying31 rfl info13 ?_)
    | (go_at_call 8; (with_reducible refine (law_New HLB2.out HL2.out ok_st0).mono ?_); rintro e u3 ⟨m, li, lv, dv, M, rfl, hb3, hN⟩; have HNW := Lib.hid hN; have HB3 := Lib.hid (HLB2.out.bel.trans (hb3.mono HLB2.out.bel.size)); clear hN hb3; dsimp only)
    | (go_at_call 9; (with_reducible refine (hpl _).mono ?_); rintro e u3' ⟨rfl, rfl⟩; dsimp only)
    | (go_at_call 10; (with_reducible refine (law_Frame HNW.out HL2.out ht8 HB3.out HLB2.out.bel.size).mono ?_); rintro e u4 ⟨rfl, lv', dv', M', hF⟩; have HF4 := Lib.hid (Fst.start hF); clear hF; dsimp only))
  clear HFS hpl HLB HL HLB2 HL2 HNW HB3
  obtain ⟨n, hn, hn1, hn2⟩ : ∃ n : Nat, n = min len0 20 ∧ n ≤ 20 ∧ n ≤ len0 := ⟨min len0 20, rfl, by omega, by omega⟩
  go_cut [12] (fun s12 wx => s12 = .int .i64 (n : Int) ∧ u4 = wx)
  case first =>
    go_wp2_with fail
    all_goals
      go_meet
      exact ⟨by congr 1; omega, rfl⟩
  case rest =>
    obtain ⟨rfl, rfl⟩ := hcut
    clear hn
    go_wp2_with fail
    go_loopw [13, 14] (fun v13 v14 wr => ∃ (i : Nat) (M : MS) (l : List Int), i ≤ n ∧ v14 = .int .i64 i ∧ l.length = min i (16 - t) ∧ Fst w wr m li lv' dv' M t l v13 l) (fun v13 v14 wr => n - (intOf v14).toNat)
    case atStart => exact ⟨0, M', [], by omega, rfl, by simp, HF4.out⟩
    case round =>
      clear HF4
      obtain ⟨i, M, l, hi, rfl, hll, hF⟩ := hrel
      obtain ⟨ai, ci, rfl, hci, -⟩ := hF.cells
      by_cases hlt : i < n
      · obtain ⟨xb, xo, rfl, hxb, hxc, hxw⟩ := HCELL.out i (by omega)
        have hx : wr.cell? ⟨xb, xo + i, none⟩ = some (.int .i64 (z0[i]?.getD 0)) := by rw [hF.fw.bel.cell (p := ⟨xb, xo + i, none⟩) hxb]; exact hxc
        have t1 : (i : Int) < (n : Int) := by omega
        have t1' : (i : Int) < (len0 : Int) := by omega
        have t0 : (0 : Int) ≤ (i : Int) := by omega
        have HF := Lib.hid hF
        clear hF hxc
        generalize z0[i]?.getD 0 = Z at *
        have hpv := place_gen Z 1000 (by omega) (by omega) hxw
        clear hxw
        by_cases hr : i < 16 - t
        · obtain rfl : i = l.length := by omega
          have t2 : (l.length : Int) < 16 - (t : Int) := by omega
          have hl20 : l.length ≤ 20 := by omega
          have hr2 : l.length + 1 ≤ 16 - t := by omega
          clear hll
          go_wp2_with (first
            | (go_at_call 9; (with_reducible refine (hpv _).mono ?_); rintro e u5 ⟨v, v0, v1, rfl, rfl⟩; dsimp only)
            | (go_at_call 11; (with_reducible refine (fq_Push q25 HF.out.fw.fq v (by omega) (by omega)).mono ?_); rintro e u6 ⟨rfl, M6, hq6, hN6⟩; have HF6 := Lib.hid (HF.out.nx hq6 hN6); clear hq6 hN6; dsimp only)
            | (at_builtin; refine wpl_appI rfl (.tmp 79) (.tmp 81) (by rfl) (.slice ai l.length ci) l.length (ints l) (by rfl) (World.ownsRow.alloc HF6.out.ins _) (by have := HF6.out.fw.bel.size; simp; omega) ⟨_, 0, none⟩ 1 1 (by rfl) [.int .i64 v] rfl (fun j u hu => by rw [Addr.add_lit, Nat.zero_add]; exact new_cell _ #[.int .i64 v] _ (by simpa using hu)) (fun u hu => by obtain rfl := List.mem_singleton.1 hu; rfl) (by omega) ?_))
          intro v8 u8 own8 g8 e8
          have HF8 := Lib.hid (HF6.out.app own8 g8 (by rw [World.size_alloc]; exact e8))
          clear own8 g8 e8
          go_wp2_with fail
          exact ⟨⟨l.length + 1, M6, l ++ [v], by omega, by simp, by simp; omega, HF8.out⟩, by simp only [intOf]; omega⟩
        · have t2 : ¬ (i : Int) < 16 - (t : Int) := by omega
          have hl16 : t + l.length = 16 := by omega
          clear hll
          go_wp2_with (first
            | (go_at_call 9; (with_reducible refine (hpv _).mono ?_); rintro e u5 ⟨v, v0, v1, rfl, rfl⟩; dsimp only)
            | (go_at_call 11; (with_reducible refine (fq_Push_full q25 HF.out.fw.fq v (by omega) hl16).mono ?_); rintro e u6 ⟨rfl, hb6⟩; have HF6 := Lib.hid (HF.out.below hb6); clear hb6; dsimp only))
          exact ⟨⟨i + 1, M, l, by omega, by simp, by omega, HF6.out⟩, by simp only [intOf]; omega⟩
      · obtain rfl : i = n := by omega
        clear hll
        have hl16 : t + l.length ≤ 16 := hF.fw.fq.small
        have HF := Lib.hid hF
        clear hF
        go_wp2_with fail
        go_loopw [16] (fun v16 wr => ∃ (k : Nat) (M : MS), k ≤ l.length ∧ v16 = .int .i64 ((k : Int) - 1) ∧ Fst w wr m li lv' dv' M t (l.take k) (.slice ai l.length ci) l) (fun v16 wr => (intOf v16 + 1).toNat)
        case atStart => exact ⟨l.length, M, Nat.le_refl _, rfl, by rw [List.take_length]; exact HF.out⟩
        case round =>
          clear HF
          obtain ⟨k, M, hk, hv, hF⟩ := hrel
          cases k with
          | succ j =>
            rw [show ((j + 1 : Nat) : Int) - 1 = (j : Int) by omega] at hv
            subst hv
            obtain ⟨x, hx⟩ : ∃ x, l[j]? = some x := ⟨_, List.getElem?_eq_getElem (by omega)⟩
            obtain ⟨x0, hx0⟩ : ∃ x, l[0]? = some x := ⟨_, List.getElem?_eq_getElem (by omega)⟩
            obtain ⟨a2, c2, e2, -, hc2⟩ := hF.cells
            obtain ⟨e3, -, e4⟩ := Value.slice.inj e2
            subst e3 e4
            obtain ⟨g, rfl, -, -⟩ := hc2 0 (by omega)
            clear hc2 e2
            have HCA : Hid (∀ u M' l', Fst w u m li lv' dv' M' t l' (.slice (some ⟨g, 0, none⟩) l.length ci) l → u.cell? ⟨g, j, none⟩ = some (.int .i64 x) ∧ u.cell? ⟨g, 0, none⟩ = some (.int .i64 x0)) := Lib.hid fun u M' l' h => by
              have h1 := h.cellAt (i := j) (by omega)
              have h2 := h.cellAt (i := 0) (by omega)
              obtain ⟨_, hx'⟩ := List.getElem?_eq_some_iff.1 hx
              obtain ⟨_, hx0'⟩ := List.getElem?_eq_some_iff.1 hx0
              rw [hx'] at h1
              rw [hx0'] at h2
              exact ⟨h1, h2⟩
            have htk : l.take (j + 1) = l.take j ++ [x] := by rw [List.take_add_one, hx]; rfl
            rw [htk] at hF
            have hlj : (l.take j ++ [x]).length = j + 1 := by simp; omega
            have HT0 : Hid (∀ u, Fst w u m li lv' dv' M t (l.take j ++ [x]) (.slice (some ⟨g, 0, none⟩) l.length ci) l → Calls Try.prog 12 #[.pointer (some ⟨m, 0, none⟩), .int .i64 25, .int .i64 0] u fun e w' => e = .returned (.tuple #[.agg #[.bool false, .int .i64 x], .bool true]) ∧ Below u.heap.size u w') := Lib.hid fun u h => by
              have := fq_Top q25 h.fw.fq 0 (by rw [hlj]; omega)
              rw [show (l.take j ++ [x])[(l.take j ++ [x]).length - 1 - 0]'(by omega) = x by simp [show min j l.length = j by omega]] at this
              exact this
            have HT1 : Hid (∀ u, Fst w u m li lv' dv' M t (l.take j ++ [x]) (.slice (some ⟨g, 0, none⟩) l.length ci) l → Calls Try.prog 12 #[.pointer (some ⟨m, 0, none⟩), .int .i64 25, .int .i64 (j : Int)] u fun e w' => e = .returned (.tuple #[.agg #[.bool false, .int .i64 x0], .bool true]) ∧ Below u.heap.size u w') := Lib.hid fun u h => by
              have := fq_Top q25 h.fw.fq j (by rw [hlj]; omega)
              have e0 : (l.take j ++ [x])[0]? = some x0 := by rw [← htk, List.getElem?_take, if_pos (by omega)]; exact hx0
              have e1 : (l.take j ++ [x])[(l.take j ++ [x]).length - 1 - j]'(by omega) = x0 := by
                have hz0 : (l.take j ++ [x]).length - 1 - j = 0 := by omega
                obtain ⟨_, e0'⟩ := List.getElem?_eq_some_iff.1 e0
                rw [← e0']; congr 1
              rw [e1] at this
              exact this
            have t1 : (0 : Int) ≤ (j : Int) := by omega
            have t2 : (j : Int) < (l.length : Int) := by omega
            have t3 : (0 : Int) < (l.length : Int) := by omega
            have HF := Lib.hid hF
            have HAL := Lib.hid fun (u : World) (o : Obj) => (Below.refl u.heap.size u).alloc (Nat.le_refl _) o
            have hl20 : l.length ≤ 20 := by omega
            clear hF htk hlj hx hx0
            go_upto_region 26 with (first
              | (go_at_call 12; (with_reducible refine (HT0.out _ HF.out).mono ?_); rintro e u5 ⟨rfl, hb5⟩; have HF5 := Lib.hid (HF.out.below hb5); have HX5 := Lib.hid (HF5.out.below (HAL.out u5 (.cells #[.bool false, .int .i64 x] 44))); have HB5 := Lib.hid (hb5.trans ((HAL.out u5 (.cells #[.bool false, .int .i64 x] 44)).mono hb5.size)); have HS5 := Lib.hid hb5.size; clear hb5; dsimp only)
              | (refine wpList_store_row rfl 44 (Operand.tmp 17) (Operand.tmp 94) rfl u5.heap.size _ rfl rfl _ _ (heap_alloc_new u5 _) info2 (by rfl) (by simp [Value.oneCell']) ?_; rw [World.setRow_alloc_new])
              | (go_at_call 12; (with_reducible refine (HT1.out _ HX5.out).mono ?_); rintro e u6 ⟨rfl, hb6⟩; have HF6 := Lib.hid (HX5.out.below hb6); have HX6 := Lib.hid (HF6.out.below (HAL.out u6 (.cells #[.bool false, .int .i64 x0] 44))); have HB6 := Lib.hid (HB5.out.trans (((hb6.trans ((HAL.out u6 (.cells #[.bool false, .int .i64 x0] 44)).mono hb6.size))).mono HB5.out.size)); have HR5 := Lib.hid ((heap_alloc_old u6 (.cells #[.bool false, .int .i64 x0] 44) (Nat.lt_of_lt_of_le (by simp) hb6.size)).trans ((hb6.block u5.heap.size (by simp)).trans (heap_alloc_new u5 (.cells #[.bool false, .int .i64 x] 44)))); have HR6 := Lib.hid (heap_alloc_new u6 (.cells #[.bool false, .int .i64 x0] 44)); have HS6 := Lib.hid (Nat.le_trans HB5.out.size hb6.size); clear hb6; dsimp only)
              | (refine wpList_store_row rfl 44 (Operand.tmp 19) (Operand.tmp 101) rfl u6.heap.size _ rfl rfl _ _ (heap_alloc_new u6 _) info2 (by rfl) (by simp [Value.oneCell']) ?_; rw [World.setRow_alloc_new])
              | (go_at_call 13; (with_reducible refine (fq_Pop q25 HX6.out.fw.fq).mono ?_); rintro e u7 ⟨rfl, M7, hq7, hN7⟩; have HX7 := Lib.hid ((HX6.out.nx hq7 hN7).below (HAL.out u7 (.cells #[.bool false, .int .i64 x] 44))); have HR57 := Lib.hid (HF.out.far HB6.out HS5.out hN7 HR5.out); have HR67 := Lib.hid (HF.out.far HB6.out HS6.out hN7 HR6.out); clear hq7 hN7; dsimp only)
              | (refine wpList_store_row rfl 44 (Operand.tmp 21) (Operand.tmp 107) rfl u7.heap.size _ rfl rfl _ _ (heap_alloc_new u7 _) info2 (by rfl) (by simp [Value.oneCell']) ?_; rw [World.setRow_alloc_new]))
            have k5 := (heap_alloc_old u7 (.cells #[.bool false, .int .i64 x] 44) (Array.getElem?_eq_some_iff.1 HR57.out).1).trans HR57.out
            have k6 := (heap_alloc_old u7 (.cells #[.bool false, .int .i64 x] 44) (Array.getElem?_eq_some_iff.1 HR67.out).1).trans HR67.out
            have c17 := cell_row _ _ 1 _ _ _ k5
            have c19 := cell_row _ _ 1 _ _ _ k6
            have c20 := cell_row _ _ 0 _ _ _ (heap_alloc_new u7 (.cells #[.bool false, .int .i64 x] 44))
            have c21 := cell_row _ _ 1 _ _ _ (heap_alloc_new u7 (.cells #[.bool false, .int .i64 x] 44))
            rw [show (#[.bool false, .int .i64 x] : Array Value)[1]? = some (.int .i64 x) from rfl] at c17 c21
            rw [show (#[.bool false, .int .i64 x] : Array Value)[0]? = some (.bool false) from rfl] at c20
            rw [show (#[.bool false, .int .i64 x0] : Array Value)[1]? = some (.int .i64 x0) from rfl] at c19
            obtain ⟨cg, cg0⟩ := HCA.out _ _ _ HX7.out
            clear k5 k6
            go_quiet (fail)
            go_wp2_with fail
            exact ⟨⟨j, M7, by omega, rfl, HX7.out.below (below_drewN (Below.refl _ _) nq)⟩, by simp only [intOf]; omega⟩
          | zero =>
            rw [show ((0 : Nat) : Int) - 1 = -1 from rfl] at hv
            subst hv
            rw [List.take_zero] at hF
            have HF := Lib.hid hF
            clear hF
            have HGT : Hid (∀ u, Fq u m li lv' dv' M 25 t [] → Calls Try.prog 15 #[.pointer (some ⟨m, 0, none⟩), .int .i64 25, .int .i64 2] u fun e w' => e = .returned (.agg #[.bool false, .int .i64 (t : Int)]) ∧ Below u.heap.size u w') := Lib.hid fun u h => fq_Get q25 h
            have HAL := Lib.hid fun (u : World) (o : Obj) => (Below.refl u.heap.size u).alloc (Nat.le_refl _) o
            have hvn := val_N
            go_wp2_with (first
              | (go_at_call 14; (with_reducible refine (fq_Temp15 q25 HF.out.fw.fq ht8).mono ?_); rintro e u9 ⟨rfl, hb9⟩; have HX9 := Lib.hid ((HF.out.below hb9).below (HAL.out u9 (.cells #[.bool true, .int .i64 0] 44))); clear hb9; dsimp only)
              | (refine wpList_store_row rfl 44 (Operand.tmp 23) (Operand.tmp 151) rfl u9.heap.size _ rfl rfl _ _ (heap_alloc_new u9 _) info2 (by rfl) (by simp [Value.oneCell']) ?_; rw [World.setRow_alloc_new])
              | (go_at_call 15; (with_reducible refine (HGT.out _ HX9.out.fw.fq).mono ?_); rintro e v1 ⟨rfl, hb1⟩; have HV1 := Lib.hid (HX9.out.below hb1); clear hb1; dsimp only)
              | (go_at_call 16; (with_reducible refine (fr_awake _).mono ?_); rintro e v2 ⟨rfl, hb2⟩; have HV2 := Lib.hid (HV1.out.below hb2); clear hb2; dsimp only))
            go_ret
            exact ⟨rfl, HV2.out.fw.bel⟩

/-! ### THE ROW's STEP: WRITTEN OUT: LEAVE IT -/
set_option maxRecDepth 100000 in
theorem lifted (os : Os) (started : os.Started) (H : Type) (enc : TypeId × Value → H) :
    ReturnsInHanded {} Try.checked os 3 .any (Rows.frameStackSpec.pre6 enc Try.prog Try.f3 Rows.frameStackRow.domain false) (Rows.frameStackSpec.post enc Try.prog Try.f3 false true false false) := by
  refine returnsInHanded_of_change (C := Try.checked) own started (by kernel_rfl) Try.func3
    (ChangeSpec.witness6 (enc := enc) (C := Try.checked) false ⟨#[], #[.slice none 0 0, .int .i64 0], []⟩ 8 (by kernel_rfl) (by kernel_rfl) (by kernel_rfl) (by kernel_rfl)) ?_
  intro W base args ds gs before hval0 hW hcnd _
  have hval : ∀ (j : Nat) t v, Try.f3.params[j]? = some t → args[j]? = some v → Value.okWide Try.prog W .any base t v := hval0
  have hW' := hW
  obtain ⟨p, q, hA0, hV, rfl, hfz, hnd⟩ := hW
  have hA : DataW.TrodAll enc Try.prog W 0 (fun _ => true) true Try.f3.params.toList args.toList ds p := hA0
  rw [Try.params3] at hA hval
  obtain ⟨v0, vs0, d0, ds0, p0, q0, hargs, rfl, rfl, h0, r0⟩ := trodAll_cons hA
  obtain ⟨v1, vs1, d1, ds1, p1, q1, rfl, rfl, rfl, h1, r1⟩ := trodAll_cons r0
  obtain ⟨rfl, rfl, rfl⟩ := trodAll_nil r1
  obtain rfl : args = #[v0, v1] := by cases args; simp_all
  obtain ⟨rfl, rfl⟩ := trodVars_none hV
  obtain ⟨a0, len0, cap0, rfl⟩ := okWide_slice Try.underlying22 (hval 0 22 v0 rfl rfl)
  have k0 := h0
  have lt0 : ∀ x ∈ p0, x.block < W.heap.size := by obtain ⟨m, hm⟩ := k0; exact DataW.trod_lt m _ _ _ hm
  obtain ⟨z0, w0⟩ : ∃ zs, IsRow .i64 W a0 len0 cap0 zs := by
    obtain ⟨fuel, hf⟩ := h0
    rcases open_ints Try.underlying22 Try.underlying3 (by kernel_rfl) hf with ⟨hcs, _⟩ | ⟨x, l, c, zs, hcs, _, hl, hm, hz, _, hcell, hwz⟩
    · simp [Value.cells] at hcs
      obtain ⟨rfl, rfl, rfl⟩ := hcs
      exact ⟨[], .inl ⟨rfl, rfl, rfl, rfl⟩⟩
    · simp [Value.cells] at hcs
      obtain ⟨rfl, rfl, rfl⟩ := hcs
      exact ⟨zs, .inr ⟨_, rfl, hl, hm, by simpa using hz, hcell, hwz⟩⟩
  obtain ⟨a1, rfl, rfl, rfl, w1⟩ := open_int Try.underlying3 (hval 1 3 v1 rfl rfl) h1
  clear hA0 hval0
  refine (walk a0 len0 cap0 z0 a1 W w0 w1).mono fun e W' ⟨he, bel⟩ => ?_
  subst he
  exact ⟨_, rfl, _, _, _, [], _, [], hW', trodAll_mk1 (shut_bool Try.underlying4 _), (trodAll_cons_mk (Below.trod laidOut (by kernel_rfl) (of_decide_eq_true (by kernel_rfl)) k0 bel lt0) (trodAll_cons_mk (shut_int Try.underlying3 w1) trodAll_mk0)), rfl, bel.frame _, fun h => by cases h⟩

theorem over : Rows.frameStackRow.holds Try.pinned (OpenSpec.ofChange Rows.frameStackSpec) :=
  OpenClaim.holds_of_wide 3 Try.f3 rfl rfl rfl rfl rfl rfl rfl ⟨rfl, rfl, rfl, rfl, rfl⟩ rfl rfl rfl rfl rfl (by kernel_rfl) Try.func3 (by kernel_rfl)
    (of_decide_eq_true (by kernel_rfl)) (by unfold Func.isWrapper; first | (rw [if_pos (by decide +kernel)]; kernel_rfl) | (rw [if_neg (by decide +kernel)]; exact ⟨rfl, rfl⟩))
    (fun os started H enc _ => lifted os started H enc)

/-- THE STATEMENT -/
theorem proved : Rows.FrameStackSaid := over
#print axioms proved
end Go.Proofs.Ytglilfjkjoogbaa.frameStack
