/- The law FrameNext returns true at every input, and leaves its arguments as they were. No condition. -/
import Derived.Test.YtglilfjkjoogbaaRows
import Derived.WalkKit
import Derived.ProofKit
import Derived.OpenShut
import Derived.Test.YtglilfjkjoogbaaNx4
import Derived.Deep.RegionWith
import Derived.Deep.DeepCutAuto
import Derived.ShutString
import Derived.ChangeOld
import Derived.Below
namespace Go.Proofs.Ytglilfjkjoogbaa.frameNext
open Go.ChangeShapes Go.WideShapes Go.ChangeAt Go.RowKit
open Go.ChangeMaps (open_string shut_string)
open Go.Proofs.Ytglilfjkjoogbaa.Gen Go.Proofs.Ytglilfjkjoogbaa.Base Go.Proofs.Ytglilfjkjoogbaa.Obj
set_option linter.unusedVariables false

theorem own : ownKnob Try.prog.godebug = none := by kernel_rfl
theorem laidOut : laidOutB Try.prog = true := by kernel_rfl

/-- WHAT THE WALK IS TOLD OF A SLICE OF INTEGERS THAT CAME IN: it is nil; or it leads to a row of 'cap' cells, the numbers 'zs' (the first 'len' are its elements, the rest its spare room), each fitting its kind. -/
def IsRow (k : IntKind) (w : World) (a : Option Addr) (len cap : Nat) (zs : List Int) : Prop :=
  (a = none ∧ len = 0 ∧ cap = 0 ∧ zs = []) ∨
  ∃ x, a = some x ∧ len ≤ cap ∧ cap ≤ maxLen ∧ zs.length = cap ∧ (∀ i, i < zs.length → w.cell? (x.add i) = some (.int k (zs.getD i 0))) ∧ ∀ n ∈ zs, (Lit.int k n).wf = true

theorem row_at {w : World} {a : Option Addr} {len cap : Nat} {zs : List Int} (h : IsRow .i64 w a len cap zs) :
    (len : Int) ≤ 9223372036854775807 ∧ ∀ i, i < len → ∃ xb xo, a = some ⟨xb, xo, none⟩ ∧ xb < w.heap.size ∧ w.cell? ⟨xb, xo + i, none⟩ = some (.int .i64 (zs[i]?.getD 0)) ∧ (Lit.int .i64 (zs[i]?.getD 0)).wf = true := by
  rcases h with ⟨rfl, rfl, rfl, rfl⟩ | ⟨x, rfl, hl, hm, hz, hcell, hwz⟩
  · exact ⟨by omega, fun i hi => by omega⟩
  · refine ⟨by unfold maxLen at hm; omega, fun i hi => ?_⟩
    obtain ⟨xb, xo, spot⟩ := x
    have hspot : spot = none := by simpa [Addr.add] using World.cell?_spot (hcell 0 (by omega))
    subst hspot
    have hc : w.cell? ⟨xb, xo + i, none⟩ = some (.int .i64 (zs[i]?.getD 0)) := by
      have h := hcell i (by omega)
      by_cases e : i = 0
      · subst e; simpa [Addr.add] using h
      · simpa [Addr.add, e] using h
    exact ⟨xb, xo, rfl, World.block_lt_of_cell? _ _ hc, hc, hwz _ (by simp [show i < zs.length by omega])⟩
def nb (v : Int) : List Int := [v % 256, v / 256 % 256, v / 65536]
def vsL (zs : List Int) (n : Nat) : List Int := (List.range n).map fun a => (zs[a]?.getD 0) % 16777216
def xsL (vs : List Int) : List Int := vs.flatMap nb
theorem vsL_len (zs : List Int) (n : Nat) : (vsL zs n).length = n := by simp [vsL]
theorem vsL_succ (zs : List Int) (n : Nat) : vsL zs (n + 1) = vsL zs n ++ [(zs[n]?.getD 0) % 16777216] := by simp [vsL, List.range_succ]
theorem vsL_at (zs : List Int) {n i : Nat} (h : i < n) : (vsL zs n)[i]? = some ((zs[i]?.getD 0) % 16777216) := by
  unfold vsL
  rw [List.getElem?_map, List.getElem?_range h]; rfl
theorem xsL_app (a b : List Int) : xsL (a ++ b) = xsL a ++ xsL b := by simp [xsL]
theorem xsL_len (vs : List Int) : (xsL vs).length = vs.length * 3 := by
  induction vs with
  | nil => rfl
  | cons v vs ih =>
    have e : xsL (v :: vs) = nb v ++ xsL vs := rfl
    rw [e, List.length_append, ih, List.length_cons]
    have : (nb v).length = 3 := rfl
    omega
theorem xsL_at (vs : List Int) : ∀ (i : Nat) (v : Int), vs[i]? = some v → ∀ j, j < 3 → (xsL vs)[i * 3 + j]? = (nb v)[j]? := by
  induction vs with
  | nil => intro i v h; simp at h
  | cons p vs ih =>
    intro i v h j hj
    have e : xsL (p :: vs) = nb p ++ xsL vs := rfl
    have hl : (nb p).length = 3 := rfl
    rw [e]
    cases i with
    | zero =>
      obtain rfl : p = v := by simpa using h
      rw [Nat.zero_mul, Nat.zero_add, List.getElem?_append_left (by omega)]
    | succ i =>
      rw [List.getElem?_append_right (by rw [hl]; omega), hl, show (i + 1) * 3 + j - 3 = i * 3 + j by omega]
      exact ih i v (by simpa using h) j hj
theorem elB_xs {vs : List Int} {i : Nat} {v : Int} (h : vs[i]? = some v) : elB (xsL vs) ((i : Int) * 3) = v % 256 ∧ elB (xsL vs) ((i : Int) * 3 + 1) = v / 256 % 256 ∧ elB (xsL vs) ((i : Int) * 3 + 2) = v / 65536 := by
  have k := xsL_at vs i v h
  unfold elB
  refine ⟨?_, ?_, ?_⟩
  · rw [if_pos (by omega), show ((i : Int) * 3).toNat = i * 3 + 0 by omega, k 0 (by omega)]; rfl
  · rw [if_pos (by omega), show ((i : Int) * 3 + 1).toNat = i * 3 + 1 by omega, k 1 (by omega)]; rfl
  · rw [if_pos (by omega), show ((i : Int) * 3 + 2).toNat = i * 3 + 2 by omega, k 2 (by omega)]; rfl
theorem elB_end {vs : List Int} {i : Nat} (h : vs.length ≤ i) : elB (xsL vs) ((i : Int) * 3) = -1 := by
  unfold elB
  rw [if_pos (by omega), List.getElem?_eq_none (by rw [xsL_len]; omega)]; rfl
theorem str_app (xs ys : List Int) : strOfNums xs ++ strOfNums ys = strOfNums (xs ++ ys) := by
  apply ByteArray.ext
  rw [ByteArray.data_append]
  unfold strOfNums
  simp
theorem str_bytes {xs : List Int} (h : ∀ x ∈ xs, 0 ≤ x ∧ x ≤ 255) : bytesOf (strOfNums xs) = xs := by
  unfold bytesOf
  rw [strOfNums_data, List.map_map]
  conv => rhs; rw [← List.map_id xs]
  refine List.map_congr_left fun x hx => ?_
  have := h x hx
  show ((UInt8.ofNat x.toNat).toNat : Int) = x
  rw [UInt8.toNat_ofNat']
  omega
theorem xs_bytes (zs : List Int) (n : Nat) : ∀ x ∈ xsL (vsL zs n), 0 ≤ x ∧ x ≤ 255 := fun x hx => by
  obtain ⟨v, hv, hx⟩ := List.mem_flatMap.1 hx
  obtain ⟨a, -, rfl⟩ := List.mem_map.1 hv
  generalize (zs[a]?.getD 0) = z at *
  simp only [nb, List.mem_cons, List.not_mem_nil, or_false] at hx
  rcases hx with rfl | rfl | rfl <;> omega
/-! ### STEP 1: THE WALK: the Go text returns true, AND WRITES NOTHING THAT WAS THERE: 'Below w.heap.size w w'' (Derived/Below.lean: '.refl', '.alloc', '.drew', '.setCell' at a new block, '.trans'). Open each 'IsRow' by 'rcases' AHEAD of 'go_enter'; part every test ahead of the walk. -/
set_option maxRecDepth 100000 in
set_option maxHeartbeats 16000000 in
theorem walk (a0 : Option Addr) (len0 cap0 : Nat) (z0 : List Int) (a1 : Int) (w : World) (w0 : IsRow .i64 w a0 len0 cap0 z0) (w1 : (Lit.int .i64 a1).wf = true) :
    Calls Try.prog 5 #[.slice a0 len0 cap0, .int .i64 a1] w fun e w' => e = .returned (.bool true) ∧ Below w.heap.size w w' := by
  obtain ⟨hl0, hcell⟩ := row_at w0
  have HCELL := Lib.hid hcell; clear hcell w0
  have hz := zIns
  have HFS := Lib.hid (fs_First w)
  have hto0 := Int.emod_nonneg a1 (show (80 : Int) ≠ 0 by omega)
  have hto1 := Int.emod_lt_of_pos a1 (show (0 : Int) < 80 by omega)
  have hpt := place_any a1 80 (by omega) (by omega) w1
  generalize a1 % 80 = t at *
  have HPT := Lib.hid hpt
  clear hpt w1
  go_enter Try.func5, Try.ntmps5
  go_upto_region 3 with (go_at_call 6; (with_reducible refine HFS.out.mono ?_); rintro e u1 ⟨la, lc, L, rfl, hD, hL⟩; have HLB := Lib.hid (LB.of hD 34 23); have HL := Lib.hid hL; clear hD hL; dsimp only)
  obtain ⟨n, hn, hn1, hn2⟩ : ∃ n : Nat, n = min len0 50 ∧ n ≤ 50 ∧ n ≤ len0 := ⟨min len0 50, rfl, by omega, by omega⟩
  go_cut [7] (fun s7 wx => s7 = .int .i64 (n : Int) ∧ LB w wx u1.heap.size 34 (.slice la L.length lc) L 23)
  case first =>
    go_wp2_with fail
    all_goals
      go_meet
      exact ⟨by congr 1; omega, HLB.out⟩
  case rest =>
    obtain ⟨rfl, hB⟩ := hcut
    have HLB := Lib.hid hB
    clear hn hB HFS
    go_wp2_with fail
    go_loopw [6, 8] (fun v6 v8 wr => ∃ i : Nat, i ≤ n ∧ v8 = .int .i64 (i : Int) ∧ v6 = .string (strOfNums (xsL (vsL z0 i))) ∧ LB w wr u1.heap.size 34 (.slice la L.length lc) L 23) (fun v6 v8 wr => n - (intOf v8).toNat)
    case atStart => exact ⟨0, by omega, rfl, rfl, HLB.out⟩
    case round =>
      clear HLB
      obtain ⟨i, hi, rfl, rfl, hB⟩ := hrel
      by_cases hlt : i < n
      · obtain ⟨xb, xo, rfl, hxb, hxc, hxw⟩ := HCELL.out i (by omega)
        have hx : wr.cell? ⟨xb, xo + i, none⟩ = some (.int .i64 (z0[i]?.getD 0)) := by rw [hB.bel.cell (p := ⟨xb, xo + i, none⟩) hxb]; exact hxc
        have t1 : (i : Int) < (n : Int) := by omega
        have t1' : (i : Int) < (len0 : Int) := by omega
        have t0 : (0 : Int) ≤ (i : Int) := by omega
        have hpv := place_any (z0[i]?.getD 0) 16777216 (by omega) (by omega) hxw
        have hv0 := Int.emod_nonneg (z0[i]?.getD 0) (show (16777216 : Int) ≠ 0 by omega)
        have hv1 := Int.emod_lt_of_pos (z0[i]?.getD 0) (show (0 : Int) < 16777216 by omega)
        have hvs := vsL_succ z0 i
        have HB := Lib.hid hB
        generalize (z0[i]?.getD 0) % 16777216 = v at *
        generalize z0[i]?.getD 0 = Z at *
        have HVS := Lib.hid hvs
        have W0 : IntKind.u8.wrap v = v % 256 := IntKind.wrap_u8 v
        have W1 : IntKind.u8.wrap (v / 256) = v / 256 % 256 := IntKind.wrap_u8 _
        have W2 : IntKind.u8.wrap (v / 65536) = v / 65536 := by rw [IntKind.wrap_u8]; omega
        have hcv : ∀ u : World, Sem.run Try.prog (convert 62 9 (.slice (some ⟨u.heap.size, 0, none⟩) 3 3)) (u.alloc (.cells #[.int .u8 (v % 256), .int .u8 (v / 256 % 256), .int .u8 (v / 65536)] 5)) = .ok (.string (strOfNums (nb v))) (u.alloc (.cells #[.int .u8 (v % 256), .int .u8 (v / 256 % 256), .int .u8 (v / 65536)] 5)) := fun u => run_convert_bytes_arg (P := Try.prog) _ 62 5 Try.underlying62 Try.underlying5 u.heap.size 0 3 3 (nb v) rfl (fun i hi => by
          have : i = 0 ∨ i = 1 ∨ i = 2 := by omega
          rcases this with rfl | rfl | rfl <;> exact new_cell _ _ _ rfl) 9 Try.underlying9
        have hs1 : (strOfNums (xsL (vsL z0 i))).size = i * 3 := by rw [strOfNums_size, xsL_len, vsL_len]
        have hs2 : (strOfNums (nb v)).size = 3 := strOfNums_size _
        clear hxw hxc hB hvs
        go_wp2_with (go_at_call 9; (with_reducible refine (hpv _).mono ?_); rintro e u5 ⟨rfl, rfl⟩; dsimp only)
        exact ⟨⟨i + 1, by omega, by simp, by rw [HVS.out, xsL_app, str_app]; simp [xsL], HB.out.more ((Below.refl _ _).alloc (Nat.le_refl _) _)⟩, by simp only [intOf]; omega⟩
      · obtain rfl : i = n := by omega
        have hBs : (strOfNums (xsL (vsL z0 i))).size ≤ 200 := by rw [strOfNums_size, xsL_len, vsL_len]; omega
        have hbb := str_bytes (xs_bytes z0 i)
        have HB := Lib.hid hB
        clear hB hlt hi
        generalize strOfNums (xsL (vsL z0 i)) = B at *
        have HBB := Lib.hid hbb
        clear hbb
        go_wp2_with (first
          | (go_at_call 24; (with_reducible refine (law_Text HB.out HL.out B).mono ?_); rintro e u2 ⟨rfl, lv2, L2, hB, hL2⟩; have HT := Lib.hid hB; have HL2 := Lib.hid hL2; clear hB hL2; dsimp only)
          | (go_at_call 18; (with_reducible refine (nl_Num _ _).mono ?_); rintro e u3 ⟨rfl, hbx⟩; first | (have HC := Lib.hid (HC.out.more hbx)) | (have HT := Lib.hid (HT.out.more hbx)); clear hbx; dsimp only)
          | (go_at_call 21; (with_reducible refine (nl_Obj _ _).mono ?_); rintro e u3 ⟨rfl, hbx⟩; have HT := Lib.hid (HT.out.more hbx); clear hbx; dsimp only)
          | (go_at_call 24; (with_reducible refine (law_Code HT.out HL2.out).mono ?_); rintro e u4 ⟨rfl, lv4, L4, hB, hL4⟩; have HC := Lib.hid hB; have HL4 := Lib.hid hL4; clear hB hL4; dsimp only)
          | (go_at_call 17; (with_reducible refine (law_StartN HC.out HL4.out).mono ?_); rintro e u5 ⟨rfl, a5, c5, L5, hB, hL5⟩; have HS := Lib.hid hB; have HL5 := Lib.hid hL5; clear hB hL5; dsimp only)
          | (refine wpList_load_row rfl 31 (Operand.tmp 75) (by rfl) u1.heap.size (by rfl) _ _ (0, 0) _ HS.out.row Try.underlying31 rfl info13 ?_)
          | (go_at_call 8; (with_reducible refine (law_NewN HS.out HL5.out hBs).mono ?_); rintro e u6 ⟨m, li, lv, dv, M, rfl, hb6, hN⟩; have HQ := Lib.hid (Nq.start hN HL5.out (HS.out.bel.trans (hb6.mono HS.out.bel.size)) HS.out.bel.size HBB.out); clear hN hb6; dsimp only))
        go_loopw [16] (fun v16 wr => ∃ (a : Nat) (M : MS), a ≤ i ∧ v16 = .int .i64 (a : Int) ∧ Nq w wr m li lv dv M (xsL (vsL z0 i)) (a : Int)) (fun v16 wr => i - (intOf v16).toNat)
        case atStart => exact ⟨0, M, by omega, rfl, HQ.out⟩
        case round =>
          clear HQ
          obtain ⟨a, M, ha, rfl, hQ⟩ := hrel
          by_cases hlt : a < i
          · obtain ⟨xb, xo, rfl, hxb, hxc, hxw⟩ := HCELL.out a (by omega)
            have t1 : (a : Int) < (i : Int) := by omega
            have t1' : (a : Int) < (len0 : Int) := by omega
            have t0 : (0 : Int) ≤ (a : Int) := by omega
            have hpv := place_any (z0[a]?.getD 0) 16777216 (by omega) (by omega) hxw
            have hv0 := Int.emod_nonneg (z0[a]?.getD 0) (show (16777216 : Int) ≠ 0 by omega)
            have hv1 := Int.emod_lt_of_pos (z0[a]?.getD 0) (show (0 : Int) < 16777216 by omega)
            obtain ⟨e0, e1, e2⟩ := elB_xs (vsL_at z0 hlt)
            generalize (z0[a]?.getD 0) % 16777216 = v at *
            generalize z0[a]?.getD 0 = Z at *
            have hnx := nq_Next hQ (by omega) (by omega) (by omega) (by omega) e0 e1 e2
            have HNX := Lib.hid hnx
            have A0 : bits .and .i64 v 255 = v % 256 := by have := i64_mask 8 v (by omega); simpa using this
            have A1 : bits .and .i64 (v / 256) 255 = v / 256 % 256 := by have := i64_mask 8 (v / 256) (by omega); simpa using this
            have HXC := Lib.hid hxc
            clear hnx hQ e0 e1 e2 hxw hxc
            go_wp2_with (first
              | (go_at_call 25; (with_reducible refine HNX.out.mono ?_); rintro e u7 ⟨rfl, M7, hQ7⟩; have HQ7 := Lib.hid (hQ7.below ((Below.refl _ _).alloc (Nat.le_refl _) (.cells #[.int .i64 (v % 256), .int .i64 (v / 256 % 256), .int .i64 (v / 65536)] 66))); have hx := (HQ7.out.bel.cell (p := ⟨xb, xo + a, none⟩) hxb).trans HXC.out; clear hQ7; dsimp only)
              | (refine wpList_store_row rfl 66 (Operand.tmp 17) (Operand.tmp 91) rfl u7.heap.size _ rfl rfl _ _ (heap_alloc_new u7 _) infoIns (by rfl) (by simp [Value.oneCell']) ?_; rw [World.setRow_alloc_new])
              | (go_at_call 9; (with_reducible refine (hpv _).mono ?_); rintro e u8 ⟨rfl, rfl⟩; dsimp only))
            exact ⟨⟨a + 1, M7, by omega, by simp, HQ7.out⟩, by simp only [intOf]; omega⟩
          · obtain rfl : a = i := by omega
            have hnn := nq_Next_no hQ (by omega) (elB_end (by rw [vsL_len]; exact Nat.le_refl _))
            have HNN := Lib.hid hnn
            have HQ := Lib.hid hQ
            clear hQ hnn hlt ha
            by_cases hg : 5 ≤ t ∧ t ≤ 65
            · obtain ⟨p, rfl⟩ : ∃ p : Nat, t = (p : Int) + 5 := ⟨(t - 5).toNat, by omega⟩
              have hp60 : p ≤ 60 := by omega
              clear hg
              have q0 : (0 : Int) ≤ (p : Int) := by omega
              have q1 : (p : Int) ≤ 60 := by omega
              by_cases hpa : p < a
              · obtain ⟨xb, xo, rfl, hxb, hxc, hxw⟩ := HCELL.out p (by omega)
                have t1 : (p : Int) < (a : Int) := by omega
                have t1' : (p : Int) < (len0 : Int) := by omega
                have hpv := place_any (z0[p]?.getD 0) 16777216 (by omega) (by omega) hxw
                have hv0 := Int.emod_nonneg (z0[p]?.getD 0) (show (16777216 : Int) ≠ 0 by omega)
                have hv1 := Int.emod_lt_of_pos (z0[p]?.getD 0) (show (0 : Int) < 16777216 by omega)
                obtain ⟨e0, e1, e2⟩ := elB_xs (vsL_at z0 hpa)
                generalize (z0[p]?.getD 0) % 16777216 = v at *
                generalize z0[p]?.getD 0 = Z at *
                have HE := Lib.hid (And.intro e0 (And.intro e1 e2))
                have A0 : bits .and .i64 v 255 = v % 256 := by have := i64_mask 8 v (by omega); simpa using this
                have HXC := Lib.hid hxc
                clear e0 e1 e2 hxw hxc
                go_upto_region 30 with (first
                  | (go_at_call 25; (with_reducible refine HNN.out.mono ?_); rintro e n1 ⟨rfl, hb1⟩; have HQ2 := Lib.hid ((HQ.out.below hb1).below ((Below.refl _ _).alloc (Nat.le_refl _) (.cells #[.int .i64 0, .int .i64 0, .int .i64 0] 66))); clear hb1; dsimp only)
                  | (refine wpList_store_row rfl 66 (Operand.tmp 20) (Operand.tmp 126) rfl n1.heap.size _ rfl rfl _ _ (heap_alloc_new n1 _) infoIns (by rfl) (by simp [Value.oneCell']) ?_; rw [World.setRow_alloc_new])
                  | (go_at_call 9; (with_reducible refine (HPT.out _).mono ?_); rintro e n2 ⟨rfl, rfl⟩; dsimp only)
                  | (go_at_call 26; (with_reducible refine (nq_Go HQ2.out ⟨by omega, by omega⟩).mono ?_); rintro e n4 ⟨rfl, M4, hQ4⟩; have HQ4 := Lib.hid hQ4; clear hQ4; dsimp only)
                  | (go_at_call 25; (with_reducible refine (nq_Next HQ4.out (by omega) (by omega) (by omega) (by omega) HE.out.1 HE.out.2.1 HE.out.2.2).mono ?_); rintro e n5 ⟨rfl, M5, hQ5⟩; have HQ5 := Lib.hid (hQ5.below ((Below.refl _ _).alloc (Nat.le_refl _) (.cells #[.int .i64 (v % 256), .int .i64 (v / 256 % 256), .int .i64 (v / 65536)] 66))); clear hQ5; dsimp only)
                  | (refine wpList_store_row rfl 66 (Operand.tmp 24) (Operand.tmp 153) rfl n5.heap.size _ rfl rfl _ _ (heap_alloc_new n5 _) infoIns (by rfl) (by simp [Value.oneCell']) ?_; rw [World.setRow_alloc_new]))
                have hs5 : (n5.alloc (.cells #[.int .i64 (v % 256), .int .i64 (v / 256 % 256), .int .i64 (v / 65536)] 66)).drew.cell? ⟨n5.heap.size, 0, none⟩ = some (.int .i64 (v % 256)) ∧ (n5.alloc (.cells #[.int .i64 (v % 256), .int .i64 (v / 256 % 256), .int .i64 (v / 65536)] 66)).drew.cell? ⟨xb, xo + p, none⟩ = some (.int .i64 Z) := ⟨new_cell n5 _ _ rfl, (HQ5.out.bel.cell (p := ⟨xb, xo + p, none⟩) hxb).trans HXC.out⟩
                refine wp_region_held_drew (S := (fun w' => w'.cell? ⟨n5.heap.size, 0, none⟩ = some (.int .i64 (v % 256)) ∧ w'.cell? ⟨xb, xo + p, none⟩ = some (.int .i64 Z))) (by kernel_rfl) ?_ (fun hH0 => ?_)
                · (try dsimp only); exact hs5
                refine wpAnyH_take (i := 0) (oi := { dst := some 155, op := Op.move (Operand.tmp 25), type := 4, pos := "outright.go:81", after := #[], guard := none }) (v := ?v1) rfl (by kernel_rfl) (by kernel_rfl) (by kernel_rfl) (fun _ _ _ h => h) (Or.inl ⟨by rfl, ?hy1⟩) (by assumption) ?_
                case hy1 => intro w hSw; (try dsimp only at hSw); go_simp; (try with_reducible rfl)
                try simp only [Act.put, List.setIfInBounds_toArray, List.set_cons_zero, List.set_cons_succ]
                refine wpAnyH_take (i := 1) (oi := { dst := some 156, op := Op.move (Operand.tmp 22), type := 3, pos := "outright.go:81", after := #[], guard := none }) (v := ?v2) rfl (by kernel_rfl) (by kernel_rfl) (by kernel_rfl) (fun _ _ _ h => h) (Or.inl ⟨by rfl, ?hy2⟩) (by assumption) ?_
                case hy2 => intro w hSw; (try dsimp only at hSw); go_simp; (try with_reducible rfl)
                try simp only [Act.put, List.setIfInBounds_toArray, List.set_cons_zero, List.set_cons_succ]
                refine wpAnyH_take (i := 2) (oi := { dst := some 157, op := Op.move (Operand.tmp 7), type := 3, pos := "outright.go:81", after := #[], guard := none }) (v := ?v3) rfl (by kernel_rfl) (by kernel_rfl) (by kernel_rfl) (fun _ _ _ h => h) (Or.inl ⟨by rfl, ?hy3⟩) (by assumption) ?_
                case hy3 => intro w hSw; (try dsimp only at hSw); go_simp; (try with_reducible rfl)
                try simp only [Act.put, List.setIfInBounds_toArray, List.set_cons_zero, List.set_cons_succ]
                refine wpAnyH_take (i := 3) (oi := { dst := some 158, op := Op.binOp BinOp.lss 3 (Operand.tmp 156) (Operand.tmp 157) 3, type := 4, pos := "outright.go:81", after := #[{ on := 1, ground := Ground.data }, { on := 2, ground := Ground.data }], guard := none }) (v := ?v4) rfl (by kernel_rfl) (by kernel_rfl) (by kernel_rfl) (fun _ _ _ h => h) (Or.inl ⟨by rfl, ?hy4⟩) (by assumption) ?_
                case hy4 => intro w hSw; (try dsimp only at hSw); go_simp; (try with_reducible rfl)
                try simp only [Act.put, List.setIfInBounds_toArray, List.set_cons_zero, List.set_cons_succ]
                refine wpAnyH_take (i := 4) (oi := { dst := some 159, op := Op.binOp BinOp.eql 4 (Operand.tmp 155) (Operand.tmp 158) 4, type := 4, pos := "outright.go:81", after := #[{ on := 0, ground := Ground.data }, { on := 3, ground := Ground.data }], guard := none }) (v := ?v5) rfl (by kernel_rfl) (by kernel_rfl) (by kernel_rfl) (fun _ _ _ h => h) (Or.inl ⟨by rfl, ?hy5⟩) (by assumption) ?_
                case hy5 => intro w hSw; (try dsimp only at hSw); go_simp; (try with_reducible rfl)
                try simp only [Act.put, List.setIfInBounds_toArray, List.set_cons_zero, List.set_cons_succ]
                refine wpAnyH_take (i := 5) (oi := { dst := some 160, op := Op.move (Operand.tmp 159), type := 4, pos := "outright.go:81", after := #[{ on := 4, ground := Ground.data }], guard := none }) (v := ?v6) rfl (by kernel_rfl) (by kernel_rfl) (by kernel_rfl) (fun _ _ _ h => h) (Or.inl ⟨by rfl, ?hy6⟩) (by assumption) ?_
                case hy6 => intro w hSw; (try dsimp only at hSw); go_simp; (try with_reducible rfl)
                try simp only [Act.put, List.setIfInBounds_toArray, List.set_cons_zero, List.set_cons_succ]
                refine wpAnyH_take (i := 6) (oi := { dst := some 161, op := Op.move (Operand.tmp 25), type := 4, pos := "outright.go:81", after := #[{ on := 5, ground := Ground.guard }], guard := some (5, true) }) (v := ?v7) rfl (by kernel_rfl) (by kernel_rfl) (by kernel_rfl) (fun _ _ _ h => h) (Or.inl ⟨by rfl, ?hy7⟩) (by assumption) ?_
                case hy7 => intro w hSw; (try dsimp only at hSw); go_simp; (try with_reducible rfl)
                try simp only [Act.put, List.setIfInBounds_toArray, List.set_cons_zero, List.set_cons_succ]
                refine wpAnyH_take (i := 7) (oi := { dst := some 162, op := Op.unOp UnOp.not 4 (Operand.tmp 161), type := 4, pos := "outright.go:81", after := #[{ on := 6, ground := Ground.data }, { on := 5, ground := Ground.guard }], guard := some (5, true) }) (v := ?v8) rfl (by kernel_rfl) (by kernel_rfl) (by kernel_rfl) (fun _ _ _ h => h) (Or.inl ⟨by rfl, ?hy8⟩) (by assumption) ?_
                case hy8 => intro w hSw; (try dsimp only at hSw); go_simp; (try with_reducible rfl)
                try simp only [Act.put, List.setIfInBounds_toArray, List.set_cons_zero, List.set_cons_succ]
                refine wpAnyH_take (i := 8) (oi := { dst := some 163, op := Op.move (Operand.tmp 162), type := 4, pos := "outright.go:81", after := #[{ on := 7, ground := Ground.data }, { on := 5, ground := Ground.chain }, { on := 5, ground := Ground.guard }], guard := some (5, true) }) (v := ?v9) rfl (by kernel_rfl) (by kernel_rfl) (by kernel_rfl) (fun _ _ _ h => h) (Or.inl ⟨by rfl, ?hy9⟩) (by assumption) ?_
                case hy9 => intro w hSw; (try dsimp only at hSw); go_simp; (try with_reducible rfl)
                try simp only [Act.put, List.setIfInBounds_toArray, List.set_cons_zero, List.set_cons_succ]
                refine wpAnyH_take (i := 9) (oi := { dst := some 164, op := Op.fieldAddr 66 (Operand.tmp 24) 0, type := 0, pos := "outright.go:81", after := #[{ on := 8, ground := Ground.guard }], guard := some (8, false) }) (v := ?v10) rfl (by kernel_rfl) (by kernel_rfl) (by kernel_rfl) (fun _ _ _ h => h) (Or.inl ⟨by rfl, ?hy10⟩) (by assumption) ?_
                case hy10 => intro w hSw; (try dsimp only at hSw); go_simp; (try with_reducible rfl)
                try simp only [Act.put, List.setIfInBounds_toArray, List.set_cons_zero, List.set_cons_succ]
                refine wpAnyH_take (i := 10) (oi := { dst := some 165, op := Op.load 3 (Operand.tmp 164), type := 3, pos := "outright.go:81", after := #[{ on := 9, ground := Ground.data }, { on := 8, ground := Ground.guard }], guard := some (8, false) }) (v := ?v11) rfl (by kernel_rfl) (by kernel_rfl) (by kernel_rfl) (fun _ _ _ h => h) (Or.inl ⟨by rfl, ?hy11⟩) (by assumption) ?_
                case hy11 => intro w hSw; (try dsimp only at hSw); go_simp; (try with_reducible rfl)
                try simp only [Act.put, List.setIfInBounds_toArray, List.set_cons_zero, List.set_cons_succ]
                refine wpAnyH_take (i := 11) (oi := { dst := some 166, op := Op.move (Operand.tmp 0), type := 22, pos := "outright.go:81", after := #[{ on := 8, ground := Ground.guard }], guard := some (8, false) }) (v := ?v12) rfl (by kernel_rfl) (by kernel_rfl) (by kernel_rfl) (fun _ _ _ h => h) (Or.inl ⟨by rfl, ?hy12⟩) (by assumption) ?_
                case hy12 => intro w hSw; (try dsimp only at hSw); go_simp; (try with_reducible rfl)
                try simp only [Act.put, List.setIfInBounds_toArray, List.set_cons_zero, List.set_cons_succ]
                refine wpAnyH_take (i := 12) (oi := { dst := some 167, op := Op.move (Operand.tmp 22), type := 3, pos := "outright.go:81", after := #[{ on := 8, ground := Ground.guard }], guard := some (8, false) }) (v := ?v13) rfl (by kernel_rfl) (by kernel_rfl) (by kernel_rfl) (fun _ _ _ h => h) (Or.inl ⟨by rfl, ?hy13⟩) (by assumption) ?_
                case hy13 => intro w hSw; (try dsimp only at hSw); go_simp; (try with_reducible rfl)
                try simp only [Act.put, List.setIfInBounds_toArray, List.set_cons_zero, List.set_cons_succ]
                refine wpAnyH_take (i := 13) (oi := { dst := some 168, op := Op.indexAddr 22 (Operand.tmp 166) (Operand.tmp 167), type := 0, pos := "outright.go:81", after := #[{ on := 11, ground := Ground.data }, { on := 12, ground := Ground.data }, { on := 8, ground := Ground.guard }], guard := some (8, false) }) (v := ?v14) rfl (by kernel_rfl) (by kernel_rfl) (by kernel_rfl) (fun _ _ _ h => h) (Or.inl ⟨by rfl, ?hy14⟩) (by assumption) ?_
                case hy14 => intro w hSw; (try dsimp only at hSw); go_simp; (try with_reducible rfl)
                try simp only [Act.put, List.setIfInBounds_toArray, List.set_cons_zero, List.set_cons_succ]
                refine wpAnyH_take (i := 14) (oi := { dst := some 169, op := Op.load 3 (Operand.tmp 168), type := 3, pos := "outright.go:81", after := #[{ on := 13, ground := Ground.data }, { on := 8, ground := Ground.guard }], guard := some (8, false) }) (v := ?v15) rfl (by kernel_rfl) (by kernel_rfl) (by kernel_rfl) (fun _ _ _ h => h) (Or.inl ⟨by rfl, ?hy15⟩) (by assumption) ?_
                case hy15 => intro w hSw; (try dsimp only at hSw); go_simp; (try with_reducible rfl)
                try simp only [Act.put, List.setIfInBounds_toArray, List.set_cons_zero, List.set_cons_succ]
                refine wpAnyH_ready (rs := [15]) (by kernel_rfl) (by simp) ?_
                refine AllReadyH.cons (o := { dst := some 170, op := Op.call { callee := Callee.value (Operand.func 9), args := #[Operand.tmp 169, Operand.const (Value.int IntKind.i64 16777216)], argTypes := #[3, 3] }, type := 3, pos := "outright.go:81", after := #[{ on := 14, ground := Ground.data }, { on := 8, ground := Ground.chain }, { on := 8, ground := Ground.guard }], guard := some (8, false) }) rfl (fun K hK => ?_) AllReadyH.nil
                go_simp; go_at_call 9; (with_reducible refine (hpv _).mono ?_); rintro e n7 ⟨rfl, rfl⟩; dsimp only
                refine hK.out _ _ ?_ (fun hH1 => ?_)
                · (try dsimp only); (first | exact hs9 | exact hs5)
                clear hK K
                clear hH0
                try simp only [Act.put, List.setIfInBounds_toArray, List.set_cons_zero, List.set_cons_succ]
                refine wpAnyH_take (i := 16) (oi := { dst := some 171, op := Op.binOp BinOp.and 3 (Operand.tmp 170) (Operand.const (Value.int IntKind.i64 255)) 3, type := 3, pos := "outright.go:81", after := #[{ on := 15, ground := Ground.data }, { on := 8, ground := Ground.guard }], guard := some (8, false) }) (v := ?v17) rfl (by kernel_rfl) (by kernel_rfl) (by kernel_rfl) (fun _ _ _ h => h) (Or.inl ⟨by rfl, ?hy17⟩) (by assumption) ?_
                case hy17 => intro w hSw; (try dsimp only at hSw); go_simp; (try with_reducible rfl)
                try simp only [Act.put, List.setIfInBounds_toArray, List.set_cons_zero, List.set_cons_succ]
                refine wpAnyH_take (i := 17) (oi := { dst := some 172, op := Op.binOp BinOp.eql 3 (Operand.tmp 165) (Operand.tmp 171) 3, type := 4, pos := "outright.go:81", after := #[{ on := 10, ground := Ground.data }, { on := 16, ground := Ground.data }, { on := 8, ground := Ground.guard }], guard := some (8, false) }) (v := ?v18) rfl (by kernel_rfl) (by kernel_rfl) (by kernel_rfl) (fun _ _ _ h => h) (Or.inl ⟨by rfl, ?hy18⟩) (by assumption) ?_
                case hy18 => intro w hSw; (try dsimp only at hSw); go_simp; (try with_reducible rfl)
                try simp only [Act.put, List.setIfInBounds_toArray, List.set_cons_zero, List.set_cons_succ]
                refine wpAnyH_take (i := 18) (oi := { dst := some 173, op := Op.pick (Operand.tmp 163) (Operand.const (Value.bool true)) (Operand.tmp 172), type := 4, pos := "outright.go:81", after := #[{ on := 8, ground := Ground.data }, { on := 17, ground := Ground.data }, { on := 5, ground := Ground.guard }], guard := some (5, true) }) (v := ?v19) rfl (by kernel_rfl) (by kernel_rfl) (by kernel_rfl) (fun _ _ _ h => h) (Or.inl ⟨by rfl, ?hy19⟩) (by assumption) ?_
                case hy19 => intro w hSw; (try dsimp only at hSw); go_simp; (try with_reducible rfl)
                try simp only [Act.put, List.setIfInBounds_toArray, List.set_cons_zero, List.set_cons_succ]
                refine wpAnyH_take (i := 19) (oi := { dst := some 174, op := Op.pick (Operand.tmp 160) (Operand.tmp 173) (Operand.const (Value.bool false)), type := 4, pos := "outright.go:81", after := #[{ on := 5, ground := Ground.data }, { on := 18, ground := Ground.data }], guard := none }) (v := ?v20) rfl (by kernel_rfl) (by kernel_rfl) (by kernel_rfl) (fun _ _ _ h => h) (Or.inl ⟨by rfl, ?hy20⟩) (by assumption) ?_
                case hy20 => intro w hSw; (try dsimp only at hSw); go_simp; (try with_reducible rfl)
                try simp only [Act.put, List.setIfInBounds_toArray, List.set_cons_zero, List.set_cons_succ]
                refine wpAnyH_take (i := 20) (oi := { dst := some 175, op := Op.move (Operand.tmp 174), type := 4, pos := "outright.go:81", after := #[{ on := 19, ground := Ground.data }, { on := 15, ground := Ground.chain }], guard := none }) (v := ?v21) rfl (by kernel_rfl) (by kernel_rfl) (by kernel_rfl) (fun _ _ _ h => h) (Or.inl ⟨by rfl, ?hy21⟩) (by assumption) ?_
                case hy21 => intro w hSw; (try dsimp only at hSw); go_simp; (try with_reducible rfl)
                try simp only [Act.put, List.setIfInBounds_toArray, List.set_cons_zero, List.set_cons_succ]
                refine wpAnyH_ready (rs := [21]) (by kernel_rfl) (by simp) ?_
                refine AllReadyH.cons (o := { dst := some 176, op := Op.call { callee := Callee.value (Operand.func 16), args := #[], argTypes := #[] }, type := 4, pos := "outright.go:81", after := #[{ on := 20, ground := Ground.chain }, { on := 20, ground := Ground.guard }], guard := some (20, true) }) rfl (fun K hK => ?_) AllReadyH.nil
                go_simp; go_at_call 16; (with_reducible refine (fr_awake _).mono ?_); rintro e n9 ⟨rfl, hb9⟩; have HQ9 := Lib.hid ((HQ5.out.below (below_drew (Below.refl _ _))).below hb9); have hs9 := And.intro ((hb9.cell (p := ⟨n5.heap.size, 0, none⟩) (by simp)).trans hs5.1) ((hb9.cell (p := ⟨xb, xo + p, none⟩) (Nat.lt_of_lt_of_le hxb HQ5.out.bel.size)).trans hs5.2); dsimp only
                refine hK.out _ _ ?_ (fun hH2 => ?_)
                · (try dsimp only); (first | exact hs9 | exact hs5)
                clear hK K
                clear hH1
                try simp only [Act.put, List.setIfInBounds_toArray, List.set_cons_zero, List.set_cons_succ]
                refine wpAnyH_take (i := 22) (oi := { dst := some 177, op := Op.pick (Operand.tmp 175) (Operand.tmp 176) (Operand.const (Value.bool false)), type := 4, pos := "outright.go:81", after := #[{ on := 20, ground := Ground.data }, { on := 21, ground := Ground.data }], guard := none }) (v := ?v23) rfl (by kernel_rfl) (by kernel_rfl) (by kernel_rfl) (fun _ _ _ h => h) (Or.inl ⟨by rfl, ?hy23⟩) (by assumption) ?_
                case hy23 => intro w hSw; (try dsimp only at hSw); go_simp; (try with_reducible rfl)
                try simp only [Act.put, List.setIfInBounds_toArray, List.set_cons_zero, List.set_cons_succ]
                refine wpAnyH_take (i := 23) (oi := { dst := some 4, op := Op.assign (Operand.tmp 177), type := 4, pos := "outright.go:81", after := #[{ on := 22, ground := Ground.data }, { on := 21, ground := Ground.chain }, { on := 0, ground := Ground.phase }, { on := 1, ground := Ground.phase }, { on := 2, ground := Ground.phase }, { on := 3, ground := Ground.phase }, { on := 4, ground := Ground.phase }, { on := 5, ground := Ground.phase }, { on := 6, ground := Ground.phase }, { on := 7, ground := Ground.phase }, { on := 8, ground := Ground.phase }, { on := 9, ground := Ground.phase }, { on := 10, ground := Ground.phase }, { on := 11, ground := Ground.phase }, { on := 12, ground := Ground.phase }, { on := 13, ground := Ground.phase }, { on := 14, ground := Ground.phase }, { on := 15, ground := Ground.phase }, { on := 16, ground := Ground.phase }, { on := 17, ground := Ground.phase }, { on := 18, ground := Ground.phase }, { on := 19, ground := Ground.phase }, { on := 20, ground := Ground.phase }, { on := 21, ground := Ground.phase }, { on := 22, ground := Ground.phase }], guard := none }) (v := ?v24) rfl (by kernel_rfl) (by kernel_rfl) (by kernel_rfl) (fun _ _ _ h => h) (Or.inl ⟨by rfl, ?hy24⟩) (by assumption) ?_
                case hy24 => intro w hSw; (try dsimp only at hSw); go_simp; (try with_reducible rfl)
                try simp only [Act.put, List.setIfInBounds_toArray, List.set_cons_zero, List.set_cons_succ]
                refine wpAnyH_done (by kernel_rfl) ?_ _
                go_wp2_with fail
                go_ret
                exact ⟨rfl, HQ9.out.bel⟩
              · have t1 : ¬ (p : Int) < (a : Int) := by omega
                go_upto_region 30 with (first
                  | (go_at_call 25; (with_reducible refine HNN.out.mono ?_); rintro e n1 ⟨rfl, hb1⟩; have HQ2 := Lib.hid ((HQ.out.below hb1).below ((Below.refl _ _).alloc (Nat.le_refl _) (.cells #[.int .i64 0, .int .i64 0, .int .i64 0] 66))); clear hb1; dsimp only)
                  | (refine wpList_store_row rfl 66 (Operand.tmp 20) (Operand.tmp 126) rfl n1.heap.size _ rfl rfl _ _ (heap_alloc_new n1 _) infoIns (by rfl) (by simp [Value.oneCell']) ?_; rw [World.setRow_alloc_new])
                  | (go_at_call 9; (with_reducible refine (HPT.out _).mono ?_); rintro e n2 ⟨rfl, rfl⟩; dsimp only)
                  | (go_at_call 26; (with_reducible refine (nq_Go HQ2.out ⟨by omega, by omega⟩).mono ?_); rintro e n4 ⟨rfl, M4, hQ4⟩; have HQ4 := Lib.hid hQ4; clear hQ4; dsimp only)
                  | (go_at_call 25; (with_reducible refine (nq_Next_no HQ4.out (by omega) (elB_end (by rw [vsL_len]; omega))).mono ?_); rintro e n5 ⟨rfl, hb5⟩; have HQ5 := Lib.hid ((HQ4.out.below hb5).below ((Below.refl _ _).alloc (Nat.le_refl _) (.cells #[.int .i64 0, .int .i64 0, .int .i64 0] 66))); clear hb5; dsimp only)
                  | (refine wpList_store_row rfl 66 (Operand.tmp 24) (Operand.tmp 153) rfl n5.heap.size _ rfl rfl _ _ (heap_alloc_new n5 _) infoIns (by rfl) (by simp [Value.oneCell']) ?_; rw [World.setRow_alloc_new]))
                refine wp_region_held_drew (S := (fun w' => True)) (by kernel_rfl) ?_ (fun hH0 => ?_)
                · (try dsimp only); (first | done | trivial)
                refine wpAnyH_take (i := 0) (oi := { dst := some 155, op := Op.move (Operand.tmp 25), type := 4, pos := "outright.go:81", after := #[], guard := none }) (v := ?v25) rfl (by kernel_rfl) (by kernel_rfl) (by kernel_rfl) (fun _ _ _ h => h) (Or.inl ⟨by rfl, ?hy25⟩) (by assumption) ?_
                case hy25 => intro w hSw; (try dsimp only at hSw); go_simp; (try with_reducible rfl)
                try simp only [Act.put, List.setIfInBounds_toArray, List.set_cons_zero, List.set_cons_succ]
                refine wpAnyH_take (i := 1) (oi := { dst := some 156, op := Op.move (Operand.tmp 22), type := 3, pos := "outright.go:81", after := #[], guard := none }) (v := ?v26) rfl (by kernel_rfl) (by kernel_rfl) (by kernel_rfl) (fun _ _ _ h => h) (Or.inl ⟨by rfl, ?hy26⟩) (by assumption) ?_
                case hy26 => intro w hSw; (try dsimp only at hSw); go_simp; (try with_reducible rfl)
                try simp only [Act.put, List.setIfInBounds_toArray, List.set_cons_zero, List.set_cons_succ]
                refine wpAnyH_take (i := 2) (oi := { dst := some 157, op := Op.move (Operand.tmp 7), type := 3, pos := "outright.go:81", after := #[], guard := none }) (v := ?v27) rfl (by kernel_rfl) (by kernel_rfl) (by kernel_rfl) (fun _ _ _ h => h) (Or.inl ⟨by rfl, ?hy27⟩) (by assumption) ?_
                case hy27 => intro w hSw; (try dsimp only at hSw); go_simp; (try with_reducible rfl)
                try simp only [Act.put, List.setIfInBounds_toArray, List.set_cons_zero, List.set_cons_succ]
                refine wpAnyH_take (i := 3) (oi := { dst := some 158, op := Op.binOp BinOp.lss 3 (Operand.tmp 156) (Operand.tmp 157) 3, type := 4, pos := "outright.go:81", after := #[{ on := 1, ground := Ground.data }, { on := 2, ground := Ground.data }], guard := none }) (v := ?v28) rfl (by kernel_rfl) (by kernel_rfl) (by kernel_rfl) (fun _ _ _ h => h) (Or.inl ⟨by rfl, ?hy28⟩) (by assumption) ?_
                case hy28 => intro w hSw; (try dsimp only at hSw); go_simp; (try with_reducible rfl)
                try simp only [Act.put, List.setIfInBounds_toArray, List.set_cons_zero, List.set_cons_succ]
                refine wpAnyH_take (i := 4) (oi := { dst := some 159, op := Op.binOp BinOp.eql 4 (Operand.tmp 155) (Operand.tmp 158) 4, type := 4, pos := "outright.go:81", after := #[{ on := 0, ground := Ground.data }, { on := 3, ground := Ground.data }], guard := none }) (v := ?v29) rfl (by kernel_rfl) (by kernel_rfl) (by kernel_rfl) (fun _ _ _ h => h) (Or.inl ⟨by rfl, ?hy29⟩) (by assumption) ?_
                case hy29 => intro w hSw; (try dsimp only at hSw); go_simp; (try with_reducible rfl)
                try simp only [Act.put, List.setIfInBounds_toArray, List.set_cons_zero, List.set_cons_succ]
                refine wpAnyH_take (i := 5) (oi := { dst := some 160, op := Op.move (Operand.tmp 159), type := 4, pos := "outright.go:81", after := #[{ on := 4, ground := Ground.data }], guard := none }) (v := ?v30) rfl (by kernel_rfl) (by kernel_rfl) (by kernel_rfl) (fun _ _ _ h => h) (Or.inl ⟨by rfl, ?hy30⟩) (by assumption) ?_
                case hy30 => intro w hSw; (try dsimp only at hSw); go_simp; (try with_reducible rfl)
                try simp only [Act.put, List.setIfInBounds_toArray, List.set_cons_zero, List.set_cons_succ]
                refine wpAnyH_take (i := 6) (oi := { dst := some 161, op := Op.move (Operand.tmp 25), type := 4, pos := "outright.go:81", after := #[{ on := 5, ground := Ground.guard }], guard := some (5, true) }) (v := ?v31) rfl (by kernel_rfl) (by kernel_rfl) (by kernel_rfl) (fun _ _ _ h => h) (Or.inl ⟨by rfl, ?hy31⟩) (by assumption) ?_
                case hy31 => intro w hSw; (try dsimp only at hSw); go_simp; (try with_reducible rfl)
                try simp only [Act.put, List.setIfInBounds_toArray, List.set_cons_zero, List.set_cons_succ]
                refine wpAnyH_take (i := 7) (oi := { dst := some 162, op := Op.unOp UnOp.not 4 (Operand.tmp 161), type := 4, pos := "outright.go:81", after := #[{ on := 6, ground := Ground.data }, { on := 5, ground := Ground.guard }], guard := some (5, true) }) (v := ?v32) rfl (by kernel_rfl) (by kernel_rfl) (by kernel_rfl) (fun _ _ _ h => h) (Or.inl ⟨by rfl, ?hy32⟩) (by assumption) ?_
                case hy32 => intro w hSw; (try dsimp only at hSw); go_simp; (try with_reducible rfl)
                try simp only [Act.put, List.setIfInBounds_toArray, List.set_cons_zero, List.set_cons_succ]
                refine wpAnyH_take (i := 8) (oi := { dst := some 163, op := Op.move (Operand.tmp 162), type := 4, pos := "outright.go:81", after := #[{ on := 7, ground := Ground.data }, { on := 5, ground := Ground.chain }, { on := 5, ground := Ground.guard }], guard := some (5, true) }) (v := ?v33) rfl (by kernel_rfl) (by kernel_rfl) (by kernel_rfl) (fun _ _ _ h => h) (Or.inl ⟨by rfl, ?hy33⟩) (by assumption) ?_
                case hy33 => intro w hSw; (try dsimp only at hSw); go_simp; (try with_reducible rfl)
                try simp only [Act.put, List.setIfInBounds_toArray, List.set_cons_zero, List.set_cons_succ]
                refine wpAnyH_take (i := 9) (oi := { dst := some 164, op := Op.fieldAddr 66 (Operand.tmp 24) 0, type := 0, pos := "outright.go:81", after := #[{ on := 8, ground := Ground.guard }], guard := some (8, false) }) (v := undef) rfl (by kernel_rfl) (by kernel_rfl) (by kernel_rfl) (fun _ _ _ h => h) (Or.inr ⟨by rfl, rfl⟩) (by assumption) ?_
                try simp only [Act.put, List.setIfInBounds_toArray, List.set_cons_zero, List.set_cons_succ]
                refine wpAnyH_take (i := 10) (oi := { dst := some 165, op := Op.load 3 (Operand.tmp 164), type := 3, pos := "outright.go:81", after := #[{ on := 9, ground := Ground.data }, { on := 8, ground := Ground.guard }], guard := some (8, false) }) (v := undef) rfl (by kernel_rfl) (by kernel_rfl) (by kernel_rfl) (fun _ _ _ h => h) (Or.inr ⟨by rfl, rfl⟩) (by assumption) ?_
                try simp only [Act.put, List.setIfInBounds_toArray, List.set_cons_zero, List.set_cons_succ]
                refine wpAnyH_take (i := 11) (oi := { dst := some 166, op := Op.move (Operand.tmp 0), type := 22, pos := "outright.go:81", after := #[{ on := 8, ground := Ground.guard }], guard := some (8, false) }) (v := undef) rfl (by kernel_rfl) (by kernel_rfl) (by kernel_rfl) (fun _ _ _ h => h) (Or.inr ⟨by rfl, rfl⟩) (by assumption) ?_
                try simp only [Act.put, List.setIfInBounds_toArray, List.set_cons_zero, List.set_cons_succ]
                refine wpAnyH_take (i := 12) (oi := { dst := some 167, op := Op.move (Operand.tmp 22), type := 3, pos := "outright.go:81", after := #[{ on := 8, ground := Ground.guard }], guard := some (8, false) }) (v := undef) rfl (by kernel_rfl) (by kernel_rfl) (by kernel_rfl) (fun _ _ _ h => h) (Or.inr ⟨by rfl, rfl⟩) (by assumption) ?_
                try simp only [Act.put, List.setIfInBounds_toArray, List.set_cons_zero, List.set_cons_succ]
                refine wpAnyH_take (i := 13) (oi := { dst := some 168, op := Op.indexAddr 22 (Operand.tmp 166) (Operand.tmp 167), type := 0, pos := "outright.go:81", after := #[{ on := 11, ground := Ground.data }, { on := 12, ground := Ground.data }, { on := 8, ground := Ground.guard }], guard := some (8, false) }) (v := undef) rfl (by kernel_rfl) (by kernel_rfl) (by kernel_rfl) (fun _ _ _ h => h) (Or.inr ⟨by rfl, rfl⟩) (by assumption) ?_
                try simp only [Act.put, List.setIfInBounds_toArray, List.set_cons_zero, List.set_cons_succ]
                refine wpAnyH_take (i := 14) (oi := { dst := some 169, op := Op.load 3 (Operand.tmp 168), type := 3, pos := "outright.go:81", after := #[{ on := 13, ground := Ground.data }, { on := 8, ground := Ground.guard }], guard := some (8, false) }) (v := undef) rfl (by kernel_rfl) (by kernel_rfl) (by kernel_rfl) (fun _ _ _ h => h) (Or.inr ⟨by rfl, rfl⟩) (by assumption) ?_
                try simp only [Act.put, List.setIfInBounds_toArray, List.set_cons_zero, List.set_cons_succ]
                refine wpAnyH_take (i := 15) (oi := { dst := some 170, op := Op.call { callee := Callee.value (Operand.func 9), args := #[Operand.tmp 169, Operand.const (Value.int IntKind.i64 16777216)], argTypes := #[3, 3] }, type := 3, pos := "outright.go:81", after := #[{ on := 14, ground := Ground.data }, { on := 8, ground := Ground.chain }, { on := 8, ground := Ground.guard }], guard := some (8, false) }) (v := undef) rfl (by kernel_rfl) (by kernel_rfl) (by kernel_rfl) (fun _ _ _ h => h) (Or.inr ⟨by rfl, rfl⟩) (by assumption) ?_
                try simp only [Act.put, List.setIfInBounds_toArray, List.set_cons_zero, List.set_cons_succ]
                refine wpAnyH_take (i := 16) (oi := { dst := some 171, op := Op.binOp BinOp.and 3 (Operand.tmp 170) (Operand.const (Value.int IntKind.i64 255)) 3, type := 3, pos := "outright.go:81", after := #[{ on := 15, ground := Ground.data }, { on := 8, ground := Ground.guard }], guard := some (8, false) }) (v := undef) rfl (by kernel_rfl) (by kernel_rfl) (by kernel_rfl) (fun _ _ _ h => h) (Or.inr ⟨by rfl, rfl⟩) (by assumption) ?_
                try simp only [Act.put, List.setIfInBounds_toArray, List.set_cons_zero, List.set_cons_succ]
                refine wpAnyH_take (i := 17) (oi := { dst := some 172, op := Op.binOp BinOp.eql 3 (Operand.tmp 165) (Operand.tmp 171) 3, type := 4, pos := "outright.go:81", after := #[{ on := 10, ground := Ground.data }, { on := 16, ground := Ground.data }, { on := 8, ground := Ground.guard }], guard := some (8, false) }) (v := undef) rfl (by kernel_rfl) (by kernel_rfl) (by kernel_rfl) (fun _ _ _ h => h) (Or.inr ⟨by rfl, rfl⟩) (by assumption) ?_
                try simp only [Act.put, List.setIfInBounds_toArray, List.set_cons_zero, List.set_cons_succ]
                refine wpAnyH_take (i := 18) (oi := { dst := some 173, op := Op.pick (Operand.tmp 163) (Operand.const (Value.bool true)) (Operand.tmp 172), type := 4, pos := "outright.go:81", after := #[{ on := 8, ground := Ground.data }, { on := 17, ground := Ground.data }, { on := 5, ground := Ground.guard }], guard := some (5, true) }) (v := ?v43) rfl (by kernel_rfl) (by kernel_rfl) (by kernel_rfl) (fun _ _ _ h => h) (Or.inl ⟨by rfl, ?hy43⟩) (by assumption) ?_
                case hy43 => intro w hSw; (try dsimp only at hSw); go_simp; (try with_reducible rfl)
                try simp only [Act.put, List.setIfInBounds_toArray, List.set_cons_zero, List.set_cons_succ]
                refine wpAnyH_take (i := 19) (oi := { dst := some 174, op := Op.pick (Operand.tmp 160) (Operand.tmp 173) (Operand.const (Value.bool false)), type := 4, pos := "outright.go:81", after := #[{ on := 5, ground := Ground.data }, { on := 18, ground := Ground.data }], guard := none }) (v := ?v44) rfl (by kernel_rfl) (by kernel_rfl) (by kernel_rfl) (fun _ _ _ h => h) (Or.inl ⟨by rfl, ?hy44⟩) (by assumption) ?_
                case hy44 => intro w hSw; (try dsimp only at hSw); go_simp; (try with_reducible rfl)
                try simp only [Act.put, List.setIfInBounds_toArray, List.set_cons_zero, List.set_cons_succ]
                refine wpAnyH_take (i := 20) (oi := { dst := some 175, op := Op.move (Operand.tmp 174), type := 4, pos := "outright.go:81", after := #[{ on := 19, ground := Ground.data }, { on := 15, ground := Ground.chain }], guard := none }) (v := ?v45) rfl (by kernel_rfl) (by kernel_rfl) (by kernel_rfl) (fun _ _ _ h => h) (Or.inl ⟨by rfl, ?hy45⟩) (by assumption) ?_
                case hy45 => intro w hSw; (try dsimp only at hSw); go_simp; (try with_reducible rfl)
                try simp only [Act.put, List.setIfInBounds_toArray, List.set_cons_zero, List.set_cons_succ]
                refine wpAnyH_ready (rs := [21]) (by kernel_rfl) (by simp) ?_
                refine AllReadyH.cons (o := { dst := some 176, op := Op.call { callee := Callee.value (Operand.func 16), args := #[], argTypes := #[] }, type := 4, pos := "outright.go:81", after := #[{ on := 20, ground := Ground.chain }, { on := 20, ground := Ground.guard }], guard := some (20, true) }) rfl (fun K hK => ?_) AllReadyH.nil
                go_simp; go_at_call 16; (with_reducible refine (fr_awake _).mono ?_); rintro e n9 ⟨rfl, hb9⟩; have HQ9 := Lib.hid ((HQ5.out.below (below_drew (Below.refl _ _))).below hb9); dsimp only
                refine hK.out _ _ ?_ (fun hH1 => ?_)
                · (try dsimp only); (first | done | trivial)
                clear hK K
                clear hH0
                try simp only [Act.put, List.setIfInBounds_toArray, List.set_cons_zero, List.set_cons_succ]
                refine wpAnyH_take (i := 22) (oi := { dst := some 177, op := Op.pick (Operand.tmp 175) (Operand.tmp 176) (Operand.const (Value.bool false)), type := 4, pos := "outright.go:81", after := #[{ on := 20, ground := Ground.data }, { on := 21, ground := Ground.data }], guard := none }) (v := ?v47) rfl (by kernel_rfl) (by kernel_rfl) (by kernel_rfl) (fun _ _ _ h => h) (Or.inl ⟨by rfl, ?hy47⟩) (by assumption) ?_
                case hy47 => intro w hSw; (try dsimp only at hSw); go_simp; (try with_reducible rfl)
                try simp only [Act.put, List.setIfInBounds_toArray, List.set_cons_zero, List.set_cons_succ]
                refine wpAnyH_take (i := 23) (oi := { dst := some 4, op := Op.assign (Operand.tmp 177), type := 4, pos := "outright.go:81", after := #[{ on := 22, ground := Ground.data }, { on := 21, ground := Ground.chain }, { on := 0, ground := Ground.phase }, { on := 1, ground := Ground.phase }, { on := 2, ground := Ground.phase }, { on := 3, ground := Ground.phase }, { on := 4, ground := Ground.phase }, { on := 5, ground := Ground.phase }, { on := 6, ground := Ground.phase }, { on := 7, ground := Ground.phase }, { on := 8, ground := Ground.phase }, { on := 9, ground := Ground.phase }, { on := 10, ground := Ground.phase }, { on := 11, ground := Ground.phase }, { on := 12, ground := Ground.phase }, { on := 13, ground := Ground.phase }, { on := 14, ground := Ground.phase }, { on := 15, ground := Ground.phase }, { on := 16, ground := Ground.phase }, { on := 17, ground := Ground.phase }, { on := 18, ground := Ground.phase }, { on := 19, ground := Ground.phase }, { on := 20, ground := Ground.phase }, { on := 21, ground := Ground.phase }, { on := 22, ground := Ground.phase }], guard := none }) (v := ?v48) rfl (by kernel_rfl) (by kernel_rfl) (by kernel_rfl) (fun _ _ _ h => h) (Or.inl ⟨by rfl, ?hy48⟩) (by assumption) ?_
                case hy48 => intro w hSw; (try dsimp only at hSw); go_simp; (try with_reducible rfl)
                try simp only [Act.put, List.setIfInBounds_toArray, List.set_cons_zero, List.set_cons_succ]
                refine wpAnyH_done (by kernel_rfl) ?_ _
                go_wp2_with fail
                go_ret
                exact ⟨rfl, HQ9.out.bel⟩
            · have hor : t - 5 < 0 ∨ 60 < t - 5 := by omega
              clear hg
              rcases hor with h | h
              · have hor : t - 5 < 0 ∨ 60 < t - 5 := .inl h
                have HOR := Lib.hid hor
                clear hor
                have q0 : ¬ 0 ≤ t - 5 := by omega
                go_wp2_with (first
                  | (go_at_call 25; (with_reducible refine HNN.out.mono ?_); rintro e n1 ⟨rfl, hb1⟩; have HQ2 := Lib.hid ((HQ.out.below hb1).below ((Below.refl _ _).alloc (Nat.le_refl _) (.cells #[.int .i64 0, .int .i64 0, .int .i64 0] 66))); clear hb1; dsimp only)
                  | (refine wpList_store_row rfl 66 (Operand.tmp 20) (Operand.tmp 126) rfl n1.heap.size _ rfl rfl _ _ (heap_alloc_new n1 _) infoIns (by rfl) (by simp [Value.oneCell']) ?_; rw [World.setRow_alloc_new])
                  | (go_at_call 9; (with_reducible refine (HPT.out _).mono ?_); rintro e n2 ⟨rfl, rfl⟩; dsimp only)
                  | (go_at_call 26; (with_reducible refine (nq_Go_no HQ2.out HOR.out).mono ?_); rintro e n4 ⟨rfl, hb4⟩; have HQ2 := Lib.hid (HQ2.out.below hb4); clear hb4; dsimp only)
                  | (go_at_call 16; (with_reducible refine (fr_awake _).mono ?_); rintro e n9 ⟨rfl, hb9⟩; have HQ9 := Lib.hid (HQ2.out.below hb9); clear hb9; dsimp only))
                go_ret
                exact ⟨rfl, HQ9.out.bel⟩
              · have hor : t - 5 < 0 ∨ 60 < t - 5 := .inr h
                have HOR := Lib.hid hor
                clear hor
                have q0 : 0 ≤ t - 5 := by omega
                have q1 : ¬ t - 5 ≤ 60 := by omega
                go_wp2_with (first
                  | (go_at_call 25; (with_reducible refine HNN.out.mono ?_); rintro e n1 ⟨rfl, hb1⟩; have HQ2 := Lib.hid ((HQ.out.below hb1).below ((Below.refl _ _).alloc (Nat.le_refl _) (.cells #[.int .i64 0, .int .i64 0, .int .i64 0] 66))); clear hb1; dsimp only)
                  | (refine wpList_store_row rfl 66 (Operand.tmp 20) (Operand.tmp 126) rfl n1.heap.size _ rfl rfl _ _ (heap_alloc_new n1 _) infoIns (by rfl) (by simp [Value.oneCell']) ?_; rw [World.setRow_alloc_new])
                  | (go_at_call 9; (with_reducible refine (HPT.out _).mono ?_); rintro e n2 ⟨rfl, rfl⟩; dsimp only)
                  | (go_at_call 26; (with_reducible refine (nq_Go_no HQ2.out HOR.out).mono ?_); rintro e n4 ⟨rfl, hb4⟩; have HQ2 := Lib.hid (HQ2.out.below hb4); clear hb4; dsimp only)
                  | (go_at_call 16; (with_reducible refine (fr_awake _).mono ?_); rintro e n9 ⟨rfl, hb9⟩; have HQ9 := Lib.hid (HQ2.out.below hb9); clear hb9; dsimp only))
                go_ret
                exact ⟨rfl, HQ9.out.bel⟩

/-! ### THE ROW's STEP: WRITTEN OUT: LEAVE IT -/
set_option maxRecDepth 100000 in
theorem lifted (os : Os) (started : os.Started) (H : Type) (enc : TypeId × Value → H) :
    ReturnsInHanded {} Try.checked os 5 .any (Rows.frameNextSpec.pre6 enc Try.prog Try.f5 Rows.frameNextRow.domain false) (Rows.frameNextSpec.post enc Try.prog Try.f5 false true false false) := by
  refine returnsInHanded_of_change (C := Try.checked) own started (by kernel_rfl) Try.func5
    (ChangeSpec.witness6 (enc := enc) (C := Try.checked) false ⟨#[], #[.slice none 0 0, .int .i64 0], []⟩ 8 (by kernel_rfl) (by kernel_rfl) (by kernel_rfl) (by kernel_rfl)) ?_
  intro W base args ds gs before hval0 hW hcnd _
  have hval : ∀ (j : Nat) t v, Try.f5.params[j]? = some t → args[j]? = some v → Value.okWide Try.prog W .any base t v := hval0
  have hW' := hW
  obtain ⟨p, q, hA0, hV, rfl, hfz, hnd⟩ := hW
  have hA : DataW.TrodAll enc Try.prog W 0 (fun _ => true) true Try.f5.params.toList args.toList ds p := hA0
  rw [Try.params5] at hA hval
  obtain ⟨v0, vs0, d0, ds0, p0, q0, hargs, rfl, rfl, h0, r0⟩ := trodAll_cons hA
  obtain ⟨v1, vs1, d1, ds1, p1, q1, rfl, rfl, rfl, h1, r1⟩ := trodAll_cons r0
  obtain ⟨rfl, rfl, rfl⟩ := trodAll_nil r1
  obtain rfl : args = #[v0, v1] := by cases args; simp_all
  obtain ⟨rfl, rfl⟩ := trodVars_none hV
  obtain ⟨a0, len0, cap0, rfl⟩ := okWide_slice Try.underlying22 (hval 0 22 v0 rfl rfl)
  have k0 := h0
  have lt0 : ∀ x ∈ p0, x.block < W.heap.size := by obtain ⟨m, hm⟩ := k0; exact DataW.trod_lt m _ _ _ hm
  obtain ⟨z0, w0⟩ : ∃ zs, IsRow .i64 W a0 len0 cap0 zs := by
    obtain ⟨fuel, hf⟩ := h0
    rcases open_ints Try.underlying22 Try.underlying3 (by kernel_rfl) hf with ⟨hcs, _⟩ | ⟨x, l, c, zs, hcs, _, hl, hm, hz, _, hcell, hwz⟩
    · simp [Value.cells] at hcs
      obtain ⟨rfl, rfl, rfl⟩ := hcs
      exact ⟨[], .inl ⟨rfl, rfl, rfl, rfl⟩⟩
    · simp [Value.cells] at hcs
      obtain ⟨rfl, rfl, rfl⟩ := hcs
      exact ⟨zs, .inr ⟨_, rfl, hl, hm, by simpa using hz, hcell, hwz⟩⟩
  obtain ⟨a1, rfl, rfl, rfl, w1⟩ := open_int Try.underlying3 (hval 1 3 v1 rfl rfl) h1
  clear hA0 hval0
  refine (walk a0 len0 cap0 z0 a1 W w0 w1).mono fun e W' ⟨he, bel⟩ => ?_
  subst he
  exact ⟨_, rfl, _, _, _, [], _, [], hW', trodAll_mk1 (shut_bool Try.underlying4 _), (trodAll_cons_mk (Below.trod laidOut (by kernel_rfl) (of_decide_eq_true (by kernel_rfl)) k0 bel lt0) (trodAll_cons_mk (shut_int Try.underlying3 w1) trodAll_mk0)), rfl, bel.frame _, fun h => by cases h⟩

theorem over : Rows.frameNextRow.holds Try.pinned (OpenSpec.ofChange Rows.frameNextSpec) :=
  OpenClaim.holds_of_wide 5 Try.f5 rfl rfl rfl rfl rfl rfl rfl ⟨rfl, rfl, rfl, rfl, rfl⟩ rfl rfl rfl rfl rfl (by kernel_rfl) Try.func5 (by kernel_rfl)
    (of_decide_eq_true (by kernel_rfl)) (by unfold Func.isWrapper; first | (rw [if_pos (by decide +kernel)]; kernel_rfl) | (rw [if_neg (by decide +kernel)]; exact ⟨rfl, rfl⟩))
    (fun os started H enc _ => lifted os started H enc)

/-- THE STATEMENT -/
theorem proved : Rows.FrameNextSaid := over
#print axioms proved
end Go.Proofs.Ytglilfjkjoogbaa.frameNext
