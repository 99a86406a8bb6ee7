/- The law SimplePushes returns true at every input, and leaves its arguments as they were. No condition. -/
import Derived.Test.YtoklohfpkaiidaaGreatRows
import Derived.WalkKit
import Derived.ProofKit
import Derived.OpenShut
import Derived.Test.YtoklohfpkaiidaaGreatSp6
import Derived.Deep.RegionWith
import Derived.Deep.DeepCutAuto
import Derived.Deep.CutBlock
import Derived.ShutString
import Derived.ChangeOld
import Derived.Below
namespace Go.Proofs.YtoklohfpkaiidaaGreat.simplePushes
open Go.ChangeShapes Go.WideShapes Go.ChangeAt Go.RowKit
open Go.ChangeMaps (open_string shut_string)
open Go.Proofs.YtoklohfpkaiidaaGreat.Gen Go.Proofs.YtoklohfpkaiidaaGreat.Base Go.Proofs.YtoklohfpkaiidaaGreat.Obj
set_option linter.unusedVariables false

theorem own : ownKnob Tryz.prog.godebug = none := by kernel_rfl
theorem laidOut : laidOutB Tryz.prog = true := by kernel_rfl

/-- WHAT THE WALK IS TOLD OF A SLICE OF INTEGERS THAT CAME IN: it is nil; or it leads to a row of 'cap' cells, the numbers 'zs' (the first 'len' are its elements, the rest its spare room), each fitting its kind. -/
def IsRow (k : IntKind) (w : World) (a : Option Addr) (len cap : Nat) (zs : List Int) : Prop :=
  (a = none ∧ len = 0 ∧ cap = 0 ∧ zs = []) ∨
  ∃ x, a = some x ∧ len ≤ cap ∧ cap ≤ maxLen ∧ zs.length = cap ∧ (∀ i, i < zs.length → w.cell? (x.add i) = some (.int k (zs.getD i 0))) ∧ ∀ n ∈ zs, (Lit.int k n).wf = true

theorem row_at {w : World} {a : Option Addr} {len cap : Nat} {zs : List Int} (h : IsRow .i64 w a len cap zs) :
    (len : Int) ≤ 9223372036854775807 ∧ ∀ i, i < len → ∃ xb xo, a = some ⟨xb, xo, none⟩ ∧ xb < w.heap.size ∧ w.cell? ⟨xb, xo + i, none⟩ = some (.int .i64 (zs[i]?.getD 0)) ∧ (Lit.int .i64 (zs[i]?.getD 0)).wf = true := by
  rcases h with ⟨rfl, rfl, rfl, rfl⟩ | ⟨x, rfl, hl, hm, hz, hcell, hwz⟩
  · exact ⟨by omega, fun i hi => by omega⟩
  · refine ⟨by unfold maxLen at hm; omega, fun i hi => ?_⟩
    obtain ⟨xb, xo, spot⟩ := x
    have hspot : spot = none := by simpa [Addr.add] using World.cell?_spot (hcell 0 (by omega))
    subst hspot
    have hc : w.cell? ⟨xb, xo + i, none⟩ = some (.int .i64 (zs[i]?.getD 0)) := by
      have h := hcell i (by omega)
      by_cases e : i = 0
      · subst e; simpa [Addr.add] using h
      · simpa [Addr.add, e] using h
    exact ⟨xb, xo, rfl, World.block_lt_of_cell? _ _ hc, hc, hwz _ (by simp [show i < zs.length by omega])⟩
def nF (l : List Int) : List V := l.map fun x => (false, x)
theorem nF_len (l : List Int) : (nF l).length = l.length := by simp [nF]
theorem nF_app (l : List Int) (x : Int) : nF l ++ [(false, x)] = nF (l ++ [x]) := by simp [nF]
theorem nF_few {l : List Int} (h : ∀ x ∈ l, -128 ≤ x ∧ x ≤ 127) : Few (nF l) := fun v hv => by
  obtain ⟨x, hx, rfl⟩ := List.mem_map.1 hv
  have := h x hx
  exact ⟨rfl, by dsimp only; omega, by dsimp only; omega⟩
theorem nF_drop (l : List Int) (p i : Nat) (h : p + i < l.length) : elV ((nF l).drop p) (i : Int) = (false, l[p + i]) := by
  unfold elV
  rw [if_pos (by omega), Int.toNat_natCast, List.getElem?_drop]
  simp [nF, h]
theorem th_F (a b c : Int) (d : Bool) (s t : Value) (u : World) : Sem.run Tryz.prog (Instr.field 64 (.agg #[.int .i64 a, .int .i64 b, .int .i64 c, .bool d, s, t]) 4) u = .ok s u := by kernel_rfl
theorem take_at {cs : Array Value} {n : Nat} {xs : List Value} (h : cs.toList.take n = xs) {j : Nat} {v : Value} (hv : xs[j]? = some v) : cs[j]? = some v := by
  rw [← h, List.getElem?_take] at hv
  split at hv
  · simpa using hv
  · cases hv
/-! ### STEP 1: THE WALK: the Go text returns true, AND WRITES NOTHING THAT WAS THERE: 'Below w.heap.size w w'' (Derived/Below.lean: '.refl', '.alloc', '.drew', '.setCell' at a new block, '.trans'). Open each 'IsRow' by 'rcases' AHEAD of 'go_enter'; part every test ahead of the walk. -/
set_option maxRecDepth 100000 in
set_option maxHeartbeats 16000000 in
theorem walk (a0 : Option Addr) (len0 cap0 : Nat) (z0 : List Int) (a1 : Int) (w : World) (w0 : IsRow .i64 w a0 len0 cap0 z0) (w1 : (Lit.int .i64 a1).wf = true) :
    Calls Tryz.prog 4 #[.slice a0 len0 cap0, .int .i64 a1] w fun e w' => e = .returned (.bool true) ∧ Below w.heap.size w w' := by
  obtain ⟨hl0, hcell⟩ := row_at w0
  have HCELL := Lib.hid hcell; clear hcell w0
  have hz := zV
  have HFS := Lib.hid (fs_First w)
  have HW1 := Lib.hid w1
  clear w1
  go_enter Tryz.func4, Tryz.ntmps4
  go_upto_region 9 with (first
    | (go_at_call 17; (with_reducible refine HFS.out.mono ?_); rintro e u1 ⟨la, lc, L, rfl, hD, hL⟩; have HLB := Lib.hid (LB.of hD 51 23); have HL := Lib.hid hL; clear hD hL; dsimp only)
    | (go_at_call 18; (with_reducible refine (law_AddP HLB.out HL.out rfl).mono ?_); rintro e u3 ⟨rfl, a3, c3, L3, hB, hL3⟩; have HLB3 := Lib.hid hB; have HL3 := Lib.hid hL3; clear hB hL3; dsimp only)
    | (go_at_call 20; (with_reducible refine (law_MethodP HLB3.out HL3.out rfl).mono ?_); rintro e u4 ⟨rfl, a4, c4, L4, hB, hL4⟩; have HLB4 := Lib.hid hB; have HL4 := Lib.hid hL4; clear hB hL4; dsimp only)
    | (go_at_call 19; (with_reducible refine (nl_Num _ _).mono ?_); rintro e ux ⟨rfl, hbx⟩; (first | (have HLB3 := Lib.hid (HLB3.out.more hbx)) | (have HLB := Lib.hid (HLB.out.more hbx))); clear hbx; dsimp only)
    | (go_at_call 22; (with_reducible refine (nl_Obj _ _).mono ?_); rintro e ux ⟨rfl, hbx⟩; have HLB4 := Lib.hid (HLB4.out.more hbx); clear hbx; dsimp only)
    | (go_at_call 21; (with_reducible refine (law_StartP HLB4.out HL4.out).mono ?_); rintro e u5 ⟨rfl, a8, c8, L8, hB, hL8⟩; have HLB8 := Lib.hid hB; have HL8 := Lib.hid hL8; clear hB hL8; dsimp only)
    | (refine wpList_load_row rfl 30 (Operand.tmp 44) (by rfl) u1.heap.size (by rfl) _ _ (0, 0) _ HLB8.out.row Tryz.underlying30 rfl info13 ?_)
    | (go_at_call 11; (with_reducible refine (law_NewP HLB8.out HL8.out).mono ?_); rintro e u6 ⟨m, li, lv, dv, M, rfl, hb6, hN⟩; have HQ := Lib.hid (Pw.start hN HL8.out (HLB8.out.bel.trans (hb6.mono HLB8.out.bel.size)) HLB8.out.bel.size); clear hN hb6; dsimp only))
  clear HFS HLB HL HLB3 HL3 HLB4 HL4 HLB8 HL8
  go_upto_block 0 with fail
  go_cut [12, 13] (fun s12 s13 wx => ∃ (M : MS) (inl : List Int) (ai : Option Addr) (ci : Nat), inl.length ≤ 12 ∧ s12 = .slice ai inl.length ci ∧ (∀ x ∈ inl, -128 ≤ x ∧ x ≤ 127) ∧ Pw w wx m li lv dv M 28 (true, 0) (nF inl) ∧ Rw w wx m li lv dv M (.slice ai inl.length ci) inl)
  case first =>
    go_wp2_with fail
    go_loopw [12, 13] (fun v12 v13 wr => ∃ (M : MS) (inl : List Int), inl.length ≤ len0 ∧ inl.length ≤ 12 ∧ v13 = .int .i64 (inl.length : Int) ∧ (∀ x ∈ inl, -128 ≤ x ∧ x ≤ 127) ∧ Pw w wr m li lv dv M 28 (true, 0) (nF inl) ∧ Rw w wr m li lv dv M v12 inl) (fun v12 v13 wr => 12 - (intOf v13).toNat)
    case atStart => exact ⟨M, [], by simp, by simp, rfl, (by simp), HQ.out, Rw.start⟩
    case round =>
      clear HQ
      obtain ⟨M, inl, hi0, hi12, rfl, hbd, hP, hR⟩ := hrel
      obtain ⟨ai, ci, rfl, hci, -⟩ := hR.cells
      by_cases hlt : inl.length < len0 ∧ inl.length < 12
      · obtain ⟨hlt, hl12⟩ := hlt
        obtain ⟨xb, xo, rfl, hxb, hxc, hxw⟩ := HCELL.out inl.length hlt
        have hx : wr.cell? ⟨xb, xo + inl.length, none⟩ = some (.int .i64 (z0[inl.length]?.getD 0)) := by rw [hP.st.bel.cell (p := ⟨xb, xo + inl.length, none⟩) hxb]; exact hxc
        have t1 : (inl.length : Int) < (len0 : Int) := by omega
        have t2 : (inl.length : Int) < 12 := by omega
        have t0 : (0 : Int) ≤ (inl.length : Int) := by omega
        have HP := Lib.hid hP; have HR := Lib.hid hR; have HBD := Lib.hid hbd
        generalize z0[inl.length]?.getD 0 = Z at *
        have hpv := place_any Z 256 (by omega) (by omega) hxw
        have hv0 := Int.emod_nonneg Z (show (256 : Int) ≠ 0 by omega)
        have hv1 := Int.emod_lt_of_pos Z (show (0 : Int) < 256 by omega)
        generalize Z % 256 = v at *
        have HDO := Lib.hid (pw_int hP (by rw [nF_len]; omega) v 0 ⟨hv0, by omega⟩)
        have HPV := Lib.hid hpv
        have hwv : IntKind.i64.wrap (v - 128) = v - 128 := IntWalk.i64_in _ ⟨by omega, by omega⟩
        clear hP hR hbd hxw hxc hpv
        go_wp2_with (first
          | (go_at_call 14; (with_reducible refine (HPV.out _).mono ?_); rintro e v5 ⟨rfl, rfl⟩; dsimp only)
          | (go_at_call 23; (with_reducible refine HDO.out.mono ?_); rintro e v6 ⟨rfl, M6, hP6, hN6⟩; have HP6 := Lib.hid hP6; have HR6 := Lib.hid (HR.out.nx hN6); clear hP6 hN6; dsimp only)
          | (at_builtin; refine wpl_appI rfl (.tmp 72) (.tmp 75) (by rfl) (.slice ai inl.length ci) inl.length (ints inl) (by rfl) (World.ownsRow.alloc HR6.out.ins _) (by have := HP6.out.st.bel.size; simp; omega) ⟨_, 0, none⟩ 1 1 (by rfl) [.int .i64 (v - 128)] rfl (fun j u hu => by rw [Addr.add_lit, Nat.zero_add]; exact new_cell _ #[.int .i64 (v - 128)] _ (by simpa using hu)) (fun u hu => by obtain rfl := List.mem_singleton.1 hu; rfl) (by omega) ?_))
        intro v8 u8 own8 g8 e8
        have h8 := HR6.out.app HP6.out own8 g8 (by rw [World.size_alloc]; exact e8)
        rw [nF_app] at h8
        have HP8 := Lib.hid h8.1; have HR8 := Lib.hid h8.2
        clear own8 g8 e8 h8
        go_wp2_with fail
        refine ⟨⟨M6, inl ++ [v - 128], by simp; omega, by simp; omega, by simp, fun x hx => ?_, HP8.out, HR8.out⟩, by simp only [intOf]; omega⟩
        rcases List.mem_append.1 hx with hx | hx
        · exact HBD.out x hx
        · obtain rfl := List.mem_singleton.1 hx; omega
      · have HP := Lib.hid hP; have HR := Lib.hid hR; have HBD := Lib.hid hbd
        have hn : inl.length ≤ 12 := hi12
        have hcs : ¬ (inl.length : Int) < (len0 : Int) ∨ (inl.length : Int) < (len0 : Int) ∧ ¬ (inl.length : Int) < 12 := by omega
        clear hP hR hbd hlt
        rcases hcs with hc | ⟨hc, hc2⟩
        · go_wp2_with fail
          go_meet
          exact ⟨M, inl, ai, ci, hn, rfl, HBD.out, HP.out, HR.out⟩
        · go_wp2_with fail
          go_meet
          exact ⟨M, inl, ai, ci, hn, rfl, HBD.out, HP.out, HR.out⟩
  case rest =>
    obtain ⟨M, inl, ai, ci, hn, rfl, hbd, hP, hR⟩ := hcut
    have hvn := val_N
    have hth := th_F
    have HAR := Lib.hid fun (k : Nat) (hk : k ≤ inl.length) => pw_array hP (k := k) (by rw [nF_len]; exact hk) (by rw [nF_len]; exact hn) (nF_few hbd) 0
    have HG8 : Hid (∀ k : Nat, k ≤ inl.length → ∀ (u : World) lv dv M, Pw w u m li lv dv M 29 (true, 0) ((nF inl).take ((nF inl).length - k) ++ [(true, 28)]) → Calls Tryz.prog 24 #[.pointer (some ⟨m, 0, none⟩), .int .i64 26, .int .i64 (8 + (inl.length : Int) - (k : Int))] u fun e w' => e = .returned (.agg #[.bool true, .int .i64 28]) ∧ Below u.heap.size u w') := Lib.hid fun k hk u lv dv M h => by
      have hlt : ((nF inl).take ((nF inl).length - k)).length = inl.length - k := by rw [List.length_take, nF_len]; omega
      have := pw_Get26 h (inl.length - k) (by rw [List.length_append, hlt]; simp)
      rw [show (8 : Int) + ((inl.length - k : Nat) : Int) = 8 + (inl.length : Int) - (k : Int) by omega] at this
      have e : ((nF inl).take ((nF inl).length - k) ++ [((true, 28) : V)])[inl.length - k]'(by rw [List.length_append, hlt]; simp) = (true, 28) := by
        rw [List.getElem_append_right (by omega)]; simp
      rw [e] at this
      exact this
    have hpk := place_gen a1 ((inl.length : Int) + 1) (by omega) (by omega) HW1.out
    have HPK := Lib.hid hpk; have HR := Lib.hid hR; have HBD := Lib.hid hbd; have HP0 := Lib.hid hP
    clear hpk hR hbd hP HQ HW1
    go_upto_region 19 with (first
      | (go_at_call 14; (with_reducible refine (HPK.out _).mono ?_); rintro e v1 ⟨x, x0, x1, rfl, rfl⟩; obtain ⟨k, rfl⟩ := Int.eq_ofNat_of_zero_le x0; have hk : k ≤ inl.length := (by omega); clear x0 x1; dsimp only)
      | (go_at_call 23; (with_reducible refine (HAR.out k hk).mono ?_); rintro e v2 ⟨rfl, lv2, dv2, M2, ⟨hP2, hA2⟩, hN2⟩; have HP2 := Lib.hid hP2; have HA2 := Lib.hid hA2; have HR2 := Lib.hid (HR.out.nx hN2); clear hP2 hA2 hN2; dsimp only))
    have HGK := Lib.hid (HG8.out k hk)
    have hk2 : (k : Int) ≤ (inl.length : Int) := by omega
    clear HAR HG8 HPK HR HP0
    have hTl : ((nF inl).take ((nF inl).length - k)).length = inl.length - k := by rw [List.length_take, nF_len]; omega
    have hGl : ((nF inl).drop ((nF inl).length - k)).length = k := by rw [List.length_drop, nF_len]; omega
    have hGe : ∀ i : Nat, i < k → ∃ x, inl[inl.length - k + i]? = some x ∧ elV ((nF inl).drop ((nF inl).length - k)) (i : Int) = (false, x) := fun i hi => by
      have := nF_drop inl (inl.length - k) i (by omega)
      rw [nF_len]
      exact ⟨_, List.getElem?_eq_getElem (by omega), this⟩
    generalize (nF inl).take ((nF inl).length - k) = T at *
    generalize (nF inl).drop ((nF inl).length - k) = G at *
    have HT := Lib.hid (fun (u : World) lv dv M (hP : Pw w u m li lv dv M 29 (true, 0) (T ++ [(true, 28)])) (hA : Ar M G) => pw_Thing28 hP hA (by omega))
    rw [hGl] at HT
    have HTL := Lib.hid hTl; have HGE := Lib.hid hGe
    clear hTl hGl hGe
    go_upto_region 22 with (first
      | (go_at_call 24; (with_reducible refine (HGK.out _ _ _ _ HP2.out).mono ?_); rintro e v3 ⟨rfl, hb3⟩; have HB3 := Lib.hid (hb3.trans (((Below.refl v3.heap.size v3).alloc (Nat.le_refl _) (.cells #[.bool true, .int .i64 28] 54)).mono hb3.size)); have HS3 : Hid (Bsd (v3.alloc (.cells #[.bool true, .int .i64 28] 54)) m li lv2 dv2 M2 v3.heap.size (.cells #[.bool true, .int .i64 28] 54 (0, 0))) := Lib.hid ⟨heap_alloc_new v3 _, fun c => by have := HP2.out.st.me.lt c; have := hb3.size; omega⟩; clear hb3; dsimp only)
      | (refine wpList_store_row rfl 54 (Operand.tmp 16) (Operand.tmp 95) rfl v3.heap.size _ rfl rfl _ _ (heap_alloc_new v3 _) info2 (by rfl) (by simp [Value.oneCell']) ?_; rw [World.setRow_alloc_new])
      | (go_at_call 25; (with_reducible refine (HT.out _ _ _ _ (HP2.out.below HB3.out) HA2.out).mono ?_); rintro e v4 ⟨⟨qc, qf, qh, qi, qa, qp, rfl⟩, hb4⟩; have HB4 := Lib.hid (HB3.out.trans (hb4.mono HB3.out.size)); have HS4 := Lib.hid (HS3.out.below hb4); clear hb4; dsimp only))
    have HP4 := Lib.hid (HP2.out.below HB4.out); have HR4 := Lib.hid (HR2.out.below HB4.out)
    clear HP2 HR2 HB3 HB4 HS3 HT HGK
    go_upto_block 2 with fail
    go_cut [17] (fun s17 wx => ∃ uy, wx = uy ∧ Pw w uy m li lv2 dv2 M2 29 (true, 0) (T ++ [(true, 28)]) ∧ Rw w uy m li lv2 dv2 M2 (.slice ai inl.length ci) inl ∧ Bsd uy m li lv2 dv2 M2 v3.heap.size (.cells #[.bool true, .int .i64 28] 54 (0, 0)))
    case first =>
      go_wp2_with fail
      go_loopw [17] (fun v17 wr => ∃ i : Nat, i ≤ k ∧ v17 = .int .i64 (i : Int) ∧ Pw w wr m li lv2 dv2 M2 29 (true, 0) (T ++ [(true, 28)]) ∧ Rw w wr m li lv2 dv2 M2 (.slice ai inl.length ci) inl ∧ Bsd wr m li lv2 dv2 M2 v3.heap.size (.cells #[.bool true, .int .i64 28] 54 (0, 0))) (fun v17 wr => k - (intOf v17).toNat)
      case atStart => exact ⟨0, by omega, rfl, HP4.out, HR4.out, HS4.out⟩
      case round =>
        clear HP4 HR4 HS4
        obtain ⟨i, hi, rfl, hP, hR, hS⟩ := hrel
        by_cases hlt : i < k
        · obtain ⟨x, hx, he⟩ := HGE.out i hlt
          have t1 : (i : Int) < (k : Int) := by omega
          have t0 : (0 : Int) ≤ (i : Int) := by omega
          obtain ⟨a2, c2, e2, -, hc2⟩ := hR.cells
          obtain ⟨e3, -, e4⟩ := Value.slice.inj e2
          subst e3 e4
          obtain ⟨gw, rfl, -, -⟩ := hc2 (inl.length - k + i) (by omega)
          have hcw : ∀ u, Rw w u m li lv2 dv2 M2 (.slice (some ⟨gw, 0, none⟩) inl.length ci) inl → u.cell? ⟨gw, inl.length - k + i, none⟩ = some (.int .i64 x) := fun u h => by
            obtain ⟨a3, c3, e5, -, hc3⟩ := h.cells
            obtain ⟨g4, e6, e7, -⟩ := hc3 (inl.length - k + i) (by omega)
            obtain ⟨e8, -, -⟩ := Value.slice.inj e5
            rw [e6] at e8
            simp only [Option.some.injEq, Addr.mk.injEq, and_true] at e8
            obtain ⟨_, hx'⟩ := List.getElem?_eq_some_iff.1 hx
            rw [e8, e7, hx']
          have hg := pw_Get28 hP HA2.out (i : Int)
          rw [he] at hg
          dsimp only at hg
          have k16 : ∀ u, Bsd u m li lv2 dv2 M2 v3.heap.size (.cells #[.bool true, .int .i64 28] 54 (0, 0)) → u.cell? ⟨v3.heap.size, 1, none⟩ = some (.int .i64 28) := fun u h => cell_row _ _ 1 _ _ _ h.row
          have k1 := k16 _ hS
          have HG := Lib.hid hg; have HCW := Lib.hid hcw; have HP := Lib.hid hP; have HR := Lib.hid hR; have HS := Lib.hid hS
          clear hx he hc2 e2 hcw hg hP hR hS k16
          go_upto_region 26 with (first
            | (go_at_call 24; (with_reducible refine HG.out.mono ?_); rintro e v7 ⟨rfl, hb7⟩; have HB7 := Lib.hid (hb7.trans (((Below.refl v7.heap.size v7).alloc (Nat.le_refl _) (.cells #[.bool false, .int .i64 x] 54)).mono hb7.size)); clear hb7; dsimp only)
            | (refine wpList_store_row rfl 54 (Operand.tmp 18) (Operand.tmp 118) rfl v7.heap.size _ rfl rfl _ _ (heap_alloc_new v7 _) info2 (by rfl) (by simp [Value.oneCell']) ?_; rw [World.setRow_alloc_new]))
          have c0 := cell_row _ _ 0 _ _ _ (heap_alloc_new v7 (.cells #[.bool false, .int .i64 x] 54))
          have c1 := cell_row _ _ 1 _ _ _ (heap_alloc_new v7 (.cells #[.bool false, .int .i64 x] 54))
          rw [show (#[.bool false, .int .i64 x] : Array Value)[0]? = some (.bool false) from rfl] at c0
          rw [show (#[.bool false, .int .i64 x] : Array Value)[1]? = some (.int .i64 x) from rfl] at c1
          have cw := HCW.out _ (HR.out.below HB7.out)
          obtain ⟨p, hp⟩ : ∃ p : Nat, p = inl.length - k + i := ⟨_, rfl⟩
          have hix : (inl.length : Int) - (k : Int) + (i : Int) = (p : Int) := by omega
          have hw1 : IntKind.i64.wrap ((inl.length : Int) - (k : Int)) = (inl.length : Int) - (k : Int) := IntWalk.i64_in _ ⟨by omega, by omega⟩
          have hw2 : IntKind.i64.wrap ((inl.length : Int) - (k : Int) + (i : Int)) = (p : Int) := by rw [hix]; exact IntWalk.i64_in _ ⟨by omega, by omega⟩
          have t3 : (p : Int) < (inl.length : Int) := by omega
          have t4 : (0 : Int) ≤ (p : Int) := by omega
          rw [← hp] at cw
          have HP9 := Lib.hid (HP.out.below HB7.out); have HR9 := Lib.hid (HR.out.below HB7.out); have HS9 := Lib.hid (HS.out.below HB7.out)
          clear k1 HG HCW HP HR HS HB7 hp hix
          refine wp_region_held_drew (S := (fun w' => w'.cell? ⟨v7.heap.size, 0, none⟩ = some (.bool false) ∧ w'.cell? ⟨v7.heap.size, 1, none⟩ = some (.int .i64 x) ∧ w'.cell? ⟨gw, p, none⟩ = some (.int .i64 x))) (by kernel_rfl) ?_ (fun hH0 => ?_)
          · (try dsimp only); exact ⟨c0, c1, cw⟩
          refine wpAnyH_take (i := 0) (oi := { dst := some 119, op := Op.fieldAddr 54 (Operand.tmp 18) 0, type := 0, pos := "law.go:102", after := #[], guard := none }) (v := ?v1) rfl (by kernel_rfl) (by kernel_rfl) (by kernel_rfl) (fun _ _ _ h => h) (Or.inl ⟨by rfl, ?hy1⟩) (by assumption) ?_
          case hy1 => intro w hSw; (try dsimp only at hSw); go_simp; (try with_reducible rfl)
          try simp only [Act.put, List.setIfInBounds_toArray, List.set_cons_zero, List.set_cons_succ]
          refine wpAnyH_take (i := 1) (oi := { dst := some 120, op := Op.load 4 (Operand.tmp 119), type := 4, pos := "law.go:102", after := #[{ on := 0, ground := Ground.data }], guard := none }) (v := ?v2) rfl (by kernel_rfl) (by kernel_rfl) (by kernel_rfl) (fun _ _ _ h => h) (Or.inl ⟨by rfl, ?hy2⟩) (by assumption) ?_
          case hy2 => intro w hSw; (try dsimp only at hSw); go_simp; (try with_reducible rfl)
          try simp only [Act.put, List.setIfInBounds_toArray, List.set_cons_zero, List.set_cons_succ]
          refine wpAnyH_take (i := 2) (oi := { dst := some 121, op := Op.move (Operand.tmp 120), type := 4, pos := "law.go:102", after := #[{ on := 1, ground := Ground.data }], guard := none }) (v := ?v3) rfl (by kernel_rfl) (by kernel_rfl) (by kernel_rfl) (fun _ _ _ h => h) (Or.inl ⟨by rfl, ?hy3⟩) (by assumption) ?_
          case hy3 => intro w hSw; (try dsimp only at hSw); go_simp; (try with_reducible rfl)
          try simp only [Act.put, List.setIfInBounds_toArray, List.set_cons_zero, List.set_cons_succ]
          refine wpAnyH_take (i := 3) (oi := { dst := some 122, op := Op.fieldAddr 54 (Operand.tmp 18) 1, type := 0, pos := "law.go:102", after := #[{ on := 2, ground := Ground.guard }], guard := some (2, false) }) (v := ?v4) rfl (by kernel_rfl) (by kernel_rfl) (by kernel_rfl) (fun _ _ _ h => h) (Or.inl ⟨by rfl, ?hy4⟩) (by assumption) ?_
          case hy4 => intro w hSw; (try dsimp only at hSw); go_simp; (try with_reducible rfl)
          try simp only [Act.put, List.setIfInBounds_toArray, List.set_cons_zero, List.set_cons_succ]
          refine wpAnyH_take (i := 4) (oi := { dst := some 123, op := Op.load 3 (Operand.tmp 122), type := 3, pos := "law.go:102", after := #[{ on := 3, ground := Ground.data }, { on := 2, ground := Ground.guard }], guard := some (2, false) }) (v := ?v5) rfl (by kernel_rfl) (by kernel_rfl) (by kernel_rfl) (fun _ _ _ h => h) (Or.inl ⟨by rfl, ?hy5⟩) (by assumption) ?_
          case hy5 => intro w hSw; (try dsimp only at hSw); go_simp; (try with_reducible rfl)
          try simp only [Act.put, List.setIfInBounds_toArray, List.set_cons_zero, List.set_cons_succ]
          refine wpAnyH_take (i := 5) (oi := { dst := some 124, op := Op.move (Operand.tmp 12), type := 24, pos := "law.go:102", after := #[{ on := 2, ground := Ground.guard }], guard := some (2, false) }) (v := ?v6) rfl (by kernel_rfl) (by kernel_rfl) (by kernel_rfl) (fun _ _ _ h => h) (Or.inl ⟨by rfl, ?hy6⟩) (by assumption) ?_
          case hy6 => intro w hSw; (try dsimp only at hSw); go_simp; (try with_reducible rfl)
          try simp only [Act.put, List.setIfInBounds_toArray, List.set_cons_zero, List.set_cons_succ]
          refine wpAnyH_take (i := 6) (oi := { dst := some 125, op := Op.move (Operand.tmp 12), type := 24, pos := "law.go:102", after := #[{ on := 2, ground := Ground.guard }], guard := some (2, false) }) (v := ?v7) rfl (by kernel_rfl) (by kernel_rfl) (by kernel_rfl) (fun _ _ _ h => h) (Or.inl ⟨by rfl, ?hy7⟩) (by assumption) ?_
          case hy7 => intro w hSw; (try dsimp only at hSw); go_simp; (try with_reducible rfl)
          try simp only [Act.put, List.setIfInBounds_toArray, List.set_cons_zero, List.set_cons_succ]
          refine wpAnyH_take (i := 7) (oi := { dst := some 126, op := Op.call { callee := Callee.builtin Builtin.len, args := #[Operand.tmp 125], argTypes := #[24] }, type := 3, pos := "law.go:102", after := #[{ on := 6, ground := Ground.data }, { on := 2, ground := Ground.guard }], guard := some (2, false) }) (v := ?v8) rfl (by kernel_rfl) (by kernel_rfl) (by kernel_rfl) (fun _ _ _ h => h) (Or.inl ⟨by rfl, ?hy8⟩) (by assumption) ?_
          case hy8 => intro w hSw; (try dsimp only at hSw); go_simp; (try with_reducible rfl)
          try simp only [Act.put, List.setIfInBounds_toArray, List.set_cons_zero, List.set_cons_succ]
          refine wpAnyH_take (i := 8) (oi := { dst := some 127, op := Op.move (Operand.tmp 15), type := 3, pos := "law.go:102", after := #[{ on := 2, ground := Ground.guard }], guard := some (2, false) }) (v := ?v9) rfl (by kernel_rfl) (by kernel_rfl) (by kernel_rfl) (fun _ _ _ h => h) (Or.inl ⟨by rfl, ?hy9⟩) (by assumption) ?_
          case hy9 => intro w hSw; (try dsimp only at hSw); go_simp; (try with_reducible rfl)
          try simp only [Act.put, List.setIfInBounds_toArray, List.set_cons_zero, List.set_cons_succ]
          refine wpAnyH_take (i := 9) (oi := { dst := some 128, op := Op.binOp BinOp.sub 3 (Operand.tmp 126) (Operand.tmp 127) 3, type := 3, pos := "law.go:102", after := #[{ on := 7, ground := Ground.data }, { on := 8, ground := Ground.data }, { on := 2, ground := Ground.guard }], guard := some (2, false) }) (v := ?v10) rfl (by kernel_rfl) (by kernel_rfl) (by kernel_rfl) (fun _ _ _ h => h) (Or.inl ⟨by rfl, ?hy10⟩) (by assumption) ?_
          case hy10 => intro w hSw; (try dsimp only at hSw); go_simp; (try with_reducible rfl)
          try simp only [Act.put, List.setIfInBounds_toArray, List.set_cons_zero, List.set_cons_succ]
          refine wpAnyH_take (i := 10) (oi := { dst := some 129, op := Op.move (Operand.tmp 17), type := 3, pos := "law.go:102", after := #[{ on := 2, ground := Ground.guard }], guard := some (2, false) }) (v := ?v11) rfl (by kernel_rfl) (by kernel_rfl) (by kernel_rfl) (fun _ _ _ h => h) (Or.inl ⟨by rfl, ?hy11⟩) (by assumption) ?_
          case hy11 => intro w hSw; (try dsimp only at hSw); go_simp; (try with_reducible rfl)
          try simp only [Act.put, List.setIfInBounds_toArray, List.set_cons_zero, List.set_cons_succ]
          refine wpAnyH_take (i := 11) (oi := { dst := some 130, op := Op.binOp BinOp.add 3 (Operand.tmp 128) (Operand.tmp 129) 3, type := 3, pos := "law.go:102", after := #[{ on := 9, ground := Ground.data }, { on := 10, ground := Ground.data }, { on := 2, ground := Ground.guard }], guard := some (2, false) }) (v := ?v12) rfl (by kernel_rfl) (by kernel_rfl) (by kernel_rfl) (fun _ _ _ h => h) (Or.inl ⟨by rfl, ?hy12⟩) (by assumption) ?_
          case hy12 => intro w hSw; (try dsimp only at hSw); go_simp; (try with_reducible rfl)
          try simp only [Act.put, List.setIfInBounds_toArray, List.set_cons_zero, List.set_cons_succ]
          refine wpAnyH_take (i := 12) (oi := { dst := some 131, op := Op.indexAddr 24 (Operand.tmp 124) (Operand.tmp 130), type := 0, pos := "law.go:102", after := #[{ on := 5, ground := Ground.data }, { on := 11, ground := Ground.data }, { on := 2, ground := Ground.guard }], guard := some (2, false) }) (v := ?v13) rfl (by kernel_rfl) (by kernel_rfl) (by kernel_rfl) (fun _ _ _ h => h) (Or.inl ⟨by rfl, ?hy13⟩) (by assumption) ?_
          case hy13 => intro w hSw; (try dsimp only at hSw); go_simp; (try with_reducible rfl)
          try simp only [Act.put, List.setIfInBounds_toArray, List.set_cons_zero, List.set_cons_succ]
          refine wpAnyH_take (i := 13) (oi := { dst := some 132, op := Op.load 3 (Operand.tmp 131), type := 3, pos := "law.go:102", after := #[{ on := 12, ground := Ground.data }, { on := 2, ground := Ground.guard }], guard := some (2, false) }) (v := ?v14) rfl (by kernel_rfl) (by kernel_rfl) (by kernel_rfl) (fun _ _ _ h => h) (Or.inl ⟨by rfl, ?hy14⟩) (by assumption) ?_
          case hy14 => intro w hSw; (try dsimp only at hSw); go_simp; (try with_reducible rfl)
          try simp only [Act.put, List.setIfInBounds_toArray, List.set_cons_zero, List.set_cons_succ]
          refine wpAnyH_take (i := 14) (oi := { dst := some 133, op := Op.binOp BinOp.neq 3 (Operand.tmp 123) (Operand.tmp 132) 3, type := 4, pos := "law.go:102", after := #[{ on := 4, ground := Ground.data }, { on := 13, ground := Ground.data }, { on := 2, ground := Ground.guard }], guard := some (2, false) }) (v := ?v15) rfl (by kernel_rfl) (by kernel_rfl) (by kernel_rfl) (fun _ _ _ h => h) (Or.inl ⟨by rfl, ?hy15⟩) (by assumption) ?_
          case hy15 => intro w hSw; (try dsimp only at hSw); go_simp; (try with_reducible rfl)
          try simp only [Act.put, List.setIfInBounds_toArray, List.set_cons_zero, List.set_cons_succ]
          refine wpAnyH_take (i := 15) (oi := { dst := some 134, op := Op.pick (Operand.tmp 121) (Operand.const (Value.bool true)) (Operand.tmp 133), type := 4, pos := "law.go:102", after := #[{ on := 2, ground := Ground.data }, { on := 14, ground := Ground.data }], guard := none }) (v := ?v16) rfl (by kernel_rfl) (by kernel_rfl) (by kernel_rfl) (fun _ _ _ h => h) (Or.inl ⟨by rfl, ?hy16⟩) (by assumption) ?_
          case hy16 => intro w hSw; (try dsimp only at hSw); go_simp; (try with_reducible rfl)
          try simp only [Act.put, List.setIfInBounds_toArray, List.set_cons_zero, List.set_cons_succ]
          refine wpAnyH_done (by kernel_rfl) ?_ _
          go_wp2_with fail
          exact ⟨⟨i + 1, by omega, by simp, HP9.out.below (below_drew (Below.refl _ _)), HR9.out.below (below_drew (Below.refl _ _)), HS9.out.below (below_drew (Below.refl _ _))⟩, by simp only [intOf]; omega⟩
        · obtain rfl : i = k := by omega
          have HP := Lib.hid hP; have HR := Lib.hid hR; have HS := Lib.hid hS
          clear hP hR hS
          go_wp2_with fail
          go_meet
          exact ⟨_, rfl, HP.out, HR.out, HS.out⟩
    case rest =>
      obtain ⟨uy, rfl, hP, hR, hS⟩ := hcut
      have HP := Lib.hid hP; have HS := Lib.hid hS
      have hTL := HTL.out
      have hw1 : IntKind.i64.wrap ((inl.length : Int) - (k : Int)) = (inl.length : Int) - (k : Int) := IntWalk.i64_in _ ⟨by omega, by omega⟩
      have hmay : M2.may (true, 28) = true := by unfold MS.may; rw [if_pos rfl]; exact HA2.out.1
      have HMY := Lib.hid (fun (M5 : MS) (hd : M5.dead = M2.dead) => (show M5.may (true, 28) = true by have := HA2.out.1; unfold MS.may; rw [if_pos rfl]; unfold MS.has at this ⊢; rw [hd]; exact this))
      have HD5 := Lib.hid (pw_set hP hmay 0)
      clear HP4 HR4 HS4 HGE HTL hP hR hS hmay
      have hcs : T.length ≤ 10 ∨ T.length = 11 ∨ T.length = 12 := by omega
      rcases hcs with h10 | h11 | h12
      · obtain ⟨p8, hp8⟩ : ∃ p8 : Nat, p8 = 8 + T.length := ⟨_, rfl⟩
        obtain ⟨p9, hp9⟩ : ∃ p9 : Nat, p9 = p8 + 1 := ⟨_, rfl⟩
        obtain ⟨pa, hpa⟩ : ∃ pa : Nat, pa = p8 + 2 := ⟨_, rfl⟩
        obtain ⟨pb, hpb⟩ : ∃ pb : Nat, pb = p8 + 3 := ⟨_, rfl⟩
        have hw2 : IntKind.i64.wrap (8 + (inl.length : Int)) = 8 + (inl.length : Int) := IntWalk.i64_in _ ⟨by omega, by omega⟩
        have hw3 : IntKind.i64.wrap (8 + (inl.length : Int) - (k : Int)) = (p8 : Int) := by rw [show 8 + (inl.length : Int) - (k : Int) = (p8 : Int) by omega]; exact IntWalk.i64_in _ ⟨by omega, by omega⟩
        have hw4 : IntKind.i64.wrap ((p8 : Int) + 1) = (p9 : Int) := by rw [show (p8 : Int) + 1 = (p9 : Int) by omega]; exact IntWalk.i64_in _ ⟨by omega, by omega⟩
        have hw5 : IntKind.i64.wrap ((p8 : Int) + 2) = (pa : Int) := by rw [show (p8 : Int) + 2 = (pa : Int) by omega]; exact IntWalk.i64_in _ ⟨by omega, by omega⟩
        have hw6 : IntKind.i64.wrap ((p8 : Int) + 3) = (pb : Int) := by rw [show (p8 : Int) + 3 = (pb : Int) by omega]; exact IntWalk.i64_in _ ⟨by omega, by omega⟩
        have b0 : (0 : Int) ≤ (p8 : Int) := by omega
        have b1 : (p8 : Int) < 22 := by omega
        have b2 : (0 : Int) ≤ (p9 : Int) := by omega
        have b3 : (p9 : Int) < 22 := by omega
        have b4 : (0 : Int) ≤ (pa : Int) := by omega
        have b5 : (pa : Int) < 22 := by omega
        have b6 : (0 : Int) ≤ (pb : Int) := by omega
        have b7 : (pb : Int) < 22 := by omega
        have HPS : Hid (∀ i, i < 4 → elV (psF (true, 28) (T ++ [(true, 28)] ++ [(false, 4)] ++ [(false, 9)] ++ [(true, 26)])) (8 + (T.length : Int) + (i : Nat)) = ([(true, 28), (false, 4), (false, 9), (true, 26)] : List V)[i]?.getD (false, 0)) := Lib.hid fun i hi => by
          have hl : (T ++ [((true, 28) : V)] ++ [(false, 4)] ++ [(false, 9)] ++ [(true, 26)]).length = T.length + 4 := by simp
          have := psF_at (true, 28) (T ++ [(true, 28)] ++ [(false, 4)] ++ [(false, 9)] ++ [(true, 26)]) (T.length + i) (by omega)
          rw [show (8 : Int) + (T.length : Int) + (i : Nat) = 8 + ((T.length + i : Nat) : Int) by omega, this]
          have e : T ++ [((true, 28) : V)] ++ [(false, 4)] ++ [(false, 9)] ++ [(true, 26)] = T ++ [(true, 28), (false, 4), (false, 9), (true, 26)] := by simp
          have e2 : (T ++ [((true, 28) : V), (false, 4), (false, 9), (true, 26)])[T.length + i]? = ([(true, 28), (false, 4), (false, 9), (true, 26)] : List V)[i]? := by rw [List.getElem?_append_right (by omega), show T.length + i - T.length = i by omega]
          rw [← e2, ← e, List.getElem?_eq_getElem (by omega)]
          rfl
        have HPQ := Lib.hid (And.intro hp8 (And.intro hp9 (And.intro hpa hpb)))
        have HTQ := Lib.hid hTL
        clear hp8 hp9 hpa hpb hTL
        go_upto_region 32 with (first
          | (go_at_call 23; (with_reducible refine HD5.out.mono ?_); rintro e v5 ⟨rfl, M5, hP5, hN5, hd5⟩; have HP5 := Lib.hid hP5; have HS5 := Lib.hid (HS.out.nx hN5); have HD2 := Lib.hid (pw_temp hP5 (by omega) (HMY.out _ hd5) 0); clear hP5 hN5 hd5; dsimp only)
          | (go_at_call 23; (with_reducible refine HD2.out.mono ?_); rintro e v6 ⟨rfl, M6, hP6, hN6⟩; have HS6 := Lib.hid (HS5.out.nx hN6); have HD4 := Lib.hid (pw_fld hP6 (by simp; omega) 0); clear hP6 hN6; dsimp only)
          | (go_at_call 23; (with_reducible refine HD4.out.mono ?_); rintro e v7 ⟨rfl, M7, hP7, hN7⟩; have HS7 := Lib.hid (HS6.out.nx hN7); have HD3 := Lib.hid (pw_lit hP7 (by simp; omega) 0); clear hP7 hN7; dsimp only)
          | (go_at_call 23; (with_reducible refine HD3.out.mono ?_); rintro e v8 ⟨rfl, M8, hP8, hN8⟩; have HS8 := Lib.hid (HS7.out.nx hN8); have HD22 := Lib.hid (pw_frame hP8 (by simp; omega) 0 0); clear hP8 hN8; dsimp only)
          | (go_at_call 23; (with_reducible refine HD22.out.mono ?_); rintro e v9 ⟨rfl, M9, hP9, hN9⟩; have HS9 := Lib.hid (HS8.out.nx hN9); have HP9 := Lib.hid hP9; clear hP9 hN9; dsimp only)
          | (go_at_call 25; (with_reducible refine (pw_Thing26 HP9.out).mono ?_); rintro e va ⟨ra, rb, rc, rd, g, rp, rfl, hrow, hg, hba⟩; have HSa := Lib.hid (HS9.out.below hba); have HPa := Lib.hid (HP9.out.below hba); have HROW := Lib.hid hrow; clear hba hrow hg; dsimp only))
        obtain ⟨cs, hcs, htk⟩ := HROW.out
        obtain ⟨hp8, hp9, hpa, hpb⟩ := HPQ.out
        have hTL := HTQ.out
        have k16 : va.cell? ⟨v3.heap.size, 1, none⟩ = some (.int .i64 28) := cell_row _ _ 1 _ _ _ HSa.out.row
        have hcel : ∀ i, i < 4 → va.cell? ⟨g, (p8 + i) * 2, none⟩ = some (.bool ((([(true, 28), (false, 4), (false, 9), (true, 26)] : List V)[i]?.getD (false, 0)).1)) ∧ va.cell? ⟨g, (p8 + i) * 2 + 1, none⟩ = some (.int .i64 ((([(true, 28), (false, 4), (false, 9), (true, 26)] : List V)[i]?.getD (false, 0)).2)) := fun i hi => by
          have h1 := HPS.out i hi
          have hlen : (psF (true, 28) (T ++ [(true, 28)] ++ [(false, 4)] ++ [(false, 9)] ++ [(true, 26)])).length = 22 := psF_len _ _ (by simp; omega)
          have h2 := vals_at (psF (true, 28) (T ++ [(true, 28)] ++ [(false, 4)] ++ [(false, 9)] ++ [(true, 26)])) (k := p8 + i) (by omega)
          rw [show (8 : Int) + (T.length : Int) + (i : Nat) = ((p8 + i : Nat) : Int) by omega, elV_at (by omega)] at h1
          rw [h1] at h2
          exact ⟨(cell_row _ _ _ _ _ _ hcs).trans (take_at htk h2.1), (cell_row _ _ _ _ _ _ hcs).trans (take_at htk h2.2)⟩
        have y1 : va.cell? ⟨g, p8 * 2 + 1, none⟩ = some (.int .i64 28) := by have h := (hcel 0 (by decide)).2; rw [Nat.add_zero] at h; exact h
        have y3 : va.cell? ⟨g, p9 * 2 + 1, none⟩ = some (.int .i64 4) := by have h := (hcel 1 (by decide)).2; rw [← hp9] at h; exact h
        have y5 : va.cell? ⟨g, pa * 2 + 1, none⟩ = some (.int .i64 9) := by have h := (hcel 2 (by decide)).2; rw [← hpa] at h; exact h
        have y6 : va.cell? ⟨g, pb * 2, none⟩ = some (.bool true) := by have h := (hcel 3 (by decide)).1; rw [← hpb] at h; exact h
        have y7 : va.cell? ⟨g, pb * 2 + 1, none⟩ = some (.int .i64 26) := by have h := (hcel 3 (by decide)).2; rw [← hpb] at h; exact h
        have hgl : g < va.heap.size := (Array.getElem?_eq_some_iff.1 hcs).1
        have h3l : v3.heap.size < va.heap.size := (Array.getElem?_eq_some_iff.1 HSa.out.row).1
        have HKS : Hid (∀ u, Below va.heap.size va u → u.cell? ⟨v3.heap.size, 1, none⟩ = some (.int .i64 28) ∧ u.cell? ⟨g, p8 * 2 + 1, none⟩ = some (.int .i64 28) ∧ u.cell? ⟨g, p9 * 2 + 1, none⟩ = some (.int .i64 4) ∧ u.cell? ⟨g, pa * 2 + 1, none⟩ = some (.int .i64 9) ∧ u.cell? ⟨g, pb * 2, none⟩ = some (.bool true) ∧ u.cell? ⟨g, pb * 2 + 1, none⟩ = some (.int .i64 26)) := Lib.hid fun u hb => ⟨(hb.cell (p := ⟨v3.heap.size, 1, none⟩) h3l).trans k16, (hb.cell (p := ⟨g, p8 * 2 + 1, none⟩) hgl).trans y1, (hb.cell (p := ⟨g, p9 * 2 + 1, none⟩) hgl).trans y3, (hb.cell (p := ⟨g, pa * 2 + 1, none⟩) hgl).trans y5, (hb.cell (p := ⟨g, pb * 2, none⟩) hgl).trans y6, (hb.cell (p := ⟨g, pb * 2 + 1, none⟩) hgl).trans y7⟩
        clear hcel hcs htk HROW HPS hp8 hp9 hpa hpb h10 hTL HPQ HTQ y1 y3 y5 y6 y7 k16 hgl h3l HMY HD5 HP HS HP5 HS5 HS6 HS7 HS8 HS9 HP9
        simp only [List.append_eq, List.cons_append, List.nil_append]
        have HB := Lib.hid (below_drew (Below.refl va.heap.size va))
        refine wp_region_held_drew (S := (fun w' => w'.cell? ⟨v3.heap.size, 1, none⟩ = some (.int .i64 28) ∧ w'.cell? ⟨g, p8 * 2 + 1, none⟩ = some (.int .i64 28) ∧ w'.cell? ⟨g, p9 * 2 + 1, none⟩ = some (.int .i64 4) ∧ w'.cell? ⟨g, pa * 2 + 1, none⟩ = some (.int .i64 9) ∧ w'.cell? ⟨g, pb * 2, none⟩ = some (.bool true) ∧ w'.cell? ⟨g, pb * 2 + 1, none⟩ = some (.int .i64 26))) (by kernel_rfl) ?_ (fun hH0 => ?_)
        · (try dsimp only); exact HKS.out _ HB.out
        refine wpAnyH_take (i := 0) (oi := { dst := some 185, op := Op.move (Operand.tmp 20), type := 56, pos := "law.go:111", after := #[], guard := none }) (v := ?v17) rfl (by kernel_rfl) (by kernel_rfl) (by kernel_rfl) (fun _ _ _ h => h) (Or.inl ⟨by rfl, ?hy17⟩) (by assumption) ?_
        case hy17 => intro w hSw; (try dsimp only at hSw); go_simp; (try with_reducible rfl)
        try simp only [Act.put, List.setIfInBounds_toArray, List.set_cons_zero, List.set_cons_succ]
        refine wpAnyH_take (i := 1) (oi := { dst := some 186, op := Op.move (Operand.tmp 19), type := 3, pos := "law.go:111", after := #[], guard := none }) (v := ?v18) rfl (by kernel_rfl) (by kernel_rfl) (by kernel_rfl) (fun _ _ _ h => h) (Or.inl ⟨by rfl, ?hy18⟩) (by assumption) ?_
        case hy18 => intro w hSw; (try dsimp only at hSw); go_simp; (try with_reducible rfl)
        try simp only [Act.put, List.setIfInBounds_toArray, List.set_cons_zero, List.set_cons_succ]
        refine wpAnyH_take (i := 2) (oi := { dst := some 187, op := Op.indexAddr 56 (Operand.tmp 185) (Operand.tmp 186), type := 0, pos := "law.go:111", after := #[{ on := 0, ground := Ground.data }, { on := 1, ground := Ground.data }], guard := none }) (v := ?v19) rfl (by kernel_rfl) (by kernel_rfl) (by kernel_rfl) (fun _ _ _ h => h) (Or.inl ⟨by rfl, ?hy19⟩) (by assumption) ?_
        case hy19 => intro w hSw; (try dsimp only at hSw); go_simp; (try with_reducible rfl)
        try simp only [Act.put, List.setIfInBounds_toArray, List.set_cons_zero, List.set_cons_succ]
        refine wpAnyH_take (i := 3) (oi := { dst := some 188, op := Op.fieldAddr 54 (Operand.tmp 187) 1, type := 0, pos := "law.go:111", after := #[{ on := 2, ground := Ground.data }], guard := none }) (v := ?v20) rfl (by kernel_rfl) (by kernel_rfl) (by kernel_rfl) (fun _ _ _ h => h) (Or.inl ⟨by rfl, ?hy20⟩) (by assumption) ?_
        case hy20 => intro w hSw; (try dsimp only at hSw); go_simp; (try with_reducible rfl)
        try simp only [Act.put, List.setIfInBounds_toArray, List.set_cons_zero, List.set_cons_succ]
        refine wpAnyH_take (i := 4) (oi := { dst := some 189, op := Op.load 3 (Operand.tmp 188), type := 3, pos := "law.go:111", after := #[{ on := 3, ground := Ground.data }], guard := none }) (v := ?v21) rfl (by kernel_rfl) (by kernel_rfl) (by kernel_rfl) (fun _ _ _ h => h) (Or.inl ⟨by rfl, ?hy21⟩) (by assumption) ?_
        case hy21 => intro w hSw; (try dsimp only at hSw); go_simp; (try with_reducible rfl)
        try simp only [Act.put, List.setIfInBounds_toArray, List.set_cons_zero, List.set_cons_succ]
        refine wpAnyH_take (i := 5) (oi := { dst := some 190, op := Op.fieldAddr 54 (Operand.tmp 16) 1, type := 0, pos := "law.go:111", after := #[], guard := none }) (v := ?v22) rfl (by kernel_rfl) (by kernel_rfl) (by kernel_rfl) (fun _ _ _ h => h) (Or.inl ⟨by rfl, ?hy22⟩) (by assumption) ?_
        case hy22 => intro w hSw; (try dsimp only at hSw); go_simp; (try with_reducible rfl)
        try simp only [Act.put, List.setIfInBounds_toArray, List.set_cons_zero, List.set_cons_succ]
        refine wpAnyH_take (i := 6) (oi := { dst := some 191, op := Op.load 3 (Operand.tmp 190), type := 3, pos := "law.go:111", after := #[{ on := 5, ground := Ground.data }], guard := none }) (v := ?v23) rfl (by kernel_rfl) (by kernel_rfl) (by kernel_rfl) (fun _ _ _ h => h) (Or.inl ⟨by rfl, ?hy23⟩) (by assumption) ?_
        case hy23 => intro w hSw; (try dsimp only at hSw); go_simp; (try with_reducible rfl)
        try simp only [Act.put, List.setIfInBounds_toArray, List.set_cons_zero, List.set_cons_succ]
        refine wpAnyH_take (i := 7) (oi := { dst := some 192, op := Op.binOp BinOp.eql 3 (Operand.tmp 189) (Operand.tmp 191) 3, type := 4, pos := "law.go:111", after := #[{ on := 4, ground := Ground.data }, { on := 6, ground := Ground.data }], guard := none }) (v := ?v24) rfl (by kernel_rfl) (by kernel_rfl) (by kernel_rfl) (fun _ _ _ h => h) (Or.inl ⟨by rfl, ?hy24⟩) (by assumption) ?_
        case hy24 => intro w hSw; (try dsimp only at hSw); go_simp; (try with_reducible rfl)
        try simp only [Act.put, List.setIfInBounds_toArray, List.set_cons_zero, List.set_cons_succ]
        refine wpAnyH_take (i := 8) (oi := { dst := some 193, op := Op.move (Operand.tmp 192), type := 4, pos := "law.go:111", after := #[{ on := 7, ground := Ground.data }], guard := none }) (v := ?v25) rfl (by kernel_rfl) (by kernel_rfl) (by kernel_rfl) (fun _ _ _ h => h) (Or.inl ⟨by rfl, ?hy25⟩) (by assumption) ?_
        case hy25 => intro w hSw; (try dsimp only at hSw); go_simp; (try with_reducible rfl)
        try simp only [Act.put, List.setIfInBounds_toArray, List.set_cons_zero, List.set_cons_succ]
        refine wpAnyH_take (i := 9) (oi := { dst := some 194, op := Op.move (Operand.tmp 20), type := 56, pos := "law.go:111", after := #[{ on := 8, ground := Ground.guard }], guard := some (8, true) }) (v := ?v26) rfl (by kernel_rfl) (by kernel_rfl) (by kernel_rfl) (fun _ _ _ h => h) (Or.inl ⟨by rfl, ?hy26⟩) (by assumption) ?_
        case hy26 => intro w hSw; (try dsimp only at hSw); go_simp; (try with_reducible rfl)
        try simp only [Act.put, List.setIfInBounds_toArray, List.set_cons_zero, List.set_cons_succ]
        refine wpAnyH_take (i := 10) (oi := { dst := some 195, op := Op.move (Operand.tmp 19), type := 3, pos := "law.go:111", after := #[{ on := 8, ground := Ground.guard }], guard := some (8, true) }) (v := ?v27) rfl (by kernel_rfl) (by kernel_rfl) (by kernel_rfl) (fun _ _ _ h => h) (Or.inl ⟨by rfl, ?hy27⟩) (by assumption) ?_
        case hy27 => intro w hSw; (try dsimp only at hSw); go_simp; (try with_reducible rfl)
        try simp only [Act.put, List.setIfInBounds_toArray, List.set_cons_zero, List.set_cons_succ]
        refine wpAnyH_take (i := 11) (oi := { dst := some 196, op := Op.binOp BinOp.add 3 (Operand.tmp 195) (Operand.const (Value.int IntKind.i64 1)) 3, type := 3, pos := "law.go:111", after := #[{ on := 10, ground := Ground.data }, { on := 8, ground := Ground.guard }], guard := some (8, true) }) (v := ?v28) rfl (by kernel_rfl) (by kernel_rfl) (by kernel_rfl) (fun _ _ _ h => h) (Or.inl ⟨by rfl, ?hy28⟩) (by assumption) ?_
        case hy28 => intro w hSw; (try dsimp only at hSw); go_simp; (try with_reducible rfl)
        try simp only [Act.put, List.setIfInBounds_toArray, List.set_cons_zero, List.set_cons_succ]
        refine wpAnyH_take (i := 12) (oi := { dst := some 197, op := Op.indexAddr 56 (Operand.tmp 194) (Operand.tmp 196), type := 0, pos := "law.go:111", after := #[{ on := 9, ground := Ground.data }, { on := 11, ground := Ground.data }, { on := 8, ground := Ground.guard }], guard := some (8, true) }) (v := ?v29) rfl (by kernel_rfl) (by kernel_rfl) (by kernel_rfl) (fun _ _ _ h => h) (Or.inl ⟨by rfl, ?hy29⟩) (by assumption) ?_
        case hy29 => intro w hSw; (try dsimp only at hSw); go_simp; (try with_reducible rfl)
        try simp only [Act.put, List.setIfInBounds_toArray, List.set_cons_zero, List.set_cons_succ]
        refine wpAnyH_take (i := 13) (oi := { dst := some 198, op := Op.fieldAddr 54 (Operand.tmp 197) 1, type := 0, pos := "law.go:111", after := #[{ on := 12, ground := Ground.data }, { on := 8, ground := Ground.guard }], guard := some (8, true) }) (v := ?v30) rfl (by kernel_rfl) (by kernel_rfl) (by kernel_rfl) (fun _ _ _ h => h) (Or.inl ⟨by rfl, ?hy30⟩) (by assumption) ?_
        case hy30 => intro w hSw; (try dsimp only at hSw); go_simp; (try with_reducible rfl)
        try simp only [Act.put, List.setIfInBounds_toArray, List.set_cons_zero, List.set_cons_succ]
        refine wpAnyH_take (i := 14) (oi := { dst := some 199, op := Op.load 3 (Operand.tmp 198), type := 3, pos := "law.go:111", after := #[{ on := 13, ground := Ground.data }, { on := 8, ground := Ground.guard }], guard := some (8, true) }) (v := ?v31) rfl (by kernel_rfl) (by kernel_rfl) (by kernel_rfl) (fun _ _ _ h => h) (Or.inl ⟨by rfl, ?hy31⟩) (by assumption) ?_
        case hy31 => intro w hSw; (try dsimp only at hSw); go_simp; (try with_reducible rfl)
        try simp only [Act.put, List.setIfInBounds_toArray, List.set_cons_zero, List.set_cons_succ]
        refine wpAnyH_take (i := 15) (oi := { dst := some 200, op := Op.binOp BinOp.eql 3 (Operand.tmp 199) (Operand.const (Value.int IntKind.i64 4)) 3, type := 4, pos := "law.go:111", after := #[{ on := 14, ground := Ground.data }, { on := 8, ground := Ground.guard }], guard := some (8, true) }) (v := ?v32) rfl (by kernel_rfl) (by kernel_rfl) (by kernel_rfl) (fun _ _ _ h => h) (Or.inl ⟨by rfl, ?hy32⟩) (by assumption) ?_
        case hy32 => intro w hSw; (try dsimp only at hSw); go_simp; (try with_reducible rfl)
        try simp only [Act.put, List.setIfInBounds_toArray, List.set_cons_zero, List.set_cons_succ]
        refine wpAnyH_take (i := 16) (oi := { dst := some 201, op := Op.pick (Operand.tmp 193) (Operand.tmp 200) (Operand.const (Value.bool false)), type := 4, pos := "law.go:111", after := #[{ on := 8, ground := Ground.data }, { on := 15, ground := Ground.data }], guard := none }) (v := ?v33) rfl (by kernel_rfl) (by kernel_rfl) (by kernel_rfl) (fun _ _ _ h => h) (Or.inl ⟨by rfl, ?hy33⟩) (by assumption) ?_
        case hy33 => intro w hSw; (try dsimp only at hSw); go_simp; (try with_reducible rfl)
        try simp only [Act.put, List.setIfInBounds_toArray, List.set_cons_zero, List.set_cons_succ]
        refine wpAnyH_take (i := 17) (oi := { dst := some 202, op := Op.move (Operand.tmp 201), type := 4, pos := "law.go:111", after := #[{ on := 16, ground := Ground.data }, { on := 8, ground := Ground.chain }], guard := none }) (v := ?v34) rfl (by kernel_rfl) (by kernel_rfl) (by kernel_rfl) (fun _ _ _ h => h) (Or.inl ⟨by rfl, ?hy34⟩) (by assumption) ?_
        case hy34 => intro w hSw; (try dsimp only at hSw); go_simp; (try with_reducible rfl)
        try simp only [Act.put, List.setIfInBounds_toArray, List.set_cons_zero, List.set_cons_succ]
        refine wpAnyH_take (i := 18) (oi := { dst := some 203, op := Op.move (Operand.tmp 20), type := 56, pos := "law.go:111", after := #[{ on := 17, ground := Ground.guard }], guard := some (17, true) }) (v := ?v35) rfl (by kernel_rfl) (by kernel_rfl) (by kernel_rfl) (fun _ _ _ h => h) (Or.inl ⟨by rfl, ?hy35⟩) (by assumption) ?_
        case hy35 => intro w hSw; (try dsimp only at hSw); go_simp; (try with_reducible rfl)
        try simp only [Act.put, List.setIfInBounds_toArray, List.set_cons_zero, List.set_cons_succ]
        refine wpAnyH_take (i := 19) (oi := { dst := some 204, op := Op.move (Operand.tmp 19), type := 3, pos := "law.go:111", after := #[{ on := 17, ground := Ground.guard }], guard := some (17, true) }) (v := ?v36) rfl (by kernel_rfl) (by kernel_rfl) (by kernel_rfl) (fun _ _ _ h => h) (Or.inl ⟨by rfl, ?hy36⟩) (by assumption) ?_
        case hy36 => intro w hSw; (try dsimp only at hSw); go_simp; (try with_reducible rfl)
        try simp only [Act.put, List.setIfInBounds_toArray, List.set_cons_zero, List.set_cons_succ]
        refine wpAnyH_take (i := 20) (oi := { dst := some 205, op := Op.binOp BinOp.add 3 (Operand.tmp 204) (Operand.const (Value.int IntKind.i64 2)) 3, type := 3, pos := "law.go:111", after := #[{ on := 19, ground := Ground.data }, { on := 17, ground := Ground.guard }], guard := some (17, true) }) (v := ?v37) rfl (by kernel_rfl) (by kernel_rfl) (by kernel_rfl) (fun _ _ _ h => h) (Or.inl ⟨by rfl, ?hy37⟩) (by assumption) ?_
        case hy37 => intro w hSw; (try dsimp only at hSw); go_simp; (try with_reducible rfl)
        try simp only [Act.put, List.setIfInBounds_toArray, List.set_cons_zero, List.set_cons_succ]
        refine wpAnyH_take (i := 21) (oi := { dst := some 206, op := Op.indexAddr 56 (Operand.tmp 203) (Operand.tmp 205), type := 0, pos := "law.go:111", after := #[{ on := 18, ground := Ground.data }, { on := 20, ground := Ground.data }, { on := 17, ground := Ground.guard }], guard := some (17, true) }) (v := ?v38) rfl (by kernel_rfl) (by kernel_rfl) (by kernel_rfl) (fun _ _ _ h => h) (Or.inl ⟨by rfl, ?hy38⟩) (by assumption) ?_
        case hy38 => intro w hSw; (try dsimp only at hSw); go_simp; (try with_reducible rfl)
        try simp only [Act.put, List.setIfInBounds_toArray, List.set_cons_zero, List.set_cons_succ]
        refine wpAnyH_take (i := 22) (oi := { dst := some 207, op := Op.fieldAddr 54 (Operand.tmp 206) 1, type := 0, pos := "law.go:111", after := #[{ on := 21, ground := Ground.data }, { on := 17, ground := Ground.guard }], guard := some (17, true) }) (v := ?v39) rfl (by kernel_rfl) (by kernel_rfl) (by kernel_rfl) (fun _ _ _ h => h) (Or.inl ⟨by rfl, ?hy39⟩) (by assumption) ?_
        case hy39 => intro w hSw; (try dsimp only at hSw); go_simp; (try with_reducible rfl)
        try simp only [Act.put, List.setIfInBounds_toArray, List.set_cons_zero, List.set_cons_succ]
        refine wpAnyH_take (i := 23) (oi := { dst := some 208, op := Op.load 3 (Operand.tmp 207), type := 3, pos := "law.go:111", after := #[{ on := 22, ground := Ground.data }, { on := 17, ground := Ground.guard }], guard := some (17, true) }) (v := ?v40) rfl (by kernel_rfl) (by kernel_rfl) (by kernel_rfl) (fun _ _ _ h => h) (Or.inl ⟨by rfl, ?hy40⟩) (by assumption) ?_
        case hy40 => intro w hSw; (try dsimp only at hSw); go_simp; (try with_reducible rfl)
        try simp only [Act.put, List.setIfInBounds_toArray, List.set_cons_zero, List.set_cons_succ]
        refine wpAnyH_take (i := 24) (oi := { dst := some 209, op := Op.binOp BinOp.eql 3 (Operand.tmp 208) (Operand.const (Value.int IntKind.i64 9)) 3, type := 4, pos := "law.go:111", after := #[{ on := 23, ground := Ground.data }, { on := 17, ground := Ground.guard }], guard := some (17, true) }) (v := ?v41) rfl (by kernel_rfl) (by kernel_rfl) (by kernel_rfl) (fun _ _ _ h => h) (Or.inl ⟨by rfl, ?hy41⟩) (by assumption) ?_
        case hy41 => intro w hSw; (try dsimp only at hSw); go_simp; (try with_reducible rfl)
        try simp only [Act.put, List.setIfInBounds_toArray, List.set_cons_zero, List.set_cons_succ]
        refine wpAnyH_take (i := 25) (oi := { dst := some 210, op := Op.pick (Operand.tmp 202) (Operand.tmp 209) (Operand.const (Value.bool false)), type := 4, pos := "law.go:111", after := #[{ on := 17, ground := Ground.data }, { on := 24, ground := Ground.data }], guard := none }) (v := ?v42) rfl (by kernel_rfl) (by kernel_rfl) (by kernel_rfl) (fun _ _ _ h => h) (Or.inl ⟨by rfl, ?hy42⟩) (by assumption) ?_
        case hy42 => intro w hSw; (try dsimp only at hSw); go_simp; (try with_reducible rfl)
        try simp only [Act.put, List.setIfInBounds_toArray, List.set_cons_zero, List.set_cons_succ]
        refine wpAnyH_take (i := 26) (oi := { dst := some 211, op := Op.move (Operand.tmp 210), type := 4, pos := "law.go:111", after := #[{ on := 25, ground := Ground.data }, { on := 17, ground := Ground.chain }], guard := none }) (v := ?v43) rfl (by kernel_rfl) (by kernel_rfl) (by kernel_rfl) (fun _ _ _ h => h) (Or.inl ⟨by rfl, ?hy43⟩) (by assumption) ?_
        case hy43 => intro w hSw; (try dsimp only at hSw); go_simp; (try with_reducible rfl)
        try simp only [Act.put, List.setIfInBounds_toArray, List.set_cons_zero, List.set_cons_succ]
        refine wpAnyH_take (i := 27) (oi := { dst := some 212, op := Op.move (Operand.tmp 20), type := 56, pos := "law.go:111", after := #[{ on := 26, ground := Ground.guard }], guard := some (26, true) }) (v := ?v44) rfl (by kernel_rfl) (by kernel_rfl) (by kernel_rfl) (fun _ _ _ h => h) (Or.inl ⟨by rfl, ?hy44⟩) (by assumption) ?_
        case hy44 => intro w hSw; (try dsimp only at hSw); go_simp; (try with_reducible rfl)
        try simp only [Act.put, List.setIfInBounds_toArray, List.set_cons_zero, List.set_cons_succ]
        refine wpAnyH_take (i := 28) (oi := { dst := some 213, op := Op.move (Operand.tmp 19), type := 3, pos := "law.go:111", after := #[{ on := 26, ground := Ground.guard }], guard := some (26, true) }) (v := ?v45) rfl (by kernel_rfl) (by kernel_rfl) (by kernel_rfl) (fun _ _ _ h => h) (Or.inl ⟨by rfl, ?hy45⟩) (by assumption) ?_
        case hy45 => intro w hSw; (try dsimp only at hSw); go_simp; (try with_reducible rfl)
        try simp only [Act.put, List.setIfInBounds_toArray, List.set_cons_zero, List.set_cons_succ]
        refine wpAnyH_take (i := 29) (oi := { dst := some 214, op := Op.binOp BinOp.add 3 (Operand.tmp 213) (Operand.const (Value.int IntKind.i64 3)) 3, type := 3, pos := "law.go:111", after := #[{ on := 28, ground := Ground.data }, { on := 26, ground := Ground.guard }], guard := some (26, true) }) (v := ?v46) rfl (by kernel_rfl) (by kernel_rfl) (by kernel_rfl) (fun _ _ _ h => h) (Or.inl ⟨by rfl, ?hy46⟩) (by assumption) ?_
        case hy46 => intro w hSw; (try dsimp only at hSw); go_simp; (try with_reducible rfl)
        try simp only [Act.put, List.setIfInBounds_toArray, List.set_cons_zero, List.set_cons_succ]
        refine wpAnyH_take (i := 30) (oi := { dst := some 215, op := Op.indexAddr 56 (Operand.tmp 212) (Operand.tmp 214), type := 0, pos := "law.go:111", after := #[{ on := 27, ground := Ground.data }, { on := 29, ground := Ground.data }, { on := 26, ground := Ground.guard }], guard := some (26, true) }) (v := ?v47) rfl (by kernel_rfl) (by kernel_rfl) (by kernel_rfl) (fun _ _ _ h => h) (Or.inl ⟨by rfl, ?hy47⟩) (by assumption) ?_
        case hy47 => intro w hSw; (try dsimp only at hSw); go_simp; (try with_reducible rfl)
        try simp only [Act.put, List.setIfInBounds_toArray, List.set_cons_zero, List.set_cons_succ]
        refine wpAnyH_take (i := 31) (oi := { dst := some 216, op := Op.fieldAddr 54 (Operand.tmp 215) 0, type := 0, pos := "law.go:111", after := #[{ on := 30, ground := Ground.data }, { on := 26, ground := Ground.guard }], guard := some (26, true) }) (v := ?v48) rfl (by kernel_rfl) (by kernel_rfl) (by kernel_rfl) (fun _ _ _ h => h) (Or.inl ⟨by rfl, ?hy48⟩) (by assumption) ?_
        case hy48 => intro w hSw; (try dsimp only at hSw); go_simp; (try with_reducible rfl)
        try simp only [Act.put, List.setIfInBounds_toArray, List.set_cons_zero, List.set_cons_succ]
        refine wpAnyH_take (i := 32) (oi := { dst := some 217, op := Op.load 4 (Operand.tmp 216), type := 4, pos := "law.go:111", after := #[{ on := 31, ground := Ground.data }, { on := 26, ground := Ground.guard }], guard := some (26, true) }) (v := ?v49) rfl (by kernel_rfl) (by kernel_rfl) (by kernel_rfl) (fun _ _ _ h => h) (Or.inl ⟨by rfl, ?hy49⟩) (by assumption) ?_
        case hy49 => intro w hSw; (try dsimp only at hSw); go_simp; (try with_reducible rfl)
        try simp only [Act.put, List.setIfInBounds_toArray, List.set_cons_zero, List.set_cons_succ]
        refine wpAnyH_take (i := 33) (oi := { dst := some 218, op := Op.pick (Operand.tmp 211) (Operand.tmp 217) (Operand.const (Value.bool false)), type := 4, pos := "law.go:111", after := #[{ on := 26, ground := Ground.data }, { on := 32, ground := Ground.data }], guard := none }) (v := ?v50) rfl (by kernel_rfl) (by kernel_rfl) (by kernel_rfl) (fun _ _ _ h => h) (Or.inl ⟨by rfl, ?hy50⟩) (by assumption) ?_
        case hy50 => intro w hSw; (try dsimp only at hSw); go_simp; (try with_reducible rfl)
        try simp only [Act.put, List.setIfInBounds_toArray, List.set_cons_zero, List.set_cons_succ]
        refine wpAnyH_take (i := 34) (oi := { dst := some 219, op := Op.move (Operand.tmp 218), type := 4, pos := "law.go:111", after := #[{ on := 33, ground := Ground.data }, { on := 26, ground := Ground.chain }], guard := none }) (v := ?v51) rfl (by kernel_rfl) (by kernel_rfl) (by kernel_rfl) (fun _ _ _ h => h) (Or.inl ⟨by rfl, ?hy51⟩) (by assumption) ?_
        case hy51 => intro w hSw; (try dsimp only at hSw); go_simp; (try with_reducible rfl)
        try simp only [Act.put, List.setIfInBounds_toArray, List.set_cons_zero, List.set_cons_succ]
        refine wpAnyH_take (i := 35) (oi := { dst := some 220, op := Op.move (Operand.tmp 20), type := 56, pos := "law.go:111", after := #[{ on := 34, ground := Ground.guard }], guard := some (34, true) }) (v := ?v52) rfl (by kernel_rfl) (by kernel_rfl) (by kernel_rfl) (fun _ _ _ h => h) (Or.inl ⟨by rfl, ?hy52⟩) (by assumption) ?_
        case hy52 => intro w hSw; (try dsimp only at hSw); go_simp; (try with_reducible rfl)
        try simp only [Act.put, List.setIfInBounds_toArray, List.set_cons_zero, List.set_cons_succ]
        refine wpAnyH_take (i := 36) (oi := { dst := some 221, op := Op.move (Operand.tmp 19), type := 3, pos := "law.go:111", after := #[{ on := 34, ground := Ground.guard }], guard := some (34, true) }) (v := ?v53) rfl (by kernel_rfl) (by kernel_rfl) (by kernel_rfl) (fun _ _ _ h => h) (Or.inl ⟨by rfl, ?hy53⟩) (by assumption) ?_
        case hy53 => intro w hSw; (try dsimp only at hSw); go_simp; (try with_reducible rfl)
        try simp only [Act.put, List.setIfInBounds_toArray, List.set_cons_zero, List.set_cons_succ]
        refine wpAnyH_take (i := 37) (oi := { dst := some 222, op := Op.binOp BinOp.add 3 (Operand.tmp 221) (Operand.const (Value.int IntKind.i64 3)) 3, type := 3, pos := "law.go:111", after := #[{ on := 36, ground := Ground.data }, { on := 34, ground := Ground.guard }], guard := some (34, true) }) (v := ?v54) rfl (by kernel_rfl) (by kernel_rfl) (by kernel_rfl) (fun _ _ _ h => h) (Or.inl ⟨by rfl, ?hy54⟩) (by assumption) ?_
        case hy54 => intro w hSw; (try dsimp only at hSw); go_simp; (try with_reducible rfl)
        try simp only [Act.put, List.setIfInBounds_toArray, List.set_cons_zero, List.set_cons_succ]
        refine wpAnyH_take (i := 38) (oi := { dst := some 223, op := Op.indexAddr 56 (Operand.tmp 220) (Operand.tmp 222), type := 0, pos := "law.go:111", after := #[{ on := 35, ground := Ground.data }, { on := 37, ground := Ground.data }, { on := 34, ground := Ground.guard }], guard := some (34, true) }) (v := ?v55) rfl (by kernel_rfl) (by kernel_rfl) (by kernel_rfl) (fun _ _ _ h => h) (Or.inl ⟨by rfl, ?hy55⟩) (by assumption) ?_
        case hy55 => intro w hSw; (try dsimp only at hSw); go_simp; (try with_reducible rfl)
        try simp only [Act.put, List.setIfInBounds_toArray, List.set_cons_zero, List.set_cons_succ]
        refine wpAnyH_take (i := 39) (oi := { dst := some 224, op := Op.fieldAddr 54 (Operand.tmp 223) 1, type := 0, pos := "law.go:111", after := #[{ on := 38, ground := Ground.data }, { on := 34, ground := Ground.guard }], guard := some (34, true) }) (v := ?v56) rfl (by kernel_rfl) (by kernel_rfl) (by kernel_rfl) (fun _ _ _ h => h) (Or.inl ⟨by rfl, ?hy56⟩) (by assumption) ?_
        case hy56 => intro w hSw; (try dsimp only at hSw); go_simp; (try with_reducible rfl)
        try simp only [Act.put, List.setIfInBounds_toArray, List.set_cons_zero, List.set_cons_succ]
        refine wpAnyH_take (i := 40) (oi := { dst := some 225, op := Op.load 3 (Operand.tmp 224), type := 3, pos := "law.go:111", after := #[{ on := 39, ground := Ground.data }, { on := 34, ground := Ground.guard }], guard := some (34, true) }) (v := ?v57) rfl (by kernel_rfl) (by kernel_rfl) (by kernel_rfl) (fun _ _ _ h => h) (Or.inl ⟨by rfl, ?hy57⟩) (by assumption) ?_
        case hy57 => intro w hSw; (try dsimp only at hSw); go_simp; (try with_reducible rfl)
        try simp only [Act.put, List.setIfInBounds_toArray, List.set_cons_zero, List.set_cons_succ]
        refine wpAnyH_take (i := 41) (oi := { dst := some 226, op := Op.move (Operand.tmp 9), type := 3, pos := "law.go:111", after := #[{ on := 34, ground := Ground.guard }], guard := some (34, true) }) (v := ?v58) rfl (by kernel_rfl) (by kernel_rfl) (by kernel_rfl) (fun _ _ _ h => h) (Or.inl ⟨by rfl, ?hy58⟩) (by assumption) ?_
        case hy58 => intro w hSw; (try dsimp only at hSw); go_simp; (try with_reducible rfl)
        try simp only [Act.put, List.setIfInBounds_toArray, List.set_cons_zero, List.set_cons_succ]
        refine wpAnyH_take (i := 42) (oi := { dst := some 227, op := Op.binOp BinOp.eql 3 (Operand.tmp 225) (Operand.tmp 226) 3, type := 4, pos := "law.go:111", after := #[{ on := 40, ground := Ground.data }, { on := 41, ground := Ground.data }, { on := 34, ground := Ground.guard }], guard := some (34, true) }) (v := ?v59) rfl (by kernel_rfl) (by kernel_rfl) (by kernel_rfl) (fun _ _ _ h => h) (Or.inl ⟨by rfl, ?hy59⟩) (by assumption) ?_
        case hy59 => intro w hSw; (try dsimp only at hSw); go_simp; (try with_reducible rfl)
        try simp only [Act.put, List.setIfInBounds_toArray, List.set_cons_zero, List.set_cons_succ]
        refine wpAnyH_take (i := 43) (oi := { dst := some 228, op := Op.pick (Operand.tmp 219) (Operand.tmp 227) (Operand.const (Value.bool false)), type := 4, pos := "law.go:111", after := #[{ on := 34, ground := Ground.data }, { on := 42, ground := Ground.data }], guard := none }) (v := ?v60) rfl (by kernel_rfl) (by kernel_rfl) (by kernel_rfl) (fun _ _ _ h => h) (Or.inl ⟨by rfl, ?hy60⟩) (by assumption) ?_
        case hy60 => intro w hSw; (try dsimp only at hSw); go_simp; (try with_reducible rfl)
        try simp only [Act.put, List.setIfInBounds_toArray, List.set_cons_zero, List.set_cons_succ]
        refine wpAnyH_take (i := 44) (oi := { dst := some 229, op := Op.move (Operand.tmp 228), type := 4, pos := "law.go:111", after := #[{ on := 43, ground := Ground.data }, { on := 34, ground := Ground.chain }], guard := none }) (v := ?v61) rfl (by kernel_rfl) (by kernel_rfl) (by kernel_rfl) (fun _ _ _ h => h) (Or.inl ⟨by rfl, ?hy61⟩) (by assumption) ?_
        case hy61 => intro w hSw; (try dsimp only at hSw); go_simp; (try with_reducible rfl)
        try simp only [Act.put, List.setIfInBounds_toArray, List.set_cons_zero, List.set_cons_succ]
        refine wpAnyH_take (i := 45) (oi := { dst := some 230, op := Op.move (Operand.tmp 10), type := 35, pos := "law.go:111", after := #[{ on := 44, ground := Ground.guard }], guard := some (44, true) }) (v := ?v62) rfl (by kernel_rfl) (by kernel_rfl) (by kernel_rfl) (fun _ _ _ h => h) (Or.inl ⟨by rfl, ?hy62⟩) (by assumption) ?_
        case hy62 => intro w hSw; (try dsimp only at hSw); go_simp; (try with_reducible rfl)
        try simp only [Act.put, List.setIfInBounds_toArray, List.set_cons_zero, List.set_cons_succ]
        refine wpAnyH_take (i := 46) (oi := { dst := some 231, op := Op.move (Operand.tmp 9), type := 3, pos := "law.go:111", after := #[{ on := 44, ground := Ground.guard }], guard := some (44, true) }) (v := ?v63) rfl (by kernel_rfl) (by kernel_rfl) (by kernel_rfl) (fun _ _ _ h => h) (Or.inl ⟨by rfl, ?hy63⟩) (by assumption) ?_
        case hy63 => intro w hSw; (try dsimp only at hSw); go_simp; (try with_reducible rfl)
        try simp only [Act.put, List.setIfInBounds_toArray, List.set_cons_zero, List.set_cons_succ]
        refine wpAnyH_take (i := 47) (oi := { dst := some 232, op := Op.build 61 #[(0, Operand.const (Value.int IntKind.i64 3)), (1, Operand.const (Value.int IntKind.i64 1))], type := 61, pos := "law.go:111", after := #[{ on := 44, ground := Ground.guard }], guard := some (44, true) }) (v := ?v64) rfl (by kernel_rfl) (by kernel_rfl) (by kernel_rfl) (fun _ _ _ h => h) (Or.inl ⟨by rfl, ?hy64⟩) (by assumption) ?_
        case hy64 => intro w hSw; (try dsimp only at hSw); go_simp; (try with_reducible rfl)
        try simp only [Act.put, List.setIfInBounds_toArray, List.set_cons_zero, List.set_cons_succ]
        refine wpAnyH_ready (rs := [48]) (by kernel_rfl) (by simp) ?_
        refine AllReadyH.cons (o := { dst := some 233, op := Op.call { callee := Callee.value (Operand.func 23), args := #[Operand.tmp 230, Operand.tmp 231, Operand.tmp 232], argTypes := #[35, 3, 61] }, type := 4, pos := "law.go:111", after := #[{ on := 45, ground := Ground.data }, { on := 46, ground := Ground.data }, { on := 47, ground := Ground.data }, { on := 44, ground := Ground.chain }, { on := 44, ground := Ground.guard }], guard := some (44, true) }) rfl (fun K hK => ?_) AllReadyH.nil
        go_simp; go_at_call 23; (with_reducible refine (pw_lit_no (HPa.out.below HB.out) 0).mono ?_); rintro e vx ⟨rfl, hbx⟩; have HB := Lib.hid (HB.out.trans (hbx.mono HB.out.size)); clear hbx; dsimp only
        refine hK.out _ _ ?_ (fun hH1 => ?_)
        · (try dsimp only); exact HKS.out _ HB.out
        clear hK K
        clear hH0
        try simp only [Act.put, List.setIfInBounds_toArray, List.set_cons_zero, List.set_cons_succ]
        refine wpAnyH_take (i := 49) (oi := { dst := some 234, op := Op.unOp UnOp.not 4 (Operand.tmp 233), type := 4, pos := "law.go:111", after := #[{ on := 48, ground := Ground.data }, { on := 44, ground := Ground.guard }], guard := some (44, true) }) (v := ?v66) rfl (by kernel_rfl) (by kernel_rfl) (by kernel_rfl) (fun _ _ _ h => h) (Or.inl ⟨by rfl, ?hy66⟩) (by assumption) ?_
        case hy66 => intro w hSw; (try dsimp only at hSw); go_simp; (try with_reducible rfl)
        try simp only [Act.put, List.setIfInBounds_toArray, List.set_cons_zero, List.set_cons_succ]
        refine wpAnyH_take (i := 50) (oi := { dst := some 235, op := Op.pick (Operand.tmp 229) (Operand.tmp 234) (Operand.const (Value.bool false)), type := 4, pos := "law.go:111", after := #[{ on := 44, ground := Ground.data }, { on := 49, ground := Ground.data }], guard := none }) (v := ?v67) rfl (by kernel_rfl) (by kernel_rfl) (by kernel_rfl) (fun _ _ _ h => h) (Or.inl ⟨by rfl, ?hy67⟩) (by assumption) ?_
        case hy67 => intro w hSw; (try dsimp only at hSw); go_simp; (try with_reducible rfl)
        try simp only [Act.put, List.setIfInBounds_toArray, List.set_cons_zero, List.set_cons_succ]
        refine wpAnyH_take (i := 51) (oi := { dst := some 236, op := Op.move (Operand.tmp 235), type := 4, pos := "law.go:111", after := #[{ on := 50, ground := Ground.data }, { on := 48, ground := Ground.chain }], guard := none }) (v := ?v68) rfl (by kernel_rfl) (by kernel_rfl) (by kernel_rfl) (fun _ _ _ h => h) (Or.inl ⟨by rfl, ?hy68⟩) (by assumption) ?_
        case hy68 => intro w hSw; (try dsimp only at hSw); go_simp; (try with_reducible rfl)
        try simp only [Act.put, List.setIfInBounds_toArray, List.set_cons_zero, List.set_cons_succ]
        refine wpAnyH_take (i := 52) (oi := { dst := some 237, op := Op.move (Operand.tmp 10), type := 35, pos := "law.go:111", after := #[{ on := 51, ground := Ground.guard }], guard := some (51, true) }) (v := ?v69) rfl (by kernel_rfl) (by kernel_rfl) (by kernel_rfl) (fun _ _ _ h => h) (Or.inl ⟨by rfl, ?hy69⟩) (by assumption) ?_
        case hy69 => intro w hSw; (try dsimp only at hSw); go_simp; (try with_reducible rfl)
        try simp only [Act.put, List.setIfInBounds_toArray, List.set_cons_zero, List.set_cons_succ]
        refine wpAnyH_take (i := 53) (oi := { dst := some 238, op := Op.move (Operand.tmp 9), type := 3, pos := "law.go:111", after := #[{ on := 51, ground := Ground.guard }], guard := some (51, true) }) (v := ?v70) rfl (by kernel_rfl) (by kernel_rfl) (by kernel_rfl) (fun _ _ _ h => h) (Or.inl ⟨by rfl, ?hy70⟩) (by assumption) ?_
        case hy70 => intro w hSw; (try dsimp only at hSw); go_simp; (try with_reducible rfl)
        try simp only [Act.put, List.setIfInBounds_toArray, List.set_cons_zero, List.set_cons_succ]
        refine wpAnyH_take (i := 54) (oi := { dst := some 239, op := Op.build 61 #[(0, Operand.const (Value.int IntKind.i64 10)), (1, Operand.const (Value.int IntKind.i64 3))], type := 61, pos := "law.go:111", after := #[{ on := 51, ground := Ground.guard }], guard := some (51, true) }) (v := ?v71) rfl (by kernel_rfl) (by kernel_rfl) (by kernel_rfl) (fun _ _ _ h => h) (Or.inl ⟨by rfl, ?hy71⟩) (by assumption) ?_
        case hy71 => intro w hSw; (try dsimp only at hSw); go_simp; (try with_reducible rfl)
        try simp only [Act.put, List.setIfInBounds_toArray, List.set_cons_zero, List.set_cons_succ]
        refine wpAnyH_ready (rs := [55]) (by kernel_rfl) (by simp) ?_
        refine AllReadyH.cons (o := { dst := some 240, op := Op.call { callee := Callee.value (Operand.func 23), args := #[Operand.tmp 237, Operand.tmp 238, Operand.tmp 239], argTypes := #[35, 3, 61] }, type := 4, pos := "law.go:111", after := #[{ on := 52, ground := Ground.data }, { on := 53, ground := Ground.data }, { on := 54, ground := Ground.data }, { on := 51, ground := Ground.chain }, { on := 51, ground := Ground.guard }], guard := some (51, true) }) rfl (fun K hK => ?_) AllReadyH.nil
        go_simp; go_at_call 23; (with_reducible refine (pw_const_no (HPa.out.below HB.out) 0).mono ?_); rintro e vx ⟨rfl, hbx⟩; have HB := Lib.hid (HB.out.trans (hbx.mono HB.out.size)); clear hbx; dsimp only
        refine hK.out _ _ ?_ (fun hH2 => ?_)
        · (try dsimp only); exact HKS.out _ HB.out
        clear hK K
        clear hH1
        try simp only [Act.put, List.setIfInBounds_toArray, List.set_cons_zero, List.set_cons_succ]
        refine wpAnyH_take (i := 56) (oi := { dst := some 241, op := Op.unOp UnOp.not 4 (Operand.tmp 240), type := 4, pos := "law.go:111", after := #[{ on := 55, ground := Ground.data }, { on := 51, ground := Ground.guard }], guard := some (51, true) }) (v := ?v73) rfl (by kernel_rfl) (by kernel_rfl) (by kernel_rfl) (fun _ _ _ h => h) (Or.inl ⟨by rfl, ?hy73⟩) (by assumption) ?_
        case hy73 => intro w hSw; (try dsimp only at hSw); go_simp; (try with_reducible rfl)
        try simp only [Act.put, List.setIfInBounds_toArray, List.set_cons_zero, List.set_cons_succ]
        refine wpAnyH_take (i := 57) (oi := { dst := some 242, op := Op.pick (Operand.tmp 236) (Operand.tmp 241) (Operand.const (Value.bool false)), type := 4, pos := "law.go:111", after := #[{ on := 51, ground := Ground.data }, { on := 56, ground := Ground.data }], guard := none }) (v := ?v74) rfl (by kernel_rfl) (by kernel_rfl) (by kernel_rfl) (fun _ _ _ h => h) (Or.inl ⟨by rfl, ?hy74⟩) (by assumption) ?_
        case hy74 => intro w hSw; (try dsimp only at hSw); go_simp; (try with_reducible rfl)
        try simp only [Act.put, List.setIfInBounds_toArray, List.set_cons_zero, List.set_cons_succ]
        refine wpAnyH_take (i := 58) (oi := { dst := some 243, op := Op.move (Operand.tmp 242), type := 4, pos := "law.go:111", after := #[{ on := 57, ground := Ground.data }, { on := 55, ground := Ground.chain }], guard := none }) (v := ?v75) rfl (by kernel_rfl) (by kernel_rfl) (by kernel_rfl) (fun _ _ _ h => h) (Or.inl ⟨by rfl, ?hy75⟩) (by assumption) ?_
        case hy75 => intro w hSw; (try dsimp only at hSw); go_simp; (try with_reducible rfl)
        try simp only [Act.put, List.setIfInBounds_toArray, List.set_cons_zero, List.set_cons_succ]
        refine wpAnyH_take (i := 59) (oi := { dst := some 244, op := Op.move (Operand.tmp 10), type := 35, pos := "law.go:111", after := #[{ on := 58, ground := Ground.guard }], guard := some (58, true) }) (v := ?v76) rfl (by kernel_rfl) (by kernel_rfl) (by kernel_rfl) (fun _ _ _ h => h) (Or.inl ⟨by rfl, ?hy76⟩) (by assumption) ?_
        case hy76 => intro w hSw; (try dsimp only at hSw); go_simp; (try with_reducible rfl)
        try simp only [Act.put, List.setIfInBounds_toArray, List.set_cons_zero, List.set_cons_succ]
        refine wpAnyH_take (i := 60) (oi := { dst := some 245, op := Op.move (Operand.tmp 9), type := 3, pos := "law.go:111", after := #[{ on := 58, ground := Ground.guard }], guard := some (58, true) }) (v := ?v77) rfl (by kernel_rfl) (by kernel_rfl) (by kernel_rfl) (fun _ _ _ h => h) (Or.inl ⟨by rfl, ?hy77⟩) (by assumption) ?_
        case hy77 => intro w hSw; (try dsimp only at hSw); go_simp; (try with_reducible rfl)
        try simp only [Act.put, List.setIfInBounds_toArray, List.set_cons_zero, List.set_cons_succ]
        refine wpAnyH_take (i := 61) (oi := { dst := some 246, op := Op.build 61 #[(0, Operand.const (Value.int IntKind.i64 11))], type := 61, pos := "law.go:111", after := #[{ on := 58, ground := Ground.guard }], guard := some (58, true) }) (v := ?v78) rfl (by kernel_rfl) (by kernel_rfl) (by kernel_rfl) (fun _ _ _ h => h) (Or.inl ⟨by rfl, ?hy78⟩) (by assumption) ?_
        case hy78 => intro w hSw; (try dsimp only at hSw); go_simp; (try with_reducible rfl)
        try simp only [Act.put, List.setIfInBounds_toArray, List.set_cons_zero, List.set_cons_succ]
        refine wpAnyH_ready (rs := [62]) (by kernel_rfl) (by simp) ?_
        refine AllReadyH.cons (o := { dst := some 247, op := Op.call { callee := Callee.value (Operand.func 23), args := #[Operand.tmp 244, Operand.tmp 245, Operand.tmp 246], argTypes := #[35, 3, 61] }, type := 4, pos := "law.go:111", after := #[{ on := 59, ground := Ground.data }, { on := 60, ground := Ground.data }, { on := 61, ground := Ground.data }, { on := 58, ground := Ground.chain }, { on := 58, ground := Ground.guard }], guard := some (58, true) }) rfl (fun K hK => ?_) AllReadyH.nil
        go_simp; go_at_call 23; (with_reducible refine (pw_11 (HPa.out.below HB.out) 0 0).mono ?_); rintro e vx ⟨rfl, hbx⟩; have HB := Lib.hid (HB.out.trans (hbx.mono HB.out.size)); clear hbx; dsimp only
        refine hK.out _ _ ?_ (fun hH3 => ?_)
        · (try dsimp only); exact HKS.out _ HB.out
        clear hK K
        clear hH2
        try simp only [Act.put, List.setIfInBounds_toArray, List.set_cons_zero, List.set_cons_succ]
        refine wpAnyH_take (i := 63) (oi := { dst := some 248, op := Op.unOp UnOp.not 4 (Operand.tmp 247), type := 4, pos := "law.go:111", after := #[{ on := 62, ground := Ground.data }, { on := 58, ground := Ground.guard }], guard := some (58, true) }) (v := ?v80) rfl (by kernel_rfl) (by kernel_rfl) (by kernel_rfl) (fun _ _ _ h => h) (Or.inl ⟨by rfl, ?hy80⟩) (by assumption) ?_
        case hy80 => intro w hSw; (try dsimp only at hSw); go_simp; (try with_reducible rfl)
        try simp only [Act.put, List.setIfInBounds_toArray, List.set_cons_zero, List.set_cons_succ]
        refine wpAnyH_take (i := 64) (oi := { dst := some 249, op := Op.pick (Operand.tmp 243) (Operand.tmp 248) (Operand.const (Value.bool false)), type := 4, pos := "law.go:111", after := #[{ on := 58, ground := Ground.data }, { on := 63, ground := Ground.data }], guard := none }) (v := ?v81) rfl (by kernel_rfl) (by kernel_rfl) (by kernel_rfl) (fun _ _ _ h => h) (Or.inl ⟨by rfl, ?hy81⟩) (by assumption) ?_
        case hy81 => intro w hSw; (try dsimp only at hSw); go_simp; (try with_reducible rfl)
        try simp only [Act.put, List.setIfInBounds_toArray, List.set_cons_zero, List.set_cons_succ]
        refine wpAnyH_take (i := 65) (oi := { dst := some 250, op := Op.move (Operand.tmp 249), type := 4, pos := "law.go:111", after := #[{ on := 64, ground := Ground.data }, { on := 62, ground := Ground.chain }], guard := none }) (v := ?v82) rfl (by kernel_rfl) (by kernel_rfl) (by kernel_rfl) (fun _ _ _ h => h) (Or.inl ⟨by rfl, ?hy82⟩) (by assumption) ?_
        case hy82 => intro w hSw; (try dsimp only at hSw); go_simp; (try with_reducible rfl)
        try simp only [Act.put, List.setIfInBounds_toArray, List.set_cons_zero, List.set_cons_succ]
        refine wpAnyH_ready (rs := [66]) (by kernel_rfl) (by simp) ?_
        refine AllReadyH.cons (o := { dst := some 251, op := Op.call { callee := Callee.value (Operand.func 10), args := #[], argTypes := #[] }, type := 4, pos := "law.go:111", after := #[{ on := 65, ground := Ground.chain }, { on := 65, ground := Ground.guard }], guard := some (65, true) }) rfl (fun K hK => ?_) AllReadyH.nil
        go_simp; go_at_call 10; (with_reducible refine (sm_awake _).mono ?_); rintro e vx ⟨rfl, hbx⟩; have HB := Lib.hid (HB.out.trans (hbx.mono HB.out.size)); clear hbx; dsimp only
        refine hK.out _ _ ?_ (fun hH4 => ?_)
        · (try dsimp only); exact HKS.out _ HB.out
        clear hK K
        clear hH3
        try simp only [Act.put, List.setIfInBounds_toArray, List.set_cons_zero, List.set_cons_succ]
        refine wpAnyH_take (i := 67) (oi := { dst := some 252, op := Op.pick (Operand.tmp 250) (Operand.tmp 251) (Operand.const (Value.bool false)), type := 4, pos := "law.go:111", after := #[{ on := 65, ground := Ground.data }, { on := 66, ground := Ground.data }], guard := none }) (v := ?v84) rfl (by kernel_rfl) (by kernel_rfl) (by kernel_rfl) (fun _ _ _ h => h) (Or.inl ⟨by rfl, ?hy84⟩) (by assumption) ?_
        case hy84 => intro w hSw; (try dsimp only at hSw); go_simp; (try with_reducible rfl)
        try simp only [Act.put, List.setIfInBounds_toArray, List.set_cons_zero, List.set_cons_succ]
        refine wpAnyH_take (i := 68) (oi := { dst := some 4, op := Op.assign (Operand.tmp 252), type := 4, pos := "law.go:111", after := ([{ on := 67, ground := Ground.data }, { on := 66, ground := Ground.chain }, { on := 0, ground := Ground.phase }, { on := 1, ground := Ground.phase }, { on := 2, ground := Ground.phase }, { on := 3, ground := Ground.phase }, { on := 4, ground := Ground.phase }, { on := 5, ground := Ground.phase }, { on := 6, ground := Ground.phase }, { on := 7, ground := Ground.phase }, { on := 8, ground := Ground.phase }, { on := 9, ground := Ground.phase }, { on := 10, ground := Ground.phase }, { on := 11, ground := Ground.phase }, { on := 12, ground := Ground.phase }, { on := 13, ground := Ground.phase }, { on := 14, ground := Ground.phase }, { on := 15, ground := Ground.phase }, { on := 16, ground := Ground.phase }, { on := 17, ground := Ground.phase }, { on := 18, ground := Ground.phase }, { on := 19, ground := Ground.phase }, { on := 20, ground := Ground.phase }, { on := 21, ground := Ground.phase }, { on := 22, ground := Ground.phase }, { on := 23, ground := Ground.phase }, { on := 24, ground := Ground.phase }, { on := 25, ground := Ground.phase }, { on := 26, ground := Ground.phase }, { on := 27, ground := Ground.phase }, { on := 28, ground := Ground.phase }, { on := 29, ground := Ground.phase }, { on := 30, ground := Ground.phase }, { on := 31, ground := Ground.phase }, { on := 32, ground := Ground.phase }].append [{ on := 33, ground := Ground.phase }, { on := 34, ground := Ground.phase }, { on := 35, ground := Ground.phase }, { on := 36, ground := Ground.phase }, { on := 37, ground := Ground.phase }, { on := 38, ground := Ground.phase }, { on := 39, ground := Ground.phase }, { on := 40, ground := Ground.phase }, { on := 41, ground := Ground.phase }, { on := 42, ground := Ground.phase }, { on := 43, ground := Ground.phase }, { on := 44, ground := Ground.phase }, { on := 45, ground := Ground.phase }, { on := 46, ground := Ground.phase }, { on := 47, ground := Ground.phase }, { on := 48, ground := Ground.phase }, { on := 49, ground := Ground.phase }, { on := 50, ground := Ground.phase }, { on := 51, ground := Ground.phase }, { on := 52, ground := Ground.phase }, { on := 53, ground := Ground.phase }, { on := 54, ground := Ground.phase }, { on := 55, ground := Ground.phase }, { on := 56, ground := Ground.phase }, { on := 57, ground := Ground.phase }, { on := 58, ground := Ground.phase }, { on := 59, ground := Ground.phase }, { on := 60, ground := Ground.phase }, { on := 61, ground := Ground.phase }, { on := 62, ground := Ground.phase }, { on := 63, ground := Ground.phase }, { on := 64, ground := Ground.phase }, { on := 65, ground := Ground.phase }, { on := 66, ground := Ground.phase }, { on := 67, ground := Ground.phase }]).toArray, guard := none }) (v := ?v85) rfl (by kernel_rfl) (by kernel_rfl) (by kernel_rfl) (fun _ _ _ h => h) (Or.inl ⟨by rfl, ?hy85⟩) (by assumption) ?_
        case hy85 => intro w hSw; (try dsimp only at hSw); go_simp; (try with_reducible rfl)
        try simp only [Act.put, List.setIfInBounds_toArray, List.set_cons_zero, List.set_cons_succ]
        refine wpAnyH_done (by kernel_rfl) ?_ _
        go_wp2_with fail
        go_ret
        exact ⟨rfl, (HPa.out.below HB.out).st.bel⟩
      · have hgt : (10 : Int) < (inl.length : Int) - (k : Int) := by omega
        clear hTL
        go_wp2_with (first
          | (go_at_call 23; (with_reducible refine HD5.out.mono ?_); rintro e v5 ⟨rfl, M5, hP5, hN5, hd5⟩; have HP5 := Lib.hid hP5; have HD2 := Lib.hid (pw_temp hP5 (by omega) (HMY.out _ hd5) 0); clear hP5 hN5 hd5; dsimp only)
          | (go_at_call 23; (with_reducible refine HD2.out.mono ?_); rintro e v6 ⟨rfl, M6, hP6, hN6⟩; have HD4 := Lib.hid (pw_fld hP6 (by simp; omega) 0); clear hP6 hN6; dsimp only)
          | (go_at_call 23; (with_reducible refine HD4.out.mono ?_); rintro e v7 ⟨rfl, M7, hP7, hN7⟩; have HD3 := Lib.hid (pw_lit hP7 (by simp; omega) 0); clear hP7 hN7; dsimp only)
          | (go_at_call 23; (with_reducible refine HD3.out.mono ?_); rintro e v8 ⟨rfl, M8, hP8, hN8⟩; have HD22 := Lib.hid (pw_frame_full hP8 (by simp; omega) 0 0); clear hP8 hN8; dsimp only)
          | (go_at_call 23; (with_reducible refine HD22.out.mono ?_); rintro e v9 ⟨rfl, M9, hP9, hN9⟩; have HP9 := Lib.hid hP9; clear hP9 hN9; dsimp only)
          | (go_at_call 10; (with_reducible refine (sm_awake _).mono ?_); rintro e vb4 ⟨rfl, hb4⟩; have HPe := Lib.hid (HP9.out.below hb4); clear hb4; dsimp only))
        go_ret
        exact ⟨rfl, HPe.out.st.bel⟩
      · have hgt : (10 : Int) < (inl.length : Int) - (k : Int) := by omega
        clear hTL
        go_wp2_with (first
          | (go_at_call 23; (with_reducible refine HD5.out.mono ?_); rintro e v5 ⟨rfl, M5, hP5, hN5, hd5⟩; have HP5 := Lib.hid hP5; have HD2 := Lib.hid (pw_temp hP5 (by omega) (HMY.out _ hd5) 0); clear hP5 hN5 hd5; dsimp only)
          | (go_at_call 23; (with_reducible refine HD2.out.mono ?_); rintro e v6 ⟨rfl, M6, hP6, hN6⟩; have HD4 := Lib.hid (pw_fld hP6 (by simp; omega) 0); clear hP6 hN6; dsimp only)
          | (go_at_call 23; (with_reducible refine HD4.out.mono ?_); rintro e v7 ⟨rfl, M7, hP7, hN7⟩; have HD3 := Lib.hid (pw_lit_full hP7 (by simp; omega) 0); clear hP7 hN7; dsimp only)
          | (go_at_call 23; (with_reducible refine HD3.out.mono ?_); rintro e v8 ⟨rfl, M8, hP8, hN8⟩; have HP9 := Lib.hid hP8; clear hP8 hN8; dsimp only)
          | (go_at_call 10; (with_reducible refine (sm_awake _).mono ?_); rintro e vb4 ⟨rfl, hb4⟩; have HPe := Lib.hid (HP9.out.below hb4); clear hb4; dsimp only))
        go_ret
        exact ⟨rfl, HPe.out.st.bel⟩

/-! ### THE ROW's STEP: WRITTEN OUT: LEAVE IT -/
set_option maxRecDepth 100000 in
theorem lifted (os : Os) (started : os.Started) (H : Type) (enc : TypeId × Value → H) :
    ReturnsInHanded {} Tryz.checked os 4 .any (Rows.simplePushesSpec.pre6 enc Tryz.prog Tryz.f4 Rows.simplePushesRow.domain false) (Rows.simplePushesSpec.post enc Tryz.prog Tryz.f4 false true false false) := by
  refine returnsInHanded_of_change (C := Tryz.checked) own started (by kernel_rfl) Tryz.func4
    (ChangeSpec.witness6 (enc := enc) (C := Tryz.checked) false ⟨#[], #[.slice none 0 0, .int .i64 0], []⟩ 8 (by kernel_rfl) (by kernel_rfl) (by kernel_rfl) (by kernel_rfl)) ?_
  intro W base args ds gs before hval0 hW hcnd _
  have hval : ∀ (j : Nat) t v, Tryz.f4.params[j]? = some t → args[j]? = some v → Value.okWide Tryz.prog W .any base t v := hval0
  have hW' := hW
  obtain ⟨p, q, hA0, hV, rfl, hfz, hnd⟩ := hW
  have hA : DataW.TrodAll enc Tryz.prog W 0 (fun _ => true) true Tryz.f4.params.toList args.toList ds p := hA0
  rw [Tryz.params4] at hA hval
  obtain ⟨v0, vs0, d0, ds0, p0, q0, hargs, rfl, rfl, h0, r0⟩ := trodAll_cons hA
  obtain ⟨v1, vs1, d1, ds1, p1, q1, rfl, rfl, rfl, h1, r1⟩ := trodAll_cons r0
  obtain ⟨rfl, rfl, rfl⟩ := trodAll_nil r1
  obtain rfl : args = #[v0, v1] := by cases args; simp_all
  obtain ⟨rfl, rfl⟩ := trodVars_none hV
  obtain ⟨a0, len0, cap0, rfl⟩ := okWide_slice Tryz.underlying24 (hval 0 24 v0 rfl rfl)
  have k0 := h0
  have lt0 : ∀ x ∈ p0, x.block < W.heap.size := by obtain ⟨m, hm⟩ := k0; exact DataW.trod_lt m _ _ _ hm
  obtain ⟨z0, w0⟩ : ∃ zs, IsRow .i64 W a0 len0 cap0 zs := by
    obtain ⟨fuel, hf⟩ := h0
    rcases open_ints Tryz.underlying24 Tryz.underlying3 (by kernel_rfl) hf with ⟨hcs, _⟩ | ⟨x, l, c, zs, hcs, _, hl, hm, hz, _, hcell, hwz⟩
    · simp [Value.cells] at hcs
      obtain ⟨rfl, rfl, rfl⟩ := hcs
      exact ⟨[], .inl ⟨rfl, rfl, rfl, rfl⟩⟩
    · simp [Value.cells] at hcs
      obtain ⟨rfl, rfl, rfl⟩ := hcs
      exact ⟨zs, .inr ⟨_, rfl, hl, hm, by simpa using hz, hcell, hwz⟩⟩
  obtain ⟨a1, rfl, rfl, rfl, w1⟩ := open_int Tryz.underlying3 (hval 1 3 v1 rfl rfl) h1
  clear hA0 hval0
  refine (walk a0 len0 cap0 z0 a1 W w0 w1).mono fun e W' ⟨he, bel⟩ => ?_
  subst he
  exact ⟨_, rfl, _, _, _, [], _, [], hW', trodAll_mk1 (shut_bool Tryz.underlying4 _), (trodAll_cons_mk (Below.trod laidOut (by kernel_rfl) (of_decide_eq_true (by kernel_rfl)) k0 bel lt0) (trodAll_cons_mk (shut_int Tryz.underlying3 w1) trodAll_mk0)), rfl, bel.frame _, fun h => by cases h⟩

theorem over : Rows.simplePushesRow.holds Tryz.pinned (OpenSpec.ofChange Rows.simplePushesSpec) :=
  OpenClaim.holds_of_wide 4 Tryz.f4 rfl rfl rfl rfl rfl rfl rfl ⟨rfl, rfl, rfl, rfl, rfl⟩ rfl rfl rfl rfl rfl (by kernel_rfl) Tryz.func4 (by kernel_rfl)
    (of_decide_eq_true (by kernel_rfl)) (by unfold Func.isWrapper; first | (rw [if_pos (by decide +kernel)]; kernel_rfl) | (rw [if_neg (by decide +kernel)]; exact ⟨rfl, rfl⟩))
    (fun os started H enc _ => lifted os started H enc)

/-- THE STATEMENT -/
theorem proved : Rows.SimplePushesSaid := over
#print axioms proved
end Go.Proofs.YtoklohfpkaiidaaGreat.simplePushes
