/- The law HeapWalks returns true at every input, and leaves its arguments as they were. No condition. -/
import Derived.Test.YtljgnmbjidkjnaaRows
import Derived.WalkKit
import Derived.ProofKit
import Derived.OpenShut
import Derived.Test.YtljgnmbjidkjnaaWalk05
import Derived.Deep.DeepCutAuto
import Derived.ShutString
import Derived.ChangeOld
import Derived.Below
namespace Go.Proofs.Ytljgnmbjidkjnaa.heapWalks
open Go.ChangeShapes Go.WideShapes Go.ChangeAt Go.RowKit
open Go.ChangeMaps (open_string shut_string)
open Go.Proofs.Ytljgnmbjidkjnaa.Gen Go.Proofs.Ytljgnmbjidkjnaa.Base Go.Proofs.Ytljgnmbjidkjnaa.Fr Go.Proofs.Ytljgnmbjidkjnaa.Hp
set_option linter.unusedVariables false

theorem own : ownKnob Try.prog.godebug = none := by kernel_rfl
theorem laidOut : laidOutB Try.prog = true := by kernel_rfl

/-- WHAT THE WALK IS TOLD OF A SLICE OF INTEGERS THAT CAME IN: it is nil; or it leads to a row of 'cap' cells, the numbers 'zs' (the first 'len' are its elements, the rest its spare room), each fitting its kind. -/
def IsRow (k : IntKind) (w : World) (a : Option Addr) (len cap : Nat) (zs : List Int) : Prop :=
  (a = none ∧ len = 0 ∧ cap = 0 ∧ zs = []) ∨
  ∃ x, a = some x ∧ len ≤ cap ∧ cap ≤ maxLen ∧ zs.length = cap ∧ (∀ i, i < zs.length → w.cell? (x.add i) = some (.int k (zs.getD i 0))) ∧ ∀ n ∈ zs, (Lit.int k n).wf = true

theorem row_at {w : World} {a : Option Addr} {len cap : Nat} {zs : List Int} (h : IsRow .i64 w a len cap zs) :
    (len : Int) ≤ 9223372036854775807 ∧ ∀ i, i < len → ∃ xb xo, a = some ⟨xb, xo, none⟩ ∧ xb < w.heap.size ∧ w.cell? ⟨xb, xo + i, none⟩ = some (.int .i64 (zs[i]?.getD 0)) ∧ (Lit.int .i64 (zs[i]?.getD 0)).wf = true := by
  rcases h with ⟨rfl, rfl, rfl, rfl⟩ | ⟨x, rfl, hl, hm, hz, hcell, hwz⟩
  · exact ⟨by omega, fun i hi => by omega⟩
  · refine ⟨by unfold maxLen at hm; omega, fun i hi => ?_⟩
    obtain ⟨xb, xo, spot⟩ := x
    have hspot : spot = none := by simpa [Addr.add] using World.cell?_spot (hcell 0 (by omega))
    subst hspot
    have hc : w.cell? ⟨xb, xo + i, none⟩ = some (.int .i64 (zs[i]?.getD 0)) := by
      have h := hcell i (by omega)
      by_cases e : i = 0
      · subst e; simpa [Addr.add] using h
      · simpa [Addr.add, e] using h
    exact ⟨xb, xo, rfl, World.block_lt_of_cell? _ _ hc, hc, hwz _ (by simp [show i < zs.length by omega])⟩

def kz (z : List Int) (q : Nat) : Nat := ((z[q]?.getD 0) % 17).toNat
theorem kz_le (z : List Int) (q : Nat) : kz z q ≤ 16 := by unfold kz; omega
def sq (z : List Int) (q : Nat) : Nat := (kz z q + 3) / 4
def stp (z : List Int) (q : Nat) : Nat := 3 + sq z q
theorem stp1 (z : List Int) (q : Nat) : 1 ≤ stp z q := by unfold stp; omega
theorem stp7 (z : List Int) (q : Nat) : stp z q ≤ 7 := by have := kz_le z q; unfold stp sq; omega
theorem kz_int (z : List Int) (q : Nat) : (z[q]?.getD 0) % 17 = (kz z q : Int) := by unfold kz; omega
def hdk (z : List Int) (q : Nat) : Int := Hd.hput (sq z q) 3 ((sq z q * 4 - kz z q : Nat)) 0 false true
/-! ### STEP 1: THE WALK: the Go text returns true, AND WRITES NOTHING THAT WAS THERE: 'Below w.heap.size w w'' (Derived/Below.lean: '.refl', '.alloc', '.drew', '.setCell' at a new block, '.trans'). Open each 'IsRow' by 'rcases' AHEAD of 'go_enter'; part every test ahead of the walk. -/
set_option maxRecDepth 100000 in
set_option maxHeartbeats 16000000 in
theorem walk (a0 : Option Addr) (len0 cap0 : Nat) (z0 : List Int) (w : World) (w0 : IsRow .i64 w a0 len0 cap0 z0) :
    Calls Try.prog 5 #[.slice a0 len0 cap0] w fun e w' => e = .returned (.bool true) ∧ Below w.heap.size w w' := by
  obtain ⟨hl0, hcell⟩ := row_at w0
  have HCELL := Lib.hid hcell; clear hcell w0
  have hn : Calls Try.prog 9 #[.int .i64 800] w fun e w' => ∃ X, e = .returned (.pointer (some ⟨X.h, 0, none⟩)) ∧ HpAt w' X (List.replicate 800 0) (List.replicate 800 true) (List.replicate 800 false) ∧ HOwn w w' X := hp_New 800 (by omega) w
  rw [tail_0, bgs_0 800 (stp z0)] at hn
  have hps := fun n => pp_le (stp z0) 7 (stp7 z0) n
  have HPS := Lib.hid hps; clear hps
  go_enter Try.func5, Try.ntmps5
  go_wp2_with (go_at_call 9; refine hn.mono ?_; rintro e u1 ⟨X1, rfl, hA1, hO1⟩; dsimp only)
  have HA1 := Lib.hid hA1; have HO1 := Lib.hid hO1
  clear hA1 hO1 hn
  generalize hr : X1.h = r at *
  have HR1 := Lib.hid hr; clear hr
  go_loopw [4, 5, 6] (fun v4 v5 v6 wr => ∃ (i : Nat) (X : HB) (ws : List Int), i ≤ min len0 40 ∧ v6 = .int .i64 i ∧ v4 = .int .i64 i ∧ v5 = .int .i64 (pp (stp z0) i) ∧ X.h = r ∧ HpAt wr X ws (tail 800 (pp (stp z0) i)) (bgs 800 (stp z0) i) ∧ (∀ q, q < i → ws[pp (stp z0) q]?.getD 0 = hdk z0 q) ∧ HOwn w wr X) (fun _ _ v6 wr => 40 - (intOf v6).toNat)
  case atStart => exact ⟨0, X1, _, by omega, rfl, rfl, rfl, HR1.out, HA1.out, fun q hq => by omega, HO1.out⟩
  case round =>
    obtain ⟨i, X, ws, i1, rfl, rfl, rfl, hXr, hA, hhd, hO⟩ := hrel
    by_cases hlt : i < min len0 40
    · obtain ⟨xb, xo, rfl, hxb, hxc, hxw⟩ := HCELL.out i (by omega)
      have hx : wr.cell? ⟨xb, xo + i, none⟩ = some (.int .i64 (z0[i]?.getD 0)) := by rw [hO.below.cell (p := ⟨xb, xo + i, none⟩) hxb]; exact hxc
      have t1 : decide ((i : Int) < (len0 : Int)) = true := by simp; omega
      have t1' : (i : Int) < (len0 : Int) := by omega
      have t2 : (i : Int) < 40 := by omega
      have t0 : (0 : Int) ≤ (i : Int) := by omega
      have hki := kz_int z0 i
      have hk16 := kz_le z0 i
      have hpi := HPS.out i
      have hwl : ws.length = 800 := by rw [hA.e1]; exact bgs_len _ _ _
      have hsq : (kz z0 i + 3) / 4 = sq z0 i := rfl
      have hst : pp (stp z0) (i + 1) = pp (stp z0) i + (3 + sq z0 i) := rfl
      have hsq7 : sq z0 i ≤ 4 := by omega
      have hmk : Calls Try.prog 12 #[.pointer (some ⟨X.h, 0, none⟩), .int .i64 3, .int .i64 (kz z0 i), .int .i64 0, .int .i64 i] wr fun e w' => e = .returned (.tuple #[.int .i64 ((pp (stp z0) i : Int) + 1), .bool true]) ∧ ∃ X', HpAt w' X' (mkW ws (pp (stp z0) i) (sq z0 i) (hdk z0 i) (Wd.wr 0) (Wd.wi i) 0) (setR (tail 800 (pp (stp z0) i)) (pp (stp z0) i) (3 + sq z0 i) false) ((bgs 800 (stp z0) i).set (pp (stp z0) i) true) ∧ HNx X wr X' w' := hp_Make_ok hA 3 (kz z0 i) (sq z0 i) (sq z0 i * 4 - kz z0 i) 0 (.inr ⟨rfl, by omega, hsq.symm, rfl, rfl⟩) 0 i (by omega) (by omega) (pp (stp z0) i) (800 - pp (stp z0) i) (best_tail (by omega) (by omega))
      rw [tail_take (by omega), bgs_succ (by omega), hXr, ← hst] at hmk
      have hhd2 : ∀ q, q < i + 1 → (mkW ws (pp (stp z0) i) (sq z0 i) (hdk z0 i) (Wd.wr 0) (Wd.wi i) 0)[pp (stp z0) q]?.getD 0 = hdk z0 q := fun q hq => by
        rw [mkW_at _ _ _ _ _ _ _ _ (by omega)]
        by_cases e : q = i
        · subst e; rw [if_pos rfl]
        · have := pp_mono (stp z0) (show q < i by omega)
          have := stp1 z0 q
          rw [if_neg (by omega), if_neg (by omega), if_neg (by omega), if_neg (by omega)]
          exact hhd q (by omega)
      have HHD := Lib.hid hhd2
      have HO := Lib.hid hO; have HXR := Lib.hid hXr
      have hadd : ((pp (stp z0) i : Nat) : Int) + 3 + ((kz z0 i : Int) + 3) / 4 = ((pp (stp z0) (i + 1) : Nat) : Int) := by rw [hst]; push_cast; omega
      have hP1 : pp (stp z0) (i + 1) ≤ 800 := by omega
      have HADD := Lib.hid hadd
      clear hhd hhd2 hO hXr hA hxc hst hsq hadd HA1 HO1 HR1
      generalize hP : pp (stp z0) i = P at *
      generalize hQ : pp (stp z0) (i + 1) = Q at *
      generalize kz z0 i = K at *
      have HQE := Lib.hid hQ
      clear hP hQ
      generalize z0[i]?.getD 0 = Z at *
      have hadd := HADD.out
      go_wp2_with fail
      refine (place_any _ _ (by omega) (by omega) hxw _).mono ?_
      rintro e w' ⟨rfl, rfl⟩
      rw [hki]
      dsimp only
      go_wp2_with fail
      refine hmk.mono ?_
      rintro e w2 ⟨rfl, X2, hA2, hN2⟩
      have HA2 := Lib.hid hA2; have HO2 := Lib.hid (HO.out.nx hN2); have HX2 := Lib.hid (hN2.h.trans HXR.out)
      clear hmk hA2 hN2 hki
      dsimp only
      go_wp2_with fail
      refine ⟨⟨i + 1, X2, _, by omega, by simp, by simp, by rw [HQE.out], HX2.out, by rw [HQE.out]; exact HA2.out, HHD.out, HO2.out⟩, by simp only [intOf]; omega⟩
    · have hpi := HPS.out i
      have t3 : (decide ((i : Int) < (len0 : Int)) = true ∧ (i : Int) < (len0 : Int) ∧ 40 ≤ (i : Int)) ∨ (decide ((i : Int) < (len0 : Int)) = false ∧ ¬ (i : Int) < (len0 : Int)) := by
        by_cases c : i < len0
        · exact .inl ⟨by simp; omega, by omega, by omega⟩
        · exact .inr ⟨by simp; omega, by omega⟩
      have i40 : i ≤ 40 := by omega
      have hwl : ws.length = 800 := by rw [hA.e1]; exact bgs_len _ _ _
      have hlts : ∀ q, q < i → pp (stp z0) q < 800 := fun q hq => by have := pp_mono (stp z0) hq; have := stp1 z0 q; omega
      have hnext := fun x (hx : (Lit.int .i64 x).wf = true) => hp_Next hA x hx
      have hhas := fun x (hx : (Lit.int .i64 x).wf = true) => has_any hA x hx
      have hsize := fun x (hx : (Lit.int .i64 x).wf = true) => hp_Size hA x hx
      have hwords := hp_Words hA
      rw [cnt_tail (by omega), bgs_len] at hwords
      rw [hXr] at hwords
      have hAd : ∀ q, HpAt (wr.drewN q) X ws (tail 800 (pp (stp z0) i)) (bgs 800 (stp z0) i) := fun q => hA.keep fun _ _ => rfl
      have HNEXT := Lib.hid hnext; have HHAS := Lib.hid hhas; have HSIZE := Lib.hid hsize; have HLTS := Lib.hid hlts; have HHD := Lib.hid hhd; have HXR := Lib.hid hXr; have HO := Lib.hid hO; have HAD := Lib.hid hAd
      clear hnext hhas hsize hlts hhd hO hAd hlt HA1 HO1 HR1 i1
      have hn0 := next_first (N := 800) (n := i) (st := stp z0) HLTS.out 0 (by omega)
      have hc0 := HNEXT.out 0 (by decide)
      rw [hn0, HXR.out] at hc0
      clear hn0 hXr hA
      go_upto_region 6 with fail
      go_cut [25] (fun s25 wx => s25 = .bool false ∧ wr = wx)
      case first =>
        rcases t3 with ⟨t3, t4, t5⟩ | ⟨t3, t4⟩
        all_goals
          go_wp2_with fail
          go_meet
          exact ⟨by first | rfl | (congr 1; simp; omega), rfl⟩
      case rest =>
        obtain ⟨rfl, rfl⟩ := hcut
        clear t3
        go_wp2_with fail
        refine hc0.mono ?_
        rintro e w' ⟨rfl, rfl⟩
        clear hc0
        dsimp only
        go_wp2_with fail
        go_loop [10, 11] (fun v10 v11 => ∃ s : Nat, s ≤ i ∧ v11 = .int .i64 s ∧ v10 = .int .i64 (atB (stp z0) i s)) (fun _ v11 => i - (intOf v11).toNat)
        case atStart => exact ⟨0, Nat.zero_le _, rfl, rfl⟩
        case round =>
          obtain ⟨s, s1, rfl, rfl⟩ := hrel
          by_cases hs : s < i
          · have hps := HLTS.out s hs
            have hat : atB (stp z0) i s = pp (stp z0) s + 1 := if_pos hs
            have hcn := HNEXT.out ((pp (stp z0) s : Int) + 1) (i64_wf (by omega) (by omega))
            rw [next_step (stp1 z0) HLTS.out hs, HXR.out] at hcn
            have hch := HHAS.out ((pp (stp z0) s : Int) + 1) (i64_wf (by omega) (by omega))
            rw [has_bgs HLTS.out hs, HXR.out] at hch
            have hcs := HSIZE.out ((pp (stp z0) s : Int) + 1) (i64_wf (by omega) (by omega))
            rw [has_bgs HLTS.out hs, head_at (has_bgs HLTS.out hs) (by omega), HHD.out s hs, HXR.out] at hcs
            simp only [if_true] at hcs
            rw [show sizW (hdk z0 s) = kz z0 s from siz_bytes _ _ _ (by have := kz_le z0 s; omega) rfl rfl] at hcs
            have hst : pp (stp z0) (s + 1) = pp (stp z0) s + (3 + (kz z0 s + 3) / 4) := rfl
            have hk16 := kz_le z0 s
            have hnx : atB (stp z0) i (s + 1) = 0 ∨ (s + 1 < i ∧ atB (stp z0) i (s + 1) = pp (stp z0) (s + 1) + 1) := by
              unfold atB; split
              · rename_i h; exact .inr ⟨h, rfl⟩
              · exact .inl rfl
            have hnle : atB (stp z0) i (s + 1) ≤ 801 := by
              rcases hnx with e | ⟨h, e⟩
              · omega
              · have := HLTS.out (s + 1) h; omega
            rw [hat]
            have hsq : ((kz z0 s : Int) + 3) / 4 = ((sq z0 s : Nat) : Int) := by unfold sq; push_cast; omega
            have hs4 : sq z0 s ≤ 4 := by unfold sq; omega
            have hst2 : pp (stp z0) (s + 1) = pp (stp z0) s + (3 + sq z0 s) := rfl
            have hnx2 : atB (stp z0) i (s + 1) = 0 ∨ (0 < atB (stp z0) i (s + 1) ∧ pp (stp z0) s + 1 + 3 + sq z0 s ≤ atB (stp z0) i (s + 1)) := by
              rcases hnx with e | ⟨h, e⟩
              · exact .inl e
              · exact .inr ⟨by omega, by omega⟩
            have tne : ¬ ((pp (stp z0) s : Int) + 1) = 0 := by omega
            have tle : (s : Int) ≤ (i : Int) := by omega
            push_cast
            clear hst hst2 hnx hat
            generalize hP : pp (stp z0) s = P at *
            generalize kz z0 s = K at *
            generalize sq z0 s = S at *
            obtain ⟨A, hAe⟩ : ∃ A, atB (stp z0) i (s + 1) = A := ⟨_, rfl⟩
            rw [hAe] at hcn hnx2 hnle
            have HAE := Lib.hid hAe
            clear hAe hP
            rcases hnx2 with rfl | ⟨n1, n2⟩
            · go_wp2_with (first
                | (go_at_call 30; (with_reducible refine hcn.mono ?_); rintro e w2 ⟨rfl, rfl⟩; dsimp only)
                | (go_at_call 26; (with_reducible refine hch.mono ?_); rintro e w2 ⟨rfl, rfl⟩; dsimp only)
                | (go_at_call 27; (with_reducible refine hcs.mono ?_); rintro e w2 ⟨rfl, rfl⟩; dsimp only))
              refine ⟨⟨s + 1, by omega, by simp, by rw [HAE.out]⟩, by simp only [intOf]; omega⟩
            · have tA : ¬ (A : Int) = 0 := by omega
              have tB : ¬ (A : Int) < (P : Int) + 1 + 3 + (S : Int) := by omega
              go_wp2_with (first
                | (go_at_call 30; (with_reducible refine hcn.mono ?_); rintro e w2 ⟨rfl, rfl⟩; dsimp only)
                | (go_at_call 26; (with_reducible refine hch.mono ?_); rintro e w2 ⟨rfl, rfl⟩; dsimp only)
                | (go_at_call 27; (with_reducible refine hcs.mono ?_); rintro e w2 ⟨rfl, rfl⟩; dsimp only))
              refine ⟨⟨s + 1, by omega, by simp, by rw [HAE.out]⟩, by simp only [intOf]; omega⟩
          · obtain rfl : s = i := by omega
            have hat : atB (stp z0) s s = 0 := if_neg (by omega)
            have hn5 := next_first (N := 800) (n := s) (st := stp z0) HLTS.out (-5) (by omega)
            have hn0 := next_first (N := 800) (n := s) (st := stp z0) HLTS.out 0 (by omega)
            rw [hat]
            have hnd : ∀ q x, (Lit.int .i64 x).wf = true → Calls Try.prog 30 #[.pointer (some ⟨r, 0, none⟩), .int .i64 x] (wr.drewN q) fun e w' => e = .returned (.int .i64 (nextB (bgs 800 (stp z0) s) x)) ∧ wr.drewN q = w' := fun q x hx => by
              have := hp_Next (HAD.out q) x hx
              rwa [HXR.out] at this
            have HND := Lib.hid hnd
            have hP8 : pp (stp z0) s ≤ 800 := by omega
            clear hat hnd
            generalize hP : pp (stp z0) s = P at *
            clear hP
            go_wp2_with fail
            refine hwords.mono ?_
            rintro e w2 ⟨rfl, q, rfl⟩
            have h5 := HND.out q (-5) (by decide)
            have h0 := HND.out q 0 (by decide)
            rw [hn5] at h5
            rw [hn0] at h0
            have hcast : ((800 : Nat) : Int) - ((800 - P : Nat) : Int) = (P : Int) := by omega
            rw [hcast]
            clear hn5 hn0 hwords hcast
            generalize atB (stp z0) s 0 = A0 at *
            dsimp only
            go_wp2_with (first
                | (go_at_call 30; (with_reducible refine h5.mono ?_); rintro e w2 ⟨rfl, rfl⟩; dsimp only)
                | (go_at_call 30; (with_reducible refine h0.mono ?_); rintro e w2 ⟨rfl, rfl⟩; dsimp only)
                | (go_at_call 8; refine (awake_any _).mono ?_; rintro e w6 ⟨rfl, hb6⟩; dsimp only))
            go_ret
            exact ⟨rfl, (below_drewN HO.out.below q).trans (hb6.mono HO.out.below.size)⟩

/-! ### THE ROW's STEP: WRITTEN OUT: LEAVE IT -/
set_option maxRecDepth 100000 in
theorem lifted (os : Os) (started : os.Started) (H : Type) (enc : TypeId × Value → H) :
    ReturnsInHanded {} Try.checked os 5 .any (Rows.heapWalksSpec.pre6 enc Try.prog Try.f5 Rows.heapWalksRow.domain false) (Rows.heapWalksSpec.post enc Try.prog Try.f5 false true false false) := by
  refine returnsInHanded_of_change (C := Try.checked) own started (by kernel_rfl) Try.func5
    (ChangeSpec.witness6 (enc := enc) (C := Try.checked) false ⟨#[], #[.slice none 0 0], []⟩ 8 (by kernel_rfl) (by kernel_rfl) (by kernel_rfl) (by kernel_rfl)) ?_
  intro W base args ds gs before hval0 hW hcnd _
  have hval : ∀ (j : Nat) t v, Try.f5.params[j]? = some t → args[j]? = some v → Value.okWide Try.prog W .any base t v := hval0
  have hW' := hW
  obtain ⟨p, q, hA0, hV, rfl, hfz, hnd⟩ := hW
  have hA : DataW.TrodAll enc Try.prog W 0 (fun _ => true) true Try.f5.params.toList args.toList ds p := hA0
  rw [Try.params5] at hA hval
  obtain ⟨v0, vs0, d0, ds0, p0, q0, hargs, rfl, rfl, h0, r0⟩ := trodAll_cons hA
  obtain ⟨rfl, rfl, rfl⟩ := trodAll_nil r0
  obtain rfl : args = #[v0] := by cases args; simp_all
  obtain ⟨rfl, rfl⟩ := trodVars_none hV
  obtain ⟨a0, len0, cap0, rfl⟩ := okWide_slice Try.underlying49 (hval 0 49 v0 rfl rfl)
  have k0 := h0
  have lt0 : ∀ x ∈ p0, x.block < W.heap.size := by obtain ⟨m, hm⟩ := k0; exact DataW.trod_lt m _ _ _ hm
  obtain ⟨z0, w0⟩ : ∃ zs, IsRow .i64 W a0 len0 cap0 zs := by
    obtain ⟨fuel, hf⟩ := h0
    rcases open_ints Try.underlying49 Try.underlying3 (by kernel_rfl) hf with ⟨hcs, _⟩ | ⟨x, l, c, zs, hcs, _, hl, hm, hz, _, hcell, hwz⟩
    · simp [Value.cells] at hcs
      obtain ⟨rfl, rfl, rfl⟩ := hcs
      exact ⟨[], .inl ⟨rfl, rfl, rfl, rfl⟩⟩
    · simp [Value.cells] at hcs
      obtain ⟨rfl, rfl, rfl⟩ := hcs
      exact ⟨zs, .inr ⟨_, rfl, hl, hm, by simpa using hz, hcell, hwz⟩⟩
  clear hA0 hval0
  refine (walk a0 len0 cap0 z0 W w0).mono fun e W' ⟨he, bel⟩ => ?_
  subst he
  exact ⟨_, rfl, _, _, _, [], _, [], hW', trodAll_mk1 (shut_bool Try.underlying4 _), (trodAll_cons_mk (Below.trod laidOut (by kernel_rfl) (of_decide_eq_true (by kernel_rfl)) k0 bel lt0) trodAll_mk0), rfl, bel.frame _, fun h => by cases h⟩

theorem over : Rows.heapWalksRow.holds Try.pinned (OpenSpec.ofChange Rows.heapWalksSpec) :=
  OpenClaim.holds_of_wide 5 Try.f5 rfl rfl rfl rfl rfl rfl rfl ⟨rfl, rfl, rfl, rfl, rfl⟩ rfl rfl rfl rfl rfl (by kernel_rfl) Try.func5 (by kernel_rfl)
    (of_decide_eq_true (by kernel_rfl)) (by unfold Func.isWrapper; first | (rw [if_pos (by decide +kernel)]; kernel_rfl) | (rw [if_neg (by decide +kernel)]; exact ⟨rfl, rfl⟩))
    (fun os started H enc _ => lifted os started H enc)

/-- THE STATEMENT -/
theorem proved : Rows.HeapWalksSaid := over
#print axioms proved
end Go.Proofs.Ytljgnmbjidkjnaa.heapWalks
