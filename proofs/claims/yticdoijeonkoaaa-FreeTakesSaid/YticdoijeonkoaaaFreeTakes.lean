/- The law FreeTakes returns true at every input, and leaves its arguments as they were. No condition. -/
import Derived.Test.YticdoijeonkoaaaRows
import Derived.WalkKit
import Derived.ProofKit
import Derived.OpenShut
import Derived.Test.YticdoijeonkoaaaTake04
import Derived.Deep.RegionWith
import Derived.Deep.DeepCutAuto
import Derived.ShutString
import Derived.ChangeOld
import Derived.Below
namespace Go.Proofs.Yticdoijeonkoaaa.freeTakes
open Go.ChangeShapes Go.WideShapes Go.ChangeAt Go.RowKit
open Go.ChangeMaps (open_string shut_string)
open Go.Proofs.Yticdoijeonkoaaa.Gen Go.Proofs.Yticdoijeonkoaaa.Base Go.Proofs.Yticdoijeonkoaaa.Fr
set_option linter.unusedVariables false

theorem own : ownKnob Try.prog.godebug = none := by kernel_rfl
theorem laidOut : laidOutB Try.prog = true := by kernel_rfl

/-- WHAT THE WALK IS TOLD OF A SLICE OF INTEGERS THAT CAME IN: it is nil; or it leads to a row of 'cap' cells, the numbers 'zs' (the first 'len' are its elements, the rest its spare room), each fitting its kind. -/
def IsRow (k : IntKind) (w : World) (a : Option Addr) (len cap : Nat) (zs : List Int) : Prop :=
  (a = none ∧ len = 0 ∧ cap = 0 ∧ zs = []) ∨
  ∃ x, a = some x ∧ len ≤ cap ∧ cap ≤ maxLen ∧ zs.length = cap ∧ (∀ i, i < zs.length → w.cell? (x.add i) = some (.int k (zs.getD i 0))) ∧ ∀ n ∈ zs, (Lit.int k n).wf = true

theorem row_at {w : World} {a : Option Addr} {len cap : Nat} {zs : List Int} (h : IsRow .i64 w a len cap zs) :
    (len : Int) ≤ 9223372036854775807 ∧ ∀ i, i < len → ∃ xb xo, a = some ⟨xb, xo, none⟩ ∧ xb < w.heap.size ∧ w.cell? ⟨xb, xo + i, none⟩ = some (.int .i64 (zs[i]?.getD 0)) ∧ (Lit.int .i64 (zs[i]?.getD 0)).wf = true := by
  rcases h with ⟨rfl, rfl, rfl, rfl⟩ | ⟨x, rfl, hl, hm, hz, hcell, hwz⟩
  · exact ⟨by omega, fun i hi => by omega⟩
  · refine ⟨by unfold maxLen at hm; omega, fun i hi => ?_⟩
    obtain ⟨xb, xo, spot⟩ := x
    have hspot : spot = none := by simpa [Addr.add] using World.cell?_spot (hcell 0 (by omega))
    subst hspot
    have hc : w.cell? ⟨xb, xo + i, none⟩ = some (.int .i64 (zs[i]?.getD 0)) := by
      have h := hcell i (by omega)
      by_cases e : i = 0
      · subst e; simpa [Addr.add] using h
      · simpa [Addr.add, e] using h
    exact ⟨xb, xo, rfl, World.block_lt_of_cell? _ _ hc, hc, hwz _ (by simp [show i < zs.length by omega])⟩

def z300 : Array Value := (bools (List.replicate 300 false)).toArray
theorem zero300 (w : World) : Sem.run Try.prog (zeroValue 26) w = .ok (.agg z300) w := by kernel_rfl
theorem own_any {w : World} {base : Nat} {e : TypeId} {size : Nat} {v : Value} {n : Nat} {xs : List Value} (h : w.ownsRow base e size v n xs) : ∃ a cap, v = .slice a n cap ∧ n ≤ cap := by
  obtain ⟨_, ⟨h1, h2⟩ | ⟨g, cap, cur, h3, h4, h5, h6, _⟩⟩ := h
  · exact ⟨none, 0, by rw [h1, h2], by omega⟩
  · exact ⟨_, cap, h3, h6⟩
/-! ### STEP 1: THE WALK: the Go text returns true, AND WRITES NOTHING THAT WAS THERE: 'Below w.heap.size w w'' (Derived/Below.lean: '.refl', '.alloc', '.drew', '.setCell' at a new block, '.trans'). Open each 'IsRow' by 'rcases' AHEAD of 'go_enter'; part every test ahead of the walk. -/
set_option maxRecDepth 100000 in
set_option maxHeartbeats 16000000 in
theorem walk (a0 : Int) (a1 : Option Addr) (len1 cap1 : Nat) (z1 : List Int) (a2 : Int) (w : World) (w0 : (Lit.int .i64 a0).wf = true) (w1 : IsRow .i64 w a1 len1 cap1 z1) (w2 : (Lit.int .i64 a2).wf = true) :
    Calls Try.prog 3 #[.int .i64 a0, .slice a1 len1 cap1, .int .i64 a2] w fun e w' => e = .returned (.bool true) ∧ Below w.heap.size w w' := by
  obtain ⟨hl0, hcell⟩ := row_at w1
  have HCELL := Lib.hid hcell; clear hcell w1
  have hz := zero300
  go_enter Try.func3, Try.ntmps3
  go_wp2_with fail
  refine (place_gen _ _ (by omega) (by omega) w0 _).mono ?_
  rintro e w' ⟨k, k0, k1, rfl, rfl⟩
  obtain ⟨k, rfl⟩ := Int.eq_ofNat_of_zero_le k0
  dsimp only
  go_wp2_with fail
  refine (free_new k (by omega) w).mono ?_
  rintro e u1 ⟨B1, rfl, hF1, hb1, hm1⟩
  dsimp only
  have hO1 : Own w (u1.alloc (.cells z300 26)) B1 := ⟨hb1.alloc hb1.size _, hm1⟩
  have hT1 : Three w.heap.size (u1.alloc (.cells z300 26)) B1 (List.replicate k true) (.slice none 0 0) (fstL []) (.slice none 0 0) (sndL []) u1.heap.size (isL k (List.replicate k true)) :=
    ⟨⟨hF1.keep fun i hi => heap_alloc_old _ _ (hF1.mine_lt hi), Beside.nil _ _ _, Beside.nil _ _ _, fun i hi => by simp [Value.ownBlock] at hi⟩, by rw [isL_0]; exact heap_alloc_new _ _, hb1.size, fun hm => by have := hF1.mine_lt hm; omega, by simp [Value.ownBlock], by simp [Value.ownBlock]⟩
  have HT1 := Lib.hid hT1; have HO1 := Lib.hid hO1
  clear hb1 hm1 hF1 hO1 hT1
  generalize hr : B1.r = r at *
  have HR1 := Lib.hid hr; clear hr
  go_wp2_with fail
  generalize (u1.alloc (.cells z300 26)) = u2 at *
  generalize u1.heap.size = d at *
  go_loopw [9, 10, 12] (fun v9 v10 v12 wr => ∃ (i : Nat) (B : FB) (l : List Bool) (T : List (Nat × Nat)), i ≤ min len1 40 ∧ v12 = .int .i64 i ∧ B.r = r ∧ Tk k l T ∧ Three w.heap.size wr B l v9 (fstL T) v10 (sndL T) d (isL k l) ∧ Own w wr B ∧ T.length ≤ i) (fun _ _ v12 wr => 40 - (intOf v12).toNat)
  case atStart => exact ⟨0, B1, _, [], by omega, rfl, HR1.out, Tk.zero k, HT1.out, HO1.out, by simp⟩
  case round =>
    obtain ⟨i, B, l, T, i1, rfl, hBr, hTk, hT, hO, hTl⟩ := hrel
    by_cases hlt : i < min len1 40
    · obtain ⟨xb, xo, rfl, hxb, hxc, hxw⟩ := HCELL.out i (by omega)
      have hx : wr.cell? ⟨xb, xo + i, none⟩ = some (.int .i64 (z1[i]?.getD 0)) := by rw [hO.below.cell (p := ⟨xb, xo + i, none⟩) hxb]; exact hxc
      have t1 : decide ((i : Int) < (len1 : Int)) = true := by simp; omega
      have t1' : (i : Int) < (len1 : Int) := by omega
      have t2 : (i : Int) < 40 := by omega
      have t0 : (0 : Int) ≤ (i : Int) := by omega
      generalize z1[i]?.getD 0 = Z at *
      have hcl := free_longest hT.two.free
      rw [hBr] at hcl
      have HT := Lib.hid hT; have HO := Lib.hid hO; have HBR := Lib.hid hBr; have HTK := Lib.hid hTk
      clear hT hO hBr hxc hTk HT1 HO1 HR1
      go_wp2_with fail
      refine (place_gen _ _ (by omega) (by omega) hxw _).mono ?_
      rintro e w' ⟨m, m0, m1, rfl, rfl⟩
      obtain ⟨m, rfl⟩ := Int.eq_ofNat_of_zero_le m0
      obtain ⟨M, hM, hM2⟩ : ∃ M : Nat, 1 + (m : Int) = (M : Int) ∧ M = m + 1 := ⟨m + 1, by push_cast; omega, rfl⟩
      have hM3 : 1 ≤ M := by omega
      have hM4 : M ≤ 20 := by omega
      clear hM2
      dsimp only
      go_wp2_with fail
      refine hcl.mono ?_
      rintro e w' ⟨L, hL, rfl, rfl⟩
      dsimp only
      rcases HT.out.two.free.best M with ⟨a, mm, hb⟩ | hno
      · have hLM : M ≤ L := by have := hL.le a mm hb.run; have := hb.fits; omega
        have dLM : decide ((M : Int) ≤ (L : Int)) = true := by simp; omega
        have hrl := hb.run.le
        have hfit := hb.fits
        have hlen := HTK.out.len
        have hc := free_take HT.out.two.free M a mm hM3 hb
        rw [HBR.out] at hc
        have HTK2 := Lib.hid (HTK.out.step hb.run hM3 hM4 hfit)
        have hop : ∀ j, j < M → o l (a + j) = true := fun j hj => hb.run.all _ (by omega) (by omega)
        have HOP := Lib.hid hop
        have hale : a + M ≤ k := by omega
        have hlen2 : (setR l a M false).length = k := by rw [setR_len]; exact hlen
        have hsh : ∀ j, j < M → isB (setR l a M false) ((a : Int) + (j : Int)) = false := fun j hj => by
          unfold isB
          split
          · rw [show ((a : Int) + (j : Int)).toNat = a + j by omega]
            show o (setR l a M false) (a + j) = false
            rw [o_set _ _ _ _ (by omega), if_pos (by omega)]
          · rfl
        have HSH := Lib.hid hsh; have HLEN := Lib.hid hlen
        have HISL := Lib.hid (isL_set (k := k) (a := a) (s := M) (l := l) (by omega) hlen hale)
        clear hcl hL hb hlen hlen2 hrl hop hsh
        go_wp2_with (go_at_call 9; (with_reducible refine hc.mono ?_); rintro e w3 ⟨rfl, B3, hF3, hN3⟩; dsimp only)
        have HT3 := Lib.hid (HT.out.nx hF3 hN3)
        have HO3 := Lib.hid (HO.out.nx hN3)
        have HBR3 := Lib.hid (hN3.r.trans HBR.out)
        clear hF3 hN3 hc HT HO HBR
        go_loopw [17] (fun v17 wr' => ∃ j : Nat, j ≤ M ∧ v17 = .int .i64 j ∧ Three w.heap.size wr' B3 (setR l a M false) u9 (fstL T) u10 (sndL T) d (setR (isL k l) a j true) ∧ Own w wr' B3) (fun v17 wr' => M - (intOf v17).toNat)
        case atStart => exact ⟨0, by omega, rfl, HT3.out, HO3.out⟩
        case round =>
          clear HT3 HO3
          obtain ⟨j, j1, rfl, hT, hO⟩ := hrel
          by_cases hj : j < M
          · obtain ⟨t, ht, ht2⟩ : ∃ t : Nat, (a : Int) + (j : Int) = (t : Int) ∧ t = a + j := ⟨a + j, by push_cast; rfl, rfl⟩
            have hci := free_is hT.two.free (t : Int)
            rw [← ht, HSH.out j hj, HBR3.out, ht] at hci
            have hIl : (setR (isL k l) a j true).length = 300 := by rw [setR_len]; exact mk_len _ _
            have cx := hT.cell (a + j) (by rw [hIl]; omega)
            rw [isL_at (by omega) (by omega) (HOP.out j hj), ← ht2] at cx
            have fx := hT.fz t
            have hst := hT.store t true
            rw [ht2, show (setR (isL k l) a j true).set (a + j) true = setR (isL k l) a (j + 1) true from rfl, ← ht2] at hst
            have HST := Lib.hid hst
            have hO2 := Lib.hid (show Own w (wr.setCell ⟨d, t, none⟩ (.bool true)) B3 from ⟨hO.below.setCell hT.dW _, hO.own⟩)
            have e1 : (t : Int) < (k : Int) := by omega
            have e3 : (j : Int) < (M : Int) := by omega
            have e5 : t < 300 := by omega
            have e6 : (t : Int) < 300 := by omega
            have HT2 := Lib.hid ht2
            clear hT hO hIl hst ht2
            go_wp2_with (go_at_call 10; (with_reducible refine hci.mono ?_); rintro e w4 ⟨rfl, e4⟩; subst w4; dsimp only)
            refine ⟨⟨j + 1, by omega, by simp, HST.out, hO2.out⟩, by simp only [intOf]; omega⟩
          · obtain rfl : j = M := by omega
            rw [HISL.out] at hT
            have HT := Lib.hid hT; have HO := Lib.hid hO
            have hW := hO.below.size
            have HW := Lib.hid hW
            have hxl : (fstL T).length = T.length ∧ (sndL T).length = T.length := ⟨fstL_len _, sndL_len _⟩
            have HX := Lib.hid hxl
            have HAS := Lib.hid (fstL_app T a j); have HBS := Lib.hid (sndL_app T a j)
            clear hT hO hxl hW
            go_wp2_with (at_builtin; refine wpl_app1 rfl (.tmp 103) (.tmp 105) (by rfl) _ _ _ (by rfl) (owns_keep HT.out.two.a.row fun k hk => heap_alloc_old _ _ (HT.out.two.a.lt hk)) ⟨wr.heap.size, 0, none⟩ 1 a (by rfl) (new_cell _ _ _ rfl) (by rw [HX.out.1]; omega) ?_)
            intro v' w4 hown4 hgrow4 hvo4
            obtain ⟨hT4, hb4⟩ := HT.out.app HW.out hgrow4 hown4 (by simpa using hvo4)
            rw [HAS.out] at hT4
            have hW4 : w.heap.size ≤ w4.heap.size := by have := hb4.size; have := HW.out; omega
            have HT4 := Lib.hid hT4.swap; have HB4 := Lib.hid hb4
            clear hown4 hgrow4 hvo4 hT4 hb4
            go_wp2_with (at_builtin; refine wpl_app1 rfl (.tmp 107) (.tmp 109) (by rfl) _ _ _ (by rfl) (owns_keep HT4.out.two.a.row fun k hk => heap_alloc_old _ _ (HT4.out.two.a.lt hk)) ⟨w4.heap.size, 0, none⟩ 1 j (by rfl) (new_cell _ _ _ rfl) (by rw [HX.out.2]; omega) ?_)
            intro v'' w5 hown5 hgrow5 hvo5
            obtain ⟨hT5, hb5⟩ := HT4.out.app hW4 hgrow5 hown5 (by simpa using hvo5)
            rw [HBS.out] at hT5
            have HT5 := Lib.hid hT5.swap
            have HO5 : Hid (Own w w5 B3) := Lib.hid ⟨(HO.out.below.trans HB4.out).trans hb5, HO.out.own⟩
            clear hown5 hgrow5 hvo5 hT5 hb5
            go_wp2_with fail
            refine ⟨⟨i + 1, B3, _, _, by omega, by simp, HBR3.out, HTK2.out, HT5.out, HO5.out, by simp; omega⟩, by simp only [intOf]; omega⟩
      · have hLM : L < M := by
          rcases hL.is with e | ⟨a, e⟩
          · omega
          · exact hno a L e
        have dLM : decide ((M : Int) ≤ (L : Int)) = false := by simp; omega
        have hc := free_none HT.out.two.free M hM3 (by omega) hno
        rw [HBR.out] at hc
        clear hcl hL hno
        go_wp2_with (go_at_call 9; (with_reducible refine hc.mono ?_); rintro e w3 ⟨rfl, q3, rfl⟩; dsimp only)
        have tM : (0 : Int) < (M : Int) := by omega
        refine wp_loop_rounds 1 ?_
        rw [rounds_succ]
        have HT3 := Lib.hid (HT.out.drewN q3)
        have HO3 := Lib.hid (HO.out.drewN q3)
        clear hc HT HO
        generalize wr.drewN q3 = w3 at *
        go_wp2_with fail
        refine ⟨⟨i + 1, B, l, T, by omega, by simp, HBR.out, HTK.out, HT3.out, HO3.out, by omega⟩, by simp only [intOf]; omega⟩
    · have t3 : (decide ((i : Int) < (len1 : Int)) = true ∧ (i : Int) < (len1 : Int) ∧ 40 ≤ (i : Int)) ∨ (decide ((i : Int) < (len1 : Int)) = false ∧ ¬ (i : Int) < (len1 : Int)) := by
        by_cases c : i < len1
        · exact .inl ⟨by simp; omega, by omega, by omega⟩
        · exact .inr ⟨by simp; omega, by omega⟩
      have i40 : T.length ≤ 40 := by omega
      obtain ⟨aa, capa, hva, hca1, hca2, -⟩ := hT.two.a.form
      obtain ⟨ab, capb, hvb, hcb1, hcb2, -⟩ := hT.two.b.form
      rw [fstL_len] at hva hca1
      rw [sndL_len] at hvb hcb1
      subst hva hvb
      have HT := Lib.hid hT; have HO := Lib.hid hO; have HBR := Lib.hid hBr; have HTK := Lib.hid hTk
      clear hlt HT1 HO1 HR1 i1 hT hO hBr hTk hTl
      generalize hTn : T.length = n at *
      have HTN := Lib.hid hTn; clear hTn
      go_upto_region 8 with fail
      go_cut [35] (fun s35 wx => s35 = .bool false ∧ wr = wx)
      case first =>
        rcases t3 with ⟨t3, t4, t5⟩ | ⟨t3, t4⟩
        all_goals
          go_wp2_with fail
          go_meet
          exact ⟨by first | rfl | (congr 1; simp; omega), rfl⟩
      case rest =>
        obtain ⟨rfl, rfl⟩ := hcut
        clear t3
        go_wp2_with fail
        refine (place_gen a2 ((n : Int) + 1) (by omega) (by omega) w2 _).mono ?_
        rintro e w' ⟨c, c0, c1, rfl, rfl⟩
        obtain ⟨c, rfl⟩ := Int.eq_ofNat_of_zero_le c0
        have c2 : c ≤ n := by omega
        dsimp only
        clear c1
        go_wp2_with fail
        go_loopw [19] (fun v19 wr' => ∃ (j : Nat) (B : FB) (l' : List Bool), j ≤ n ∧ v19 = .int .i64 j ∧ B.r = r ∧ Gv k l' T c j ∧ Two w.heap.size wr' B l' (.slice aa n capa) (fstL T) (.slice ab n capb) (sndL T) ∧ Own w wr' B) (fun v19 wr' => n - (intOf v19).toNat)
        case atStart => exact ⟨(0 : Nat), B, l, Nat.zero_le _, rfl, HBR.out, Gv.zero HTK.out c, HT.out.two, HO.out⟩
        case round =>
          clear HT HO HBR
          obtain ⟨j, B2, l2, j1, rfl, hBr, hG, hT, hO⟩ := hrel
          by_cases hj : j < n
          · have q1 : (j : Int) < (n : Int) := by omega
            have hn := HTN.out
            obtain ⟨q, hq, hq2⟩ : ∃ q : Nat, ((j : Int) + (c : Int)) % (n : Int) = (q : Int) ∧ q = (j + c) % n := ⟨_, by push_cast; rfl, rfl⟩
            have hqn : q < n := by rw [hq2]; exact Nat.mod_lt _ (by omega)
            obtain ⟨⟨a, s⟩, hTq⟩ : ∃ p, T[q]? = some p := ⟨_, List.getElem?_eq_getElem (by rw [hn]; exact hqn)⟩
            have hTq' : T[(j + c) % T.length]? = some (a, s) := by rw [hn, ← hq2]; exact hTq
            obtain ⟨f1, f2, f3⟩ := HTK.out.fit q a s hTq
            have hTd : Two w.heap.size wr.drew B2 l2 (.slice aa n capa) (fstL T) (.slice ab n capb) (sndL T) := hT.drewN 1
            have hOd : Own w wr.drew B2 := hO.drewN 1
            have hlen := hG.len
            have hG2 := hG.step HTK.out (by omega) (by omega) hTq'
            have hsh := hG.shut HTK.out (by omega) (by omega) hTq'
            obtain ⟨sk, hsk, hsk2⟩ : ∃ sk : Nat, (s : Int) + (k : Int) = (sk : Int) ∧ sk = s + k := ⟨s + k, by push_cast; rfl, rfl⟩
            have hc1 := free_no hTd.free (a : Int) (sk : Int) (.inl (.inr (.inl (by rw [hlen]; omega))))
            have hc2 := free_give hTd.free a s f1 (by rw [hlen]; exact f3) hsh
            have hno : ∀ (u : World) (B' : FB), FreeAt u B' (setR l2 a s true) → B'.r = r → Calls Try.prog 11 #[.pointer (some ⟨r, 0, none⟩), .int .i64 a, .int .i64 1] u fun e w' => e = .returned (.bool false) ∧ u = w' := fun u B' hF hr' => by
              have := free_no hF (a : Int) 1 (.inr ⟨a, 1, rfl, rfl, Nat.le_refl _, by rw [setR_len, hlen]; omega, a, Nat.le_refl _, by omega, by rw [o_set _ _ _ _ (by rw [hlen]; exact f3), if_pos ⟨Nat.le_refl _, by omega⟩]⟩)
              rwa [hr'] at this
            rw [hBr] at hc1 hc2
            obtain ⟨_, _, hv1, -, -, hf1⟩ := hT.a.form
            obtain ⟨_, _, hv2, -, -, hf2⟩ := hT.b.form
            obtain ⟨ga, rfl, cxa⟩ := hf1 q (by rw [fstL_len, hn]; exact hqn)
            obtain ⟨gb, rfl, cxb⟩ := hf2 q (by rw [sndL_len, hn]; exact hqn)
            rw [fstL_at hTq] at cxa
            rw [sndL_at hTq] at cxb
            obtain ⟨e1, -, -⟩ := Value.slice.inj hv1
            obtain ⟨e2, -, -⟩ := Value.slice.inj hv2
            subst e1 e2
            have q2 : (q : Int) < (n : Int) := by omega
            have hcell2 : ∀ (u : World) (B' : FB), Nx B2 wr.drew B' u → u.cell? ⟨ga, q, none⟩ = some (.int .i64 a) ∧ u.cell? ⟨gb, q, none⟩ = some (.int .i64 s) := fun u B' hN => by
              have hk := hN.block ga (hTd.a.lt rfl) (hTd.a.apart ga rfl).2
              have hk2 := hN.block gb (hTd.b.lt rfl) (hTd.b.apart gb rfl).2
              rw [World.cell?_of_block (a := ⟨ga, q, none⟩) hk, World.cell?_of_block (a := ⟨gb, q, none⟩) hk2]; exact ⟨cxa, cxb⟩
            have HNO := Lib.hid hno; have HC2 := Lib.hid hcell2; have HG2 := Lib.hid hG2
            have HTD := Lib.hid hTd; have HOD := Lib.hid hOd; have HBR := Lib.hid hBr
            clear hT hO hBr hG hlen hG2 hsh hno hv1 hv2 hf1 hf2 hTd hOd hcell2 hTq hTq' hn hq2
            have hskw : IntKind.i64.wrap (sk : Int) = (sk : Int) := IntWalk.i64_in _ ⟨by omega, by omega⟩
            clear hsk2
            go_upto_region 28 with fail
            refine wp_region_held_drew (S := (fun w' => w'.cell? ⟨ga, q, none⟩ = some (.int .i64 a) ∧ w'.cell? ⟨gb, q, none⟩ = some (.int .i64 s))) (by kernel_rfl) ?_ (fun hH0 => ?_)
            · (try dsimp only); exact ⟨by simpa using cxa, by simpa using cxb⟩
            refine wpAnyH_take (i := 0) (oi := { dst := some 128, op := Op.move (Operand.tmp 8), type := 24, pos := "law.go:97", after := #[], guard := none }) (v := ?v1) rfl (by kernel_rfl) (by kernel_rfl) (by kernel_rfl) (fun _ _ _ h => h) (Or.inl ⟨by rfl, ?hy1⟩) (by assumption) ?_
            case hy1 => intro w hSw; (try dsimp only at hSw); go_simp; (try with_reducible rfl)
            try simp only [Act.put, List.setIfInBounds_toArray, List.set_cons_zero, List.set_cons_succ]
            refine wpAnyH_take (i := 1) (oi := { dst := some 129, op := Op.move (Operand.tmp 9), type := 22, pos := "law.go:97", after := #[], guard := none }) (v := ?v2) rfl (by kernel_rfl) (by kernel_rfl) (by kernel_rfl) (fun _ _ _ h => h) (Or.inl ⟨by rfl, ?hy2⟩) (by assumption) ?_
            case hy2 => intro w hSw; (try dsimp only at hSw); go_simp; (try with_reducible rfl)
            try simp only [Act.put, List.setIfInBounds_toArray, List.set_cons_zero, List.set_cons_succ]
            refine wpAnyH_take (i := 2) (oi := { dst := some 130, op := Op.move (Operand.tmp 20), type := 3, pos := "law.go:97", after := #[], guard := none }) (v := ?v3) rfl (by kernel_rfl) (by kernel_rfl) (by kernel_rfl) (fun _ _ _ h => h) (Or.inl ⟨by rfl, ?hy3⟩) (by assumption) ?_
            case hy3 => intro w hSw; (try dsimp only at hSw); go_simp; (try with_reducible rfl)
            try simp only [Act.put, List.setIfInBounds_toArray, List.set_cons_zero, List.set_cons_succ]
            refine wpAnyH_take (i := 3) (oi := { dst := some 131, op := Op.indexAddr 22 (Operand.tmp 129) (Operand.tmp 130), type := 0, pos := "law.go:97", after := #[{ on := 1, ground := Ground.data }, { on := 2, ground := Ground.data }], guard := none }) (v := ?v4) rfl (by kernel_rfl) (by kernel_rfl) (by kernel_rfl) (fun _ _ _ h => h) (Or.inl ⟨by rfl, ?hy4⟩) (by assumption) ?_
            case hy4 => intro w hSw; (try dsimp only at hSw); go_simp; (try with_reducible rfl)
            try simp only [Act.put, List.setIfInBounds_toArray, List.set_cons_zero, List.set_cons_succ]
            refine wpAnyH_take (i := 4) (oi := { dst := some 132, op := Op.load 3 (Operand.tmp 131), type := 3, pos := "law.go:97", after := #[{ on := 3, ground := Ground.data }], guard := none }) (v := ?v5) rfl (by kernel_rfl) (by kernel_rfl) (by kernel_rfl) (fun _ _ _ h => h) (Or.inl ⟨by rfl, ?hy5⟩) (by assumption) ?_
            case hy5 => intro w hSw; (try dsimp only at hSw); go_simp; (try with_reducible rfl)
            try simp only [Act.put, List.setIfInBounds_toArray, List.set_cons_zero, List.set_cons_succ]
            refine wpAnyH_take (i := 5) (oi := { dst := some 133, op := Op.move (Operand.tmp 10), type := 22, pos := "law.go:97", after := #[], guard := none }) (v := ?v6) rfl (by kernel_rfl) (by kernel_rfl) (by kernel_rfl) (fun _ _ _ h => h) (Or.inl ⟨by rfl, ?hy6⟩) (by assumption) ?_
            case hy6 => intro w hSw; (try dsimp only at hSw); go_simp; (try with_reducible rfl)
            try simp only [Act.put, List.setIfInBounds_toArray, List.set_cons_zero, List.set_cons_succ]
            refine wpAnyH_take (i := 6) (oi := { dst := some 134, op := Op.move (Operand.tmp 20), type := 3, pos := "law.go:97", after := #[], guard := none }) (v := ?v7) rfl (by kernel_rfl) (by kernel_rfl) (by kernel_rfl) (fun _ _ _ h => h) (Or.inl ⟨by rfl, ?hy7⟩) (by assumption) ?_
            case hy7 => intro w hSw; (try dsimp only at hSw); go_simp; (try with_reducible rfl)
            try simp only [Act.put, List.setIfInBounds_toArray, List.set_cons_zero, List.set_cons_succ]
            refine wpAnyH_take (i := 7) (oi := { dst := some 135, op := Op.indexAddr 22 (Operand.tmp 133) (Operand.tmp 134), type := 0, pos := "law.go:97", after := #[{ on := 5, ground := Ground.data }, { on := 6, ground := Ground.data }], guard := none }) (v := ?v8) rfl (by kernel_rfl) (by kernel_rfl) (by kernel_rfl) (fun _ _ _ h => h) (Or.inl ⟨by rfl, ?hy8⟩) (by assumption) ?_
            case hy8 => intro w hSw; (try dsimp only at hSw); go_simp; (try with_reducible rfl)
            try simp only [Act.put, List.setIfInBounds_toArray, List.set_cons_zero, List.set_cons_succ]
            refine wpAnyH_take (i := 8) (oi := { dst := some 136, op := Op.load 3 (Operand.tmp 135), type := 3, pos := "law.go:97", after := #[{ on := 7, ground := Ground.data }], guard := none }) (v := ?v9) rfl (by kernel_rfl) (by kernel_rfl) (by kernel_rfl) (fun _ _ _ h => h) (Or.inl ⟨by rfl, ?hy9⟩) (by assumption) ?_
            case hy9 => intro w hSw; (try dsimp only at hSw); go_simp; (try with_reducible rfl)
            try simp only [Act.put, List.setIfInBounds_toArray, List.set_cons_zero, List.set_cons_succ]
            refine wpAnyH_take (i := 9) (oi := { dst := some 137, op := Op.move (Operand.tmp 7), type := 3, pos := "law.go:97", after := #[], guard := none }) (v := ?v10) rfl (by kernel_rfl) (by kernel_rfl) (by kernel_rfl) (fun _ _ _ h => h) (Or.inl ⟨by rfl, ?hy10⟩) (by assumption) ?_
            case hy10 => intro w hSw; (try dsimp only at hSw); go_simp; (try with_reducible rfl)
            try simp only [Act.put, List.setIfInBounds_toArray, List.set_cons_zero, List.set_cons_succ]
            refine wpAnyH_take (i := 10) (oi := { dst := some 138, op := Op.binOp BinOp.add 3 (Operand.tmp 136) (Operand.tmp 137) 3, type := 3, pos := "law.go:97", after := #[{ on := 8, ground := Ground.data }, { on := 9, ground := Ground.data }], guard := none }) (v := ?v11) rfl (by kernel_rfl) (by kernel_rfl) (by kernel_rfl) (fun _ _ _ h => h) (Or.inl ⟨by rfl, ?hy11⟩) (by assumption) ?_
            case hy11 => intro w hSw; (try dsimp only at hSw); go_simp; (try with_reducible rfl)
            try simp only [Act.put, List.setIfInBounds_toArray, List.set_cons_zero, List.set_cons_succ]
            refine wpAnyH_ready (rs := [11]) (by kernel_rfl) (by simp) ?_
            refine AllReadyH.cons (o := { dst := some 139, op := Op.call { callee := Callee.value (Operand.func 11), args := #[Operand.tmp 128, Operand.tmp 132, Operand.tmp 138], argTypes := #[24, 3, 3] }, type := 4, pos := "law.go:97", after := #[{ on := 0, ground := Ground.data }, { on := 4, ground := Ground.data }, { on := 10, ground := Ground.data }], guard := none }) rfl (fun K hK => ?_) AllReadyH.nil
            go_simp; (try rw [hskw]); go_at_call 11; with_reducible refine hc1.mono ?_; rintro e w4 ⟨rfl, e4⟩; subst w4; dsimp only
            refine hK.out _ _ ?_ (fun hH1 => ?_)
            · (try dsimp only); (first | exact cx4 | assumption | exact ⟨by simpa using cxa, by simpa using cxb⟩)
            clear hK K
            clear hH0
            try simp only [Act.put, List.setIfInBounds_toArray, List.set_cons_zero, List.set_cons_succ]
            refine wpAnyH_take (i := 12) (oi := { dst := some 140, op := Op.move (Operand.tmp 139), type := 4, pos := "law.go:97", after := #[{ on := 11, ground := Ground.data }, { on := 11, ground := Ground.chain }], guard := none }) (v := ?v13) rfl (by kernel_rfl) (by kernel_rfl) (by kernel_rfl) (fun _ _ _ h => h) (Or.inl ⟨by rfl, ?hy13⟩) (by assumption) ?_
            case hy13 => intro w hSw; (try dsimp only at hSw); go_simp; (try with_reducible rfl)
            try simp only [Act.put, List.setIfInBounds_toArray, List.set_cons_zero, List.set_cons_succ]
            refine wpAnyH_take (i := 13) (oi := { dst := some 141, op := Op.move (Operand.tmp 8), type := 24, pos := "law.go:97", after := #[{ on := 12, ground := Ground.guard }], guard := some (12, false) }) (v := ?v14) rfl (by kernel_rfl) (by kernel_rfl) (by kernel_rfl) (fun _ _ _ h => h) (Or.inl ⟨by rfl, ?hy14⟩) (by assumption) ?_
            case hy14 => intro w hSw; (try dsimp only at hSw); go_simp; (try with_reducible rfl)
            try simp only [Act.put, List.setIfInBounds_toArray, List.set_cons_zero, List.set_cons_succ]
            refine wpAnyH_take (i := 14) (oi := { dst := some 142, op := Op.move (Operand.tmp 9), type := 22, pos := "law.go:97", after := #[{ on := 12, ground := Ground.guard }], guard := some (12, false) }) (v := ?v15) rfl (by kernel_rfl) (by kernel_rfl) (by kernel_rfl) (fun _ _ _ h => h) (Or.inl ⟨by rfl, ?hy15⟩) (by assumption) ?_
            case hy15 => intro w hSw; (try dsimp only at hSw); go_simp; (try with_reducible rfl)
            try simp only [Act.put, List.setIfInBounds_toArray, List.set_cons_zero, List.set_cons_succ]
            refine wpAnyH_take (i := 15) (oi := { dst := some 143, op := Op.move (Operand.tmp 20), type := 3, pos := "law.go:97", after := #[{ on := 12, ground := Ground.guard }], guard := some (12, false) }) (v := ?v16) rfl (by kernel_rfl) (by kernel_rfl) (by kernel_rfl) (fun _ _ _ h => h) (Or.inl ⟨by rfl, ?hy16⟩) (by assumption) ?_
            case hy16 => intro w hSw; (try dsimp only at hSw); go_simp; (try with_reducible rfl)
            try simp only [Act.put, List.setIfInBounds_toArray, List.set_cons_zero, List.set_cons_succ]
            refine wpAnyH_take (i := 16) (oi := { dst := some 144, op := Op.indexAddr 22 (Operand.tmp 142) (Operand.tmp 143), type := 0, pos := "law.go:97", after := #[{ on := 14, ground := Ground.data }, { on := 15, ground := Ground.data }, { on := 12, ground := Ground.guard }], guard := some (12, false) }) (v := ?v17) rfl (by kernel_rfl) (by kernel_rfl) (by kernel_rfl) (fun _ _ _ h => h) (Or.inl ⟨by rfl, ?hy17⟩) (by assumption) ?_
            case hy17 => intro w hSw; (try dsimp only at hSw); go_simp; (try with_reducible rfl)
            try simp only [Act.put, List.setIfInBounds_toArray, List.set_cons_zero, List.set_cons_succ]
            refine wpAnyH_take (i := 17) (oi := { dst := some 145, op := Op.load 3 (Operand.tmp 144), type := 3, pos := "law.go:97", after := #[{ on := 16, ground := Ground.data }, { on := 12, ground := Ground.guard }], guard := some (12, false) }) (v := ?v18) rfl (by kernel_rfl) (by kernel_rfl) (by kernel_rfl) (fun _ _ _ h => h) (Or.inl ⟨by rfl, ?hy18⟩) (by assumption) ?_
            case hy18 => intro w hSw; (try dsimp only at hSw); go_simp; (try with_reducible rfl)
            try simp only [Act.put, List.setIfInBounds_toArray, List.set_cons_zero, List.set_cons_succ]
            refine wpAnyH_take (i := 18) (oi := { dst := some 146, op := Op.move (Operand.tmp 10), type := 22, pos := "law.go:97", after := #[{ on := 12, ground := Ground.guard }], guard := some (12, false) }) (v := ?v19) rfl (by kernel_rfl) (by kernel_rfl) (by kernel_rfl) (fun _ _ _ h => h) (Or.inl ⟨by rfl, ?hy19⟩) (by assumption) ?_
            case hy19 => intro w hSw; (try dsimp only at hSw); go_simp; (try with_reducible rfl)
            try simp only [Act.put, List.setIfInBounds_toArray, List.set_cons_zero, List.set_cons_succ]
            refine wpAnyH_take (i := 19) (oi := { dst := some 147, op := Op.move (Operand.tmp 20), type := 3, pos := "law.go:97", after := #[{ on := 12, ground := Ground.guard }], guard := some (12, false) }) (v := ?v20) rfl (by kernel_rfl) (by kernel_rfl) (by kernel_rfl) (fun _ _ _ h => h) (Or.inl ⟨by rfl, ?hy20⟩) (by assumption) ?_
            case hy20 => intro w hSw; (try dsimp only at hSw); go_simp; (try with_reducible rfl)
            try simp only [Act.put, List.setIfInBounds_toArray, List.set_cons_zero, List.set_cons_succ]
            refine wpAnyH_take (i := 20) (oi := { dst := some 148, op := Op.indexAddr 22 (Operand.tmp 146) (Operand.tmp 147), type := 0, pos := "law.go:97", after := #[{ on := 18, ground := Ground.data }, { on := 19, ground := Ground.data }, { on := 12, ground := Ground.guard }], guard := some (12, false) }) (v := ?v21) rfl (by kernel_rfl) (by kernel_rfl) (by kernel_rfl) (fun _ _ _ h => h) (Or.inl ⟨by rfl, ?hy21⟩) (by assumption) ?_
            case hy21 => intro w hSw; (try dsimp only at hSw); go_simp; (try with_reducible rfl)
            try simp only [Act.put, List.setIfInBounds_toArray, List.set_cons_zero, List.set_cons_succ]
            refine wpAnyH_take (i := 21) (oi := { dst := some 149, op := Op.load 3 (Operand.tmp 148), type := 3, pos := "law.go:97", after := #[{ on := 20, ground := Ground.data }, { on := 12, ground := Ground.guard }], guard := some (12, false) }) (v := ?v22) rfl (by kernel_rfl) (by kernel_rfl) (by kernel_rfl) (fun _ _ _ h => h) (Or.inl ⟨by rfl, ?hy22⟩) (by assumption) ?_
            case hy22 => intro w hSw; (try dsimp only at hSw); go_simp; (try with_reducible rfl)
            try simp only [Act.put, List.setIfInBounds_toArray, List.set_cons_zero, List.set_cons_succ]
            refine wpAnyH_ready (rs := [22]) (by kernel_rfl) (by simp) ?_
            refine AllReadyH.cons (o := { dst := some 150, op := Op.call { callee := Callee.value (Operand.func 11), args := #[Operand.tmp 141, Operand.tmp 145, Operand.tmp 149], argTypes := #[24, 3, 3] }, type := 4, pos := "law.go:97", after := #[{ on := 13, ground := Ground.data }, { on := 17, ground := Ground.data }, { on := 21, ground := Ground.data }, { on := 12, ground := Ground.chain }, { on := 12, ground := Ground.guard }], guard := some (12, false) }) rfl (fun K hK => ?_) AllReadyH.nil
            go_simp; (try rw [hskw]); go_at_call 11; with_reducible refine hc2.mono ?_; rintro e w4 ⟨rfl, B5, hF5, hN5⟩; have cx4 := HC2.out w4 B5 hN5; have hc3 := HNO.out w4 B5 hF5 (hN5.r.trans HBR.out); dsimp only
            refine hK.out _ _ ?_ (fun hH2 => ?_)
            · (try dsimp only); (first | exact cx4 | assumption | exact ⟨by simpa using cxa, by simpa using cxb⟩)
            clear hK K
            clear hH1
            try simp only [Act.put, List.setIfInBounds_toArray, List.set_cons_zero, List.set_cons_succ]
            refine wpAnyH_take (i := 23) (oi := { dst := some 151, op := Op.unOp UnOp.not 4 (Operand.tmp 150), type := 4, pos := "law.go:97", after := #[{ on := 22, ground := Ground.data }, { on := 12, ground := Ground.guard }], guard := some (12, false) }) (v := ?v24) rfl (by kernel_rfl) (by kernel_rfl) (by kernel_rfl) (fun _ _ _ h => h) (Or.inl ⟨by rfl, ?hy24⟩) (by assumption) ?_
            case hy24 => intro w hSw; (try dsimp only at hSw); go_simp; (try with_reducible rfl)
            try simp only [Act.put, List.setIfInBounds_toArray, List.set_cons_zero, List.set_cons_succ]
            refine wpAnyH_take (i := 24) (oi := { dst := some 152, op := Op.pick (Operand.tmp 140) (Operand.const (Value.bool true)) (Operand.tmp 151), type := 4, pos := "law.go:97", after := #[{ on := 12, ground := Ground.data }, { on := 23, ground := Ground.data }], guard := none }) (v := ?v25) rfl (by kernel_rfl) (by kernel_rfl) (by kernel_rfl) (fun _ _ _ h => h) (Or.inl ⟨by rfl, ?hy25⟩) (by assumption) ?_
            case hy25 => intro w hSw; (try dsimp only at hSw); go_simp; (try with_reducible rfl)
            try simp only [Act.put, List.setIfInBounds_toArray, List.set_cons_zero, List.set_cons_succ]
            refine wpAnyH_take (i := 25) (oi := { dst := some 153, op := Op.move (Operand.tmp 152), type := 4, pos := "law.go:97", after := #[{ on := 24, ground := Ground.data }, { on := 22, ground := Ground.chain }], guard := none }) (v := ?v26) rfl (by kernel_rfl) (by kernel_rfl) (by kernel_rfl) (fun _ _ _ h => h) (Or.inl ⟨by rfl, ?hy26⟩) (by assumption) ?_
            case hy26 => intro w hSw; (try dsimp only at hSw); go_simp; (try with_reducible rfl)
            try simp only [Act.put, List.setIfInBounds_toArray, List.set_cons_zero, List.set_cons_succ]
            refine wpAnyH_take (i := 26) (oi := { dst := some 154, op := Op.move (Operand.tmp 8), type := 24, pos := "law.go:97", after := #[{ on := 25, ground := Ground.guard }], guard := some (25, false) }) (v := ?v27) rfl (by kernel_rfl) (by kernel_rfl) (by kernel_rfl) (fun _ _ _ h => h) (Or.inl ⟨by rfl, ?hy27⟩) (by assumption) ?_
            case hy27 => intro w hSw; (try dsimp only at hSw); go_simp; (try with_reducible rfl)
            try simp only [Act.put, List.setIfInBounds_toArray, List.set_cons_zero, List.set_cons_succ]
            refine wpAnyH_take (i := 27) (oi := { dst := some 155, op := Op.move (Operand.tmp 9), type := 22, pos := "law.go:97", after := #[{ on := 25, ground := Ground.guard }], guard := some (25, false) }) (v := ?v28) rfl (by kernel_rfl) (by kernel_rfl) (by kernel_rfl) (fun _ _ _ h => h) (Or.inl ⟨by rfl, ?hy28⟩) (by assumption) ?_
            case hy28 => intro w hSw; (try dsimp only at hSw); go_simp; (try with_reducible rfl)
            try simp only [Act.put, List.setIfInBounds_toArray, List.set_cons_zero, List.set_cons_succ]
            refine wpAnyH_take (i := 28) (oi := { dst := some 156, op := Op.move (Operand.tmp 20), type := 3, pos := "law.go:97", after := #[{ on := 25, ground := Ground.guard }], guard := some (25, false) }) (v := ?v29) rfl (by kernel_rfl) (by kernel_rfl) (by kernel_rfl) (fun _ _ _ h => h) (Or.inl ⟨by rfl, ?hy29⟩) (by assumption) ?_
            case hy29 => intro w hSw; (try dsimp only at hSw); go_simp; (try with_reducible rfl)
            try simp only [Act.put, List.setIfInBounds_toArray, List.set_cons_zero, List.set_cons_succ]
            refine wpAnyH_take (i := 29) (oi := { dst := some 157, op := Op.indexAddr 22 (Operand.tmp 155) (Operand.tmp 156), type := 0, pos := "law.go:97", after := #[{ on := 27, ground := Ground.data }, { on := 28, ground := Ground.data }, { on := 25, ground := Ground.guard }], guard := some (25, false) }) (v := ?v30) rfl (by kernel_rfl) (by kernel_rfl) (by kernel_rfl) (fun _ _ _ h => h) (Or.inl ⟨by rfl, ?hy30⟩) (by assumption) ?_
            case hy30 => intro w hSw; (try dsimp only at hSw); go_simp; (try with_reducible rfl)
            try simp only [Act.put, List.setIfInBounds_toArray, List.set_cons_zero, List.set_cons_succ]
            refine wpAnyH_take (i := 30) (oi := { dst := some 158, op := Op.load 3 (Operand.tmp 157), type := 3, pos := "law.go:97", after := #[{ on := 29, ground := Ground.data }, { on := 25, ground := Ground.guard }], guard := some (25, false) }) (v := ?v31) rfl (by kernel_rfl) (by kernel_rfl) (by kernel_rfl) (fun _ _ _ h => h) (Or.inl ⟨by rfl, ?hy31⟩) (by assumption) ?_
            case hy31 => intro w hSw; (try dsimp only at hSw); go_simp; (try with_reducible rfl)
            try simp only [Act.put, List.setIfInBounds_toArray, List.set_cons_zero, List.set_cons_succ]
            refine wpAnyH_ready (rs := [31]) (by kernel_rfl) (by simp) ?_
            refine AllReadyH.cons (o := { dst := some 159, op := Op.call { callee := Callee.value (Operand.func 11), args := #[Operand.tmp 154, Operand.tmp 158, Operand.const (Value.int IntKind.i64 1)], argTypes := #[24, 3, 3] }, type := 4, pos := "law.go:97", after := #[{ on := 26, ground := Ground.data }, { on := 30, ground := Ground.data }, { on := 25, ground := Ground.chain }, { on := 25, ground := Ground.guard }], guard := some (25, false) }) rfl (fun K hK => ?_) AllReadyH.nil
            go_simp; (try rw [hskw]); go_at_call 11; with_reducible refine hc3.mono ?_; rintro e w5 ⟨rfl, e5⟩; subst w5; dsimp only
            refine hK.out _ _ ?_ (fun hH3 => ?_)
            · (try dsimp only); (first | exact cx4 | assumption | exact ⟨by simpa using cxa, by simpa using cxb⟩)
            clear hK K
            clear hH2
            try simp only [Act.put, List.setIfInBounds_toArray, List.set_cons_zero, List.set_cons_succ]
            refine wpAnyH_take (i := 32) (oi := { dst := some 160, op := Op.pick (Operand.tmp 153) (Operand.const (Value.bool true)) (Operand.tmp 159), type := 4, pos := "law.go:97", after := #[{ on := 25, ground := Ground.data }, { on := 31, ground := Ground.data }], guard := none }) (v := ?v33) rfl (by kernel_rfl) (by kernel_rfl) (by kernel_rfl) (fun _ _ _ h => h) (Or.inl ⟨by rfl, ?hy33⟩) (by assumption) ?_
            case hy33 => intro w hSw; (try dsimp only at hSw); go_simp; (try with_reducible rfl)
            try simp only [Act.put, List.setIfInBounds_toArray, List.set_cons_zero, List.set_cons_succ]
            refine wpAnyH_done (by kernel_rfl) ?_ _
            have HT5 := Lib.hid (HTD.out.nx hF5 hN5)
            have HO5 := Lib.hid (HOD.out.nx hN5)
            have HBR5 := Lib.hid (hN5.r.trans HBR.out)
            clear hF5 hN5 hc1 hc2 hc3 HTD HOD HBR hskw hsk cx4 cxa cxb
            go_wp2_with fail
            refine ⟨⟨j + 1, B5, _, by omega, by simp, HBR5.out, HG2.out, HT5.out, HO5.out⟩, by simp only [intOf]; omega⟩
          · obtain rfl : j = n := by omega
            have hall := (show Gv k l2 T c T.length by rw [HTN.out]; exact hG).all (by rw [HTN.out]; exact c2)
            subst hall
            have hcr := runs_any wr B2 _ hT.free
            rw [hBr] at hcr
            have HO := Lib.hid hO; have HF := Lib.hid hT.free; have HBR := Lib.hid hBr
            clear hT hO hBr hG
            go_wp2_with fail
            refine hcr.mono ?_
            rintro e w2 ⟨v, R, rfl, hU, hown, hb2⟩
            have hF2 : FreeAt w2 B2 (List.replicate k true) := HF.out.below hb2
            have hcw := free_words hF2
            rw [cnt_rep, HBR.out] at hcw
            have hcl := free_longest hF2
            rw [HBR.out] at hcl
            have HO2 := Lib.hid (HO.out.grow hb2)
            clear hcr hF2 hb2
            by_cases hk0 : k = 0
            · subst hk0
              obtain rfl := upto_none hU
              obtain ⟨va, vcap, rfl, -⟩ := own_any hown
              clear hU hown
              dsimp only [List.length_nil]
              go_wp2_with fail
              refine hcw.mono ?_
              rintro e w3 ⟨rfl, rfl⟩
              dsimp only
              go_wp2_with fail
              refine hcl.mono ?_
              rintro e w3 ⟨mm, hmm, rfl, rfl⟩
              rw [most_rep hmm]
              clear hmm hcl hcw
              dsimp only
              go_wp2_with (go_at_call 14; refine (awake_any _).mono ?_; rintro e w6 ⟨rfl, hb6⟩; dsimp only)
              go_ret
              exact ⟨rfl, (HO2.out.grow hb6).below⟩
            · obtain rfl := upto_all (by omega) hU
              obtain ⟨va, vcap, rfl, -⟩ := own_any hown
              obtain ⟨g, cap, hva, hcp, -⟩ := own_form hown (by simp)
              rw [hva] at hown
              obtain ⟨cx0, cx1⟩ := pair_cells hown
              obtain ⟨e1, -, -⟩ := Value.slice.inj hva
              subst e1
              have tk : ¬ (k : Int) = 0 := by omega
              have tk2 : ((k : Int) == 0) = false := by simp; omega
              clear hU hown hva
              dsimp only [List.length_cons, List.length_nil, Nat.zero_add]
              go_wp2_with fail
              refine hcw.mono ?_
              rintro e w3 ⟨rfl, rfl⟩
              dsimp only
              go_wp2_with fail
              refine hcl.mono ?_
              rintro e w3 ⟨mm, hmm, rfl, rfl⟩
              rw [most_rep hmm]
              clear hmm hcl hcw
              dsimp only
              go_wp2_with (go_at_call 14; refine (awake_any _).mono ?_; rintro e w6 ⟨rfl, hb6⟩; dsimp only)
              go_ret
              exact ⟨rfl, (HO2.out.grow hb6).below⟩

/-! ### THE ROW's STEP: WRITTEN OUT: LEAVE IT -/
set_option maxRecDepth 100000 in
theorem lifted (os : Os) (started : os.Started) (H : Type) (enc : TypeId × Value → H) :
    ReturnsInHanded {} Try.checked os 3 .any (Rows.freeTakesSpec.pre6 enc Try.prog Try.f3 Rows.freeTakesRow.domain false) (Rows.freeTakesSpec.post enc Try.prog Try.f3 false true false false) := by
  refine returnsInHanded_of_change (C := Try.checked) own started (by kernel_rfl) Try.func3
    (ChangeSpec.witness6 (enc := enc) (C := Try.checked) false ⟨#[], #[.int .i64 0, .slice none 0 0, .int .i64 0], []⟩ 8 (by kernel_rfl) (by kernel_rfl) (by kernel_rfl) (by kernel_rfl)) ?_
  intro W base args ds gs before hval0 hW hcnd _
  have hval : ∀ (j : Nat) t v, Try.f3.params[j]? = some t → args[j]? = some v → Value.okWide Try.prog W .any base t v := hval0
  have hW' := hW
  obtain ⟨p, q, hA0, hV, rfl, hfz, hnd⟩ := hW
  have hA : DataW.TrodAll enc Try.prog W 0 (fun _ => true) true Try.f3.params.toList args.toList ds p := hA0
  rw [Try.params3] at hA hval
  obtain ⟨v0, vs0, d0, ds0, p0, q0, hargs, rfl, rfl, h0, r0⟩ := trodAll_cons hA
  obtain ⟨v1, vs1, d1, ds1, p1, q1, rfl, rfl, rfl, h1, r1⟩ := trodAll_cons r0
  obtain ⟨v2, vs2, d2, ds2, p2, q2, rfl, rfl, rfl, h2, r2⟩ := trodAll_cons r1
  obtain ⟨rfl, rfl, rfl⟩ := trodAll_nil r2
  obtain rfl : args = #[v0, v1, v2] := by cases args; simp_all
  obtain ⟨rfl, rfl⟩ := trodVars_none hV
  obtain ⟨a0, rfl, rfl, rfl, w0⟩ := open_int Try.underlying3 (hval 0 3 v0 rfl rfl) h0
  obtain ⟨a1, len1, cap1, rfl⟩ := okWide_slice Try.underlying22 (hval 1 22 v1 rfl rfl)
  have k1 := h1
  have lt1 : ∀ x ∈ p1, x.block < W.heap.size := by obtain ⟨m, hm⟩ := k1; exact DataW.trod_lt m _ _ _ hm
  obtain ⟨z1, w1⟩ : ∃ zs, IsRow .i64 W a1 len1 cap1 zs := by
    obtain ⟨fuel, hf⟩ := h1
    rcases open_ints Try.underlying22 Try.underlying3 (by kernel_rfl) hf with ⟨hcs, _⟩ | ⟨x, l, c, zs, hcs, _, hl, hm, hz, _, hcell, hwz⟩
    · simp [Value.cells] at hcs
      obtain ⟨rfl, rfl, rfl⟩ := hcs
      exact ⟨[], .inl ⟨rfl, rfl, rfl, rfl⟩⟩
    · simp [Value.cells] at hcs
      obtain ⟨rfl, rfl, rfl⟩ := hcs
      exact ⟨zs, .inr ⟨_, rfl, hl, hm, by simpa using hz, hcell, hwz⟩⟩
  obtain ⟨a2, rfl, rfl, rfl, w2⟩ := open_int Try.underlying3 (hval 2 3 v2 rfl rfl) h2
  clear hA0 hval0
  refine (walk a0 a1 len1 cap1 z1 a2 W w0 w1 w2).mono fun e W' ⟨he, bel⟩ => ?_
  subst he
  exact ⟨_, rfl, _, _, _, [], _, [], hW', trodAll_mk1 (shut_bool Try.underlying4 _), (trodAll_cons_mk (shut_int Try.underlying3 w0) (trodAll_cons_mk (Below.trod laidOut (by kernel_rfl) (of_decide_eq_true (by kernel_rfl)) k1 bel lt1) (trodAll_cons_mk (shut_int Try.underlying3 w2) trodAll_mk0))), rfl, bel.frame _, fun h => by cases h⟩

theorem over : Rows.freeTakesRow.holds Try.pinned (OpenSpec.ofChange Rows.freeTakesSpec) :=
  OpenClaim.holds_of_wide 3 Try.f3 rfl rfl rfl rfl rfl rfl rfl ⟨rfl, rfl, rfl, rfl, rfl⟩ rfl rfl rfl rfl rfl (by kernel_rfl) Try.func3 (by kernel_rfl)
    (of_decide_eq_true (by kernel_rfl)) (by unfold Func.isWrapper; first | (rw [if_pos (by decide +kernel)]; kernel_rfl) | (rw [if_neg (by decide +kernel)]; exact ⟨rfl, rfl⟩))
    (fun os started H enc _ => lifted os started H enc)

/-- THE STATEMENT -/
theorem proved : Rows.FreeTakesSaid := over
#print axioms proved
end Go.Proofs.Yticdoijeonkoaaa.freeTakes
