/- The law FreeBest returns true at every input, and leaves its arguments as they were. No condition. -/
import Derived.Test.YticdoijeonkoaaaRows
import Derived.WalkKit
import Derived.ProofKit
import Derived.OpenShut
import Derived.Test.YticdoijeonkoaaaRow04
import Derived.Deep.RegionWith
import Derived.ShutString
import Derived.ChangeOld
import Derived.Below
namespace Go.Proofs.Yticdoijeonkoaaa.freeBest
open Go.ChangeShapes Go.WideShapes Go.ChangeAt Go.RowKit
open Go.ChangeMaps (open_string shut_string)
open Go.Proofs.Yticdoijeonkoaaa.Gen Go.Proofs.Yticdoijeonkoaaa.Base Go.Proofs.Yticdoijeonkoaaa.Fr
set_option linter.unusedVariables false

theorem own : ownKnob Try.prog.godebug = none := by kernel_rfl
theorem laidOut : laidOutB Try.prog = true := by kernel_rfl

/-- WHAT THE WALK IS TOLD OF A SLICE OF INTEGERS THAT CAME IN: it is nil; or it leads to a row of 'cap' cells, the numbers 'zs' (the first 'len' are its elements, the rest its spare room), each fitting its kind. -/
def IsRow (k : IntKind) (w : World) (a : Option Addr) (len cap : Nat) (zs : List Int) : Prop :=
  (a = none ∧ len = 0 ∧ cap = 0 ∧ zs = []) ∨
  ∃ x, a = some x ∧ len ≤ cap ∧ cap ≤ maxLen ∧ zs.length = cap ∧ (∀ i, i < zs.length → w.cell? (x.add i) = some (.int k (zs.getD i 0))) ∧ ∀ n ∈ zs, (Lit.int k n).wf = true

theorem row_at {w : World} {a : Option Addr} {len cap : Nat} {zs : List Int} (h : IsRow .i64 w a len cap zs) :
    (len : Int) ≤ 9223372036854775807 ∧ ∀ i, i < len → ∃ xb xo, a = some ⟨xb, xo, none⟩ ∧ xb < w.heap.size ∧ w.cell? ⟨xb, xo + i, none⟩ = some (.int .i64 (zs[i]?.getD 0)) ∧ (Lit.int .i64 (zs[i]?.getD 0)).wf = true := by
  rcases h with ⟨rfl, rfl, rfl, rfl⟩ | ⟨x, rfl, hl, hm, hz, hcell, hwz⟩
  · exact ⟨by omega, fun i hi => by omega⟩
  · refine ⟨by unfold maxLen at hm; omega, fun i hi => ?_⟩
    obtain ⟨xb, xo, spot⟩ := x
    have hspot : spot = none := by simpa [Addr.add] using World.cell?_spot (hcell 0 (by omega))
    subst hspot
    have hc : w.cell? ⟨xb, xo + i, none⟩ = some (.int .i64 (zs[i]?.getD 0)) := by
      have h := hcell i (by omega)
      by_cases e : i = 0
      · subst e; simpa [Addr.add] using h
      · simpa [Addr.add, e] using h
    exact ⟨xb, xo, rfl, World.block_lt_of_cell? _ _ hc, hc, hwz _ (by simp [show i < zs.length by omega])⟩
def sz (z : List Int) (q : Nat) : Nat := 1 + ((z[q]?.getD 0) % 12).toNat
theorem sz1 (z : List Int) (q : Nat) : 1 ≤ sz z q := by unfold sz; omega
theorem sz12 (z : List Int) (q : Nat) : sz z q ≤ 12 := by unfold sz; omega
theorem sz_int (z : List Int) (q : Nat) : 1 + (z[q]?.getD 0) % 12 = (sz z q : Int) := by unfold sz; omega
theorem cell_of_form {W : Nat} {u : World} {B : FB} {g n cap : Nat} {s : Nat → Nat} {b : Nat} (h : Beside W u B (.slice (some ⟨g, 0, none⟩) n cap) (psL s n)) (hb : b < n) : u.cell? ⟨g, b, none⟩ = some (.int .i64 (ps s b)) := by
  obtain ⟨a, c, hv, -, -, hf⟩ := h.form
  obtain ⟨g', rfl, cx⟩ := hf b (by rw [psL_len]; exact hb)
  rw [psL_at _ hb] at cx
  obtain ⟨e, -, -⟩ := Value.slice.inj hv
  obtain rfl : g = g' := by simpa using e
  exact cx
def Best3 (z : List Int) (M k : Nat) (b : Int) : Prop := (b = -1 ∧ ∀ q, q < k → sz z q < M) ∨ (∃ b' : Nat, b = b' ∧ b' < k ∧ M ≤ sz z b' ∧ ∀ q, q < k → M ≤ sz z q → sz z b' < sz z q ∨ (sz z b' = sz z q ∧ b' ≤ q))
/-! ### STEP 1: THE WALK: the Go text returns true, AND WRITES NOTHING THAT WAS THERE: 'Below w.heap.size w w'' (Derived/Below.lean: '.refl', '.alloc', '.drew', '.setCell' at a new block, '.trans'). Open each 'IsRow' by 'rcases' AHEAD of 'go_enter'; part every test ahead of the walk. -/
set_option maxRecDepth 100000 in
set_option maxHeartbeats 16000000 in
theorem walk (a0 : Option Addr) (len0 cap0 : Nat) (z0 : List Int) (a1 : Int) (w : World) (w0 : IsRow .i64 w a0 len0 cap0 z0) (w1 : (Lit.int .i64 a1).wf = true) :
    Calls Try.prog 4 #[.slice a0 len0 cap0, .int .i64 a1] w fun e w' => e = .returned (.bool true) ∧ Below w.heap.size w w' := by
  obtain ⟨hl0, hcell⟩ := row_at w0
  have HCELL := Lib.hid hcell; clear hcell w0
  have hn : Calls Try.prog 7 #[.int .i64 1000] w fun e w' => ∃ B, e = .returned (.pointer (some ⟨B.r, 0, none⟩)) ∧ FreeAt w' B (List.replicate 1000 true) ∧ Below w.heap.size w w' ∧ (∀ k, mine B k → w.heap.size ≤ k) := free_new 1000 (by omega) w
  rw [tail_0] at hn
  have HT : Hid (tail 1000 (ps (sz z0) 0) = tail 1000 0) := Lib.hid rfl
  have hps := fun n => ps_le (sz z0) (sz12 z0) n
  have HPS := Lib.hid hps; clear hps
  go_enter Try.func4, Try.ntmps4
  go_wp2_with (go_at_call 7; refine hn.mono ?_; rintro e u1 ⟨B1, rfl, hF1, hb1, hm1⟩; dsimp only)
  have hO1 : Own w u1 B1 := ⟨hb1, hm1⟩
  have HF1 := Lib.hid hF1; have HO1 := Lib.hid hO1
  clear hb1 hm1 hF1 hO1 hn
  generalize hr : B1.r = r at *
  have HR1 := Lib.hid hr; clear hr
  go_loopw [6, 7, 8] (fun v6 v7 v8 wr => ∃ (i : Nat) (B : FB), i ≤ min len0 30 ∧ v8 = .int .i64 i ∧ B.r = r ∧ Two w.heap.size wr B (tail 1000 (ps (sz z0) i)) v6 (psL (sz z0) i) v7 (szL (sz z0) i) ∧ Own w wr B) (fun _ _ v8 wr => 30 - (intOf v8).toNat)
  case atStart => exact ⟨0, B1, by omega, rfl, HR1.out, ⟨by rw [HT.out]; exact HF1.out, Beside.nil _ _ _, Beside.nil _ _ _, fun k hk => by simp [Value.ownBlock] at hk⟩, HO1.out⟩
  case round =>
    obtain ⟨i, B, i1, rfl, hBr, hT, hO⟩ := hrel
    by_cases hlt : i < min len0 30
    · obtain ⟨xb, xo, rfl, hxb, hxc, hxw⟩ := HCELL.out i (by omega)
      have hx : wr.cell? ⟨xb, xo + i, none⟩ = some (.int .i64 (z0[i]?.getD 0)) := by rw [hO.below.cell (p := ⟨xb, xo + i, none⟩) hxb]; exact hxc
      have t1 : decide ((i : Int) < (len0 : Int)) = true := by simp; omega
      have t1' : (i : Int) < (len0 : Int) := by omega
      have t2 : (i : Int) < 30 := by omega
      have t0 : (0 : Int) ≤ (i : Int) := by omega
      have hsi := sz_int z0 i
      have hs1 := sz1 z0 i
      have hs2 := sz12 z0 i
      have hpi := HPS.out i
      have hc1 := free_take hT.free (sz z0 i) (ps (sz z0) i) (1000 - ps (sz z0) i) hs1 (best_tail hs1 (by omega))
      rw [tail_take (by omega), hBr] at hc1
      have hxl : (psL (sz z0) i).length = i ∧ (szL (sz z0) i).length = i := ⟨psL_len _ _, szL_len _ _⟩
      have HX := Lib.hid hxl; clear hxl
      have HPS1 : Hid (ps (sz z0) (i + 1) = ps (sz z0) i + sz z0 i + 1) := Lib.hid rfl
      have HAS := Lib.hid (psL_succ (sz z0) i); have HBS := Lib.hid (szL_succ (sz z0) i)
      generalize ps (sz z0) i = P at *
      generalize sz z0 i = S at *
      generalize z0[i]?.getD 0 = Z at *
      have HT := Lib.hid hT; have HO := Lib.hid hO; have HBR := Lib.hid hBr
      clear hT hO hBr hxc
      go_wp2_with fail
      refine (place_any _ _ (by omega) (by omega) hxw _).mono ?_
      rintro e w' ⟨rfl, rfl⟩
      dsimp only
      go_wp2_with (go_at_call 9; (with_reducible refine hc1.mono ?_); rintro e w2 ⟨rfl, B2, hF2, hN2⟩; dsimp only)
      have hBr2 : B2.r = r := hN2.r.trans HBR.out
      have hT2 := HT.out.nx hF2 hN2
      have hO2 := HO.out.nx hN2
      have hc2 : Calls Try.prog 9 #[.pointer (some ⟨B2.r, 0, none⟩), .int .i64 1] w2 fun e w' => e = .returned (.tuple #[.int .i64 ((P + S : Nat) : Int), .bool true]) ∧ ∃ B', FreeAt w' B' (setR (tail 1000 (P + S)) (P + S) 1 false) ∧ Nx B2 w2 B' w' := free_take hF2 1 (P + S) (1000 - (P + S)) (by omega) (best_tail (by omega) (by omega))
      rw [tail_take (by omega), hBr2] at hc2
      have HT2 := Lib.hid hT2; have HO2 := Lib.hid hO2; have HBR2 := Lib.hid hBr2
      generalize P + S = PS at *
      clear hT2 hO2 hBr2 hF2 hN2 hc1 HT HO HBR
      refine hc2.mono ?_
      rintro e w3 ⟨rfl, B3, hF3, hN3⟩
      dsimp only
      have HBR3 := Lib.hid (hN3.r.trans HBR2.out)
      have hT3 := HT2.out.nx hF3 hN3
      have HO3 := Lib.hid (HO2.out.nx hN3)
      clear hc2 hF3 hN3 HT2 HO2 HBR2
      rw [← HPS1.out] at hT3
      have hW3 := HO3.out.below.size
      have HT3 := Lib.hid hT3; clear hT3
      go_wp2_with (at_builtin; refine wpl_app1 rfl (.tmp 59) (.tmp 61) (by rfl) _ _ _ (by rfl) (owns_keep HT3.out.a.row fun k hk => heap_alloc_old _ _ (HT3.out.a.lt hk)) ⟨w3.heap.size, 0, none⟩ 1 P (by rfl) (new_cell _ _ _ rfl) (by rw [HX.out.1]; omega) ?_)
      intro v' w4 hown4 hgrow4 hvo4
      obtain ⟨hT4, hb4⟩ := HT3.out.app hW3 hgrow4 hown4 (by simpa using hvo4)
      rw [HAS.out] at hT4
      have hW4 : w.heap.size ≤ w4.heap.size := by have := hb4.size; omega
      have HT4 := Lib.hid hT4.swap; have HB4 := Lib.hid hb4
      clear hown4 hgrow4 hvo4 hT4 hb4
      go_wp2_with (at_builtin; refine wpl_app1 rfl (.tmp 63) (.tmp 65) (by rfl) _ _ _ (by rfl) (owns_keep HT4.out.a.row fun k hk => heap_alloc_old _ _ (HT4.out.a.lt hk)) ⟨w4.heap.size, 0, none⟩ 1 S (by rfl) (new_cell _ _ _ rfl) (by rw [HX.out.2]; omega) ?_)
      intro v'' w5 hown5 hgrow5 hvo5
      obtain ⟨hT5, hb5⟩ := HT4.out.app hW4 hgrow5 hown5 (by simpa using hvo5)
      rw [HBS.out] at hT5
      have HT5 := Lib.hid hT5.swap
      have HO5 : Hid (Own w w5 B3) := Lib.hid ⟨(HO3.out.below.trans HB4.out).trans hb5, HO3.out.own⟩
      clear hown5 hgrow5 hvo5 hT5 hb5
      go_wp2_with fail
      refine ⟨⟨i + 1, B3, by omega, by simp, HBR3.out, HT5.out, HO5.out⟩, by simp only [intOf]; omega⟩
    · have hpi := HPS.out i
      have hin : i = min len0 30 := by omega
      have t3 : (decide ((i : Int) < (len0 : Int)) = true ∧ (i : Int) < (len0 : Int) ∧ 30 ≤ (i : Int)) ∨ (decide ((i : Int) < (len0 : Int)) = false ∧ ¬ (i : Int) < (len0 : Int)) := by
        by_cases c : i < len0
        · exact .inl ⟨by simp; omega, by omega, by omega⟩
        · exact .inr ⟨by simp; omega, by omega⟩
      have i30 : i ≤ 30 := by omega
      clear hlt HF1 HO1 HR1 HT hin i1
      have hcl := free_longest hT.free
      rw [hBr] at hcl
      have hlt1 : ps (sz z0) i < 1000 := by omega
      have hct := free_take hT.free (1000 - ps (sz z0) i) (ps (sz z0) i) (1000 - ps (sz z0) i) (by omega) (best_tail (by omega) (by omega))
      rw [tail_take (by omega), hBr, show ps (sz z0) i + (1000 - ps (sz z0) i) = 1000 by omega, gaps_0 (sz := sz z0)] at hct
      have hMT := fun m => most_tail (m := m) hlt1
      have HMT := Lib.hid hMT
      have hle : ∀ q, q < i → ps (sz z0) q + sz z0 q ≤ 1000 := fun q hq => by have := ps_mono (sz z0) hq; omega
      have HLE := Lib.hid hle
      have h0L : 0 < 1000 - ps (sz z0) i := by omega
      generalize hL : 1000 - ps (sz z0) i = L at *
      have HL := Lib.hid hL
      have HT := Lib.hid hT; have HO := Lib.hid hO; have HBR := Lib.hid hBr
      clear hT hO hBr hMT hle hlt1 hL
      rcases t3 with ⟨t3, t4, t5⟩ | ⟨t3, t4⟩
      all_goals
        go_wp2_with fail
        refine hcl.mono ?_
        rintro e w2 ⟨m, hm, rfl, rfl⟩
        rw [HMT.out m hm]
        clear hcl hm
        dsimp only
        have tL : (0 : Int) < (L : Int) := by omega
        go_wp2_with (go_at_call 9; (with_reducible refine hct.mono ?_); rintro e w3 ⟨rfl, B3, hF3, hN3⟩; dsimp only)
        have HT3 := Lib.hid (HT.out.nx hF3 hN3)
        have HO3 := Lib.hid (HO.out.nx hN3)
        have HBR3 := Lib.hid (hN3.r.trans HBR.out)
        clear hct hF3 hN3 HT HO HBR HMT HL
        obtain ⟨aa, capa, hva, hca1, hca2, _⟩ := HT3.out.a.form
        obtain ⟨ab, capb, hvb, hcb1, hcb2, _⟩ := HT3.out.b.form
        rw [psL_len] at hva hca1
        rw [szL_len] at hvb hcb1
        subst hva hvb
        go_loopw [17] (fun v17 wr => ∃ (j : Nat) (B : FB), j ≤ i ∧ v17 = .int .i64 j ∧ B.r = r ∧ Two w.heap.size wr B (gaps 1000 (sz z0) j) (.slice aa i capa) (psL (sz z0) i) (.slice ab i capb) (szL (sz z0) i) ∧ Own w wr B) (fun v17 wr => i - (intOf v17).toNat)
        case atStart => exact ⟨0, B3, by omega, rfl, HBR3.out, HT3.out, HO3.out⟩
        case round =>
          clear HT3 HO3 HBR3
          obtain ⟨j, B4, j1, rfl, hBr, hT, hO⟩ := hrel
          by_cases hlt : j < i
          · have q1 : (j : Int) < (i : Int) := by omega
            have q0 : (0 : Int) ≤ (j : Int) := by omega
            have hle := HLE.out j hlt
            have hs1 := sz1 z0 j
            have hTd : Two w.heap.size wr.drew B4 (gaps 1000 (sz z0) j) (.slice aa i capa) (psL (sz z0) i) (.slice ab i capb) (szL (sz z0) i) := hT.drewN 1
            have hOd : Own w wr.drew B4 := hO.drewN 1
            have hcg := free_give hTd.free (ps (sz z0) j) (sz z0 j) hs1 (by unfold gaps; rw [mk_len]; exact hle) gaps_shut
            rw [gaps_give hle, hBr] at hcg
            obtain ⟨_, _, hv1, -, -, hf1⟩ := hT.a.form
            obtain ⟨_, _, hv2, -, -, hf2⟩ := hT.b.form
            obtain ⟨ga, rfl, cxa⟩ := hf1 j (by rw [psL_len]; exact hlt)
            obtain ⟨gb, rfl, cxb⟩ := hf2 j (by rw [szL_len]; exact hlt)
            rw [psL_at _ hlt] at cxa
            rw [szL_at _ hlt] at cxb
            obtain ⟨e1, -, -⟩ := Value.slice.inj hv1
            obtain ⟨e2, -, -⟩ := Value.slice.inj hv2
            subst e1 e2
            have HT := Lib.hid hTd; have HO := Lib.hid hOd; have HBR := Lib.hid hBr
            clear hT hO hBr hv1 hv2 hf1 hf2 hle hTd hOd
            go_upto_region 22 with fail
            go_region_with ((go_at_call 11; (with_reducible refine hcg.mono ?_); rintro e w4 ⟨rfl, B5, hF5, hN5⟩; dsimp only))
            all_goals
              have HT5 := Lib.hid (HT.out.nx hF5 hN5)
              have HO5 := Lib.hid (HO.out.nx hN5)
              have HBR5 := Lib.hid (hN5.r.trans HBR.out)
              clear hF5 hN5 hcg HT HO HBR
              go_wp2_with fail
              refine ⟨⟨j + 1, B5, by omega, by simp, HBR5.out, HT5.out, HO5.out⟩, by simp only [intOf]; omega⟩
          · obtain rfl : j = i := by omega
            have HT := Lib.hid hT; have HO := Lib.hid hO; have HBR := Lib.hid hBr
            clear hT hO hBr
            go_wp2_with fail
            refine (place_gen _ _ (by omega) (by omega) w1 _).mono ?_
            rintro e w' ⟨mm, mm0, mm1, rfl, rfl⟩
            obtain ⟨mm, rfl⟩ := Int.eq_ofNat_of_zero_le mm0
            obtain ⟨M, hM, hM2⟩ : ∃ M : Nat, 1 + (mm : Int) = (M : Int) ∧ M = mm + 1 := ⟨mm + 1, by push_cast; omega, rfl⟩
            have hM3 : 1 ≤ M := by omega
            have hM4 : M ≤ 13 := by omega
            clear hM2
            dsimp only
            go_wp2_with fail
            go_loopw [19, 20] (fun v19 v20 wr' => ∃ (k : Nat) (b : Int), k ≤ j ∧ v20 = .int .i64 k ∧ v19 = .int .i64 b ∧ Best3 z0 M k b ∧ Two w.heap.size wr' B4 (gaps 1000 (sz z0) j) (.slice aa j capa) (psL (sz z0) j) (.slice ab j capb) (szL (sz z0) j) ∧ Own w wr' B4) (fun _ v20 wr' => j - (intOf v20).toNat)
            case atStart => exact ⟨0, -1, by omega, rfl, rfl, .inl ⟨rfl, fun q hq => by omega⟩, HT.out, HO.out⟩
            case round =>
              clear HT HO
              obtain ⟨k, b, k1, rfl, rfl, hbest, hT, hO⟩ := hrel
              by_cases hlt : k < j
              · have q1 : (k : Int) < (j : Int) := by omega
                have q0 : (0 : Int) ≤ (k : Int) := by omega
                have hs1 := sz1 z0 k
                obtain ⟨_, _, hv2, -, -, hf2⟩ := hT.b.form
                obtain ⟨gb, rfl, cxb⟩ := hf2 k (by rw [szL_len]; exact hlt)
                rw [szL_at _ hlt] at cxb
                obtain ⟨e2, -, -⟩ := Value.slice.inj hv2
                subst e2
                have hfb : ∀ b', b' < j → wr.cell? ⟨gb, b', none⟩ = some (.int .i64 (sz z0 b')) := fun b' hb' => by
                  obtain ⟨g', e', c'⟩ := hf2 b' (by rw [szL_len]; exact hb')
                  obtain rfl : gb = g' := by simpa using e'
                  rw [szL_at _ hb'] at c'; exact c'
                have HT0 := Lib.hid hT; have HO0 := Lib.hid hO
                clear hT hO hv2 hf2
                by_cases hfit : M ≤ sz z0 k
                · have d1 : decide ((M : Int) ≤ (sz z0 k : Int)) = true := by simp; omega
                  rcases hbest with ⟨rfl, hno⟩ | ⟨b', rfl, hb1, hb2, hb3⟩
                  · have HB : Hid (Best3 z0 M (k + 1) k) := Lib.hid (.inr ⟨k, rfl, by omega, hfit, fun q hq hm => by
                      by_cases e : q = k
                      · subst e; exact .inr ⟨rfl, Nat.le_refl _⟩
                      · have := hno q (by omega); omega⟩)
                    clear hno hfb
                    generalize sz z0 k = S at *
                    go_upto_region 29 with fail
                    go_quiet (fail)
                    go_wp2_with fail
                    refine ⟨⟨k + 1, k, by omega, by simp, by simp, HB.out, HT0.out.drewN _, HO0.out.drewN _⟩, by simp only [intOf]; omega⟩
                  · have cxc := hfb b' (by omega)
                    have q2 : (b' : Int) < (j : Int) := by omega
                    have d2 : decide ((b' : Int) < 0) = false := by simp
                    by_cases hless : sz z0 k < sz z0 b'
                    · have HB : Hid (Best3 z0 M (k + 1) k) := Lib.hid (.inr ⟨k, rfl, by omega, hfit, fun q hq hm => by
                        by_cases e : q = k
                        · subst e; exact .inr ⟨rfl, Nat.le_refl _⟩
                        · have := hb3 q (by omega) hm; omega⟩)
                      have d3 : decide ((sz z0 k : Int) < (sz z0 b' : Int)) = true := by simp; omega
                      clear hb3 hfb
                      generalize sz z0 k = S at *
                      generalize sz z0 b' = S2 at *
                      go_upto_region 29 with fail
                      go_quiet (fail)
                      go_wp2_with fail
                      refine ⟨⟨k + 1, k, by omega, by simp, by simp, HB.out, HT0.out.drewN _, HO0.out.drewN _⟩, by simp only [intOf]; omega⟩
                    · have HB : Hid (Best3 z0 M (k + 1) b') := Lib.hid (.inr ⟨b', rfl, by omega, hb2, fun q hq hm => by
                        by_cases e : q = k
                        · subst e; omega
                        · exact hb3 q (by omega) hm⟩)
                      have d3 : decide ((sz z0 k : Int) < (sz z0 b' : Int)) = false := by simp; omega
                      clear hb3 hfb
                      generalize sz z0 k = S at *
                      generalize sz z0 b' = S2 at *
                      go_upto_region 29 with fail
                      go_quiet (fail)
                      go_wp2_with fail
                      refine ⟨⟨k + 1, b', by omega, by simp, by simp, HB.out, HT0.out.drewN _, HO0.out.drewN _⟩, by simp only [intOf]; omega⟩
                · have d1 : decide ((M : Int) ≤ (sz z0 k : Int)) = false := by simp; omega
                  have HB : Hid (Best3 z0 M (k + 1) b) := Lib.hid (by
                    rcases hbest with ⟨e, hno⟩ | ⟨b', e, hb1, hb2, hb3⟩
                    · refine .inl ⟨e, fun q hq => ?_⟩
                      by_cases e : q = k
                      · subst e; omega
                      · exact hno q (by omega)
                    · refine .inr ⟨b', e, by omega, hb2, fun q hq hm => ?_⟩
                      by_cases e : q = k
                      · subst e; omega
                      · exact hb3 q (by omega) hm)
                  clear hbest hfb
                  generalize sz z0 k = S at *
                  go_upto_region 29 with fail
                  go_quiet (fail)
                  go_wp2_with fail
                  refine ⟨⟨k + 1, b, by omega, by simp, by simp, HB.out, HT0.out.drewN _, HO0.out.drewN _⟩, by simp only [intOf]; omega⟩
              · obtain rfl : k = j := by omega
                rcases hbest with ⟨rfl, hno⟩ | ⟨b', rfl, hb1, hb2, hb3⟩
                · have hc := free_none hT.free M hM3 (by omega) (fun a m hr => by
                    obtain ⟨q, q1, rfl, rfl⟩ := (run_gaps (sz1 z0) HLE.out a m).1 hr
                    exact hno q q1)
                  rw [HBR.out] at hc
                  have HO := Lib.hid hO
                  clear hno hT hO
                  go_wp2_with (first | (go_at_call 9; (with_reducible refine hc.mono ?_); rintro e w5 ⟨rfl, q5, rfl⟩; dsimp only) | (go_at_call 14; refine (awake_any _).mono ?_; rintro e w6 ⟨rfl, hb6⟩; dsimp only))
                  go_ret
                  exact ⟨rfl, ((HO.out.drewN _).grow hb6).below⟩
                · have hc := free_take hT.free M (ps (sz z0) b') (sz z0 b') hM3 (best_gaps (sz1 z0) HLE.out hb1 hb2 hb3)
                  rw [HBR.out] at hc
                  have HT := Lib.hid hT; have HO := Lib.hid hO
                  have q2 : (b' : Int) < (k : Int) := by omega
                  have d2 : decide ((b' : Int) < 0) = false := by simp
                  have q0 : (0 : Int) ≤ (b' : Int) := by omega
                  obtain ⟨_, _, hv1, -, -, hf1⟩ := hT.a.form
                  obtain ⟨ga, rfl, -⟩ := hf1 b' (by rw [psL_len]; exact hb1)
                  obtain ⟨e1, -, -⟩ := Value.slice.inj hv1
                  subst e1
                  clear hT hO hv1 hf1 hb3
                  go_wp2_with (go_at_call 9; (with_reducible refine hc.mono ?_); rintro e w5 ⟨rfl, B6, hF6, hN6⟩; have cxa := cell_of_form (HT.out.nx hF6 hN6).a hb1; have HO6 := Lib.hid (HO.out.nx hN6); clear hF6 hN6; dsimp only)
                  refine (awake_any _).mono ?_
                  rintro e w6 ⟨rfl, hb6⟩
                  dsimp only
                  go_wp2_with fail
                  go_ret
                  exact ⟨rfl, (HO6.out.grow hb6).below⟩

/-! ### THE ROW's STEP: WRITTEN OUT: LEAVE IT -/
set_option maxRecDepth 100000 in
theorem lifted (os : Os) (started : os.Started) (H : Type) (enc : TypeId × Value → H) :
    ReturnsInHanded {} Try.checked os 4 .any (Rows.freeBestSpec.pre6 enc Try.prog Try.f4 Rows.freeBestRow.domain false) (Rows.freeBestSpec.post enc Try.prog Try.f4 false true false false) := by
  refine returnsInHanded_of_change (C := Try.checked) own started (by kernel_rfl) Try.func4
    (ChangeSpec.witness6 (enc := enc) (C := Try.checked) false ⟨#[], #[.slice none 0 0, .int .i64 0], []⟩ 8 (by kernel_rfl) (by kernel_rfl) (by kernel_rfl) (by kernel_rfl)) ?_
  intro W base args ds gs before hval0 hW hcnd _
  have hval : ∀ (j : Nat) t v, Try.f4.params[j]? = some t → args[j]? = some v → Value.okWide Try.prog W .any base t v := hval0
  have hW' := hW
  obtain ⟨p, q, hA0, hV, rfl, hfz, hnd⟩ := hW
  have hA : DataW.TrodAll enc Try.prog W 0 (fun _ => true) true Try.f4.params.toList args.toList ds p := hA0
  rw [Try.params4] at hA hval
  obtain ⟨v0, vs0, d0, ds0, p0, q0, hargs, rfl, rfl, h0, r0⟩ := trodAll_cons hA
  obtain ⟨v1, vs1, d1, ds1, p1, q1, rfl, rfl, rfl, h1, r1⟩ := trodAll_cons r0
  obtain ⟨rfl, rfl, rfl⟩ := trodAll_nil r1
  obtain rfl : args = #[v0, v1] := by cases args; simp_all
  obtain ⟨rfl, rfl⟩ := trodVars_none hV
  obtain ⟨a0, len0, cap0, rfl⟩ := okWide_slice Try.underlying22 (hval 0 22 v0 rfl rfl)
  have k0 := h0
  have lt0 : ∀ x ∈ p0, x.block < W.heap.size := by obtain ⟨m, hm⟩ := k0; exact DataW.trod_lt m _ _ _ hm
  obtain ⟨z0, w0⟩ : ∃ zs, IsRow .i64 W a0 len0 cap0 zs := by
    obtain ⟨fuel, hf⟩ := h0
    rcases open_ints Try.underlying22 Try.underlying3 (by kernel_rfl) hf with ⟨hcs, _⟩ | ⟨x, l, c, zs, hcs, _, hl, hm, hz, _, hcell, hwz⟩
    · simp [Value.cells] at hcs
      obtain ⟨rfl, rfl, rfl⟩ := hcs
      exact ⟨[], .inl ⟨rfl, rfl, rfl, rfl⟩⟩
    · simp [Value.cells] at hcs
      obtain ⟨rfl, rfl, rfl⟩ := hcs
      exact ⟨zs, .inr ⟨_, rfl, hl, hm, by simpa using hz, hcell, hwz⟩⟩
  obtain ⟨a1, rfl, rfl, rfl, w1⟩ := open_int Try.underlying3 (hval 1 3 v1 rfl rfl) h1
  clear hA0 hval0
  refine (walk a0 len0 cap0 z0 a1 W w0 w1).mono fun e W' ⟨he, bel⟩ => ?_
  subst he
  exact ⟨_, rfl, _, _, _, [], _, [], hW', trodAll_mk1 (shut_bool Try.underlying4 _), (trodAll_cons_mk (Below.trod laidOut (by kernel_rfl) (of_decide_eq_true (by kernel_rfl)) k0 bel lt0) (trodAll_cons_mk (shut_int Try.underlying3 w1) trodAll_mk0)), rfl, bel.frame _, fun h => by cases h⟩

theorem over : Rows.freeBestRow.holds Try.pinned (OpenSpec.ofChange Rows.freeBestSpec) :=
  OpenClaim.holds_of_wide 4 Try.f4 rfl rfl rfl rfl rfl rfl rfl ⟨rfl, rfl, rfl, rfl, rfl⟩ rfl rfl rfl rfl rfl (by kernel_rfl) Try.func4 (by kernel_rfl)
    (of_decide_eq_true (by kernel_rfl)) (by unfold Func.isWrapper; first | (rw [if_pos (by decide +kernel)]; kernel_rfl) | (rw [if_neg (by decide +kernel)]; exact ⟨rfl, rfl⟩))
    (fun os started H enc _ => lifted os started H enc)

/-- THE STATEMENT -/
theorem proved : Rows.FreeBestSaid := over
#print axioms proved
end Go.Proofs.Yticdoijeonkoaaa.freeBest
