/- The law FreeJoins returns true at every input, and leaves its arguments as they were. No condition. -/
import Derived.Test.YticdoijeonkoaaaRows
import Derived.WalkKit
import Derived.ProofKit
import Derived.OpenShut
import Derived.Test.YticdoijeonkoaaaL04
import Derived.ShutString
import Derived.ChangeOld
import Derived.Below
namespace Go.Proofs.Yticdoijeonkoaaa.freeJoins
open Go.ChangeShapes Go.WideShapes Go.ChangeAt Go.RowKit
open Go.ChangeMaps (open_string shut_string)

open Go.Proofs.Yticdoijeonkoaaa.Gen Go.Proofs.Yticdoijeonkoaaa.Base Go.Proofs.Yticdoijeonkoaaa.Fr
set_option linter.unusedVariables false

theorem own : ownKnob Try.prog.godebug = none := by kernel_rfl
theorem laidOut : laidOutB Try.prog = true := by kernel_rfl
theorem addK (k : Nat) : ∃ K : Nat, 1 + (k : Int) = (K : Int) ∧ K = k + 1 := ⟨k + 1, by push_cast; omega, rfl⟩
theorem mulK (a b : Nat) : ∃ K : Nat, (a : Int) * (b : Int) = (K : Int) ∧ K = a * b := ⟨a * b, by push_cast; rfl, rfl⟩
theorem own_any {w : World} {base : Nat} {e : TypeId} {size : Nat} {v : Value} {n : Nat} {xs : List Value} (h : w.ownsRow base e size v n xs) : ∃ a cap, v = .slice a n cap ∧ n ≤ cap := by
  obtain ⟨_, ⟨h1, h2⟩ | ⟨g, cap, cur, h3, h4, h5, h6, _⟩⟩ := h
  · exact ⟨none, 0, by rw [h1, h2], by omega⟩
  · exact ⟨_, cap, h3, h6⟩

set_option maxRecDepth 100000 in
set_option maxHeartbeats 16000000 in
theorem walk (a0 : Int) (a1 : Int) (a2 : Int) (a3 : Int) (w : World) (w0 : (Lit.int .i64 a0).wf = true) (w1 : (Lit.int .i64 a1).wf = true) (w2 : (Lit.int .i64 a2).wf = true) (w3 : (Lit.int .i64 a3).wf = true) :
    Calls Try.prog 5 #[.int .i64 a0, .int .i64 a1, .int .i64 a2, .int .i64 a3] w fun e w' => e = .returned (.bool true) ∧ Below w.heap.size w w' := by
  go_enter Try.func5, Try.ntmps5
  go_wp2_with fail
  refine (place_gen _ _ (by omega) (by omega) w0 _).mono ?_
  rintro e w' ⟨k, k0, k1, rfl, rfl⟩
  obtain ⟨k, rfl⟩ := Int.eq_ofNat_of_zero_le k0
  obtain ⟨K, hK, hK2⟩ := addK k
  have hK3 : 1 ≤ K := by omega
  have hK4 : K ≤ 20 := by omega
  clear hK2
  go_wp2_with fail
  refine (place_gen _ _ (by omega) (by omega) w1 _).mono ?_
  rintro e w' ⟨m, m0, m1, rfl, rfl⟩
  obtain ⟨m, rfl⟩ := Int.eq_ofNat_of_zero_le m0
  obtain ⟨M, hM, hM2⟩ := addK m
  have hM3 : 1 ≤ M := by omega
  have hM4 : M ≤ 9 := by omega
  clear hM2
  obtain ⟨N, hN, hN2⟩ := mulK K M
  have hN3 : N ≤ 180 := by rw [hN2]; exact Nat.mul_le_mul hK4 hM4
  have HN := Lib.hid hN2; clear hN2
  go_wp2_with (go_at_call 7; refine (free_new N (by omega) w).mono ?_; rintro e u1 ⟨B1, rfl, hF1, hb1, hm1⟩; dsimp only)
  have hO1 : Own w u1 B1 := ⟨hb1, hm1⟩
  rw [tail_0] at hF1
  have HF1 := Lib.hid hF1; have HO1 := Lib.hid hO1
  clear hb1 hm1 hF1 hO1
  have HK := Lib.hid hK; have HM := Lib.hid hM
  clear hK hM
  generalize hr : B1.r = r at *
  have HR1 := Lib.hid hr; clear hr
  go_loopw [12] (fun v12 wr => ∃ (i im : Nat) (B : FB), i ≤ K ∧ v12 = .int .i64 i ∧ im = i * M ∧ B.r = r ∧ FreeAt wr B (tail N im) ∧ Own w wr B) (fun v12 wr => K - (intOf v12).toNat)
  case atStart => exact ⟨0, 0, B1, by omega, rfl, by omega, HR1.out, HF1.out, HO1.out⟩
  case round =>
    obtain ⟨i, im, B, i1, rfl, him, hBr, hF, hO⟩ := hrel
    by_cases hlt : i < K
    · have t1 : (i : Int) < (K : Int) := by omega
      have hsm : im + M ≤ N := by rw [HN.out, him, ← Nat.succ_mul]; exact Nat.mul_le_mul_right _ hlt
      have hmul : (i : Int) * (M : Int) = (im : Int) := by rw [him]; push_cast; rfl
      have hnext : im + M = (i + 1) * M := by rw [him, Nat.succ_mul]
      have hc := free_take hF M im (N - im) hM3 (best_tail hM3 hsm)
      rw [tail_take hsm, hBr] at hc
      have HO := Lib.hid hO; have HBR := Lib.hid hBr; have HNX := Lib.hid hnext
      clear hF hO hBr hnext him
      go_wp2_with (go_at_call 9; (with_reducible refine hc.mono ?_); rintro e w2 ⟨rfl, B2, hF2, hN2⟩; dsimp only)
      refine ⟨⟨i + 1, im + M, B2, by omega, by simp, HNX.out, hN2.r.trans HBR.out, hF2, HO.out.nx hN2⟩, by simp only [intOf]; omega⟩
    · obtain rfl : i = K := by omega
      have e : im = N := him.trans HN.out.symm
      subst e
      rw [blocks_none (m := M)] at hF
      have HF := Lib.hid hF; have HO := Lib.hid hO; have HBR := Lib.hid hBr
      clear hF hO hBr him HF1 HO1 HR1
      have t2 : (0 : Int) < (i : Int) := by omega
      go_wp2_with fail
      refine (place_gen _ _ (by omega) (by omega) w2 _).mono ?_
      rintro e w' ⟨st, s0, s1, rfl, rfl⟩
      obtain ⟨st, rfl⟩ := Int.eq_ofNat_of_zero_le s0
      go_wp2_with fail
      refine (place_gen _ _ (by omega) (by omega) w3 _).mono ?_
      rintro e w' ⟨c, c0, c1, rfl, rfl⟩
      obtain ⟨c, rfl⟩ := Int.eq_ofNat_of_zero_le c0
      go_wp2_with fail
      go_loopw [17] (fun v17 wr' => ∃ (j : Nat) (B : FB) (S : Nat → Bool), j ≤ i ∧ v17 = .int .i64 j ∧ B.r = r ∧ FreeAt wr' B (blocks im M S) ∧ Own w wr' B ∧ (∀ x, x < i → (S x = true ↔ x ≠ st ∧ ∃ q, q < j ∧ jj i c q = x))) (fun v17 wr' => i - (intOf v17).toNat)
      case atStart => exact ⟨0, B, fun _ => false, by omega, rfl, HBR.out, HF.out, HO.out, fun x _ => by simp⟩
      case round =>
        clear HF HO HBR B
        obtain ⟨j, B, S, j1, rfl, hBr, hF, hO, hS⟩ := hrel
        by_cases hlt : j < i
        · have hJ : ∃ J : Nat, J = jj i c j ∧ J < i := ⟨_, rfl, by unfold jj; split <;> exact Nat.mod_lt _ (by omega)⟩
          obtain ⟨J, hJ1, hJ2⟩ := hJ
          obtain ⟨J0, hJ0, hJ02⟩ : ∃ J0 : Nat, ((j : Int) * 7 + (c : Int)) % (i : Int) = (J0 : Int) ∧ J0 = (j * 7 + c) % i := ⟨_, by push_cast; rfl, rfl⟩
          obtain ⟨J3, hJ3, hJ32⟩ : ∃ J3 : Nat, ((j : Int) + (c : Int)) % (i : Int) = (J3 : Int) ∧ J3 = (j + c) % i := ⟨_, by push_cast; rfl, rfl⟩
          have hJc : (((i : Int) % 7 == 0) = true ∧ J3 = J) ∨ (((i : Int) % 7 == 0) = false ∧ J0 = J) := by
            by_cases h7 : i % 7 = 0
            · refine .inl ⟨by simp; omega, ?_⟩
              rw [hJ1, hJ32]; unfold jj; rw [if_pos h7]
            · refine .inr ⟨by simp; omega, ?_⟩
              rw [hJ1, hJ02]; unfold jj; rw [if_neg h7]
          clear hJ02 hJ32
          have t1 : (j : Int) < (i : Int) := by omega
          have u1 : (J0 : Int) < (i : Int) := by rw [← hJ0]; exact Int.emod_lt_of_pos _ (by omega)
          have u3 : (J3 : Int) < (i : Int) := by rw [← hJ3]; exact Int.emod_lt_of_pos _ (by omega)
          by_cases hst : J = st
          · have hS2 : ∀ x, x < i → (S x = true ↔ x ≠ st ∧ ∃ q, q < j + 1 ∧ jj i c q = x) := fun x hx => by
              rw [hS x hx]
              constructor
              · rintro ⟨q1, q, q2, q3⟩; exact ⟨q1, q, by omega, q3⟩
              · rintro ⟨q1, q, q2, q3⟩
                refine ⟨q1, q, ?_, q3⟩
                rcases Nat.lt_or_ge q j with d | d
                · exact d
                · obtain rfl : q = j := by omega
                  omega
            have HS2 := Lib.hid hS2; have HBR := Lib.hid hBr
            clear hS hS2 hBr hJ1
            rcases hJc with ⟨e7, rfl⟩ | ⟨e7, rfl⟩
            all_goals
              have dst : (st : Int) = (st : Int) := rfl
              subst hst
              go_wp2_with fail
              refine ⟨⟨j + 1, B, S, by omega, by simp, HBR.out, hF, hO, HS2.out⟩, by simp only [intOf]; omega⟩
          · have hSJ : S J = false := by
              cases hb : S J
              · rfl
              · obtain ⟨_, q, q2, q3⟩ := (hS J hJ2).1 hb
                have := jj_inj i (by omega) c (by omega) q (by omega) j hlt (by rw [q3, hJ1])
                omega
            have hS2 : ∀ x, x < i → ((if x = J then true else S x) = true ↔ x ≠ st ∧ ∃ q, q < j + 1 ∧ jj i c q = x) := fun x hx => by
              by_cases d : x = J
              · rw [if_pos d]
                subst d
                exact ⟨fun _ => ⟨hst, j, by omega, hJ1.symm⟩, fun _ => rfl⟩
              · rw [if_neg d, hS x hx]
                constructor
                · rintro ⟨q1, q, q2, q3⟩; exact ⟨q1, q, by omega, q3⟩
                · rintro ⟨q1, q, q2, q3⟩
                  refine ⟨q1, q, ?_, q3⟩
                  rcases Nat.lt_or_ge q j with d2 | d2
                  · exact d2
                  · obtain rfl : q = j := by omega
                    exact absurd (q3.symm.trans hJ1.symm) d
            obtain ⟨jm, hjm, hjm2⟩ := mulK J M
            have hle : jm + M ≤ im := by rw [HN.out, hjm2, ← Nat.succ_mul]; exact Nat.mul_le_mul_right _ hJ2
            have hc := free_give hF jm M hM3 (by unfold blocks; rw [mk_len]; exact hle) (by rw [hjm2]; exact blocks_shut hM3 hSJ)
            have hle2 := hle
            rw [hjm2] at hle2
            rw [show setR (blocks im M S) jm M true = blocks im M (fun x => if x = J then true else S x) by rw [hjm2]; exact blocks_give hM3 hle2, hBr] at hc
            have HS2 := Lib.hid hS2; have HBR := Lib.hid hBr; have HO := Lib.hid hO
            have dne : ((J : Int) != (st : Int)) = true := by simp; omega
            clear hS hS2 hBr hJ1 hle2 hO hF hSJ hjm2
            rcases hJc with ⟨e7, rfl⟩ | ⟨e7, rfl⟩
            all_goals
              go_wp2_with (go_at_call 11; (with_reducible refine hc.mono ?_); rintro e w2 ⟨rfl, B2, hF2, hN2⟩; dsimp only)
              refine ⟨⟨j + 1, B2, _, by omega, by simp, hN2.r.trans HBR.out, hF2, HO.out.nx hN2, HS2.out⟩, by simp only [intOf]; omega⟩
        · obtain rfl : j = i := by omega
          have hS2 : ∀ x, x < j → S x = !decide (x = st) := fun x hx => by
            have := hS x hx
            obtain ⟨q, q1, q2⟩ := jj_onto j (by omega) c (by omega) x hx
            by_cases d : x = st
            · cases hb : S x
              · simp [d]
              · exact absurd d (this.1 hb).1
            · rw [this.2 ⟨d, q, q1, q2⟩]; simp [d]
          obtain ⟨p, hp, hp2⟩ := mulK st M
          have hle : p + M ≤ im := by rw [HN.out, hp2, ← Nat.succ_mul]; exact Nat.mul_le_mul_right _ (by omega)
          have hbl : blocks im M S = hole im p (p + M) := by rw [HN.out, hp2]; exact blocks_hole hM3 hS2
          have hp3 : 0 < p ↔ 0 < st := by
            rw [hp2]; constructor
            · intro h; rcases Nat.eq_zero_or_pos st with e | e
              · rw [e, Nat.zero_mul] at h; omega
              · exact e
            · intro h; exact Nat.mul_pos h hM3
          have hq3 : p + M < im ↔ st + 1 < j := by
            rw [HN.out, hp2, ← Nat.succ_mul]; exact Nat.mul_lt_mul_right hM3
          have hnm : ((j : Int) - 1) * (M : Int) = ((im - M : Nat) : Int) := by
            rw [HN.out]; rw [show ((j : Int) - 1) = ((j - 1 : Nat) : Int) by omega, ← Int.natCast_mul, Nat.sub_mul, Nat.one_mul]
          obtain ⟨mq, hmq, hmq2⟩ : ∃ mq : Nat, max (st : Int) ((j : Int) - 1 - (st : Int)) = (mq : Int) ∧ mq = max st (j - 1 - st) := ⟨max st (j - 1 - st), by omega, rfl⟩
          have hmx : (mq : Int) * (M : Int) = ((max p (im - (p + M)) : Nat) : Int) := by
            rw [← Int.natCast_mul]
            congr 1
            rw [hp2, HN.out, hmq2, ← Nat.mul_max_mul_right]
            congr 1
            rw [Nat.sub_mul, Nat.sub_mul, Nat.one_mul]; omega
          have hmq3 : mq ≤ 20 := by omega
          rw [← hmq] at hmx
          have hmxw : wrap64 (max (st : Int) ((j : Int) - 1 - (st : Int)) * (M : Int)) = ((max p (im - (p + M)) : Nat) : Int) := by
            rw [hmx, IntWalk.wrap64_in _ ⟨by omega, by omega⟩]
          clear hmq2 hmq hmx
          rw [hbl] at hF
          have hlt1 : p < p + M := by omega
          have hL : (hole im p (p + M)).length = im := by unfold hole; exact mk_len _ _
          have hx1 : 0 < st ↔ (0 : Int) < (st : Int) := by omega
          have hx2 : st + 1 < j ↔ (st : Int) < (j : Int) - 1 := by omega
          generalize hmxe : max p (im - (p + M)) = mx at *
          have HF := Lib.hid hF; have HO := Lib.hid hO; have HBR := Lib.hid hBr; have HMX := Lib.hid hmxe
          have HP3 := Lib.hid hp3; have HQ3 := Lib.hid hq3; have HL := Lib.hid hL
          clear hF hO hBr hS hS2 hbl hp2 hp3 hq3 hmxe hL
          have hc0 := runs_any wr B _ HF.out
          rw [HBR.out] at hc0
          go_wp2_with fail
          refine hc0.mono ?_
          rintro e w2 ⟨v, R, rfl, hU, hown, hb2⟩
          obtain ⟨va, vcap, rfl, _⟩ := own_any hown
          have hlenR := upto_hole hlt1 hle hU
          have hF2 : FreeAt w2 B (hole im p (p + M)) := HF.out.below hb2
          have hcw := free_words hF2
          rw [cnt_hole hlt1 hle, show p + M - p = M by omega, HBR.out] at hcw
          have hcl := free_longest hF2
          rw [HBR.out] at hcl
          have hcg := free_give hF2 p M hM3 (by rw [HL.out]; exact hle) (fun i q1 q2 => o_hole'.2 (by omega))
          rw [show setR (hole im p (p + M)) p M true = List.replicate im true by have := hole_give hlt1 hle; rwa [show p + M - p = M by omega] at this, HBR.out] at hcg
          have HO2 := Lib.hid (HO.out.grow hb2)
          have HLR := Lib.hid hlenR
          clear hU hown hc0 hF2 hb2 hlenR
          have tail : ∀ (n : Nat), R.length = n → (n : Int) = (if 0 < st then 1 else 0) + (if st + 1 < j then 1 else 0) := fun n hn => by
            rw [← hn, HLR.out]; simp only [HP3.out, HQ3.out]
            by_cases h1 : 0 < st <;> by_cases h2 : st + 1 < j <;> simp [h1, h2]
          generalize R.length = n at *
          have htl := tail n rfl
          have HT := Lib.hid htl
          clear tail htl
          by_cases h1 : 0 < st <;> by_cases h2 : st + 1 < j
          all_goals
            have ht := HT.out
            simp only [h1, h2, if_true, if_false] at ht
            obtain rfl : n = _ := Int.ofNat_inj.1 (ht.trans (by first | exact (show (1 : Int) + 1 = ((2 : Nat) : Int) from rfl) | exact (show (1 : Int) + 0 = ((1 : Nat) : Int) from rfl) | exact (show (0 : Int) + 1 = ((1 : Nat) : Int) from rfl) | exact (show (0 : Int) + 0 = ((0 : Nat) : Int) from rfl)))
            have z1 := hx1; have z2 := hx2
            simp only [h1, h2, true_iff, false_iff] at z1 z2
            clear ht hx1 hx2 HT
            go_wp2_with fail
            refine hcw.mono ?_
            rintro e w3 ⟨rfl, rfl⟩
            dsimp only
            go_wp2_with fail
            refine hcl.mono ?_
            rintro e w3 ⟨mm, hmm, rfl, rfl⟩
            have hme : mm = mx := (most_hole hlt1 hle hmm).trans HMX.out
            rw [hme]
            clear hmm hme
            dsimp only
            go_wp2_with fail
            refine hcg.mono ?_
            rintro e w4 ⟨rfl, B4, hF4, hN4⟩
            have hBr4 : B4.r = r := hN4.r.trans HBR.out
            have hc5 := runs_any w4 B4 _ hF4
            rw [hBr4] at hc5
            have HO4 := Lib.hid (HO2.out.nx hN4)
            clear hF4 hN4 hBr4 hcw hcl hcg
            dsimp only
            go_wp2_with fail
            refine hc5.mono ?_
            rintro e w5 ⟨v5, R5, rfl, hU5, hown5, hb5⟩
            obtain ⟨va5, vcap5, rfl, _⟩ := own_any hown5
            have hR5 := upto_all (by omega) hU5
            subst hR5
            have HO5 := Lib.hid (HO4.out.grow hb5)
            clear hU5 hown5 hb5 hc5
            dsimp only [List.length_cons, List.length_nil, Nat.zero_add]
            go_wp2_with (go_at_call 14; refine (awake_any _).mono ?_; rintro e w6 ⟨rfl, hb6⟩; dsimp only)
            go_ret
            exact ⟨rfl, (HO5.out.grow hb6).below⟩

set_option maxRecDepth 100000 in
theorem lifted (os : Os) (started : os.Started) (H : Type) (enc : TypeId × Value → H) :
    ReturnsInHanded {} Try.checked os 5 .any (Rows.freeJoinsSpec.pre6 enc Try.prog Try.f5 Rows.freeJoinsRow.domain false) (Rows.freeJoinsSpec.post enc Try.prog Try.f5 false true false false) := by
  refine returnsInHanded_of_change (C := Try.checked) own started (by kernel_rfl) Try.func5
    (ChangeSpec.witness6 (enc := enc) (C := Try.checked) false ⟨#[], #[.int .i64 0, .int .i64 0, .int .i64 0, .int .i64 0], []⟩ 8 (by kernel_rfl) (by kernel_rfl) (by kernel_rfl) (by kernel_rfl)) ?_
  intro W base args ds gs before hval0 hW hcnd _
  have hval : ∀ (j : Nat) t v, Try.f5.params[j]? = some t → args[j]? = some v → Value.okWide Try.prog W .any base t v := hval0
  have hW' := hW
  obtain ⟨p, q, hA0, hV, rfl, hfz, hnd⟩ := hW
  have hA : DataW.TrodAll enc Try.prog W 0 (fun _ => true) true Try.f5.params.toList args.toList ds p := hA0
  rw [Try.params5] at hA hval
  obtain ⟨v0, vs0, d0, ds0, p0, q0, hargs, rfl, rfl, h0, r0⟩ := trodAll_cons hA
  obtain ⟨v1, vs1, d1, ds1, p1, q1, rfl, rfl, rfl, h1, r1⟩ := trodAll_cons r0
  obtain ⟨v2, vs2, d2, ds2, p2, q2, rfl, rfl, rfl, h2, r2⟩ := trodAll_cons r1
  obtain ⟨v3, vs3, d3, ds3, p3, q3, rfl, rfl, rfl, h3, r3⟩ := trodAll_cons r2
  obtain ⟨rfl, rfl, rfl⟩ := trodAll_nil r3
  obtain rfl : args = #[v0, v1, v2, v3] := by cases args; simp_all
  obtain ⟨rfl, rfl⟩ := trodVars_none hV
  obtain ⟨a0, rfl, rfl, rfl, w0⟩ := open_int Try.underlying3 (hval 0 3 v0 rfl rfl) h0
  obtain ⟨a1, rfl, rfl, rfl, w1⟩ := open_int Try.underlying3 (hval 1 3 v1 rfl rfl) h1
  obtain ⟨a2, rfl, rfl, rfl, w2⟩ := open_int Try.underlying3 (hval 2 3 v2 rfl rfl) h2
  obtain ⟨a3, rfl, rfl, rfl, w3⟩ := open_int Try.underlying3 (hval 3 3 v3 rfl rfl) h3
  clear hA0 hval0
  refine (walk a0 a1 a2 a3 W w0 w1 w2 w3).mono fun e W' ⟨he, bel⟩ => ?_
  subst he
  exact ⟨_, rfl, _, _, _, [], _, [], hW', trodAll_mk1 (shut_bool Try.underlying4 _), (trodAll_cons_mk (shut_int Try.underlying3 w0) (trodAll_cons_mk (shut_int Try.underlying3 w1) (trodAll_cons_mk (shut_int Try.underlying3 w2) (trodAll_cons_mk (shut_int Try.underlying3 w3) trodAll_mk0)))), rfl, bel.frame _, fun h => by cases h⟩

theorem over : Rows.freeJoinsRow.holds Try.pinned (OpenSpec.ofChange Rows.freeJoinsSpec) :=
  OpenClaim.holds_of_wide 5 Try.f5 rfl rfl rfl rfl rfl rfl rfl ⟨rfl, rfl, rfl, rfl, rfl⟩ rfl rfl rfl rfl rfl (by kernel_rfl) Try.func5 (by kernel_rfl)
    (of_decide_eq_true (by kernel_rfl)) (by unfold Func.isWrapper; first | (rw [if_pos (by decide +kernel)]; kernel_rfl) | (rw [if_neg (by decide +kernel)]; exact ⟨rfl, rfl⟩))
    (fun os started H enc _ => lifted os started H enc)

/-- THE STATEMENT -/
theorem proved : Rows.FreeJoinsSaid := over
#print axioms proved
end Go.Proofs.Yticdoijeonkoaaa.freeJoins
