/- Make of package heap, where there is room or none. -/
import Derived.Test.YtljgnmbjidkjnaaHeap5
namespace Go.Proofs.Ytljgnmbjidkjnaa.Hp
open Go.Proofs.Ytljgnmbjidkjnaa.Gen Go.Proofs.Ytljgnmbjidkjnaa.Base Go.Proofs.Ytljgnmbjidkjnaa.Fr Go.ChangeShapes Go.WideShapes Go.ChangeAt Go.RowKit
set_option linter.unusedVariables false
theorem u32E {E : Int} {f n S O : Nat} (h : Kind f n S O E) : 0 ≤ E ∧ E ≤ 4294967295 ∧ S ≤ 60 ∧ O ≤ 3 ∧ 1 ≤ f ∧ f ≤ 3 ∧ n ≤ 200 := by
  rcases h with ⟨h1, h2, h3, h4, h5⟩ | ⟨h1, h2, h3, h4, h5⟩ <;> omega
theorem gr_hnx {w w' : World} {X : HB} (g : Gr w w') : HNx X w X w' := ⟨g.2.os, g.2.tape, g.2.output, g.2.size, fun k hk _ => g.2.block k hk, fun _ h => .inl h, rfl⟩
section
variable {w : World} {X : HB} {ws : List Int} {l bg : List Bool}
set_option maxHeartbeats 2000000 in
theorem hp_Make_full (h : HpAt w X ws l bg) (f n S O : Nat) (E : Int) (hk : Kind f n S O E) (c hs : Nat) (hc : c ≤ 65536) (hh : hs ≤ 3000) (hB : ∀ a m, Run l a m → m < 3 + S) :
    Calls Try.prog 12 #[.pointer (some ⟨X.h, 0, none⟩), .int .i64 f, .int .i64 n, .int .i64 c, .int .i64 hs] w
      fun e w' => e = .returned (.tuple #[.int .i64 0, .bool false]) ∧ ∃ q, w' = w.drewN q := by
  have hm := may_any f n w
  rw [hk.may] at hm
  obtain ⟨E0, E1, S1, O1, f1, f2, n2⟩ := u32E hk
  have hwi := Wd.word_Int_in 0 (by omega) (by omega) w
  rw [show Wd.wi 0 = 1 from rfl] at hwi
  have c1 := h.c1
  obtain ⟨T, hT, hT2⟩ : ∃ T : Nat, 3 + (S : Int) = (T : Int) ∧ T = 3 + S := ⟨3 + S, by push_cast; rfl, rfl⟩
  have hct := free_none h.free (3 + S) (by omega) (by omega) hB
  rw [← hT2] at hct
  clear h hT2 hB
  rcases hk with ⟨k1, k2, k3, k4, k5⟩ | ⟨k1, k2, k3, k4, k5⟩
  · have d3 : ((f : Int) == 3) = false := by simp; omega
    subst k3 k4 k5
    clear k1
    go_enter Try.func12, Try.ntmps12
    go_wp2_with (first | (go_at_call 36; (with_reducible refine hm.mono ?_); rintro e w2 ⟨rfl, rfl⟩; dsimp only) | (go_at_call 37; (with_reducible refine hwi.mono ?_); rintro e w2 ⟨rfl, rfl⟩; dsimp only) | (go_at_call 38; (with_reducible refine hct.mono ?_); rintro e w2 ⟨rfl, q, rfl⟩; dsimp only))
    go_ret2
    exact ⟨rfl, q, rfl⟩
  · have d3 : ((f : Int) == 3) = true := by simp; omega
    have q1 : ((n : Int) + 4 - 1) / 4 = (S : Int) := by omega
    have q2 : (S : Int) * 4 - (n : Int) = (O : Int) := by omega
    subst k5
    clear k1 k3 k4
    go_enter Try.func12, Try.ntmps12
    go_wp2_with (first | (go_at_call 36; (with_reducible refine hm.mono ?_); rintro e w2 ⟨rfl, rfl⟩; dsimp only) | (go_at_call 37; (with_reducible refine hwi.mono ?_); rintro e w2 ⟨rfl, rfl⟩; dsimp only) | (go_at_call 38; (with_reducible refine hct.mono ?_); rintro e w2 ⟨rfl, q, rfl⟩; dsimp only))
    go_ret2
    exact ⟨rfl, q, rfl⟩
set_option maxHeartbeats 2000000 in
theorem hp_Make_ok (h : HpAt w X ws l bg) (f n S O : Nat) (E : Int) (hk : Kind f n S O E) (c hs : Nat) (hc : c ≤ 65536) (hh : hs ≤ 3000) (p m : Nat) (hB : Best (Run l) (3 + S) p m) :
    Calls Try.prog 12 #[.pointer (some ⟨X.h, 0, none⟩), .int .i64 f, .int .i64 n, .int .i64 c, .int .i64 hs] w
      fun e w' => e = .returned (.tuple #[.int .i64 ((p : Int) + 1), .bool true]) ∧ ∃ X', HpAt w' X' (mkW ws p S (Hd.hput S f O 0 false true) (Wd.wr c) (Wd.wi hs) E) (setR l p (3 + S) false) (bg.set p true) ∧ HNx X w X' w' := by
  have hm := may_any f n w
  rw [hk.may] at hm
  obtain ⟨E0, E1, S1, O1, f1, f2, n2⟩ := u32E hk
  have hwi := Wd.word_Int_in 0 (by omega) (by omega) w
  rw [show Wd.wi 0 = 1 from rfl] at hwi
  have c1 := h.c1
  obtain ⟨T, hT, hT2⟩ : ∃ T : Nat, 3 + (S : Int) = (T : Int) ∧ T = 3 + S := ⟨3 + S, by push_cast; rfl, rfl⟩
  have hfit := hB.run.le
  have hfit2 := hB.fits
  have hll := h.e2
  have hbl := h.len
  have hwl := h.e1
  have hct := free_take h.free (3 + S) p m (by omega) hB
  rw [← hT2] at hct
  have H := Lib.hid h; have HT2 := Lib.hid hT2
  have hpn : p + 3 + S ≤ bg.length := by omega
  clear h hT2 hB hfit hfit2
  rcases hk with ⟨k1, k2, k3, k4, k5⟩ | ⟨k1, k2, k3, k4, k5⟩
  · have d3 : ((f : Int) == 3) = false := by simp; omega
    subst k3 k4 k5
    clear k1
    go_enter Try.func12, Try.ntmps12
    go_wp2_with (first | (go_at_call 36; (with_reducible refine hm.mono ?_); rintro e w2 ⟨rfl, rfl⟩; dsimp only) | (go_at_call 37; (with_reducible refine hwi.mono ?_); rintro e w2 ⟨rfl, rfl⟩; dsimp only))
    refine hct.mono ?_
    rintro e w2 ⟨rfl, B2, hF2, hN2⟩
    obtain ⟨X2, hh2, hA2, hN2⟩ : ∃ X2, X2.h = X.h ∧ HpAt w2 X2 ws (setR l p T false) bg ∧ HNx X w X2 w2 := ⟨_, rfl, (H.out.frees hF2 hN2 (setR_len _ _ _ _)).1, (H.out.frees hF2 hN2 (setR_len _ _ _ _)).2⟩
    rw [HT2.out] at hA2
    have HA2 := Lib.hid hA2; have HN2 := Lib.hid hN2; have HH2 := Lib.hid hh2
    clear hA2 hN2 hh2 hF2 hct
    dsimp only
    go_wp2_with fail
    refine (Hd.hd_Put S f 0 0 false true w2).mono ?_
    rintro e w3 ⟨rfl, g3⟩
    have hA3 := HA2.out.below g3.2
    have hp3 := hp_putN hA3 ((p : Int) + 1) (Hd.hput S f 0 0 false true) p rfl (by omega) (Hd.hput_bd _ _ _ _ _ _).1 (by have := (Hd.hput_bd S f 0 0 false true).2; omega)
    rw [HH2.out] at hp3
    have HN3 := Lib.hid (HN2.out.trans (gr_hnx g3))
    generalize hHD : Hd.hput S f 0 0 false true = HD at *
    have EHD := Lib.hid hHD; clear hHD
    clear hA3 HA2 HN2 g3
    dsimp only
    go_wp2_with fail
    refine hp3.mono ?_
    rintro e w4 ⟨rfl, hA4, hN4⟩
    have HN4 := Lib.hid (HN3.out.trans hN4)
    have hp4 := hp_putN hA4 ((p : Int) + 1 + 1) (Wd.wr c) (p + 1) (by push_cast; rfl) (by omega) (Wd.wr_bd c).1 (Wd.wr_bd c).2
    rw [HH2.out] at hp4
    have hr4 := Wd.word_Ref_in c (by omega) (by omega) w4
    generalize hCL : Wd.wr (c : Int) = CL at *
    have ECL := Lib.hid hCL; clear hCL
    clear hA4 hN4 hp3 HN3
    dsimp only
    go_wp2_with fail
    refine hr4.mono ?_
    rintro e w5 ⟨rfl, e5⟩
    subst e5
    dsimp only
    go_wp2_with fail
    refine hp4.mono ?_
    rintro e w5 ⟨rfl, hA5, hN5⟩
    have HN5 := Lib.hid (HN4.out.trans hN5)
    have hp5 := hp_putN hA5 ((p : Int) + 1 + 2) (Wd.wi hs) (p + 2) (by push_cast; omega) (by omega) (Wd.wi_bd hs).1 (Wd.wi_bd hs).2
    rw [HH2.out] at hp5
    have hr5 := Wd.word_Int_in hs (by omega) (by omega) w5
    generalize hHS : Wd.wi (hs : Int) = HSH at *
    have EHS := Lib.hid hHS; clear hHS
    clear hA5 hN5 hp4 hr4 HN4
    dsimp only
    go_wp2_with fail
    refine hr5.mono ?_
    rintro e w6 ⟨rfl, e6⟩
    subst e6
    dsimp only
    go_wp2_with fail
    refine hp5.mono ?_
    rintro e w6 ⟨rfl, hA6, hN6⟩
    have HN6 := Lib.hid (HN5.out.trans hN6)
    have HA6 := Lib.hid hA6
    clear hA6 hN6 hp5 hr5 HN5
    dsimp only
    go_wp2_with fail
    go_loopw [86] (fun v86 wr => ∃ i : Nat, i ≤ S ∧ v86 = .int .i64 i ∧ HpAt wr X2 (mkW ws p i HD CL HSH 1) (setR l p (3 + S) false) bg ∧ HNx X w X2 wr) (fun v86 wr => S - (intOf v86).toNat)
    case atStart => exact ⟨0, Nat.zero_le _, rfl, HA6.out, HN6.out⟩
    case round =>
      clear HA6 HN6
      obtain ⟨i, i1, rfl, hA, hN⟩ := hrel
      by_cases hlt : i < S
      · have t1 : (i : Int) < (S : Int) := by omega
        have hp7 := hp_putN hA ((p : Int) + 1 + 3 + (i : Int)) 1 (p + 3 + i) (by push_cast; omega) (by omega) (by omega) (by omega)
        rw [HH2.out, show (mkW ws p i HD CL HSH 1).set (p + 3 + i) 1 = mkW ws p (i + 1) HD CL HSH 1 from rfl] at hp7
        have HN := Lib.hid hN
        clear hA hN
        go_wp2_with (go_at_call 39; (with_reducible refine hp7.mono ?_); rintro e w7 ⟨rfl, hA7, hN7⟩; dsimp only)
        refine ⟨⟨i + 1, by omega, by simp, hA7, HN.out.trans hN7⟩, by simp only [intOf]; omega⟩
      · obtain rfl : i = S := by omega
        have c2 := hA.c2
        rw [HH2.out] at c2
        have fb := hA.fb p
        have cb := hA.cb p (by omega)
        have tp : (p : Int) < (bg.length : Int) := by omega
        have tp0 : (0 : Int) ≤ (p : Int) := by omega
        have HB := Lib.hid (hA.begin p true)
        have HN := Lib.hid hN
        clear hA hN
        go_wp2_with fail
        go_ret2
        refine ⟨rfl, X2, ?_, HN.out.trans HB.out.2⟩
        have hfin := HB.out.1
        rw [← EHD.out, ← ECL.out, ← EHS.out] at hfin
        exact hfin
  · have d3 : ((f : Int) == 3) = true := by simp; omega
    have q1 : ((n : Int) + 4 - 1) / 4 = (S : Int) := by omega
    have q2 : (S : Int) * 4 - (n : Int) = (O : Int) := by omega
    subst k5
    clear k1 k3 k4
    go_enter Try.func12, Try.ntmps12
    go_wp2_with (first | (go_at_call 36; (with_reducible refine hm.mono ?_); rintro e w2 ⟨rfl, rfl⟩; dsimp only) | (go_at_call 37; (with_reducible refine hwi.mono ?_); rintro e w2 ⟨rfl, rfl⟩; dsimp only))
    simp only [q1]
    refine hct.mono ?_
    rintro e w2 ⟨rfl, B2, hF2, hN2⟩
    obtain ⟨X2, hh2, hA2, hN2⟩ : ∃ X2, X2.h = X.h ∧ HpAt w2 X2 ws (setR l p T false) bg ∧ HNx X w X2 w2 := ⟨_, rfl, (H.out.frees hF2 hN2 (setR_len _ _ _ _)).1, (H.out.frees hF2 hN2 (setR_len _ _ _ _)).2⟩
    rw [HT2.out] at hA2
    have HA2 := Lib.hid hA2; have HN2 := Lib.hid hN2; have HH2 := Lib.hid hh2
    clear hA2 hN2 hh2 hF2 hct
    dsimp only
    go_wp2_with fail
    refine (Hd.hd_Put S f O 0 false true w2).mono ?_
    rintro e w3 ⟨rfl, g3⟩
    have hA3 := HA2.out.below g3.2
    have hp3 := hp_putN hA3 ((p : Int) + 1) (Hd.hput S f O 0 false true) p rfl (by omega) (Hd.hput_bd _ _ _ _ _ _).1 (by have := (Hd.hput_bd S f O 0 false true).2; omega)
    rw [HH2.out] at hp3
    have HN3 := Lib.hid (HN2.out.trans (gr_hnx g3))
    generalize hHD : Hd.hput S f O 0 false true = HD at *
    have EHD := Lib.hid hHD; clear hHD
    clear hA3 HA2 HN2 g3
    dsimp only
    go_wp2_with fail
    refine hp3.mono ?_
    rintro e w4 ⟨rfl, hA4, hN4⟩
    have HN4 := Lib.hid (HN3.out.trans hN4)
    have hp4 := hp_putN hA4 ((p : Int) + 1 + 1) (Wd.wr c) (p + 1) (by push_cast; rfl) (by omega) (Wd.wr_bd c).1 (Wd.wr_bd c).2
    rw [HH2.out] at hp4
    have hr4 := Wd.word_Ref_in c (by omega) (by omega) w4
    generalize hCL : Wd.wr (c : Int) = CL at *
    have ECL := Lib.hid hCL; clear hCL
    clear hA4 hN4 hp3 HN3
    dsimp only
    go_wp2_with fail
    refine hr4.mono ?_
    rintro e w5 ⟨rfl, e5⟩
    subst e5
    dsimp only
    go_wp2_with fail
    refine hp4.mono ?_
    rintro e w5 ⟨rfl, hA5, hN5⟩
    have HN5 := Lib.hid (HN4.out.trans hN5)
    have hp5 := hp_putN hA5 ((p : Int) + 1 + 2) (Wd.wi hs) (p + 2) (by push_cast; omega) (by omega) (Wd.wi_bd hs).1 (Wd.wi_bd hs).2
    rw [HH2.out] at hp5
    have hr5 := Wd.word_Int_in hs (by omega) (by omega) w5
    generalize hHS : Wd.wi (hs : Int) = HSH at *
    have EHS := Lib.hid hHS; clear hHS
    clear hA5 hN5 hp4 hr4 HN4
    dsimp only
    go_wp2_with fail
    refine hr5.mono ?_
    rintro e w6 ⟨rfl, e6⟩
    subst e6
    dsimp only
    go_wp2_with fail
    refine hp5.mono ?_
    rintro e w6 ⟨rfl, hA6, hN6⟩
    have HN6 := Lib.hid (HN5.out.trans hN6)
    have HA6 := Lib.hid hA6
    clear hA6 hN6 hp5 hr5 HN5
    dsimp only
    go_wp2_with fail
    go_loopw [86] (fun v86 wr => ∃ i : Nat, i ≤ S ∧ v86 = .int .i64 i ∧ HpAt wr X2 (mkW ws p i HD CL HSH 0) (setR l p (3 + S) false) bg ∧ HNx X w X2 wr) (fun v86 wr => S - (intOf v86).toNat)
    case atStart => exact ⟨0, Nat.zero_le _, rfl, HA6.out, HN6.out⟩
    case round =>
      clear HA6 HN6
      obtain ⟨i, i1, rfl, hA, hN⟩ := hrel
      by_cases hlt : i < S
      · have t1 : (i : Int) < (S : Int) := by omega
        have hp7 := hp_putN hA ((p : Int) + 1 + 3 + (i : Int)) 0 (p + 3 + i) (by push_cast; omega) (by omega) (by omega) (by omega)
        rw [HH2.out, show (mkW ws p i HD CL HSH 0).set (p + 3 + i) 0 = mkW ws p (i + 1) HD CL HSH 0 from rfl] at hp7
        have HN := Lib.hid hN
        clear hA hN
        go_wp2_with (go_at_call 39; (with_reducible refine hp7.mono ?_); rintro e w7 ⟨rfl, hA7, hN7⟩; dsimp only)
        refine ⟨⟨i + 1, by omega, by simp, hA7, HN.out.trans hN7⟩, by simp only [intOf]; omega⟩
      · obtain rfl : i = S := by omega
        have c2 := hA.c2
        rw [HH2.out] at c2
        have fb := hA.fb p
        have cb := hA.cb p (by omega)
        have tp : (p : Int) < (bg.length : Int) := by omega
        have tp0 : (0 : Int) ≤ (p : Int) := by omega
        have HB := Lib.hid (hA.begin p true)
        have HN := Lib.hid hN
        clear hA hN
        go_wp2_with fail
        go_ret2
        refine ⟨rfl, X2, ?_, HN.out.trans HB.out.2⟩
        have hfin := HB.out.1
        rw [← EHD.out, ← ECL.out, ← EHS.out] at hfin
        exact hfin
end
end Go.Proofs.Ytljgnmbjidkjnaa.Hp
