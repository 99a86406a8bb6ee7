/- The calls of package number, continued: the primitives by their numbers. -/
import Derived.Test.YtbkpioheojaeaaaNum2
namespace Go.Proofs.Ytbkpioheojaeaaa.Nu
open Go.Proofs.Ytbkpioheojaeaaa.Gen Go.Proofs.Ytbkpioheojaeaaa.Base Go.ChangeShapes Go.WideShapes Go.ChangeAt Go.RowKit
set_option linter.unusedVariables false
theorem ret_op {o o' k k' : Bool} {v v' : Int} (h1 : o = o') (h2 : v = v') (h3 : k = k') : Ending.returned (.tuple #[.agg #[.bool o, .int .i64 v], .bool k]) = .returned (.tuple #[.agg #[.bool o', .int .i64 v'], .bool k']) := by rw [h1, h2, h3]
set_option maxHeartbeats 4000000 in
theorem nu_Op (n a b : Int) (w : World) :
    Calls Try.prog 8 #[.int .i64 n, .int .i64 a, .int .i64 b] w fun e w' => e = .returned (.tuple #[.agg #[.bool (opO n a b), .int .i64 (opN n a b)], .bool (opK n a b)]) ∧ Gr w w' := by
  cases fa : fit a
  · have r1 : opO n a b = false := by simp [opO, fa]
    have r2 : opN n a b = 0 := by simp [opN, fa]
    have r3 : opK n a b = false := by simp [opK, fa]
    rw [r1, r2, r3]; clear r1 r2 r3
    have FA := Lib.hid fa; clear fa
    go_enter Try.func8, Try.ntmps8
    go_wp2_with (go_at_call 19; refine (wd_Fits _ _).mono ?_; rintro e w' ⟨rfl, rfl⟩; first | rw [FA.out])
    go_returns
    exact ⟨rfl, by repeat' (first | with_reducible exact Gr.refl _ | with_reducible assumption | with_reducible refine Gr.drewN ?_ _ | with_reducible refine Gr.drew ?_ | with_reducible refine Gr.alloc ?_ _ _ | with_reducible refine Gr.setCell ?_ ?_ _ | with_reducible refine Gr.trans ?_ (by with_reducible assumption) | (simp; done) | (simp; omega))⟩
  cases fb : fit b
  · have r1 : opO n a b = false := by simp [opO, fb]
    have r2 : opN n a b = 0 := by simp [opN, fb]
    have r3 : opK n a b = false := by simp [opK, fb]
    rw [r1, r2, r3]; clear r1 r2 r3
    have FA := Lib.hid fa; have FB := Lib.hid fb; clear fa fb
    go_enter Try.func8, Try.ntmps8
    go_wp2_with (go_at_call 19; refine (wd_Fits _ _).mono ?_; rintro e w' ⟨rfl, rfl⟩; first | rw [FA.out] | rw [FB.out])
    go_returns
    exact ⟨rfl, by repeat' (first | with_reducible exact Gr.refl _ | with_reducible assumption | with_reducible refine Gr.drewN ?_ _ | with_reducible refine Gr.drew ?_ | with_reducible refine Gr.alloc ?_ _ _ | with_reducible refine Gr.setCell ?_ ?_ _ | with_reducible refine Gr.trans ?_ (by with_reducible assumption) | (simp; done) | (simp; omega))⟩
  have i1 := fit_iff.1 fa
  have i2 := fit_iff.1 fb
  cases hc : opC n
  · have r1 : opO n a b = false := by simp [opO, hc]
    have r2 : opN n a b = if rkO n b && fit (rkV n a b) then rkV n a b else 0 := by simp [opN, fa, fb, hc]
    have r3 : opK n a b = (rkO n b && fit (rkV n a b)) := by simp [opK, fa, fb, hc]
    have FA := Lib.hid fa; have FB := Lib.hid fb; clear fa fb
    have hcn : n < 6 ∨ 11 < n := by simp [opC] at hc; omega
    clear hc
    have t6 : (n == 6) = false := by simp; omega
    have t7 : (n == 7) = false := by simp; omega
    have t8 : (n == 8) = false := by simp; omega
    have t9 : (n == 9) = false := by simp; omega
    have t10 : (n == 10) = false := by simp; omega
    have t11 : (n == 11) = false := by simp; omega
    rw [r1, r2, r3]; clear r1 r2 r3
    cases hO : rkO n b
    · have HO := Lib.hid hO; clear hO
      simp only [Bool.false_and, Bool.false_eq_true, if_false]
      rcases hcn with hcn | hcn
      all_goals
        go_enter Try.func8, Try.ntmps8
        go_wp2_with (first | (go_at_call 19; refine (wd_Fits _ _).mono ?_; rintro e w' ⟨rfl, rfl⟩; first | rw [FA.out] | rw [FB.out]) | (go_at_call 22; refine (nu_reckon n a b i1 i2 _).mono ?_; rintro e w' ⟨v, rfl, hv, rfl⟩; rw [HO.out]))
        go_returns
        exact ⟨rfl, by repeat' (first | with_reducible exact Gr.refl _ | with_reducible assumption | with_reducible refine Gr.drewN ?_ _ | with_reducible refine Gr.drew ?_ | with_reducible refine Gr.alloc ?_ _ _ | with_reducible refine Gr.setCell ?_ ?_ _ | with_reducible refine Gr.trans ?_ (by with_reducible assumption) | (simp; done) | (simp; omega))⟩
    · have HO := Lib.hid hO; clear hO
      simp only [Bool.true_and]
      cases hF : fit (rkV n a b)
      · have HF := Lib.hid hF; clear hF
        simp only [Bool.false_eq_true, if_false]
        rcases hcn with hcn | hcn
        all_goals
          go_enter Try.func8, Try.ntmps8
          go_wp2_with (first | (go_at_call 19; refine (wd_Fits _ _).mono ?_; rintro e w' ⟨rfl, rfl⟩; first | rw [FA.out] | rw [FB.out] | rw [HF.out]) | (go_at_call 22; refine (nu_reckon n a b i1 i2 _).mono ?_; rintro e w' ⟨v, rfl, hv, rfl⟩; obtain rfl := hv HO.out; clear hv; rw [HO.out]))
          go_returns
          exact ⟨rfl, by repeat' (first | with_reducible exact Gr.refl _ | with_reducible assumption | with_reducible refine Gr.drewN ?_ _ | with_reducible refine Gr.drew ?_ | with_reducible refine Gr.alloc ?_ _ _ | with_reducible refine Gr.setCell ?_ ?_ _ | with_reducible refine Gr.trans ?_ (by with_reducible assumption) | (simp; done) | (simp; omega))⟩
      · have HF := Lib.hid hF; clear hF
        simp only [if_true]
        rcases hcn with hcn | hcn
        all_goals
          go_enter Try.func8, Try.ntmps8
          go_wp2_with (first | (go_at_call 19; refine (wd_Fits _ _).mono ?_; rintro e w' ⟨rfl, rfl⟩; first | rw [FA.out] | rw [FB.out] | rw [HF.out]) | (go_at_call 22; refine (nu_reckon n a b i1 i2 _).mono ?_; rintro e w' ⟨v, rfl, hv, rfl⟩; obtain rfl := hv HO.out; clear hv; rw [HO.out]))
          go_returns
          exact ⟨rfl, by repeat' (first | with_reducible exact Gr.refl _ | with_reducible assumption | with_reducible refine Gr.drewN ?_ _ | with_reducible refine Gr.drew ?_ | with_reducible refine Gr.alloc ?_ _ _ | with_reducible refine Gr.setCell ?_ ?_ _ | with_reducible refine Gr.trans ?_ (by with_reducible assumption) | (simp; done) | (simp; omega))⟩
  · have r1 : opO n a b = true := by simp [opO, hc, fa, fb]
    have r2 : opN n a b = tv (cmpB n a b) := by simp [opN, fa, fb, hc]
    have r3 : opK n a b = true := by simp [opK, fa, fb, hc]
    have hcn : 6 ≤ n ∧ n ≤ 11 := by simpa [opC] using hc
    rw [r1, r2, r3]; clear r1 r2 r3 hc
    have FA := Lib.hid fa; have FB := Lib.hid fb; clear fa fb
    go_enter Try.func8, Try.ntmps8
    go_wp2_with (first | (go_at_call 19; refine (wd_Fits _ _).mono ?_; rintro e w' ⟨rfl, rfl⟩; first | rw [FA.out] | rw [FB.out]) | (go_at_call 21; refine (nu_compare n a b hcn _).mono ?_; rintro e w' ⟨rfl, rfl⟩) | (go_at_call 20; refine (nu_truth _ _).mono ?_; rintro e w' ⟨rfl, hg⟩; have c0 : w'.cell? ⟨w.heap.size, 0, none⟩ = some (.bool false) := (by rw [hg.cell _ _ (by simp)]; simp [go_sem]); have c1 : w'.cell? ⟨w.heap.size, 1, none⟩ = some (.int .i64 0) := (by rw [hg.cell _ _ (by simp)]; simp [go_sem]); have z0 : w'.frozen? ⟨w.heap.size, 0, none⟩ = false := (by rw [hg.frozen _ _ (by simp)]; simp [go_sem]); have z1 : w'.frozen? ⟨w.heap.size, 1, none⟩ = false := (by rw [hg.frozen _ _ (by simp)]; simp [go_sem])))
    exact bodyPost_ret (v := .tuple #[.agg #[.bool true, .int .i64 (tv (cmpB n a b))], .bool true]) (by simp [results, Try.results8, go_sem, (two_cells c0 c1).1, (two_cells c0 c1).2]) rfl ⟨rfl, by repeat' (first | with_reducible exact Gr.refl _ | with_reducible assumption | with_reducible refine Gr.drewN ?_ _ | with_reducible refine Gr.drew ?_ | with_reducible refine Gr.alloc ?_ _ _ | with_reducible refine Gr.setCell ?_ ?_ _ | with_reducible refine Gr.trans ?_ (by with_reducible assumption) | (simp; done) | (simp; omega))⟩
set_option maxHeartbeats 4000000 in
theorem rf_Op (n a b : Int) (w : World) :
    Calls Try.prog 9 #[.int .i64 n, .int .i64 a, .int .i64 b] w fun e w' => e = .returned (.tuple #[.agg #[.bool (opO n a b), .int .i64 (opN n a b)], .bool (opK n a b)]) ∧ Gr w w' := by
  cases fa : fit a
  · have r1 : opO n a b = false := by simp [opO, fa]
    have r2 : opN n a b = 0 := by simp [opN, fa]
    have r3 : opK n a b = false := by simp [opK, fa]
    rw [r1, r2, r3]; clear r1 r2 r3
    have FA := Lib.hid fa; clear fa
    go_enter Try.func9, Try.ntmps9
    go_wp2_with (go_at_call 23; refine (rf_Fits _ _).mono ?_; rintro e w' ⟨rfl, rfl⟩; first | rw [FA.out])
    go_returns
    exact ⟨rfl, by repeat' (first | with_reducible exact Gr.refl _ | with_reducible assumption | with_reducible refine Gr.drewN ?_ _ | with_reducible refine Gr.drew ?_ | with_reducible refine Gr.alloc ?_ _ _ | with_reducible refine Gr.setCell ?_ ?_ _ | with_reducible refine Gr.trans ?_ (by with_reducible assumption) | (simp; done) | (simp; omega))⟩
  cases fb : fit b
  · have r1 : opO n a b = false := by simp [opO, fb]
    have r2 : opN n a b = 0 := by simp [opN, fb]
    have r3 : opK n a b = false := by simp [opK, fb]
    rw [r1, r2, r3]; clear r1 r2 r3
    have FA := Lib.hid fa; have FB := Lib.hid fb; clear fa fb
    go_enter Try.func9, Try.ntmps9
    go_wp2_with (go_at_call 23; refine (rf_Fits _ _).mono ?_; rintro e w' ⟨rfl, rfl⟩; first | rw [FA.out] | rw [FB.out])
    go_returns
    exact ⟨rfl, by repeat' (first | with_reducible exact Gr.refl _ | with_reducible assumption | with_reducible refine Gr.drewN ?_ _ | with_reducible refine Gr.drew ?_ | with_reducible refine Gr.alloc ?_ _ _ | with_reducible refine Gr.setCell ?_ ?_ _ | with_reducible refine Gr.trans ?_ (by with_reducible assumption) | (simp; done) | (simp; omega))⟩
  have i1 := fit_iff.1 fa
  have i2 := fit_iff.1 fb
  cases hc : opC n
  · have r1 : opO n a b = false := by simp [opO, hc]
    have r2 : opN n a b = if rkO n b && fit (rkV n a b) then rkV n a b else 0 := by simp [opN, fa, fb, hc]
    have r3 : opK n a b = (rkO n b && fit (rkV n a b)) := by simp [opK, fa, fb, hc]
    have FA := Lib.hid fa; have FB := Lib.hid fb; clear fa fb
    have hcn : n < 6 ∨ 11 < n := by simp [opC] at hc; omega
    clear hc
    have t6 : (n == 6) = false := by simp; omega
    have t7 : (n == 7) = false := by simp; omega
    have t8 : (n == 8) = false := by simp; omega
    have t9 : (n == 9) = false := by simp; omega
    have t10 : (n == 10) = false := by simp; omega
    have t11 : (n == 11) = false := by simp; omega
    rw [r1, r2, r3]; clear r1 r2 r3
    cases hO : rkO n b
    · have HO := Lib.hid hO; clear hO
      simp only [Bool.false_and, Bool.false_eq_true, if_false]
      rcases hcn with hcn | hcn
      all_goals
        go_enter Try.func9, Try.ntmps9
        go_wp2_with (first | (go_at_call 23; refine (rf_Fits _ _).mono ?_; rintro e w' ⟨rfl, rfl⟩; first | rw [FA.out] | rw [FB.out]) | (go_at_call 25; refine (rf_whole n a b i1 i2 _).mono ?_; rintro e w' ⟨v, rfl, hv, rfl⟩; rw [HO.out]))
        go_returns
        exact ⟨rfl, by repeat' (first | with_reducible exact Gr.refl _ | with_reducible assumption | with_reducible refine Gr.drewN ?_ _ | with_reducible refine Gr.drew ?_ | with_reducible refine Gr.alloc ?_ _ _ | with_reducible refine Gr.setCell ?_ ?_ _ | with_reducible refine Gr.trans ?_ (by with_reducible assumption) | (simp; done) | (simp; omega))⟩
    · have HO := Lib.hid hO; clear hO
      simp only [Bool.true_and]
      cases hF : fit (rkV n a b)
      · have HF := Lib.hid hF; clear hF
        simp only [Bool.false_eq_true, if_false]
        rcases hcn with hcn | hcn
        all_goals
          go_enter Try.func9, Try.ntmps9
          go_wp2_with (first | (go_at_call 23; refine (rf_Fits _ _).mono ?_; rintro e w' ⟨rfl, rfl⟩; first | rw [FA.out] | rw [FB.out] | rw [HF.out]) | (go_at_call 25; refine (rf_whole n a b i1 i2 _).mono ?_; rintro e w' ⟨v, rfl, hv, rfl⟩; obtain rfl := hv HO.out; clear hv; rw [HO.out]))
          go_returns
          exact ⟨rfl, by repeat' (first | with_reducible exact Gr.refl _ | with_reducible assumption | with_reducible refine Gr.drewN ?_ _ | with_reducible refine Gr.drew ?_ | with_reducible refine Gr.alloc ?_ _ _ | with_reducible refine Gr.setCell ?_ ?_ _ | with_reducible refine Gr.trans ?_ (by with_reducible assumption) | (simp; done) | (simp; omega))⟩
      · have HF := Lib.hid hF; clear hF
        simp only [if_true]
        rcases hcn with hcn | hcn
        all_goals
          go_enter Try.func9, Try.ntmps9
          go_wp2_with (first | (go_at_call 23; refine (rf_Fits _ _).mono ?_; rintro e w' ⟨rfl, rfl⟩; first | rw [FA.out] | rw [FB.out] | rw [HF.out]) | (go_at_call 25; refine (rf_whole n a b i1 i2 _).mono ?_; rintro e w' ⟨v, rfl, hv, rfl⟩; obtain rfl := hv HO.out; clear hv; rw [HO.out]))
          go_returns
          exact ⟨rfl, by repeat' (first | with_reducible exact Gr.refl _ | with_reducible assumption | with_reducible refine Gr.drewN ?_ _ | with_reducible refine Gr.drew ?_ | with_reducible refine Gr.alloc ?_ _ _ | with_reducible refine Gr.setCell ?_ ?_ _ | with_reducible refine Gr.trans ?_ (by with_reducible assumption) | (simp; done) | (simp; omega))⟩
  · have r1 : opO n a b = true := by simp [opO, hc, fa, fb]
    have r2 : opN n a b = tv (cmpB n a b) := by simp [opN, fa, fb, hc]
    have r3 : opK n a b = true := by simp [opK, fa, fb, hc]
    have hcn : 6 ≤ n ∧ n ≤ 11 := by simpa [opC] using hc
    rw [r1, r2, r3]; clear r1 r2 r3 hc
    have FA := Lib.hid fa; have FB := Lib.hid fb; clear fa fb
    have h : n = 6 ∨ n = 7 ∨ n = 8 ∨ n = 9 ∨ n = 10 ∨ n = 11 := by omega
    rcases h with rfl | rfl | rfl | rfl | rfl | rfl
    · go_enter Try.func9, Try.ntmps9
      go_wp2_with (first | (go_at_call 23; refine (rf_Fits _ _).mono ?_; rintro e w' ⟨rfl, rfl⟩; first | rw [FA.out] | rw [FB.out]) | (go_at_call 24; refine (rf_truth _ _).mono ?_; rintro e w' ⟨rfl, hg⟩; have c0 : w'.cell? ⟨w.heap.size, 0, none⟩ = some (.bool false) := (by rw [hg.cell _ _ (by simp)]; simp [go_sem]); have c1 : w'.cell? ⟨w.heap.size, 1, none⟩ = some (.int .i64 0) := (by rw [hg.cell _ _ (by simp)]; simp [go_sem]); have z0 : w'.frozen? ⟨w.heap.size, 0, none⟩ = false := (by rw [hg.frozen _ _ (by simp)]; simp [go_sem]); have z1 : w'.frozen? ⟨w.heap.size, 1, none⟩ = false := (by rw [hg.frozen _ _ (by simp)]; simp [go_sem])))
      exact bodyPost_ret (v := .tuple #[.agg #[.bool true, .int .i64 (tv (cmpB 6 a b))], .bool true]) (by simp [results, Try.results9, go_sem, (two_cells c0 c1).1, (two_cells c0 c1).2, cmpB, bne]) rfl ⟨rfl, by repeat' (first | with_reducible exact Gr.refl _ | with_reducible assumption | with_reducible refine Gr.drewN ?_ _ | with_reducible refine Gr.drew ?_ | with_reducible refine Gr.alloc ?_ _ _ | with_reducible refine Gr.setCell ?_ ?_ _ | with_reducible refine Gr.trans ?_ (by with_reducible assumption) | (simp; done) | (simp; omega))⟩
    · go_enter Try.func9, Try.ntmps9
      go_wp2_with (first | (go_at_call 23; refine (rf_Fits _ _).mono ?_; rintro e w' ⟨rfl, rfl⟩; first | rw [FA.out] | rw [FB.out]) | (go_at_call 24; refine (rf_truth _ _).mono ?_; rintro e w' ⟨rfl, hg⟩; have c0 : w'.cell? ⟨w.heap.size, 0, none⟩ = some (.bool false) := (by rw [hg.cell _ _ (by simp)]; simp [go_sem]); have c1 : w'.cell? ⟨w.heap.size, 1, none⟩ = some (.int .i64 0) := (by rw [hg.cell _ _ (by simp)]; simp [go_sem]); have z0 : w'.frozen? ⟨w.heap.size, 0, none⟩ = false := (by rw [hg.frozen _ _ (by simp)]; simp [go_sem]); have z1 : w'.frozen? ⟨w.heap.size, 1, none⟩ = false := (by rw [hg.frozen _ _ (by simp)]; simp [go_sem])))
      exact bodyPost_ret (v := .tuple #[.agg #[.bool true, .int .i64 (tv (cmpB 7 a b))], .bool true]) (by simp [results, Try.results9, go_sem, (two_cells c0 c1).1, (two_cells c0 c1).2, cmpB, bne]) rfl ⟨rfl, by repeat' (first | with_reducible exact Gr.refl _ | with_reducible assumption | with_reducible refine Gr.drewN ?_ _ | with_reducible refine Gr.drew ?_ | with_reducible refine Gr.alloc ?_ _ _ | with_reducible refine Gr.setCell ?_ ?_ _ | with_reducible refine Gr.trans ?_ (by with_reducible assumption) | (simp; done) | (simp; omega))⟩
    · go_enter Try.func9, Try.ntmps9
      go_wp2_with (first | (go_at_call 23; refine (rf_Fits _ _).mono ?_; rintro e w' ⟨rfl, rfl⟩; first | rw [FA.out] | rw [FB.out]) | (go_at_call 24; refine (rf_truth _ _).mono ?_; rintro e w' ⟨rfl, hg⟩; have c0 : w'.cell? ⟨w.heap.size, 0, none⟩ = some (.bool false) := (by rw [hg.cell _ _ (by simp)]; simp [go_sem]); have c1 : w'.cell? ⟨w.heap.size, 1, none⟩ = some (.int .i64 0) := (by rw [hg.cell _ _ (by simp)]; simp [go_sem]); have z0 : w'.frozen? ⟨w.heap.size, 0, none⟩ = false := (by rw [hg.frozen _ _ (by simp)]; simp [go_sem]); have z1 : w'.frozen? ⟨w.heap.size, 1, none⟩ = false := (by rw [hg.frozen _ _ (by simp)]; simp [go_sem])))
      exact bodyPost_ret (v := .tuple #[.agg #[.bool true, .int .i64 (tv (cmpB 8 a b))], .bool true]) (by simp [results, Try.results9, go_sem, (two_cells c0 c1).1, (two_cells c0 c1).2, cmpB, bne]) rfl ⟨rfl, by repeat' (first | with_reducible exact Gr.refl _ | with_reducible assumption | with_reducible refine Gr.drewN ?_ _ | with_reducible refine Gr.drew ?_ | with_reducible refine Gr.alloc ?_ _ _ | with_reducible refine Gr.setCell ?_ ?_ _ | with_reducible refine Gr.trans ?_ (by with_reducible assumption) | (simp; done) | (simp; omega))⟩
    · go_enter Try.func9, Try.ntmps9
      go_wp2_with (first | (go_at_call 23; refine (rf_Fits _ _).mono ?_; rintro e w' ⟨rfl, rfl⟩; first | rw [FA.out] | rw [FB.out]) | (go_at_call 24; refine (rf_truth _ _).mono ?_; rintro e w' ⟨rfl, hg⟩; have c0 : w'.cell? ⟨w.heap.size, 0, none⟩ = some (.bool false) := (by rw [hg.cell _ _ (by simp)]; simp [go_sem]); have c1 : w'.cell? ⟨w.heap.size, 1, none⟩ = some (.int .i64 0) := (by rw [hg.cell _ _ (by simp)]; simp [go_sem]); have z0 : w'.frozen? ⟨w.heap.size, 0, none⟩ = false := (by rw [hg.frozen _ _ (by simp)]; simp [go_sem]); have z1 : w'.frozen? ⟨w.heap.size, 1, none⟩ = false := (by rw [hg.frozen _ _ (by simp)]; simp [go_sem])))
      exact bodyPost_ret (v := .tuple #[.agg #[.bool true, .int .i64 (tv (cmpB 9 a b))], .bool true]) (by simp [results, Try.results9, go_sem, (two_cells c0 c1).1, (two_cells c0 c1).2, cmpB, bne]) rfl ⟨rfl, by repeat' (first | with_reducible exact Gr.refl _ | with_reducible assumption | with_reducible refine Gr.drewN ?_ _ | with_reducible refine Gr.drew ?_ | with_reducible refine Gr.alloc ?_ _ _ | with_reducible refine Gr.setCell ?_ ?_ _ | with_reducible refine Gr.trans ?_ (by with_reducible assumption) | (simp; done) | (simp; omega))⟩
    · go_enter Try.func9, Try.ntmps9
      go_wp2_with (first | (go_at_call 23; refine (rf_Fits _ _).mono ?_; rintro e w' ⟨rfl, rfl⟩; first | rw [FA.out] | rw [FB.out]) | (go_at_call 24; refine (rf_truth _ _).mono ?_; rintro e w' ⟨rfl, hg⟩; have c0 : w'.cell? ⟨w.heap.size, 0, none⟩ = some (.bool false) := (by rw [hg.cell _ _ (by simp)]; simp [go_sem]); have c1 : w'.cell? ⟨w.heap.size, 1, none⟩ = some (.int .i64 0) := (by rw [hg.cell _ _ (by simp)]; simp [go_sem]); have z0 : w'.frozen? ⟨w.heap.size, 0, none⟩ = false := (by rw [hg.frozen _ _ (by simp)]; simp [go_sem]); have z1 : w'.frozen? ⟨w.heap.size, 1, none⟩ = false := (by rw [hg.frozen _ _ (by simp)]; simp [go_sem])))
      exact bodyPost_ret (v := .tuple #[.agg #[.bool true, .int .i64 (tv (cmpB 10 a b))], .bool true]) (by simp [results, Try.results9, go_sem, (two_cells c0 c1).1, (two_cells c0 c1).2, cmpB, bne]) rfl ⟨rfl, by repeat' (first | with_reducible exact Gr.refl _ | with_reducible assumption | with_reducible refine Gr.drewN ?_ _ | with_reducible refine Gr.drew ?_ | with_reducible refine Gr.alloc ?_ _ _ | with_reducible refine Gr.setCell ?_ ?_ _ | with_reducible refine Gr.trans ?_ (by with_reducible assumption) | (simp; done) | (simp; omega))⟩
    · go_enter Try.func9, Try.ntmps9
      go_wp2_with (first | (go_at_call 23; refine (rf_Fits _ _).mono ?_; rintro e w' ⟨rfl, rfl⟩; first | rw [FA.out] | rw [FB.out]) | (go_at_call 24; refine (rf_truth _ _).mono ?_; rintro e w' ⟨rfl, hg⟩; have c0 : w'.cell? ⟨w.heap.size, 0, none⟩ = some (.bool false) := (by rw [hg.cell _ _ (by simp)]; simp [go_sem]); have c1 : w'.cell? ⟨w.heap.size, 1, none⟩ = some (.int .i64 0) := (by rw [hg.cell _ _ (by simp)]; simp [go_sem]); have z0 : w'.frozen? ⟨w.heap.size, 0, none⟩ = false := (by rw [hg.frozen _ _ (by simp)]; simp [go_sem]); have z1 : w'.frozen? ⟨w.heap.size, 1, none⟩ = false := (by rw [hg.frozen _ _ (by simp)]; simp [go_sem])))
      exact bodyPost_ret (v := .tuple #[.agg #[.bool true, .int .i64 (tv (cmpB 11 a b))], .bool true]) (by simp [results, Try.results9, go_sem, (two_cells c0 c1).1, (two_cells c0 c1).2, cmpB, bne]) rfl ⟨rfl, by repeat' (first | with_reducible exact Gr.refl _ | with_reducible assumption | with_reducible refine Gr.drewN ?_ _ | with_reducible refine Gr.drew ?_ | with_reducible refine Gr.alloc ?_ _ _ | with_reducible refine Gr.setCell ?_ ?_ _ | with_reducible refine Gr.trans ?_ (by with_reducible assumption) | (simp; done) | (simp; omega))⟩
theorem same_any (o : Bool) (v : Int) (w : World) :
    Calls Try.prog 10 #[.agg #[.bool o, .int .i64 v], .agg #[.bool o, .int .i64 v]] w fun e w' => e = .returned (.bool true) ∧ Gr w w' := by
  go_enter Try.func10, Try.ntmps10
  go_wp2
  go_ret
  exact ⟨rfl, by repeat' (first | with_reducible exact Gr.refl _ | with_reducible assumption | with_reducible refine Gr.drewN ?_ _ | with_reducible refine Gr.drew ?_ | with_reducible refine Gr.alloc ?_ _ _ | with_reducible refine Gr.setCell ?_ ?_ _ | with_reducible refine Gr.trans ?_ (by with_reducible assumption) | (simp; done) | (simp; omega))⟩
end Go.Proofs.Ytbkpioheojaeaaa.Nu
