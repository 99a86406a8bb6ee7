/- The calls of package word, and of the document's own answers to it, return what plain functions on integers say. -/
import Derived.Test.YtljgnmbjidkjnaaRows
import Derived.WalkKit
import Derived.ProofKit
import Derived.OpenShut
import Derived.WalkLawsBesides
import Derived.Handy
import Derived.Laws.Bits64
import Derived.Laws.BitsAllLaws
import Derived.Lib.Hide
import Derived.Test.YtljgnmbjidkjnaaGen
namespace Go.Proofs.Ytljgnmbjidkjnaa.Wd
open Go.Proofs.Ytljgnmbjidkjnaa.Gen Go.ChangeShapes Go.WideShapes Go.ChangeAt Go.RowKit
set_option linter.unusedVariables false

def clampI (v : Int) : Int := max (-1073741824) (min v 1073741823)
def wi (v : Int) : Int := clampI v % 2147483648 * 2 + 1
def wr (v : Int) : Int := max 0 (min v 2147483647) * 2
def isI (w : Int) : Bool := w % 2 == 1
def iof (w : Int) : Int := if w % 2 = 1 then (if w < 2147483648 then w / 2 else w / 2 - 2147483648) else 0
def rof (w : Int) : Int := if w % 2 = 1 then 0 else w / 2
def fit (v : Int) : Bool := decide (-536870912 ≤ v) && decide (v < 536870912)
def adS (a b : Int) : Int := if fit a && fit b && fit (a + b) then a + b else 0
def adO (a b : Int) : Bool := fit a && fit b && fit (a + b)

theorem u32_or1 (x : Int) (h0 : 0 ≤ x) (h1 : x < 4294967296) (h2 : x % 2 = 0) : bits .or .u32 x 1 = x + 1 := by
  rw [u32_or x 1 h0 h1 (by decide) (by decide)]
  have := nat_join 1 x.toNat 1 (by omega) (by decide)
  rw [show (1 : Int).toNat = 1 from rfl, this]; omega
theorem u32_and1 (x : Int) (h0 : 0 ≤ x) (h1 : x < 4294967296) : bits .and .u32 x 1 = x % 2 := by
  rw [u32_and x 1 h0 h1 (by decide) (by decide)]
  rw [show (1 : Int).toNat = 1 from rfl, nat_mask1]; omega
theorem ret_u32 {a b : Int} (h : a = b) : Ending.returned (.int .u32 a) = .returned (.int .u32 b) := by rw [h]
theorem ret_i64 {a b : Int} (h : a = b) : Ending.returned (.int .i64 a) = .returned (.int .i64 b) := by rw [h]
theorem ret_bool {a b : Bool} (h : a = b) : Ending.returned (.bool a) = .returned (.bool b) := by rw [h]
theorem shl_c (v : Int) : 0 ≤ v % 4294967296 * 2 % 4294967296 ∧ v % 4294967296 * 2 % 4294967296 < 4294967296 ∧ v % 4294967296 * 2 % 4294967296 % 2 = 0 := by omega

theorem word_Int (v : Int) (hv : (Lit.int .i64 v).wf = true) (w : World) :
    Calls Try.prog 37 #[.int .i64 v] w fun e w' => e = .returned (.int .u32 (wi v)) ∧ w = w' := by
  have hb := bounds_i64 hv
  by_cases h : v < 1073741823
  · by_cases h2 : -1073741824 < v
    · go_enter Try.func37, Try.ntmps37
      go_wp2
      go_ret
      refine ⟨ret_u32 ?_, rfl⟩
      obtain ⟨a, b, c⟩ := shl_c v
      rw [u32_or1 _ a b c]; unfold wi clampI; omega
    · go_enter Try.func37, Try.ntmps37
      go_wp2
      go_ret
      refine ⟨ret_u32 ?_, rfl⟩
      first | (rw [u32_or1 _ (by omega) (by omega) (by omega)]; unfold wi clampI; omega)
  · go_enter Try.func37, Try.ntmps37
    go_wp2
    all_goals
      go_ret
      refine ⟨ret_u32 ?_, rfl⟩
      first | (rw [u32_or1 _ (by omega) (by omega) (by omega)]; unfold wi clampI; omega)
theorem ref_Int (v : Int) (hv : (Lit.int .i64 v).wf = true) (w : World) :
    Calls Try.prog 43 #[.int .i64 v] w fun e w' => e = .returned (.int .u32 (wi v)) ∧ w = w' := by
  have hb := bounds_i64 hv
  by_cases h : v < 1073741823
  · by_cases h2 : -1073741824 ≤ v
    · go_enter Try.func43, Try.ntmps43
      go_wp2
      go_ret
      refine ⟨ret_u32 ?_, rfl⟩
      obtain ⟨a, b, c⟩ := shl_c v
      rw [u32_or1 _ a b c]; unfold wi clampI; omega
    · go_enter Try.func43, Try.ntmps43
      go_wp2
      go_ret
      refine ⟨ret_u32 ?_, rfl⟩
      first | (rw [u32_or1 _ (by omega) (by omega) (by omega)]; unfold wi clampI; omega)
  · go_enter Try.func43, Try.ntmps43
    go_wp2
    all_goals
      go_ret
      refine ⟨ret_u32 ?_, rfl⟩
      first | (rw [u32_or1 _ (by omega) (by omega) (by omega)]; unfold wi clampI; omega)
theorem word_Ref (v : Int) (hv : (Lit.int .i64 v).wf = true) (w : World) :
    Calls Try.prog 41 #[.int .i64 v] w fun e w' => e = .returned (.int .u32 (wr v)) ∧ w = w' := by
  have hb := bounds_i64 hv
  go_enter Try.func41, Try.ntmps41
  go_wp2
  all_goals
    go_ret
    refine ⟨ret_u32 ?_, rfl⟩
    unfold wr; omega
theorem word_IsInt (v : Int) (hv : (Lit.int .u32 v).wf = true) (w : World) :
    Calls Try.prog 80 #[.int .u32 v] w fun e w' => e = .returned (.bool (isI v)) ∧ w = w' := by
  have hb := bounds_u32 hv
  go_enter Try.func80, Try.ntmps80
  go_wp2
  go_ret
  refine ⟨ret_bool ?_, rfl⟩
  unfold isI; rw [u32_and1 v (by omega) (by omega)]
  rw [Bool.eq_iff_iff]; simp; omega
theorem ret_2i {a b a' b' : Int} (h : a = a') (h2 : b = b') : Ending.returned (.tuple #[.int .i64 a, .int .i64 b]) = .returned (.tuple #[.int .i64 a', .int .i64 b']) := by rw [h, h2]
theorem ret_ib {a a' : Int} {b b' : Bool} (h : a = a') (h2 : b = b') : Ending.returned (.tuple #[.int .i64 a, .bool b]) = .returned (.tuple #[.int .i64 a', .bool b']) := by rw [h, h2]
theorem isI_t {v : Int} (h : v % 2 = 1) : isI v = true := by simp [isI, h]
theorem isI_f {v : Int} (h : ¬ v % 2 = 1) : isI v = false := by simp [isI, h]
theorem word_parts (v : Int) (hv : (Lit.int .u32 v).wf = true) (w : World) :
    Calls Try.prog 77 #[.int .u32 v] w fun e w' => e = .returned (.tuple #[.int .i64 (iof v), .int .i64 (rof v)]) ∧ w = w' := by
  have hb := bounds_u32 hv
  by_cases h : v % 2 = 1
  · have hi := isI_t h
    have e1 : iof v = if v < 2147483648 then v / 2 else v / 2 - 2147483648 := by unfold iof; rw [if_pos h]
    have e2 : rof v = 0 := by unfold rof; rw [if_pos h]
    rw [e1, e2]; clear e1 e2
    go_enter Try.func77, Try.ntmps77
    go_wp2
    refine wp_scope_gotos 1 ?_
    go_wp2_with (go_at_call 80; refine (word_IsInt v hv _).mono ?_; rintro e w' ⟨rfl, rfl⟩; rw [hi])
    simp only [gotoN_ret]
    go_ret2
    refine ⟨ret_2i ?_ rfl, rfl⟩
    show wrap64 (wrap32 v / 2) = _
    unfold wrap64 wrap32
    split <;> omega
  · have hi := isI_f h
    have e1 : iof v = 0 := by unfold iof; rw [if_neg h]
    have e2 : rof v = v / 2 := by unfold rof; rw [if_neg h]
    rw [e1, e2]; clear e1 e2
    go_enter Try.func77, Try.ntmps77
    go_wp2
    refine wp_scope_gotos 1 ?_
    go_wp2_with (go_at_call 80; refine (word_IsInt v hv _).mono ?_; rintro e w' ⟨rfl, rfl⟩; rw [hi])
    apply wp_goto
    refine gotoN_goto rfl ?_
    go_wp2
    simp only [gotoN_ret]
    go_ret2
    exact ⟨rfl, rfl⟩
theorem word_IntOf (v : Int) (hv : (Lit.int .u32 v).wf = true) (w : World) :
    Calls Try.prog 63 #[.int .u32 v] w fun e w' => e = .returned (.int .i64 (iof v)) ∧ w = w' := by
  go_enter Try.func63, Try.ntmps63
  go_wp2_with (go_at_call 77; refine (word_parts v hv _).mono ?_; rintro e w' ⟨rfl, rfl⟩)
  go_ret
  exact ⟨rfl, rfl⟩
theorem word_RefOf (v : Int) (hv : (Lit.int .u32 v).wf = true) (w : World) :
    Calls Try.prog 73 #[.int .u32 v] w fun e w' => e = .returned (.int .i64 (rof v)) ∧ w = w' := by
  go_enter Try.func73, Try.ntmps73
  go_wp2_with (go_at_call 77; refine (word_parts v hv _).mono ?_; rintro e w' ⟨rfl, rfl⟩)
  go_ret
  exact ⟨rfl, rfl⟩
theorem fit_t {v : Int} (h1 : -536870912 ≤ v) (h2 : v < 536870912) : fit v = true := by simp [fit, h1, h2]
theorem fit_f {v : Int} (h : ¬ (-536870912 ≤ v ∧ v < 536870912)) : fit v = false := by simp [fit]; omega
theorem fit_iff {v : Int} : fit v = true ↔ -536870912 ≤ v ∧ v < 536870912 := by simp [fit]
theorem emod_lo {v n : Int} (hn : 0 < n) (h : v.tmod n < 0) : v % n = v.tmod n + n := by
  rcases Int.lt_or_le v 0 with h0 | h0
  · rw [Int.tmod_eq_emod] at *
    have hd : ¬ n ∣ v := by
      intro hd
      have : v.tmod n = 0 := Int.tmod_eq_zero_of_dvd hd
      rw [Int.tmod_eq_emod] at this; omega
    simp [hd, show ¬ 0 ≤ v by omega] at h ⊢
    omega
  · have := Int.tmod_nonneg n h0; omega
theorem emod_hi {v n : Int} (hn : 0 < n) (h : 0 ≤ v.tmod n) : v % n = v.tmod n := by
  rcases Int.lt_or_le v 0 with h0 | h0
  · by_cases hd : n ∣ v
    · rw [Int.tmod_eq_zero_of_dvd hd, Int.emod_eq_zero_of_dvd hd]
    · exfalso
      rw [Int.tmod_eq_emod] at h
      simp [hd, show ¬ 0 ≤ v by omega] at h
      have := Int.emod_lt_of_pos v hn; omega
  · rw [Int.tmod_eq_emod_of_nonneg h0]
theorem place_any (v n : Int) (hn : 0 < n) (hn2 : n ≤ 4611686018427387904) (hv : (Lit.int .i64 v).wf = true) (w : World) :
    Calls Try.prog 11 #[.int .i64 v, .int .i64 n] w fun e w' => e = .returned (.int .i64 (v % n)) ∧ w = w' := by
  have hb := bounds_i64 hv
  have hlt : v.tmod n < n := Int.tmod_lt_of_pos v hn
  have hgt : -n < v.tmod n := by have := Int.lt_tmod_of_pos v hn; omega
  by_cases h : v.tmod n < 0
  · have E := Lib.hid (emod_lo (v := v) hn h)
    go_enter Try.func11, Try.ntmps11
    go_wp2
    go_ret
    exact ⟨ret_i64 (by rw [E.out]; try (rw [IntWalk.wrap64_in _ ⟨by omega, by omega⟩])), rfl⟩
  · have E := Lib.hid (emod_hi (v := v) hn (by omega))
    go_enter Try.func11, Try.ntmps11
    go_wp2
    go_ret
    exact ⟨ret_i64 (by rw [E.out]), rfl⟩
theorem place_gen (v n : Int) (hn : 0 < n) (hn2 : n ≤ 4611686018427387904) (hv : (Lit.int .i64 v).wf = true) (w : World) :
    Calls Try.prog 11 #[.int .i64 v, .int .i64 n] w fun e w' => ∃ k : Int, 0 ≤ k ∧ k < n ∧ e = .returned (.int .i64 k) ∧ w = w' :=
  (place_any v n hn hn2 hv w).mono fun e w' ⟨he, hw⟩ => ⟨v % n, Int.emod_nonneg _ (by omega), Int.emod_lt_of_pos _ hn, he, hw⟩
theorem wi_bd (v : Int) : 0 ≤ wi v ∧ wi v ≤ 4294967295 := by unfold wi; omega
theorem wr_bd (v : Int) : 0 ≤ wr v ∧ wr v ≤ 4294967295 := by unfold wr; omega
theorem u32_wf {v : Int} (h0 : 0 ≤ v) (h1 : v ≤ 4294967295) : (Lit.int .u32 v).wf = true := by go_wf
theorem i64_wf {v : Int} (h0 : -9223372036854775808 ≤ v) (h1 : v ≤ 9223372036854775807) : (Lit.int .i64 v).wf = true := WalkArith.wf_i64 ⟨h0, h1⟩
theorem wi_wf (v : Int) : (Lit.int .u32 (wi v)).wf = true := u32_wf (wi_bd v).1 (wi_bd v).2
theorem wr_wf (v : Int) : (Lit.int .u32 (wr v)).wf = true := u32_wf (wr_bd v).1 (wr_bd v).2
theorem isI_wi (v : Int) : isI (wi v) = true := isI_t (by unfold wi; omega)
theorem isI_wr (v : Int) : isI (wr v) = false := isI_f (by unfold wr; omega)
theorem iof_wi {v : Int} (h0 : -1073741824 ≤ v) (h1 : v ≤ 1073741823) : iof (wi v) = v := by
  have e : wi v = v % 2147483648 * 2 + 1 := by unfold wi clampI; omega
  unfold iof; rw [e, if_pos (by omega)]; split <;> omega
theorem iof_wi_any (v : Int) : iof (wi v) = max (-1073741824) (min v 1073741823) := by
  have e : wi v = clampI v % 2147483648 * 2 + 1 := rfl
  have hc : clampI v = max (-1073741824) (min v 1073741823) := rfl
  generalize clampI v = c at *
  unfold iof; rw [e, if_pos (by omega)]; split <;> omega
theorem rof_wi (v : Int) : rof (wi v) = 0 := by unfold rof; rw [if_pos (by unfold wi; omega)]
theorem iof_wr (v : Int) : iof (wr v) = 0 := by unfold iof; rw [if_neg (by unfold wr; omega)]
theorem rof_wr {v : Int} (h0 : 0 ≤ v) (h1 : v ≤ 2147483647) : rof (wr v) = v := by
  unfold rof; rw [if_neg (by unfold wr; omega)]; unfold wr; omega
theorem rof_wr_neg {v : Int} (h0 : v ≤ 0) : rof (wr v) = 0 := by
  unfold rof; rw [if_neg (by unfold wr; omega)]; unfold wr; omega
theorem wi_ne_wr (v p : Int) : wi v ≠ wr p := by unfold wi wr; omega
theorem wi_iof {w : Int} (h0 : 0 ≤ w) (h1 : w ≤ 4294967295) (h : isI w = true) : wi (iof w) = w := by
  have ho : w % 2 = 1 := by simpa [isI] using h
  unfold iof; rw [if_pos ho]; unfold wi clampI; split <;> omega
theorem wr_rof {w : Int} (h0 : 0 ≤ w) (h1 : w ≤ 4294967295) (h : isI w = false) : wr (rof w) = w := by
  have ho : ¬ w % 2 = 1 := by simpa [isI] using h
  unfold rof; rw [if_neg ho]; unfold wr; omega
theorem wi_inj {x y : Int} (hx0 : -1073741824 ≤ x) (hx1 : x ≤ 1073741823) (hy0 : -1073741824 ≤ y) (hy1 : y ≤ 1073741823) : (wi x == wi y) = (x == y) := by
  have ex : wi x = x % 2147483648 * 2 + 1 := by unfold wi clampI; omega
  have ey : wi y = y % 2147483648 * 2 + 1 := by unfold wi clampI; omega
  rw [Bool.eq_iff_iff]; simp only [beq_iff_eq]; omega
theorem iof_bd (v : Int) (h0 : 0 ≤ v) (h1 : v ≤ 4294967295) : -1073741824 ≤ iof v ∧ iof v ≤ 1073741823 := by unfold iof; split <;> (try split) <;> omega
theorem rof_bd (v : Int) (h0 : 0 ≤ v) (h1 : v ≤ 4294967295) : 0 ≤ rof v ∧ rof v ≤ 2147483647 := by unfold rof; split <;> omega
theorem word_Int_in (v : Int) (h0 : -1073741824 ≤ v) (h1 : v ≤ 1073741823) (w : World) :
    Calls Try.prog 37 #[.int .i64 v] w fun e w' => e = .returned (.int .u32 (wi v)) ∧ w = w' := word_Int v (i64_wf (by omega) (by omega)) w
theorem word_Ref_in (v : Int) (h0 : 0 ≤ v) (h1 : v ≤ 2147483647) (w : World) :
    Calls Try.prog 41 #[.int .i64 v] w fun e w' => e = .returned (.int .u32 (wr v)) ∧ w = w' := word_Ref v (i64_wf (by omega) (by omega)) w
theorem word_IntOf_wi (v : Int) (h0 : -1073741824 ≤ v) (h1 : v ≤ 1073741823) (w : World) :
    Calls Try.prog 63 #[.int .u32 (wi v)] w fun e w' => e = .returned (.int .i64 v) ∧ w = w' := by
  have h := word_IntOf (wi v) (wi_wf v) w; rw [iof_wi h0 h1] at h; exact h
theorem word_IntOf_wr (v : Int) (w : World) :
    Calls Try.prog 63 #[.int .u32 (wr v)] w fun e w' => e = .returned (.int .i64 0) ∧ w = w' := by
  have h := word_IntOf (wr v) (wr_wf v) w; rw [iof_wr] at h; exact h
theorem word_RefOf_wr (v : Int) (h0 : 0 ≤ v) (h1 : v ≤ 2147483647) (w : World) :
    Calls Try.prog 73 #[.int .u32 (wr v)] w fun e w' => e = .returned (.int .i64 v) ∧ w = w' := by
  have h := word_RefOf (wr v) (wr_wf v) w; rw [rof_wr h0 h1] at h; exact h
theorem word_RefOf_wi (v : Int) (w : World) :
    Calls Try.prog 73 #[.int .u32 (wi v)] w fun e w' => e = .returned (.int .i64 0) ∧ w = w' := by
  have h := word_RefOf (wi v) (wi_wf v) w; rw [rof_wi] at h; exact h
theorem word_IsInt_wi (v : Int) (w : World) :
    Calls Try.prog 80 #[.int .u32 (wi v)] w fun e w' => e = .returned (.bool true) ∧ w = w' := by
  have h := word_IsInt (wi v) (wi_wf v) w; rw [isI_wi] at h; exact h
theorem word_IsInt_wr (v : Int) (w : World) :
    Calls Try.prog 80 #[.int .u32 (wr v)] w fun e w' => e = .returned (.bool false) ∧ w = w' := by
  have h := word_IsInt (wr v) (wr_wf v) w; rw [isI_wr] at h; exact h
end Go.Proofs.Ytljgnmbjidkjnaa.Wd
