/- Next and New of package heap. -/
import Derived.Test.YtljgnmbjidkjnaaHeap2
import Derived.Test.YtljgnmbjidkjnaaGen2
namespace Go.Proofs.Ytljgnmbjidkjnaa.Hp
open Go.Proofs.Ytljgnmbjidkjnaa.Gen Go.Proofs.Ytljgnmbjidkjnaa.Base Go.Proofs.Ytljgnmbjidkjnaa.Fr Go.ChangeShapes Go.WideShapes Go.ChangeAt Go.RowKit
set_option linter.unusedVariables false
/-- The first place behind k, of the next f, at which an object begins. -/
def nextN (bg : List Bool) : Nat → Nat → Nat
  | 0, _ => 0
  | f + 1, k => if o bg k then k + 1 else nextN bg f (k + 1)
def nextB (bg : List Bool) (x : Int) : Nat := nextN bg (bg.length - (max x 0).toNat) (max x 0).toNat
def NextInv (bg : List Bool) (h : Nat) (R : Nat) (w : World) (m : Nat) (a : Act) (w' : World) : Prop :=
  ∃ (k : Nat) (u2 u3 u5 u6 u7 u8 u9 u10 u11 u12 u13 u14 u15 u16 u17 u18 u19 u20 : Value), m = bg.length - k ∧ k ≤ bg.length ∧ R = nextN bg (bg.length - k) k ∧ w' = w ∧
    a = ⟨#[.pointer (some ⟨h, 0, none⟩), .int .i64 k, u2, u3, .int .i64 0, u5, u6, u7, u8, u9, u10, u11, u12, u13, u14, u15, u16, u17, u18, u19, u20], []⟩
theorem hasB_nat (bg : List Bool) (k : Nat) (h : k < bg.length) : hasB bg ((k : Int) + 1) = o bg k := by
  unfold hasB
  rw [if_pos (by omega), show ((k : Int) + 1).toNat - 1 = k by omega]
section
variable {w : World} {X : HB} {ws : List Int} {l bg : List Bool}
set_option maxHeartbeats 1000000 in
theorem hp_Next (h : HpAt w X ws l bg) (x : Int) (hw : (Lit.int .i64 x).wf = true) :
    Calls Try.prog 30 #[.pointer (some ⟨X.h, 0, none⟩), .int .i64 x] w fun e w' => e = .returned (.int .i64 (nextB bg x)) ∧ w = w' := by
  have c2 := h.c2
  have hle := h.len
  have hb := bounds_i64 hw
  have hhas := fun y (hy : (Lit.int .i64 y).wf = true) => has_any h y hy
  have HHAS := Lib.hid hhas
  obtain ⟨k0, hk0⟩ : ∃ k0 : Nat, max x 0 = (k0 : Int) := ⟨(max x 0).toNat, by omega⟩
  have hR : nextB bg x = nextN bg (bg.length - k0) k0 := by unfold nextB; rw [hk0]; rfl
  rw [hR]
  have HK0 := Lib.hid hk0
  clear hhas h hR hk0
  obtain ⟨R, hR⟩ : ∃ R, nextN bg (bg.length - k0) k0 = R := ⟨_, rfl⟩
  rw [hR]
  have HR := Lib.hid hR; clear hR
  go_enter Try.func30, Try.ntmps30
  go_wp2_with fail
  refine wp_scope_loop (NextInv bg X.h R w) 0 (bg.length + 1) _ rfl ?_ ?_
  · generalize hQ : jumpQ _ _ _ _ = Q1
    have HQ := Lib.hid hQ; clear hQ
    go_wp2_with fail
    rw [HK0.out]
    apply wp_label
    have hk0b : (k0 : Int) ≤ 9223372036854775807 := by have := HK0.out; omega
    by_cases hlt : k0 < bg.length
    · have t1 : ¬ (bg.length : Int) ≤ (k0 : Int) := by omega
      have d1 : decide ((bg.length : Int) ≤ (k0 : Int)) = false := by simp; omega
      have hst : nextN bg (bg.length - k0) k0 = if o bg k0 then k0 + 1 else nextN bg (bg.length - (k0 + 1)) (k0 + 1) := by
        rw [show bg.length - k0 = (bg.length - (k0 + 1)) + 1 by omega, nextN]
      have hc := HHAS.out ((k0 : Int) + 1) (i64_wf (by omega) (by omega))
      rw [hasB_nat bg k0 hlt] at hc
      cases ho : o bg k0
      · rw [ho] at hc hst
        have HST := Lib.hid hst; have HO := Lib.hid ho
        clear hst ho
        go_wp2_with (go_at_call 26; (with_reducible refine hc.mono ?_); rintro e w3 ⟨rfl, rfl⟩; dsimp only)
        apply wp_goto
        rw [← HQ.out]
        exact ⟨rfl, bg.length - (k0 + 1), by omega, k0 + 1, _, _, _, _, _, _, _, _, _, _, _, _, _, _, _, _, _, _, rfl, by omega, by rw [← HR.out]; exact HST.out, rfl, rfl⟩
      · rw [ho] at hc hst
        have HST := Lib.hid hst; have HO := Lib.hid ho
        clear hst ho
        go_wp2_with (go_at_call 26; (with_reducible refine hc.mono ?_); rintro e w3 ⟨rfl, rfl⟩; dsimp only)
        try rw [← HQ.out]
        try simp only [jumpQ_ret]
        go_ret
        exact ⟨ret_i64 (by rw [← HR.out, HST.out]; simp), rfl⟩
    · have t1 : (bg.length : Int) ≤ (k0 : Int) := by omega
      have d1 : decide ((bg.length : Int) ≤ (k0 : Int)) = true := by simp; omega
      have hst : nextN bg (bg.length - k0) k0 = 0 := by rw [show bg.length - k0 = 0 by omega]; rfl
      have HST := Lib.hid hst
      clear hst
      go_wp2_with fail
      try rw [← HQ.out]
      try simp only [jumpQ_ret]
      go_ret
      exact ⟨ret_i64 (by rw [← HR.out, HST.out]; simp), rfl⟩
  · rintro m a w2 ⟨k, u2, u3, u5, u6, u7, u8, u9, u10, u11, u12, u13, u14, u15, u16, u17, u18, u19, u20, hm, hk, hR, rfl, rfl⟩
    generalize hQ : jumpQ _ _ _ _ = Q1
    have HQ := Lib.hid hQ; clear hQ
    have HR2 := Lib.hid hR.symm; clear hR
    have hm2 : bg.length - k ≤ m := by omega
    clear hm
    by_cases hlt : k < bg.length
    · have t1 : ¬ (bg.length : Int) ≤ (k : Int) := by omega
      have d1 : decide ((bg.length : Int) ≤ (k : Int)) = false := by simp; omega
      have hst : nextN bg (bg.length - k) k = if o bg k then k + 1 else nextN bg (bg.length - (k + 1)) (k + 1) := by
        rw [show bg.length - k = (bg.length - (k + 1)) + 1 by omega, nextN]
      have hc := HHAS.out ((k : Int) + 1) (i64_wf (by omega) (by omega))
      rw [hasB_nat bg k hlt] at hc
      cases ho : o bg k
      · rw [ho] at hc hst
        have HST := Lib.hid hst; have HO := Lib.hid ho
        clear hst ho
        go_wp2_with (go_at_call 26; (with_reducible refine hc.mono ?_); rintro e w3 ⟨rfl, rfl⟩; dsimp only)
        apply wp_goto
        rw [← HQ.out]
        exact ⟨rfl, bg.length - (k + 1), by omega, k + 1, _, _, _, _, _, _, _, _, _, _, _, _, _, _, _, _, _, _, rfl, by omega, by rw [← HR2.out]; exact HST.out, rfl, rfl⟩
      · rw [ho] at hc hst
        have HST := Lib.hid hst; have HO := Lib.hid ho
        clear hst ho
        go_wp2_with (go_at_call 26; (with_reducible refine hc.mono ?_); rintro e w3 ⟨rfl, rfl⟩; dsimp only)
        try rw [← HQ.out]
        try simp only [jumpQ_ret]
        go_ret
        exact ⟨ret_i64 (by rw [← HR2.out, HST.out]; simp), rfl⟩
    · have t1 : (bg.length : Int) ≤ (k : Int) := by omega
      have d1 : decide ((bg.length : Int) ≤ (k : Int)) = true := by simp; omega
      have hst : nextN bg (bg.length - k) k = 0 := by rw [show bg.length - k = 0 by omega]; rfl
      have HST := Lib.hid hst
      clear hst
      go_wp2_with fail
      try rw [← HQ.out]
      try simp only [jumpQ_ret]
      go_ret
      exact ⟨ret_i64 (by rw [← HR2.out, HST.out]; simp), rfl⟩
end
end Go.Proofs.Ytljgnmbjidkjnaa.Hp
