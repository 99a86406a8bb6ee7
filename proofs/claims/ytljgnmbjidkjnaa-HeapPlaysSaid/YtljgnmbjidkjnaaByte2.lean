/- Bytes of an object, fields that it has none of, its hash, and that it goes: package heap. -/
import Derived.Test.YtljgnmbjidkjnaaByte
namespace Go.Proofs.Ytljgnmbjidkjnaa.Hp
open Go.Proofs.Ytljgnmbjidkjnaa.Gen Go.Proofs.Ytljgnmbjidkjnaa.Base Go.Proofs.Ytljgnmbjidkjnaa.Fr Go.ChangeShapes Go.WideShapes Go.ChangeAt Go.RowKit
set_option linter.unusedVariables false
/-- Bytes: k of them, at place p + 1. -/
structure Bts (ws : List Int) (bg : List Bool) (p k : Nat) : Prop where
  has : hasB bg ((p : Int) + 1) = true
  fmt : Hd.hfmt (headW ws bg ((p : Int) + 1)) = 3
  siz : sizW (headW ws bg ((p : Int) + 1)) = k
  room : p + 3 + (k + 3) / 4 ≤ bg.length
section
variable {w : World} {X : HB} {ws : List Int} {l bg : List Bool}
theorem hp_Fmt (h : HpAt w X ws l bg) (x : Int) (hw : (Lit.int .i64 x).wf = true) :
    Calls Try.prog 47 #[.pointer (some ⟨X.h, 0, none⟩), .int .i64 x] w fun e w' => e = .returned (.int .i64 (Hd.hfmt (headW ws bg x))) ∧ w = w' := by
  have hc2 := hp_head h x hw
  have hwf := headW_wf h x
  clear h
  generalize headW ws bg x = H at *
  have hf := Hd.hd_Fmt H hwf w
  go_enter Try.func47, Try.ntmps47
  go_wp2_with (first | (go_at_call 54; (with_reducible refine hc2.mono ?_); rintro e w2 ⟨rfl, rfl⟩; dsimp only) | (go_at_call 64; (with_reducible refine hf.mono ?_); rintro e w2 ⟨rfl, rfl⟩; dsimp only))
  go_ret
  exact ⟨rfl, rfl⟩
theorem hp_hasByte (h : HpAt w X ws l bg) (p k : Nat) (hb : Bts ws bg p k) (x i : Int) (hx : x = (p : Int) + 1) :
    Calls Try.prog 59 #[.pointer (some ⟨X.h, 0, none⟩), .int .i64 x, .int .i64 i] w fun e w' => e = .returned (.bool (decide (0 ≤ i ∧ i < k))) ∧ w = w' := by
  have hle := h.len
  have hrm := hb.room
  have hw : (Lit.int .i64 x).wf = true := i64_wf (by omega) (by omega)
  have hc1 := hp_Fmt h x hw
  have hc2 := hp_Size h x hw
  rw [hx, hb.fmt] at hc1
  rw [hx, hb.has, hb.siz] at hc2
  simp only [if_true] at hc2
  rw [← hx] at hc1 hc2
  clear h hb hx
  by_cases c1 : 0 ≤ i
  · by_cases c2 : i < (k : Int)
    · rw [show decide (0 ≤ i ∧ i < (k : Int)) = true by simp; omega]
      have d2 : decide (i < (k : Int)) = true := by simpa using c2
      go_enter Try.func59, Try.ntmps59
      go_wp2_with (first | (go_at_call 47; (with_reducible refine hc1.mono ?_); rintro e w2 ⟨rfl, rfl⟩; dsimp only) | (go_at_call 27; (with_reducible refine hc2.mono ?_); rintro e w2 ⟨rfl, rfl⟩; dsimp only))
      go_ret
      exact ⟨rfl, rfl⟩
    · rw [show decide (0 ≤ i ∧ i < (k : Int)) = false by simp; omega]
      have d2 : decide (i < (k : Int)) = false := by simpa using c2
      go_enter Try.func59, Try.ntmps59
      go_wp2_with (first | (go_at_call 47; (with_reducible refine hc1.mono ?_); rintro e w2 ⟨rfl, rfl⟩; dsimp only) | (go_at_call 27; (with_reducible refine hc2.mono ?_); rintro e w2 ⟨rfl, rfl⟩; dsimp only))
      go_ret
      exact ⟨rfl, rfl⟩
  · rw [show decide (0 ≤ i ∧ i < (k : Int)) = false by simp; omega]
    go_enter Try.func59, Try.ntmps59
    go_wp2_with (first | (go_at_call 47; (with_reducible refine hc1.mono ?_); rintro e w2 ⟨rfl, rfl⟩; dsimp only) | (go_at_call 27; (with_reducible refine hc2.mono ?_); rintro e w2 ⟨rfl, rfl⟩; dsimp only))
    go_ret
    exact ⟨rfl, rfl⟩
theorem hp_shift (q c : Nat) (hc : c < 4) (i : Int) (hi : i = (q * 4 + c : Nat)) (hq : q ≤ 1000) (w : World) :
    Calls Try.prog 61 #[.int .i64 i] w fun e w' => e = .returned (.int .i64 ((c : Int) * 8)) ∧ w = w' := by
  have e : i % 4 = (c : Int) := by omega
  have h0 : 0 ≤ i := by omega
  have h1 : i ≤ 10000 := by omega
  clear hi
  go_enter Try.func61, Try.ntmps61
  go_wp2
  go_ret
  exact ⟨rfl, rfl⟩
theorem hp_Byte_no (h : HpAt w X ws l bg) (p k : Nat) (hb : Bts ws bg p k) (x i : Int) (hx : x = (p : Int) + 1) (hi : ¬ (0 ≤ i ∧ i < k)) :
    Calls Try.prog 31 #[.pointer (some ⟨X.h, 0, none⟩), .int .i64 x, .int .i64 i] w fun e w' => e = .returned (.int .i64 (-1)) ∧ w = w' := by
  have hc := hp_hasByte h p k hb x i hx
  rw [show decide (0 ≤ i ∧ i < (k : Int)) = false by simpa using hi] at hc
  clear h hb hx hi
  go_enter Try.func31, Try.ntmps31
  go_wp2_with (go_at_call 59; (with_reducible refine hc.mono ?_); rintro e w2 ⟨rfl, rfl⟩; dsimp only)
  go_ret
  exact ⟨rfl, rfl⟩
theorem hp_SetByte_no (h : HpAt w X ws l bg) (p k : Nat) (hb : Bts ws bg p k) (x i v : Int) (hx : x = (p : Int) + 1) (hi : ¬ (0 ≤ i ∧ i < k)) :
    Calls Try.prog 19 #[.pointer (some ⟨X.h, 0, none⟩), .int .i64 x, .int .i64 i, .int .i64 v] w fun e w' => e = .returned (.bool false) ∧ w = w' := by
  have hc := hp_hasByte h p k hb x i hx
  rw [show decide (0 ≤ i ∧ i < (k : Int)) = false by simpa using hi] at hc
  clear h hb hx hi
  go_enter Try.func19, Try.ntmps19
  go_wp2_with (go_at_call 59; (with_reducible refine hc.mono ?_); rintro e w2 ⟨rfl, rfl⟩; dsimp only)
  go_ret
  exact ⟨rfl, rfl⟩
set_option maxHeartbeats 1000000 in
theorem hp_Byte (h : HpAt w X ws l bg) (p k q c : Nat) (hb : Bts ws bg p k) (x i : Int) (hx : x = (p : Int) + 1) (hi : i = (q * 4 + c : Nat)) (hc : c < 4) (hk : q * 4 + c < k) (hk2 : k ≤ 200) :
    Calls Try.prog 31 #[.pointer (some ⟨X.h, 0, none⟩), .int .i64 x, .int .i64 i] w fun e w' => e = .returned (.int .i64 (byt c (ws[p + 3 + q]?.getD 0))) ∧ w = w' := by
  have hle := h.len
  have hrm := hb.room
  have hc1 := hp_hasByte h p k hb x i hx
  rw [show decide (0 ≤ i ∧ i < (k : Int)) = true by simp; omega] at hc1
  have hc2 := hp_shift q c hc i hi (by omega) w
  have hc3 := hp_getN h (x + 3 + (q : Int)) (p + 3 + q) (by omega) (by omega)
  have hwd : 0 ≤ ws[p + 3 + q]?.getD 0 ∧ ws[p + 3 + q]?.getD 0 ≤ 4294967295 := by
    have := h.e1
    rw [List.getElem?_eq_getElem (by omega)]; exact h.wf _ (List.getElem_mem _)
  have hq : i / 4 = (q : Int) := by omega
  have hi0 : 0 ≤ i := by omega
  have hi1 : i < 200 := by omega
  have hx0 : 1 ≤ x := by omega
  have hx1 : x ≤ 70000 := by omega
  clear h hb hx hi hle hrm
  generalize ws[p + 3 + q]?.getD 0 = W at *
  obtain ⟨W, rfl⟩ := Int.eq_ofNat_of_zero_le hwd.1
  have hc' : c = 0 ∨ c = 1 ∨ c = 2 ∨ c = 3 := by omega
  rcases hc' with rfl | rfl | rfl | rfl
  all_goals
    go_enter Try.func31, Try.ntmps31
    go_wp2_with (first | (go_at_call 59; (with_reducible refine hc1.mono ?_); rintro e w2 ⟨rfl, rfl⟩; dsimp only) | (go_at_call 60; (with_reducible refine hc3.mono ?_); rintro e w2 ⟨rfl, rfl⟩; dsimp only) | (go_at_call 61; (with_reducible refine hc2.mono ?_); rintro e w2 ⟨rfl, rfl⟩; dsimp only))
    go_ret
    refine ⟨ret_i64 ?_, rfl⟩
    rw [show (255 : Int) = ((2 ^ 8 - 1 : Nat) : Int) from rfl, u32_mask 8 _ (by decide) (by omega) (by omega), IntWalk.wrap64_in _ ⟨by omega, by omega⟩]
    simp only [byt, Nat.reducePow]; omega
set_option maxHeartbeats 1000000 in
theorem hp_SetByte (h : HpAt w X ws l bg) (p k q c : Nat) (hb : Bts ws bg p k) (x i v : Int) (hx : x = (p : Int) + 1) (hi : i = (q * 4 + c : Nat)) (hc : c < 4) (hk : q * 4 + c < k) (hk2 : k ≤ 200) (v0 : 0 ≤ v) (v1 : v ≤ 10000000) :
    Calls Try.prog 19 #[.pointer (some ⟨X.h, 0, none⟩), .int .i64 x, .int .i64 i, .int .i64 v] w fun e w' => e = .returned (.bool true) ∧ HpAt w' X (ws.set (p + 3 + q) (setb c (ws[p + 3 + q]?.getD 0) v)) l bg ∧ HNx X w X w' := by
  have hle := h.len
  have hrm := hb.room
  have hc1 := hp_hasByte h p k hb x i hx
  rw [show decide (0 ≤ i ∧ i < (k : Int)) = true by simp; omega] at hc1
  have hc2 := hp_shift q c hc i hi (by omega) w
  have hc3 := hp_getN h (x + 3 + (q : Int)) (p + 3 + q) (by omega) (by omega)
  have hwd : 0 ≤ ws[p + 3 + q]?.getD 0 ∧ ws[p + 3 + q]?.getD 0 ≤ 4294967295 := by
    have := h.e1
    rw [List.getElem?_eq_getElem (by omega)]; exact h.wf _ (List.getElem_mem _)
  have hsb := setb_bd c hc (ws[p + 3 + q]?.getD 0) v hwd.1 hwd.2
  have hc4 := hp_putN h (x + 3 + (q : Int)) (setb c (ws[p + 3 + q]?.getD 0) v) (p + 3 + q) (by omega) (by omega) hsb.1 hsb.2
  have hcut := cut_byte c hc (ws[p + 3 + q]?.getD 0) hwd.1 hwd.2
  have hor := or_byte c hc (ws[p + 3 + q]?.getD 0) v hwd.1 hwd.2
  have hmask : bits .and .i64 v 255 = v % 256 := i64_mask 8 v (by decide)
  have hq : i / 4 = (q : Int) := by omega
  have hi0 : 0 ≤ i := by omega
  have hi1 : i < 200 := by omega
  have hx0 : 1 ≤ x := by omega
  have hx1 : x ≤ 70000 := by omega
  clear h hb hx hi hle hrm
  generalize hSB : setb c (ws[p + 3 + q]?.getD 0) v = SB at *
  have HSB := Lib.hid hSB; clear hSB
  generalize hWE : ws[p + 3 + q]?.getD 0 = W at *
  have HWE := Lib.hid hWE; clear hWE
  obtain ⟨W, rfl⟩ := Int.eq_ofNat_of_zero_le hwd.1
  have hc' : c = 0 ∨ c = 1 ∨ c = 2 ∨ c = 3 := by omega
  rcases hc' with rfl | rfl | rfl | rfl
  all_goals
    simp only [Nat.reduceAdd, Nat.reducePow, Nat.reduceMul] at hcut hor
    have hval := hor
    rw [← hcut] at hval
    simp only [Int.cast_ofNat_Int, Int.natCast_one, Int.mul_one] at hval
    have HVAL := Lib.hid hval
    clear hval hcut hor
    go_enter Try.func19, Try.ntmps19
    go_wp2_with (first | (go_at_call 59; (with_reducible refine hc1.mono ?_); rintro e w2 ⟨rfl, rfl⟩; dsimp only) | (go_at_call 60; (with_reducible refine hc3.mono ?_); rintro e w2 ⟨rfl, rfl⟩; dsimp only) | (go_at_call 61; (with_reducible refine hc2.mono ?_); rintro e w2 ⟨rfl, rfl⟩; dsimp only))
    first | rw [HVAL.out] | rw [show _ = SB from HVAL.out]
    refine hc4.mono ?_
    rintro e w2 ⟨rfl, hA, hN⟩
    dsimp only
    go_wp2_with fail
    go_ret
    exact ⟨rfl, hA, hN⟩
end
end Go.Proofs.Ytljgnmbjidkjnaa.Hp
