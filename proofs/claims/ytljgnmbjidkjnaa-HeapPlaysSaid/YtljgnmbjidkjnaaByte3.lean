/- Fields that bytes have none of, an object's hash, and that it goes: package heap. -/
import Derived.Test.YtljgnmbjidkjnaaByte2
namespace Go.Proofs.Ytljgnmbjidkjnaa.Hp
open Go.Proofs.Ytljgnmbjidkjnaa.Gen Go.Proofs.Ytljgnmbjidkjnaa.Base Go.Proofs.Ytljgnmbjidkjnaa.Fr Go.ChangeShapes Go.WideShapes Go.ChangeAt Go.RowKit
set_option linter.unusedVariables false
section
variable {w : World} {X : HB} {ws : List Int} {l bg : List Bool}
theorem hp_hasField_no (h : HpAt w X ws l bg) (x i : Int) (hw : (Lit.int .i64 x).wf = true) (h3 : Hd.hfmt (headW ws bg x) = 3 ∨ Hd.hfmt (headW ws bg x) = 0) :
    Calls Try.prog 58 #[.pointer (some ⟨X.h, 0, none⟩), .int .i64 x, .int .i64 i] w fun e w' => e = .returned (.bool false) ∧ w = w' := by
  have hc2 := hp_head h x hw
  have hwf := headW_wf h x
  clear h
  generalize headW ws bg x = H at *
  have hf := Hd.hd_Fmt H hwf w
  rcases h3 with h3 | h3
  all_goals
    rw [h3] at hf
    clear h3
    go_enter Try.func58, Try.ntmps58
    go_wp2_with (first | (go_at_call 54; (with_reducible refine hc2.mono ?_); rintro e w2 ⟨rfl, rfl⟩; dsimp only) | (go_at_call 64; (with_reducible refine hf.mono ?_); rintro e w2 ⟨rfl, rfl⟩; dsimp only))
    go_ret
    exact ⟨rfl, rfl⟩
theorem hp_Field_no (h : HpAt w X ws l bg) (x i : Int) (hw : (Lit.int .i64 x).wf = true) (h3 : Hd.hfmt (headW ws bg x) = 3 ∨ Hd.hfmt (headW ws bg x) = 0) :
    Calls Try.prog 28 #[.pointer (some ⟨X.h, 0, none⟩), .int .i64 x, .int .i64 i] w fun e w' => e = .returned (.int .u32 0) ∧ w = w' := by
  have hc := hp_hasField_no h x i hw h3
  clear h h3
  go_enter Try.func28, Try.ntmps28
  go_wp2_with (go_at_call 58; (with_reducible refine hc.mono ?_); rintro e w2 ⟨rfl, rfl⟩; dsimp only)
  go_ret
  exact ⟨rfl, rfl⟩
theorem hp_SetField_no (h : HpAt w X ws l bg) (x i v : Int) (hw : (Lit.int .i64 x).wf = true) (h3 : Hd.hfmt (headW ws bg x) = 3 ∨ Hd.hfmt (headW ws bg x) = 0) :
    Calls Try.prog 17 #[.pointer (some ⟨X.h, 0, none⟩), .int .i64 x, .int .i64 i, .int .u32 v] w fun e w' => e = .returned (.bool false) ∧ w = w' := by
  have hc := hp_hasField_no h x i hw h3
  clear h h3
  go_enter Try.func17, Try.ntmps17
  go_wp2_with (go_at_call 58; (with_reducible refine hc.mono ?_); rintro e w2 ⟨rfl, rfl⟩; dsimp only)
  go_ret
  exact ⟨rfl, rfl⟩
theorem hp_Hash (h : HpAt w X ws l bg) (p : Nat) (x : Int) (hx : x = (p : Int) + 1) (hb : hasB bg ((p : Int) + 1) = true) (hp : p + 2 < bg.length) :
    Calls Try.prog 25 #[.pointer (some ⟨X.h, 0, none⟩), .int .i64 x] w fun e w' => e = .returned (.int .i64 (Wd.iof (ws[p + 2]?.getD 0))) ∧ w = w' := by
  have hle := h.len
  have hc1 := has_any h x (i64_wf (by omega) (by omega))
  rw [hx, hb, ← hx] at hc1
  have hc2 := hp_getN h (x + 2) (p + 2) (by omega) (by omega)
  have hwd : 0 ≤ ws[p + 2]?.getD 0 ∧ ws[p + 2]?.getD 0 ≤ 4294967295 := by
    have := h.e1
    rw [List.getElem?_eq_getElem (by omega)]; exact h.wf _ (List.getElem_mem _)
  have hc3 := Wd.word_IntOf (ws[p + 2]?.getD 0) (u32_wf hwd.1 hwd.2) w
  have hx0 : 1 ≤ x := by omega
  have hx1 : x ≤ 70000 := by omega
  clear h hb hx hp hle
  generalize ws[p + 2]?.getD 0 = W at *
  generalize Wd.iof W = I at *
  go_enter Try.func25, Try.ntmps25
  go_wp2_with (first | (go_at_call 26; (with_reducible refine hc1.mono ?_); rintro e w2 ⟨rfl, rfl⟩; dsimp only) | (go_at_call 60; (with_reducible refine hc2.mono ?_); rintro e w2 ⟨rfl, rfl⟩; dsimp only) | (go_at_call 63; (with_reducible refine hc3.mono ?_); rintro e w2 ⟨rfl, rfl⟩; dsimp only))
  go_ret
  exact ⟨rfl, rfl⟩
theorem hp_Drop_no (h : HpAt w X ws l bg) (x : Int) (hw : (Lit.int .i64 x).wf = true) (hb : hasB bg x = false) :
    Calls Try.prog 15 #[.pointer (some ⟨X.h, 0, none⟩), .int .i64 x] w fun e w' => e = .returned (.bool false) ∧ w = w' := by
  have hc1 := has_any h x hw
  rw [hb] at hc1
  clear h hb
  go_enter Try.func15, Try.ntmps15
  go_wp2_with (go_at_call 26; (with_reducible refine hc1.mono ?_); rintro e w2 ⟨rfl, rfl⟩; dsimp only)
  go_ret
  exact ⟨rfl, rfl⟩
set_option maxHeartbeats 1000000 in
theorem hp_Drop (h : HpAt w X ws l bg) (p S : Nat) (x : Int) (hx : x = (p : Int) + 1) (hb : hasB bg ((p : Int) + 1) = true) (hS : Hd.hsiz (headW ws bg ((p : Int) + 1)) = S) (hr : p + (3 + S) ≤ bg.length) (hcl : ∀ i, p ≤ i → i < p + (3 + S) → o l i = false) :
    Calls Try.prog 15 #[.pointer (some ⟨X.h, 0, none⟩), .int .i64 x] w fun e w' => e = .returned (.bool true) ∧ ∃ X', HpAt w' X' ws (setR l p (3 + S) true) (bg.set p false) ∧ HNx X w X' w' := by
  have hle := h.len
  have hw : (Lit.int .i64 x).wf = true := i64_wf (by omega) (by omega)
  have hc1 := has_any h x hw
  rw [hx, hb, ← hx] at hc1
  have hc2 := hp_head h x hw
  have hwf := headW_wf h x
  rw [← hx] at hS
  generalize headW ws bg x = H at *
  have hc3 := Hd.hd_Size H hwf w
  rw [hS] at hc3
  obtain ⟨hA2, hN2⟩ := h.begin p false
  have hll := h.e2
  have c2 := h.c2
  have fb := h.fb p
  have cb := h.cb p (by omega)
  have c1 := hA2.c1
  have hcg := free_give hA2.free p (3 + S) (by omega) (by omega) hcl
  obtain ⟨T, hT, hT2⟩ : ∃ T : Nat, 3 + (S : Int) = (T : Int) ∧ T = 3 + S := ⟨3 + S, by push_cast; rfl, rfl⟩
  rw [← hT2] at hcg
  have ex : x - 1 = (p : Int) := by omega
  have tp : (p : Int) < (bg.length : Int) := by omega
  have tp0 : (0 : Int) ≤ (p : Int) := by omega
  have hx0 : 1 ≤ x := by omega
  have hx1 : x ≤ 70000 := by omega
  have S1 : S ≤ 65536 := by omega
  have HA2 := Lib.hid hA2; have HN2 := Lib.hid hN2; have HT2 := Lib.hid hT2
  clear h hb hx hr hcl hle hA2 hN2 hS hT2 hll
  go_enter Try.func15, Try.ntmps15
  go_wp2_with (first | (go_at_call 26; (with_reducible refine hc1.mono ?_); rintro e w2 ⟨rfl, rfl⟩; dsimp only) | (go_at_call 54; (with_reducible refine hc2.mono ?_); rintro e w2 ⟨rfl, rfl⟩; dsimp only) | (go_at_call 53; (with_reducible refine hc3.mono ?_); rintro e w2 ⟨rfl, rfl⟩; dsimp only) | (go_at_call 55; (with_reducible refine hcg.mono ?_); rintro e w3 ⟨rfl, B3, hF3, hN3⟩; dsimp only))
  go_ret
  have h3 := HA2.out.frees hF3 hN3 (setR_len _ _ _ _)
  rw [HT2.out] at h3
  exact ⟨rfl, _, h3.1, HN2.out.trans h3.2⟩
end
end Go.Proofs.Ytljgnmbjidkjnaa.Hp
