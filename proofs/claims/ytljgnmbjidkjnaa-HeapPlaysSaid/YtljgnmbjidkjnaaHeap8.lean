/- Objects of any format: package heap. -/
/- A heap of any number of words; a byte of any number: package heap. -/
import Derived.Test.YtljgnmbjidkjnaaRefV
namespace Go.Proofs.Ytljgnmbjidkjnaa.Hp
open Go.Proofs.Ytljgnmbjidkjnaa.Gen Go.Proofs.Ytljgnmbjidkjnaa.Base Go.Proofs.Ytljgnmbjidkjnaa.Fr Go.ChangeShapes Go.WideShapes Go.ChangeAt Go.RowKit
set_option linter.unusedVariables false
section
variable {w : World} {X : HB} {ws : List Int} {l bg : List Bool}
theorem below_hnx {w w' : World} {X : HB} (g : Below w.heap.size w w') : HNx X w X w' := ⟨g.os, g.tape, g.output, g.size, fun k hk _ => g.block k hk, fun _ h => .inl h, rfl⟩
theorem below_drew {B : Nat} {u v : World} (h : Below B u v) : Below B u v.drew := ⟨h.os, h.tape, h.output, h.size, h.block⟩
/-- Has an object such a field? H: its first word. -/
def hasF (H i : Int) : Bool := decide ((Hd.hfmt H = 1 ∨ Hd.hfmt H = 2) ∧ 0 ≤ i ∧ i < Hd.hsiz H)
theorem hp_hasFieldG (h : HpAt w X ws l bg) (x i : Int) (hw : (Lit.int .i64 x).wf = true) : Calls Try.prog 58 #[.pointer (some ⟨X.h, 0, none⟩), .int .i64 x, .int .i64 i] w fun e w' => e = .returned (.bool (hasF (headW ws bg x) i)) ∧ w = w' := by
  have hc2 := hp_head h x hw
  have hwf := headW_wf h x
  clear h
  generalize headW ws bg x = H at *
  have hf := Hd.hd_Fmt H hwf w
  have hs := Hd.hd_Size H hwf w
  have hfb := Hd.hfmt_bd H
  generalize hF : Hd.hfmt H = F at *
  generalize hS : Hd.hsiz H = S at *
  have e : hasF H i = decide ((F = 1 ∨ F = 2) ∧ 0 ≤ i ∧ i < S) := by unfold hasF; rw [hF, hS]
  rw [e]
  clear e hF hS hwf hw
  by_cases f1 : F = 1 ∨ F = 2
  · by_cases c1 : 0 ≤ i
    · by_cases c2 : i < S
      · rw [show decide ((F = 1 ∨ F = 2) ∧ 0 ≤ i ∧ i < S) = true by simp; omega]
        have d2 : decide (i < S) = true := by simpa using c2
        rcases f1 with f1 | f1
        all_goals
          subst f1
          go_enter Try.func58, Try.ntmps58
          go_wp2_with (first | (go_at_call 54; (with_reducible refine hc2.mono ?_); rintro e w2 ⟨rfl, rfl⟩; dsimp only) | (go_at_call 64; (with_reducible refine hf.mono ?_); rintro e w2 ⟨rfl, rfl⟩; dsimp only) | (go_at_call 53; (with_reducible refine hs.mono ?_); rintro e w2 ⟨rfl, rfl⟩; dsimp only))
          go_ret
          exact ⟨rfl, rfl⟩
      · rw [show decide ((F = 1 ∨ F = 2) ∧ 0 ≤ i ∧ i < S) = false by simp; omega]
        have d2 : decide (i < S) = false := by simpa using c2
        rcases f1 with f1 | f1
        all_goals
          subst f1
          go_enter Try.func58, Try.ntmps58
          go_wp2_with (first | (go_at_call 54; (with_reducible refine hc2.mono ?_); rintro e w2 ⟨rfl, rfl⟩; dsimp only) | (go_at_call 64; (with_reducible refine hf.mono ?_); rintro e w2 ⟨rfl, rfl⟩; dsimp only) | (go_at_call 53; (with_reducible refine hs.mono ?_); rintro e w2 ⟨rfl, rfl⟩; dsimp only))
          go_ret
          exact ⟨rfl, rfl⟩
    · rw [show decide ((F = 1 ∨ F = 2) ∧ 0 ≤ i ∧ i < S) = false by simp; omega]
      rcases f1 with f1 | f1
      all_goals
        subst f1
        go_enter Try.func58, Try.ntmps58
        go_wp2_with (first | (go_at_call 54; (with_reducible refine hc2.mono ?_); rintro e w2 ⟨rfl, rfl⟩; dsimp only) | (go_at_call 64; (with_reducible refine hf.mono ?_); rintro e w2 ⟨rfl, rfl⟩; dsimp only) | (go_at_call 53; (with_reducible refine hs.mono ?_); rintro e w2 ⟨rfl, rfl⟩; dsimp only))
        go_ret
        exact ⟨rfl, rfl⟩
  · rw [show decide ((F = 1 ∨ F = 2) ∧ 0 ≤ i ∧ i < S) = false by simp; omega]
    have d1 : (F == 1) = false := by simp; omega
    have d2 : (F == 2) = false := by simp; omega
    clear f1
    go_enter Try.func58, Try.ntmps58
    go_wp2_with (first | (go_at_call 54; (with_reducible refine hc2.mono ?_); rintro e w2 ⟨rfl, rfl⟩; dsimp only) | (go_at_call 64; (with_reducible refine hf.mono ?_); rintro e w2 ⟨rfl, rfl⟩; dsimp only) | (go_at_call 53; (with_reducible refine hs.mono ?_); rintro e w2 ⟨rfl, rfl⟩; dsimp only))
    go_ret
    exact ⟨rfl, rfl⟩
theorem hp_FieldG_no (h : HpAt w X ws l bg) (x i : Int) (hw : (Lit.int .i64 x).wf = true) (hno : hasF (headW ws bg x) i = false) : Calls Try.prog 28 #[.pointer (some ⟨X.h, 0, none⟩), .int .i64 x, .int .i64 i] w fun e w' => e = .returned (.int .u32 0) ∧ w = w' := by
  have hc := hp_hasFieldG h x i hw
  rw [hno] at hc
  clear h hno hw
  go_enter Try.func28, Try.ntmps28
  go_wp2_with (go_at_call 58; (with_reducible refine hc.mono ?_); rintro e w2 ⟨rfl, rfl⟩; dsimp only)
  go_ret
  exact ⟨rfl, rfl⟩
theorem hp_SetFieldG_no (h : HpAt w X ws l bg) (x i v : Int) (hw : (Lit.int .i64 x).wf = true) (hno : hasF (headW ws bg x) i = false) : Calls Try.prog 17 #[.pointer (some ⟨X.h, 0, none⟩), .int .i64 x, .int .i64 i, .int .u32 v] w fun e w' => e = .returned (.bool false) ∧ w = w' := by
  have hc := hp_hasFieldG h x i hw
  rw [hno] at hc
  clear h hno hw
  go_enter Try.func17, Try.ntmps17
  go_wp2_with (go_at_call 58; (with_reducible refine hc.mono ?_); rintro e w2 ⟨rfl, rfl⟩; dsimp only)
  go_ret
  exact ⟨rfl, rfl⟩
theorem hp_FieldG (h : HpAt w X ws l bg) (p j : Nat) (x i : Int) (hx : x = (p : Int) + 1) (hi : i = (j : Int)) (hyes : hasF (headW ws bg x) i = true) (hr : p + 3 + j < bg.length) : Calls Try.prog 28 #[.pointer (some ⟨X.h, 0, none⟩), .int .i64 x, .int .i64 i] w fun e w' => e = .returned (.int .u32 (ws[p + 3 + j]?.getD 0)) ∧ w = w' := by
  have hle := h.len
  have hc := hp_hasFieldG h x i (i64_wf (by omega) (by omega))
  rw [hyes] at hc
  have hc3 := hp_getN h (x + 3 + i) (p + 3 + j) (by omega) (by omega)
  have hx0 : 1 ≤ x := by omega
  have hx1 : x ≤ 70000 := by omega
  have hi0 : 0 ≤ i := by omega
  have hi1 : i ≤ 70000 := by omega
  clear h hyes hx hi hle
  go_enter Try.func28, Try.ntmps28
  go_wp2_with (first | (go_at_call 58; (with_reducible refine hc.mono ?_); rintro e w2 ⟨rfl, rfl⟩; dsimp only) | (go_at_call 60; (with_reducible refine hc3.mono ?_); rintro e w2 ⟨rfl, rfl⟩; dsimp only))
  go_ret
  exact ⟨rfl, rfl⟩
theorem hp_SetFieldG (h : HpAt w X ws l bg) (p j : Nat) (x i v : Int) (hx : x = (p : Int) + 1) (hi : i = (j : Int)) (hyes : hasF (headW ws bg x) i = true) (hr : p + 3 + j < bg.length) (v0 : 0 ≤ v) (v1 : v ≤ 4294967295) : Calls Try.prog 17 #[.pointer (some ⟨X.h, 0, none⟩), .int .i64 x, .int .i64 i, .int .u32 v] w fun e w' => e = .returned (.bool true) ∧ HpAt w' X (ws.set (p + 3 + j) v) l bg ∧ HNx X w X w' := by
  have hle := h.len
  have hc := hp_hasFieldG h x i (i64_wf (by omega) (by omega))
  rw [hyes] at hc
  have hc3 := hp_putN h (x + 3 + i) v (p + 3 + j) (by omega) (by omega) v0 v1
  have hx0 : 1 ≤ x := by omega
  have hx1 : x ≤ 70000 := by omega
  have hi0 : 0 ≤ i := by omega
  have hi1 : i ≤ 70000 := by omega
  clear h hyes hx hi hle
  go_enter Try.func17, Try.ntmps17
  go_wp2_with (first | (go_at_call 58; (with_reducible refine hc.mono ?_); rintro e w2 ⟨rfl, rfl⟩; dsimp only) | (go_at_call 39; (with_reducible refine hc3.mono ?_); rintro e w3 ⟨rfl, hA, hN⟩; dsimp only))
  go_ret
  exact ⟨rfl, hA, hN⟩
theorem hp_hasByteF (h : HpAt w X ws l bg) (x i : Int) (hw : (Lit.int .i64 x).wf = true) (hno : Hd.hfmt (headW ws bg x) ≠ 3) : Calls Try.prog 59 #[.pointer (some ⟨X.h, 0, none⟩), .int .i64 x, .int .i64 i] w fun e w' => e = .returned (.bool false) ∧ w = w' := by
  have hc1 := hp_Fmt h x hw
  have d3 : (Hd.hfmt (headW ws bg x) == 3) = false := by simpa using hno
  clear h hno hw
  generalize Hd.hfmt (headW ws bg x) = F at *
  go_enter Try.func59, Try.ntmps59
  go_wp2_with (go_at_call 47; (with_reducible refine hc1.mono ?_); rintro e w2 ⟨rfl, rfl⟩; dsimp only)
  go_ret
  exact ⟨rfl, rfl⟩
theorem hp_ByteF (h : HpAt w X ws l bg) (x i : Int) (hw : (Lit.int .i64 x).wf = true) (hno : Hd.hfmt (headW ws bg x) ≠ 3) : Calls Try.prog 31 #[.pointer (some ⟨X.h, 0, none⟩), .int .i64 x, .int .i64 i] w fun e w' => e = .returned (.int .i64 (-1)) ∧ w = w' := by
  have hc := hp_hasByteF h x i hw hno
  clear h hno hw
  go_enter Try.func31, Try.ntmps31
  go_wp2_with (go_at_call 59; (with_reducible refine hc.mono ?_); rintro e w2 ⟨rfl, rfl⟩; dsimp only)
  go_ret
  exact ⟨rfl, rfl⟩
theorem hp_SetByteF (h : HpAt w X ws l bg) (x i v : Int) (hw : (Lit.int .i64 x).wf = true) (hno : Hd.hfmt (headW ws bg x) ≠ 3) : Calls Try.prog 19 #[.pointer (some ⟨X.h, 0, none⟩), .int .i64 x, .int .i64 i, .int .i64 v] w fun e w' => e = .returned (.bool false) ∧ w = w' := by
  have hc := hp_hasByteF h x i hw hno
  clear h hno hw
  go_enter Try.func19, Try.ntmps19
  go_wp2_with (go_at_call 59; (with_reducible refine hc.mono ?_); rintro e w2 ⟨rfl, rfl⟩; dsimp only)
  go_ret
  exact ⟨rfl, rfl⟩
theorem hp_Class_none (h : HpAt w X ws l bg) (x : Int) (hw : (Lit.int .i64 x).wf = true) (hb : hasB bg x = false) : Calls Try.prog 48 #[.pointer (some ⟨X.h, 0, none⟩), .int .i64 x] w fun e w' => e = .returned (.int .i64 0) ∧ w = w' := by
  have hc1 := has_any h x hw
  rw [hb] at hc1
  clear h hb hw
  go_enter Try.func48, Try.ntmps48
  go_wp2_with (go_at_call 26; (with_reducible refine hc1.mono ?_); rintro e w2 ⟨rfl, rfl⟩; dsimp only)
  go_ret
  exact ⟨rfl, rfl⟩
theorem hp_Hash_none (h : HpAt w X ws l bg) (x : Int) (hw : (Lit.int .i64 x).wf = true) (hb : hasB bg x = false) : Calls Try.prog 25 #[.pointer (some ⟨X.h, 0, none⟩), .int .i64 x] w fun e w' => e = .returned (.int .i64 (-1)) ∧ w = w' := by
  have hc1 := has_any h x hw
  rw [hb] at hc1
  clear h hb hw
  go_enter Try.func25, Try.ntmps25
  go_wp2_with (go_at_call 26; (with_reducible refine hc1.mono ?_); rintro e w2 ⟨rfl, rfl⟩; dsimp only)
  go_ret
  exact ⟨rfl, rfl⟩
theorem hp_Class (h : HpAt w X ws l bg) (p : Nat) (x : Int) (hx : x = (p : Int) + 1) (hb : hasB bg x = true) (hp : p + 1 < bg.length) : Calls Try.prog 48 #[.pointer (some ⟨X.h, 0, none⟩), .int .i64 x] w fun e w' => e = .returned (.int .i64 (Wd.rof (ws[p + 1]?.getD 0))) ∧ w = w' := by
  have hle := h.len
  have hc1 := has_any h x (i64_wf (by omega) (by omega))
  rw [hb] at hc1
  have hc2 := hp_getN h (x + 1) (p + 1) (by omega) (by omega)
  have hwd : 0 ≤ ws[p + 1]?.getD 0 ∧ ws[p + 1]?.getD 0 ≤ 4294967295 := by
    have := h.e1
    rw [List.getElem?_eq_getElem (by omega)]; exact h.wf _ (List.getElem_mem _)
  have hc3 := Wd.word_RefOf (ws[p + 1]?.getD 0) (u32_wf hwd.1 hwd.2) w
  have hx0 : 1 ≤ x := by omega
  have hx1 : x ≤ 70000 := by omega
  clear h hb hx hp hle
  generalize ws[p + 1]?.getD 0 = V at *
  generalize Wd.rof V = I at *
  go_enter Try.func48, Try.ntmps48
  go_wp2_with (first | (go_at_call 26; (with_reducible refine hc1.mono ?_); rintro e w2 ⟨rfl, rfl⟩; dsimp only) | (go_at_call 60; (with_reducible refine hc2.mono ?_); rintro e w2 ⟨rfl, rfl⟩; dsimp only) | (go_at_call 73; (with_reducible refine hc3.mono ?_); rintro e w2 ⟨rfl, rfl⟩; dsimp only))
  go_ret
  exact ⟨rfl, rfl⟩
theorem hp_SetClass_no (h : HpAt w X ws l bg) (x c : Int) (hw : (Lit.int .i64 x).wf = true) (hno : hasB bg x = false ∨ c < 0 ∨ 65536 < c) : Calls Try.prog 21 #[.pointer (some ⟨X.h, 0, none⟩), .int .i64 x, .int .i64 c] w fun e w' => e = .returned (.bool false) ∧ w = w' := by
  have hc1 := has_any h x hw
  clear h hw
  cases hb : hasB bg x
  · rw [hb] at hc1
    clear hno hb
    go_enter Try.func21, Try.ntmps21
    go_wp2_with (go_at_call 26; (with_reducible refine hc1.mono ?_); rintro e w2 ⟨rfl, rfl⟩; dsimp only)
    go_ret
    exact ⟨rfl, rfl⟩
  · rw [hb] at hc1
    have hno : c < 0 ∨ 65536 < c := by simpa [hb] using hno
    clear hb
    by_cases c1 : c < 0
    · clear hno
      go_enter Try.func21, Try.ntmps21
      go_wp2_with (go_at_call 26; (with_reducible refine hc1.mono ?_); rintro e w2 ⟨rfl, rfl⟩; dsimp only)
      go_ret
      exact ⟨rfl, rfl⟩
    · have c2 : 65536 < c := by omega
      clear hno
      go_enter Try.func21, Try.ntmps21
      go_wp2_with (go_at_call 26; (with_reducible refine hc1.mono ?_); rintro e w2 ⟨rfl, rfl⟩; dsimp only)
      go_ret
      exact ⟨rfl, rfl⟩
theorem hp_SetClass (h : HpAt w X ws l bg) (p c : Nat) (x : Int) (hx : x = (p : Int) + 1) (hb : hasB bg x = true) (hp : p + 1 < bg.length) (hc : c ≤ 65536) : Calls Try.prog 21 #[.pointer (some ⟨X.h, 0, none⟩), .int .i64 x, .int .i64 (c : Int)] w fun e w' => e = .returned (.bool true) ∧ HpAt w' X (ws.set (p + 1) (Wd.wr c)) l bg ∧ HNx X w X w' := by
  have hle := h.len
  have hc1 := has_any h x (i64_wf (by omega) (by omega))
  rw [hb] at hc1
  have hc3 := Wd.word_Ref_in c (by omega) (by omega) w
  have hwr := Wd.wr_bd (c : Int)
  have hc2 := hp_putN h (x + 1) (Wd.wr c) (p + 1) (by omega) (by omega) hwr.1 hwr.2
  have hx0 : 1 ≤ x := by omega
  have hx1 : x ≤ 70000 := by omega
  have b1 : ¬ (c : Int) < 0 := by omega
  have b2 : ¬ 65536 < (c : Int) := by omega
  clear h hb hx hp hle hwr
  generalize Wd.wr c = V at *
  go_enter Try.func21, Try.ntmps21
  go_wp2_with (first | (go_at_call 26; (with_reducible refine hc1.mono ?_); rintro e w2 ⟨rfl, rfl⟩; dsimp only) | (go_at_call 39; (with_reducible refine hc2.mono ?_); rintro e w3 ⟨rfl, hA, hN⟩; dsimp only) | (go_at_call 41; (with_reducible refine hc3.mono ?_); rintro e w2 ⟨rfl, rfl⟩; dsimp only))
  go_ret
  exact ⟨rfl, hA, hN⟩
theorem hp_Mark (h : HpAt w X ws l bg) (x : Int) (hw : (Lit.int .i64 x).wf = true) : Calls Try.prog 45 #[.pointer (some ⟨X.h, 0, none⟩), .int .i64 x] w fun e w' => e = .returned (.tuple #[.int .i64 (Hd.hcol (headW ws bg x)), .bool (Hd.hfin (headW ws bg x))]) ∧ Below w.heap.size w w' := by
  have hc2 := hp_head h x hw
  have hwf := headW_wf h x
  clear h hw
  generalize headW ws bg x = H at *
  have hg := Hd.hd_Get H hwf w
  clear hwf
  go_enter Try.func45, Try.ntmps45
  go_wp2_with (first | (go_at_call 54; (with_reducible refine hc2.mono ?_); rintro e w2 ⟨rfl, rfl⟩; dsimp only) | (go_at_call 62; (with_reducible refine hg.mono ?_); rintro e u1 ⟨rfl, g1⟩; dsimp only))
  have HG1 := Lib.hid g1
  clear g1
  refine wp_region_held_drew (S := (fun w' => w'.cell? ⟨u1.heap.size, 3, none⟩ = some (.int .i64 (Hd.hcol H)) ∧ w'.cell? ⟨u1.heap.size, 4, none⟩ = some (.bool (Hd.hfin H)))) (by kernel_rfl) ?_ (fun hH0 => ?_)
  · (try dsimp only); exact ⟨new_cell u1 _ _ rfl, new_cell u1 _ _ rfl⟩
  refine wpAnyH_take (i := 0) (oi := { dst := some 11, op := Op.fieldAddr 73 (Operand.tmp 6) 3, type := 0, pos := "heap.go:183", after := #[], guard := none }) (v := ?v1) rfl (by kernel_rfl) (by kernel_rfl) (by kernel_rfl) (fun _ _ _ h => h) (Or.inl ⟨by rfl, ?hy1⟩) (by assumption) ?_
  case hy1 => intro w hSw; (try dsimp only at hSw); go_simp; (try with_reducible rfl)
  try simp only [Act.put, List.setIfInBounds_toArray, List.set_cons_zero, List.set_cons_succ]
  refine wpAnyH_take (i := 1) (oi := { dst := some 12, op := Op.load 3 (Operand.tmp 11), type := 3, pos := "heap.go:183", after := #[{ on := 0, ground := Ground.data }], guard := none }) (v := ?v2) rfl (by kernel_rfl) (by kernel_rfl) (by kernel_rfl) (fun _ _ _ h => h) (Or.inl ⟨by rfl, ?hy2⟩) (by assumption) ?_
  case hy2 => intro w hSw; (try dsimp only at hSw); go_simp; (try with_reducible rfl)
  try simp only [Act.put, List.setIfInBounds_toArray, List.set_cons_zero, List.set_cons_succ]
  refine wpAnyH_take (i := 2) (oi := { dst := some 13, op := Op.fieldAddr 73 (Operand.tmp 6) 4, type := 0, pos := "heap.go:183", after := #[{ on := 4, ground := Ground.gcOnly Departure.lateStores }], guard := none }) (v := ?v3) rfl (by kernel_rfl) (by kernel_rfl) (by kernel_rfl) (fun _ _ _ h => h) (Or.inl ⟨by rfl, ?hy3⟩) (by assumption) ?_
  case hy3 => intro w hSw; (try dsimp only at hSw); go_simp; (try with_reducible rfl)
  try simp only [Act.put, List.setIfInBounds_toArray, List.set_cons_zero, List.set_cons_succ]
  refine wpAnyH_take (i := 3) (oi := { dst := some 14, op := Op.load 4 (Operand.tmp 13), type := 4, pos := "heap.go:183", after := #[{ on := 2, ground := Ground.data }, { on := 4, ground := Ground.gcOnly Departure.lateStores }], guard := none }) (v := ?v4) rfl (by kernel_rfl) (by kernel_rfl) (by kernel_rfl) (fun _ _ _ h => h) (Or.inl ⟨by rfl, ?hy4⟩) (by assumption) ?_
  case hy4 => intro w hSw; (try dsimp only at hSw); go_simp; (try with_reducible rfl)
  try simp only [Act.put, List.setIfInBounds_toArray, List.set_cons_zero, List.set_cons_succ]
  refine wpAnyH_take (i := 4) (oi := { dst := some 4, op := Op.assign (Operand.tmp 12), type := 3, pos := "heap.go:183", after := #[{ on := 1, ground := Ground.data }, { on := 0, ground := Ground.phase }, { on := 1, ground := Ground.phase }, { on := 2, ground := Ground.textOnly Departure.lateStores }, { on := 3, ground := Ground.textOnly Departure.lateStores }], guard := none }) (v := ?v5) rfl (by kernel_rfl) (by kernel_rfl) (by kernel_rfl) (fun _ _ _ h => h) (Or.inl ⟨by rfl, ?hy5⟩) (by assumption) ?_
  case hy5 => intro w hSw; (try dsimp only at hSw); go_simp; (try with_reducible rfl)
  try simp only [Act.put, List.setIfInBounds_toArray, List.set_cons_zero, List.set_cons_succ]
  refine wpAnyH_take (i := 5) (oi := { dst := some 5, op := Op.assign (Operand.tmp 14), type := 4, pos := "heap.go:183", after := #[{ on := 3, ground := Ground.data }, { on := 4, ground := Ground.chain }, { on := 0, ground := Ground.phase }, { on := 1, ground := Ground.phase }, { on := 2, ground := Ground.phase }, { on := 3, ground := Ground.phase }, { on := 4, ground := Ground.phase }], guard := none }) (v := ?v6) rfl (by kernel_rfl) (by kernel_rfl) (by kernel_rfl) (fun _ _ _ h => h) (Or.inl ⟨by rfl, ?hy6⟩) (by assumption) ?_
  case hy6 => intro w hSw; (try dsimp only at hSw); go_simp; (try with_reducible rfl)
  try simp only [Act.put, List.setIfInBounds_toArray, List.set_cons_zero, List.set_cons_succ]
  refine wpAnyH_done (by kernel_rfl) ?_ _
  go_wp2_with fail
  go_ret2
  exact ⟨rfl, below_drew (HG1.out.2.trans (((Below.refl _ _).alloc (Nat.le_refl _) _).mono HG1.out.2.size))⟩
theorem hp_SetMark_range (h : HpAt w X ws l bg) (x c : Int) (fi : Bool) (hw : (Lit.int .i64 x).wf = true) (hb : hasB bg x = true) (hno : c < 0 ∨ 2 < c) : Calls Try.prog 23 #[.pointer (some ⟨X.h, 0, none⟩), .int .i64 x, .int .i64 c, .bool fi] w fun e w' => e = .returned (.bool false) ∧ w = w' := by
  have hc1 := has_any h x hw
  rw [hb] at hc1
  clear h hw hb
  by_cases c1 : c < 0
  · clear hno
    go_enter Try.func23, Try.ntmps23
    go_wp2_with (go_at_call 26; (with_reducible refine hc1.mono ?_); rintro e w2 ⟨rfl, rfl⟩; dsimp only)
    go_ret
    exact ⟨rfl, rfl⟩
  · have c2 : 2 < c := by omega
    clear hno
    go_enter Try.func23, Try.ntmps23
    go_wp2_with (go_at_call 26; (with_reducible refine hc1.mono ?_); rintro e w2 ⟨rfl, rfl⟩; dsimp only)
    go_ret
    exact ⟨rfl, rfl⟩
theorem hp_SetMark (h : HpAt w X ws l bg) (p : Nat) (x : Int) (hx : x = (p : Int) + 1) (hb : hasB bg x = true) (hp : p < bg.length) (c : Int) (c0 : 0 ≤ c) (c1 : c ≤ 2) (fi : Bool) :
    Calls Try.prog 23 #[.pointer (some ⟨X.h, 0, none⟩), .int .i64 x, .int .i64 c, .bool fi] w fun e w' => e = .returned (.bool true) ∧ HpAt w' X (ws.set p (Hd.hput (Hd.hsiz (headW ws bg x)) (Hd.hfmt (headW ws bg x)) (Hd.hodd (headW ws bg x)) c fi (Hd.hliv (headW ws bg x)))) l bg ∧ HNx X w X w' := by
  have hle := h.len
  have hw : (Lit.int .i64 x).wf = true := i64_wf (by omega) (by omega)
  have hc1 := has_any h x hw
  rw [hb] at hc1
  have hc2 := hp_head h x hw
  have hwf := headW_wf h x
  have hP := fun u (hu : Below w.heap.size w u) v v0 v1 => hp_putN (h.below hu) x v p hx hp v0 v1
  have HP := Lib.hid hP
  clear hx
  have b1 : ¬ c < 0 := by omega
  have b2 : ¬ 2 < c := by omega
  clear h hb hP hle
  generalize headW ws bg x = H at *
  have hg := Hd.hd_Get H hwf w
  clear hwf hw
  generalize Hd.hsiz H = hS at *
  generalize Hd.hfmt H = hF at *
  generalize Hd.hodd H = hO at *
  generalize Hd.hcol H = hC at *
  generalize Hd.hfin H = hI at *
  generalize Hd.hliv H = hL at *
  have hput : ∀ u, Calls Try.prog 40 #[.agg #[.int .i64 hS, .int .i64 hF, .int .i64 hO, .int .i64 c, .bool fi, .bool hL]] u fun e w' => e = .returned (.int .u32 (Hd.hput hS hF hO c fi hL)) ∧ Gr u w' := fun u => Hd.hd_Put hS hF hO c fi hL u
  have hbd := Hd.hput_bd hS hF hO c fi hL
  generalize Hd.hput hS hF hO c fi hL = V at *
  go_enter Try.func23, Try.ntmps23
  go_wp2_with (first | (go_at_call 26; (with_reducible refine hc1.mono ?_); rintro e w2 ⟨rfl, rfl⟩; dsimp only) | (go_at_call 54; (with_reducible refine hc2.mono ?_); rintro e w2 ⟨rfl, rfl⟩; dsimp only) | (go_at_call 62; (with_reducible refine hg.mono ?_); rintro e u1 ⟨rfl, g1⟩; dsimp only))
  have HG1 := Lib.hid g1
  clear g1
  (with_reducible refine (hput _).mono ?_)
  rintro e u2 ⟨rfl, g2⟩
  have hb2 : Below w.heap.size w u2 := HG1.out.2.trans ((((Below.refl _ _).alloc (Nat.le_refl _) _).trans (g2.2.mono (by simp))).mono HG1.out.2.size)
  have hp2 := HP.out u2 hb2 V (by omega) (by omega)
  have HB2 := Lib.hid hb2
  clear hput g2 hb2
  dsimp only
  go_wp2_with (go_at_call 39; (with_reducible refine hp2.mono ?_); rintro e w3 ⟨rfl, hA, hN⟩; dsimp only)
  go_ret
  exact ⟨rfl, hA, (below_hnx HB2.out).trans hN⟩
end
end Go.Proofs.Ytljgnmbjidkjnaa.Hp

namespace Go.Proofs.Ytljgnmbjidkjnaa.Hp
open Go.Proofs.Ytljgnmbjidkjnaa.Gen Go.Proofs.Ytljgnmbjidkjnaa.Base Go.Proofs.Ytljgnmbjidkjnaa.Fr Go.ChangeShapes Go.WideShapes Go.ChangeAt Go.RowKit
set_option linter.unusedVariables false
set_option maxHeartbeats 1000000 in
theorem hp_NewG (n : Nat) (hn : n ≤ 65536) (x : Int) (hx : Sr.lenOf x = n) (w : World) :
    Calls Try.prog 9 #[.int .i64 x] w fun e w' => ∃ X, e = .returned (.pointer (some ⟨X.h, 0, none⟩)) ∧ HpAt w' X (List.replicate n 0) (List.replicate n true) (List.replicate n false) ∧ HOwn w w' X := by
  have hs := Sr.new_any x w
  rw [hx] at hs
  clear hx
  have hb := mk_b n hn
  have hz : ∀ u, Sem.run Try.prog (zeroValue 66) u = .ok (.agg #[.pointer none, .pointer none, .slice none 0 0]) u := fun u => by kernel_rfl
  go_enter Try.func9, Try.ntmps9
  go_wp2_with fail
  refine hs.mono ?_
  rintro e u1 ⟨rfl, hS, g1, hs1⟩
  have hl := Sr.len_any u1 _ _ _ hS
  rw [List.length_replicate] at hl
  have HS := Lib.hid hS; have HS1 := Lib.hid hs1
  clear hS hs hs1
  dsimp only
  go_wp2_with fail
  refine hl.mono ?_
  rintro e u2 ⟨rfl, e2⟩
  subst e2
  dsimp only
  go_wp2_with fail
  refine (free_new n hn u1).mono ?_
  rintro e u2 ⟨B, rfl, hF, hb2, hm⟩
  have hl2 := Sr.len_any u2 _ _ _ (HS.out.of_blocks (hb2.block _ (by have := HS1.out; omega)) (hb2.block _ (by have := HS1.out; omega)))
  rw [List.length_replicate] at hl2
  have HN := Lib.hid (hp_new hn HS.out g1.2 HS1.out hF hb2 hm)
  clear hl hF hb2 hm g1
  dsimp only
  go_wp2_with fail
  refine hl2.mono ?_
  rintro e u3 ⟨rfl, e3⟩
  subst e3
  dsimp only
  go_wp2_with fail
  go_ret
  exact ⟨_, rfl, HN.out.1, HN.out.2⟩
section
variable {w : World} {X : HB} {ws : List Int} {l bg : List Bool}
set_option maxHeartbeats 1000000 in
theorem hp_SetByteG (h : HpAt w X ws l bg) (p k q c : Nat) (hb : Bts ws bg p k) (x i v : Int) (hx : x = (p : Int) + 1) (hi : i = (q * 4 + c : Nat)) (hc : c < 4) (hk : q * 4 + c < k) (hk2 : k ≤ 200) (hv : (Lit.int .i64 v).wf = true) :
    Calls Try.prog 19 #[.pointer (some ⟨X.h, 0, none⟩), .int .i64 x, .int .i64 i, .int .i64 v] w fun e w' => e = .returned (.bool true) ∧ HpAt w' X (ws.set (p + 3 + q) (setb c (ws[p + 3 + q]?.getD 0) v)) l bg ∧ HNx X w X w' := by
  have hle := h.len
  have hrm := hb.room
  have hc1 := hp_hasByte h p k hb x i hx
  rw [show decide (0 ≤ i ∧ i < (k : Int)) = true by simp; omega] at hc1
  have hc2 := hp_shift q c hc i hi (by omega) w
  have hc3 := hp_getN h (x + 3 + (q : Int)) (p + 3 + q) (by omega) (by omega)
  have hwd : 0 ≤ ws[p + 3 + q]?.getD 0 ∧ ws[p + 3 + q]?.getD 0 ≤ 4294967295 := by
    have := h.e1
    rw [List.getElem?_eq_getElem (by omega)]; exact h.wf _ (List.getElem_mem _)
  have hsb := setb_bd c hc (ws[p + 3 + q]?.getD 0) v hwd.1 hwd.2
  have hc4 := hp_putN h (x + 3 + (q : Int)) (setb c (ws[p + 3 + q]?.getD 0) v) (p + 3 + q) (by omega) (by omega) hsb.1 hsb.2
  have hcut := cut_byte c hc (ws[p + 3 + q]?.getD 0) hwd.1 hwd.2
  have hor := or_byte c hc (ws[p + 3 + q]?.getD 0) v hwd.1 hwd.2
  have hmask : bits .and .i64 v 255 = v % 256 := i64_mask 8 v (by decide)
  have hq : i / 4 = (q : Int) := by omega
  have hi0 : 0 ≤ i := by omega
  have hi1 : i < 200 := by omega
  have hx0 : 1 ≤ x := by omega
  have hx1 : x ≤ 70000 := by omega
  clear h hb hx hi hle hrm
  generalize hSB : setb c (ws[p + 3 + q]?.getD 0) v = SB at *
  have HSB := Lib.hid hSB; clear hSB
  generalize hWE : ws[p + 3 + q]?.getD 0 = W at *
  have HWE := Lib.hid hWE; clear hWE
  obtain ⟨W, rfl⟩ := Int.eq_ofNat_of_zero_le hwd.1
  have hc' : c = 0 ∨ c = 1 ∨ c = 2 ∨ c = 3 := by omega
  rcases hc' with rfl | rfl | rfl | rfl
  all_goals
    simp only [Nat.reduceAdd, Nat.reducePow, Nat.reduceMul] at hcut hor
    have hval := hor
    rw [← hcut] at hval
    simp only [Int.cast_ofNat_Int, Int.natCast_one, Int.mul_one] at hval
    have HVAL := Lib.hid hval
    clear hval hcut hor
    go_enter Try.func19, Try.ntmps19
    go_wp2_with (first | (go_at_call 59; (with_reducible refine hc1.mono ?_); rintro e w2 ⟨rfl, rfl⟩; dsimp only) | (go_at_call 60; (with_reducible refine hc3.mono ?_); rintro e w2 ⟨rfl, rfl⟩; dsimp only) | (go_at_call 61; (with_reducible refine hc2.mono ?_); rintro e w2 ⟨rfl, rfl⟩; dsimp only))
    first | rw [HVAL.out] | rw [show _ = SB from HVAL.out]
    refine hc4.mono ?_
    rintro e w2 ⟨rfl, hA, hN⟩
    dsimp only
    go_wp2_with fail
    go_ret
    exact ⟨rfl, hA, hN⟩
end
end Go.Proofs.Ytljgnmbjidkjnaa.Hp
