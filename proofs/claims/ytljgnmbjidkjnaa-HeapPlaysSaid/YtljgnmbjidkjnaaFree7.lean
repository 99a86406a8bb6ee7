/- Give of package free. -/
import Derived.Test.YtljgnmbjidkjnaaFree6
namespace Go.Proofs.Ytljgnmbjidkjnaa.Fr
open Go.Proofs.Ytljgnmbjidkjnaa.Gen Go.Proofs.Ytljgnmbjidkjnaa.Base Go.Proofs.Ytljgnmbjidkjnaa.Bt Go.ChangeShapes Go.WideShapes Go.ChangeAt Go.RowKit
set_option linter.unusedVariables false
theorem setR_in (l : List Bool) (a n i : Nat) (v : Bool) (h : a ≤ i) (h2 : i < a + n) (h3 : i < l.length) : (setR l a n v)[i]? = some v := by
  induction n with
  | zero => omega
  | succ n ih =>
    unfold setR
    rw [List.getElem?_set]
    by_cases e : a + n = i
    · rw [if_pos e, if_pos (by rw [setR_len]; omega)]
    · rw [if_neg e]; exact ih (by omega)
theorem setR_out (l : List Bool) (a n i : Nat) (v : Bool) (h : i < a ∨ a + n ≤ i) : (setR l a n v)[i]? = l[i]? := by
  induction n with
  | zero => rfl
  | succ n ih =>
    unfold setR
    rw [List.getElem?_set, if_neg (by omega)]
    exact ih (by omega)
theorem give_not (w : World) (B : FB) (F : FS) (x n : Int) (h : Fr w B F)
    (hx : (n < 1 ∨ (F.opn.length : Int) < n ∨ x < 0 ∨ (F.opn.length : Int) - n < x) ∨ (∃ a m : Nat, x = a ∧ n = m ∧ 1 ≤ m ∧ a + m ≤ F.opn.length ∧ ∃ j, j < m ∧ F.opn[a + j]?.getD false = true)) :
    Calls Try.prog 55 #[.pointer (some ⟨B.r, 0, none⟩), .int .i64 x, .int .i64 n] w fun e w' => e = .returned (.bool false) ∧ w = w' := by
  have hc : Calls Try.prog 74 #[.pointer (some ⟨B.r, 0, none⟩), .int .i64 x, .int .i64 n] w fun e w' => e = .returned (.bool false) ∧ w = w' := by
    rcases hx with hx | ⟨a, m, rfl, rfl, h1, h2, h3⟩
    · exact taken_no w B F x n h hx
    · exact taken_in w B F a m false h h1 h2 (by simpa using h3)
  clear h hx
  go_enter Try.func55, Try.ntmps55
  go_wp2_with fail
  refine wp_scope_gotos 2 ?_
  generalize hQ : gotoN _ _ 2 _ = Q2
  have HQ2 := Lib.hid hQ; clear hQ
  go_wp2_with (go_at_call 74; refine hc.mono ?_; rintro e w2 ⟨rfl, rfl⟩; dsimp only)
  rw [← HQ2.out]
  simp only [gotoN_ret]
  go_ret
  exact ⟨rfl, rfl⟩
/-- What Give makes of it: the run on the left (b, mL) and the one on the right (mR) are joined where they are. -/
def giveF (F : FS) (a n : Nat) (cl : Bool) (b mL : Nat) (cr : Bool) (mR : Nat) : FS :=
  listF (if cr then unlistF (if cl then unlistF (fillF F a n true) b mL else fillF F a n true) (a + n) mR else (if cl then unlistF (fillF F a n true) b mL else fillF F a n true)) (if cl then b else a) ((if cl then mL else 0) + n + (if cr then mR else 0))
theorem Short.fill {F : FS} (h : Short F) (a n : Nat) (v : Bool) : Short (fillF F a n v) := h
theorem Short.unlist {F : FS} (h : Short F) (a n : Nat) (hn : n ≤ 65536) : Short (unlistF F a n) := by
  intro k hk
  unfold unlistF
  dsimp only
  by_cases e : k = kindOf n
  · subst e; rw [upd_same]; unfold strike; have := h _ hk; rw [List.length_take, List.length_set]; omega
  · rw [upd_other _ _ e]; exact h k hk
set_option maxHeartbeats 2000000 in
theorem give_zz (w : World) (B : FB) (F : FS) (a n t b mL mR : Nat) (ht1 : t ≤ a + n) (ht2 : a + n ≤ t) (h : Fr w B F) (h1 : 1 ≤ n) (h2 : a + n ≤ F.opn.length) (h3 : ∀ i, i < n → F.opn[a + i]?.getD false = false) (hsh : Short F) (hw0 : -1000 ≤ F.words) (hw1 : F.words ≤ 100000)
    (hL : a ≤ 0)
    (hR : F.opn.length ≤ t) :
    Calls Try.prog 55 #[.pointer (some ⟨B.r, 0, none⟩), .int .i64 a, .int .i64 n] w
      fun e w' => e = .returned (.bool true) ∧ ∃ B', Fr w' B' (giveF F a n false b mL false mR) ∧ Nx B w B' w' := by
  have hle := h.le
  have hc1 := taken_in w B F a n true h h1 h2 (by simpa using h3)
  have hc2 := fill_any w B F a n true h h2 (by omega) (by omega)
  have wf1 : IntKind.i64.wrap ((a : Int) + (n : Int)) = (t : Int) := by rw [IntWalk.i64_in _ ⟨by omega, by omega⟩]; omega
  have HSH := Lib.hid hsh; clear hsh h3 h
  unfold giveF
  simp only [if_true, Bool.false_eq_true, if_false, Nat.zero_add, Nat.add_zero]
  go_enter Try.func55, Try.ntmps55
  go_wp2_with fail
  refine wp_scope_gotos 2 ?_
  generalize hQ : gotoN _ _ 2 _ = Q2
  have HQ2 := Lib.hid hQ; clear hQ
  go_upto_region 6 with (first | (go_at_call 74; refine hc1.mono ?_; rintro e w2 ⟨rfl, e2⟩; subst w2; dsimp only) | (go_at_call 67; refine hc2.mono ?_; rintro e w3 ⟨rfl, hF3, hN3⟩; dsimp only))
  change Fr w3 B (fillF F a n true) at hF3
  have hlen : (fillF F a n true).opn.length = F.opn.length := by unfold fillF; exact setR_len _ _ _ _
  have c0 := hF3.c0
  rw [hlen] at c0
  have t4 : ((a : Int) == 0) = true := by simp; omega
  have HF4 := Lib.hid hF3; have HN4 := Lib.hid hN3
  clear hF3 hN3 hc1 hc2
  go_wp2_with fail
  apply wp_goto
  rw [← HQ2.out]
  refine gotoN_goto rfl ?_
  generalize hQ : gotoN _ _ 1 _ = Q1
  have HQ1 := Lib.hid hQ; clear hQ
  go_upto_region 9 with fail
  have u4 : ((t : Int) == (F.opn.length : Int)) = true := by simp; omega
  go_wp2_with fail
  apply wp_goto
  rw [← HQ1.out]
  refine gotoN_goto rfl ?_
  generalize hQ : gotoN _ _ 0 _ = Q0
  have HQ0 := Lib.hid hQ; clear hQ
  have hsf2 : Short (fillF F a n true) := HSH.out.fill a n true
  have hc6 := list_F w3 B (fillF F a n true) a (n) HF4.out (by show a + (n) ≤ (fillF F a n true).opn.length; omega) (by have := hsf2 (kindOf (n)) (by have := kind_le (n := n) (by omega); omega); omega)
  have wf8 : IntKind.i64.wrap (((t : Nat) : Int) - (a : Int)) = ((n : Nat) : Int) := by rw [IntWalk.i64_in _ ⟨by omega, by omega⟩]; omega
  go_wp2_with (go_at_call 68; refine hc6.mono ?_; rintro e w6 ⟨rfl, B6, hF6, hN6⟩; dsimp only)
  try rw [← HQ0.out]
  try simp only [gotoN_ret]
  go_ret
  obtain rfl : t = a + n := by omega
  exact ⟨rfl, B6, hF6, HN4.out.trans hN6⟩
set_option maxHeartbeats 2000000 in
theorem give_zn (w : World) (B : FB) (F : FS) (a n t b mL mR : Nat) (ht1 : t ≤ a + n) (ht2 : a + n ≤ t) (h : Fr w B F) (h1 : 1 ≤ n) (h2 : a + n ≤ F.opn.length) (h3 : ∀ i, i < n → F.opn[a + i]?.getD false = false) (hsh : Short F) (hw0 : -1000 ≤ F.words) (hw1 : F.words ≤ 100000)
    (hL : a ≤ 0)
    (hR : t < F.opn.length) (hR2 : F.opn[t]? = some false) :
    Calls Try.prog 55 #[.pointer (some ⟨B.r, 0, none⟩), .int .i64 a, .int .i64 n] w
      fun e w' => e = .returned (.bool true) ∧ ∃ B', Fr w' B' (giveF F a n false b mL false mR) ∧ Nx B w B' w' := by
  have hle := h.le
  have hc1 := taken_in w B F a n true h h1 h2 (by simpa using h3)
  have hc2 := fill_any w B F a n true h h2 (by omega) (by omega)
  have wf1 : IntKind.i64.wrap ((a : Int) + (n : Int)) = (t : Int) := by rw [IntWalk.i64_in _ ⟨by omega, by omega⟩]; omega
  have HSH := Lib.hid hsh; clear hsh h3 h
  have HR2 := Lib.hid hR2; clear hR2
  unfold giveF
  simp only [if_true, Bool.false_eq_true, if_false, Nat.zero_add, Nat.add_zero]
  go_enter Try.func55, Try.ntmps55
  go_wp2_with fail
  refine wp_scope_gotos 2 ?_
  generalize hQ : gotoN _ _ 2 _ = Q2
  have HQ2 := Lib.hid hQ; clear hQ
  go_upto_region 6 with (first | (go_at_call 74; refine hc1.mono ?_; rintro e w2 ⟨rfl, e2⟩; subst w2; dsimp only) | (go_at_call 67; refine hc2.mono ?_; rintro e w3 ⟨rfl, hF3, hN3⟩; dsimp only))
  change Fr w3 B (fillF F a n true) at hF3
  have hlen : (fillF F a n true).opn.length = F.opn.length := by unfold fillF; exact setR_len _ _ _ _
  have c0 := hF3.c0
  rw [hlen] at c0
  have t4 : ((a : Int) == 0) = true := by simp; omega
  have HF4 := Lib.hid hF3; have HN4 := Lib.hid hN3
  clear hF3 hN3 hc1 hc2
  go_wp2_with fail
  apply wp_goto
  rw [← HQ2.out]
  refine gotoN_goto rfl ?_
  generalize hQ : gotoN _ _ 1 _ = Q1
  have HQ1 := Lib.hid hQ; clear hQ
  go_upto_region 9 with fail
  have cr := HF4.out.co t (by show t < (fillF F a n true).opn.length; omega)
  rw [show (fillF F a n true).opn[t]? = F.opn[t]? from setR_out _ _ _ _ _ (by omega), HR2.out] at cr
  dsimp only [Option.getD_some] at cr
  have u4 : ((t : Int) == (F.opn.length : Int)) = false := by simp; omega
  have u1 : (t : Int) < (F.opn.length : Int) := by omega
  go_wp2_with fail
  apply wp_goto
  rw [← HQ1.out]
  refine gotoN_goto rfl ?_
  generalize hQ : gotoN _ _ 0 _ = Q0
  have HQ0 := Lib.hid hQ; clear hQ
  have hsf2 : Short (fillF F a n true) := HSH.out.fill a n true
  have hc6 := list_F w3 B (fillF F a n true) a (n) HF4.out (by show a + (n) ≤ (fillF F a n true).opn.length; omega) (by have := hsf2 (kindOf (n)) (by have := kind_le (n := n) (by omega); omega); omega)
  have wf8 : IntKind.i64.wrap (((t : Nat) : Int) - (a : Int)) = ((n : Nat) : Int) := by rw [IntWalk.i64_in _ ⟨by omega, by omega⟩]; omega
  go_wp2_with (go_at_call 68; refine hc6.mono ?_; rintro e w6 ⟨rfl, B6, hF6, hN6⟩; dsimp only)
  try rw [← HQ0.out]
  try simp only [gotoN_ret]
  go_ret
  obtain rfl : t = a + n := by omega
  exact ⟨rfl, B6, hF6, HN4.out.trans hN6⟩
set_option maxHeartbeats 2000000 in
theorem give_zo (w : World) (B : FB) (F : FS) (a n t b mL mR : Nat) (ht1 : t ≤ a + n) (ht2 : a + n ≤ t) (h : Fr w B F) (h1 : 1 ≤ n) (h2 : a + n ≤ F.opn.length) (h3 : ∀ i, i < n → F.opn[a + i]?.getD false = false) (hsh : Short F) (hw0 : -1000 ≤ F.words) (hw1 : F.words ≤ 100000)
    (hL : a ≤ 0)
    (hR : t < F.opn.length) (hR2 : F.opn[t]? = some true) (hR5 : F.lng[t]? = some (mR : Int)) (hR4 : t + mR ≤ F.opn.length) (hR6 : (t : Int) ∈ (fillF F a n true).ls (kindOf mR)) :
    Calls Try.prog 55 #[.pointer (some ⟨B.r, 0, none⟩), .int .i64 a, .int .i64 n] w
      fun e w' => e = .returned (.bool true) ∧ ∃ B', Fr w' B' (giveF F a n false b mL true mR) ∧ Nx B w B' w' := by
  have hle := h.le
  have hc1 := taken_in w B F a n true h h1 h2 (by simpa using h3)
  have hc2 := fill_any w B F a n true h h2 (by omega) (by omega)
  have wf1 : IntKind.i64.wrap ((a : Int) + (n : Int)) = (t : Int) := by rw [IntWalk.i64_in _ ⟨by omega, by omega⟩]; omega
  have HSH := Lib.hid hsh; clear hsh h3 h
  have HR2 := Lib.hid hR2; clear hR2
  have HR5 := Lib.hid hR5; clear hR5
  have HR6 := Lib.hid hR6; clear hR6
  unfold giveF
  simp only [if_true, Bool.false_eq_true, if_false, Nat.zero_add, Nat.add_zero]
  go_enter Try.func55, Try.ntmps55
  go_wp2_with fail
  refine wp_scope_gotos 2 ?_
  generalize hQ : gotoN _ _ 2 _ = Q2
  have HQ2 := Lib.hid hQ; clear hQ
  go_upto_region 6 with (first | (go_at_call 74; refine hc1.mono ?_; rintro e w2 ⟨rfl, e2⟩; subst w2; dsimp only) | (go_at_call 67; refine hc2.mono ?_; rintro e w3 ⟨rfl, hF3, hN3⟩; dsimp only))
  change Fr w3 B (fillF F a n true) at hF3
  have hlen : (fillF F a n true).opn.length = F.opn.length := by unfold fillF; exact setR_len _ _ _ _
  have c0 := hF3.c0
  rw [hlen] at c0
  have t4 : ((a : Int) == 0) = true := by simp; omega
  have HF4 := Lib.hid hF3; have HN4 := Lib.hid hN3
  clear hF3 hN3 hc1 hc2
  go_wp2_with fail
  apply wp_goto
  rw [← HQ2.out]
  refine gotoN_goto rfl ?_
  generalize hQ : gotoN _ _ 1 _ = Q1
  have HQ1 := Lib.hid hQ; clear hQ
  go_upto_region 9 with fail
  have cr := HF4.out.co t (by show t < (fillF F a n true).opn.length; omega)
  rw [show (fillF F a n true).opn[t]? = F.opn[t]? from setR_out _ _ _ _ _ (by omega), HR2.out] at cr
  dsimp only [Option.getD_some] at cr
  have u4 : ((t : Int) == (F.opn.length : Int)) = false := by simp; omega
  have u1 : (t : Int) < (F.opn.length : Int) := by omega
  have c1 := HF4.out.c1
  rw [show (fillF F a n true).opn.length = F.opn.length from hlen] at c1
  have ci := HF4.out.ci t (by show t < (fillF F a n true).opn.length; omega)
  rw [show (fillF F a n true).lng = F.lng from rfl, HR5.out] at ci
  dsimp only [Option.getD_some] at ci
  have hsf : Short (fillF F a n true) := HSH.out.fill a n true
  have hc5 := unlist_F w3 B (fillF F a n true) t mR HF4.out (by show t < (fillF F a n true).opn.length; omega) (by rw [show (fillF F a n true).lng = F.lng from rfl]; exact HR5.out) (by omega) HR6.out (by have := hsf (kindOf mR) (by have := kind_le (n := mR) (by omega); omega); omega)
  skip
  obtain ⟨s, hs1, hs2⟩ : ∃ s : Nat, s ≤ t + mR ∧ t + mR ≤ s := ⟨t + mR, by omega, by omega⟩
  have wf7 : IntKind.i64.wrap ((t : Int) + (mR : Int)) = (s : Int) := by rw [IntWalk.i64_in _ ⟨by omega, by omega⟩]; omega
  go_upto_region 11 with (go_at_call 70; refine hc5.mono ?_; rintro e w5 ⟨rfl, B5, hF5, hN5⟩; dsimp only)
  have e5 : B5.r = B.r := hN5.r
  have HF5 := Lib.hid hF5; have HN5 := Lib.hid (HN4.out.trans hN5)
  clear hF5 hN5 hc5
  have c1' := HF5.out.c1
  rw [show (unlistF (fillF F a n true) t mR).opn.length = F.opn.length from hlen, e5] at c1'
  have ci' := HF5.out.ci t (by show t < (fillF F a n true).opn.length; omega)
  rw [show (unlistF (fillF F a n true) t mR).lng = F.lng from rfl, HR5.out] at ci'
  dsimp only [Option.getD_some] at ci'
  have hsf2 : Short (unlistF (fillF F a n true) t mR) := (HSH.out.fill a n true).unlist t mR (by omega)
  have hc6 := list_F w5 B5 (unlistF (fillF F a n true) t mR) a (n + mR) HF5.out (by show a + (n + mR) ≤ (fillF F a n true).opn.length; omega) (by have := hsf2 (kindOf (n + mR)) (by have := kind_le (n := n + mR) (by omega); omega); omega)
  rw [e5] at hc6
  go_wp2_with fail
  apply wp_label
  have wf8 : IntKind.i64.wrap (((s : Nat) : Int) - (a : Int)) = ((n + mR : Nat) : Int) := by rw [IntWalk.i64_in _ ⟨by omega, by omega⟩]; omega
  go_wp2_with (go_at_call 68; refine hc6.mono ?_; rintro e w6 ⟨rfl, B6, hF6, hN6⟩; dsimp only)
  try rw [← HQ1.out]
  try simp only [gotoN_ret]
  go_ret
  obtain rfl : t = a + n := by omega
  exact ⟨rfl, B6, hF6, HN5.out.trans hN6⟩
set_option maxHeartbeats 2000000 in
theorem give_nz (w : World) (B : FB) (F : FS) (a n t b mL mR : Nat) (ht1 : t ≤ a + n) (ht2 : a + n ≤ t) (h : Fr w B F) (h1 : 1 ≤ n) (h2 : a + n ≤ F.opn.length) (h3 : ∀ i, i < n → F.opn[a + i]?.getD false = false) (hsh : Short F) (hw0 : -1000 ≤ F.words) (hw1 : F.words ≤ 100000)
    (hL : 0 < a) (hL2 : F.opn[a - 1]? = some false)
    (hR : F.opn.length ≤ t) :
    Calls Try.prog 55 #[.pointer (some ⟨B.r, 0, none⟩), .int .i64 a, .int .i64 n] w
      fun e w' => e = .returned (.bool true) ∧ ∃ B', Fr w' B' (giveF F a n false b mL false mR) ∧ Nx B w B' w' := by
  have hle := h.le
  have hc1 := taken_in w B F a n true h h1 h2 (by simpa using h3)
  have hc2 := fill_any w B F a n true h h2 (by omega) (by omega)
  have wf1 : IntKind.i64.wrap ((a : Int) + (n : Int)) = (t : Int) := by rw [IntWalk.i64_in _ ⟨by omega, by omega⟩]; omega
  have HSH := Lib.hid hsh; clear hsh h3 h
  have HL2 := Lib.hid hL2; clear hL2
  unfold giveF
  simp only [if_true, Bool.false_eq_true, if_false, Nat.zero_add, Nat.add_zero]
  go_enter Try.func55, Try.ntmps55
  go_wp2_with fail
  refine wp_scope_gotos 2 ?_
  generalize hQ : gotoN _ _ 2 _ = Q2
  have HQ2 := Lib.hid hQ; clear hQ
  go_upto_region 6 with (first | (go_at_call 74; refine hc1.mono ?_; rintro e w2 ⟨rfl, e2⟩; subst w2; dsimp only) | (go_at_call 67; refine hc2.mono ?_; rintro e w3 ⟨rfl, hF3, hN3⟩; dsimp only))
  change Fr w3 B (fillF F a n true) at hF3
  have hlen : (fillF F a n true).opn.length = F.opn.length := by unfold fillF; exact setR_len _ _ _ _
  have c0 := hF3.c0
  rw [hlen] at c0
  have ca := hF3.co (a - 1) (by omega)
  rw [show (fillF F a n true).opn[a - 1]? = F.opn[a - 1]? from setR_out _ _ _ _ _ (by omega), HL2.out] at ca
  dsimp only [Option.getD_some] at ca
  have t1 : (a : Int) - 1 < (F.opn.length : Int) := by omega
  have t2 : (0 : Int) ≤ (a : Int) - 1 := by omega
  have t3 : ((a : Int) - 1).toNat = a - 1 := by omega
  have t4 : ((a : Int) == 0) = false := by simp; omega
  have wf2 : IntKind.i64.wrap ((a : Int) - 1) = (a : Int) - 1 := IntWalk.i64_in _ ⟨by omega, by omega⟩
  have HF4 := Lib.hid hF3; have HN4 := Lib.hid hN3
  clear hF3 hN3 hc1 hc2
  go_wp2_with fail
  apply wp_goto
  rw [← HQ2.out]
  refine gotoN_goto rfl ?_
  generalize hQ : gotoN _ _ 1 _ = Q1
  have HQ1 := Lib.hid hQ; clear hQ
  go_upto_region 9 with fail
  have u4 : ((t : Int) == (F.opn.length : Int)) = true := by simp; omega
  go_wp2_with fail
  apply wp_goto
  rw [← HQ1.out]
  refine gotoN_goto rfl ?_
  generalize hQ : gotoN _ _ 0 _ = Q0
  have HQ0 := Lib.hid hQ; clear hQ
  have hsf2 : Short (fillF F a n true) := HSH.out.fill a n true
  have hc6 := list_F w3 B (fillF F a n true) a (n) HF4.out (by show a + (n) ≤ (fillF F a n true).opn.length; omega) (by have := hsf2 (kindOf (n)) (by have := kind_le (n := n) (by omega); omega); omega)
  have wf8 : IntKind.i64.wrap (((t : Nat) : Int) - (a : Int)) = ((n : Nat) : Int) := by rw [IntWalk.i64_in _ ⟨by omega, by omega⟩]; omega
  go_wp2_with (go_at_call 68; refine hc6.mono ?_; rintro e w6 ⟨rfl, B6, hF6, hN6⟩; dsimp only)
  try rw [← HQ0.out]
  try simp only [gotoN_ret]
  go_ret
  obtain rfl : t = a + n := by omega
  exact ⟨rfl, B6, hF6, HN4.out.trans hN6⟩
set_option maxHeartbeats 2000000 in
theorem give_nn (w : World) (B : FB) (F : FS) (a n t b mL mR : Nat) (ht1 : t ≤ a + n) (ht2 : a + n ≤ t) (h : Fr w B F) (h1 : 1 ≤ n) (h2 : a + n ≤ F.opn.length) (h3 : ∀ i, i < n → F.opn[a + i]?.getD false = false) (hsh : Short F) (hw0 : -1000 ≤ F.words) (hw1 : F.words ≤ 100000)
    (hL : 0 < a) (hL2 : F.opn[a - 1]? = some false)
    (hR : t < F.opn.length) (hR2 : F.opn[t]? = some false) :
    Calls Try.prog 55 #[.pointer (some ⟨B.r, 0, none⟩), .int .i64 a, .int .i64 n] w
      fun e w' => e = .returned (.bool true) ∧ ∃ B', Fr w' B' (giveF F a n false b mL false mR) ∧ Nx B w B' w' := by
  have hle := h.le
  have hc1 := taken_in w B F a n true h h1 h2 (by simpa using h3)
  have hc2 := fill_any w B F a n true h h2 (by omega) (by omega)
  have wf1 : IntKind.i64.wrap ((a : Int) + (n : Int)) = (t : Int) := by rw [IntWalk.i64_in _ ⟨by omega, by omega⟩]; omega
  have HSH := Lib.hid hsh; clear hsh h3 h
  have HL2 := Lib.hid hL2; clear hL2
  have HR2 := Lib.hid hR2; clear hR2
  unfold giveF
  simp only [if_true, Bool.false_eq_true, if_false, Nat.zero_add, Nat.add_zero]
  go_enter Try.func55, Try.ntmps55
  go_wp2_with fail
  refine wp_scope_gotos 2 ?_
  generalize hQ : gotoN _ _ 2 _ = Q2
  have HQ2 := Lib.hid hQ; clear hQ
  go_upto_region 6 with (first | (go_at_call 74; refine hc1.mono ?_; rintro e w2 ⟨rfl, e2⟩; subst w2; dsimp only) | (go_at_call 67; refine hc2.mono ?_; rintro e w3 ⟨rfl, hF3, hN3⟩; dsimp only))
  change Fr w3 B (fillF F a n true) at hF3
  have hlen : (fillF F a n true).opn.length = F.opn.length := by unfold fillF; exact setR_len _ _ _ _
  have c0 := hF3.c0
  rw [hlen] at c0
  have ca := hF3.co (a - 1) (by omega)
  rw [show (fillF F a n true).opn[a - 1]? = F.opn[a - 1]? from setR_out _ _ _ _ _ (by omega), HL2.out] at ca
  dsimp only [Option.getD_some] at ca
  have t1 : (a : Int) - 1 < (F.opn.length : Int) := by omega
  have t2 : (0 : Int) ≤ (a : Int) - 1 := by omega
  have t3 : ((a : Int) - 1).toNat = a - 1 := by omega
  have t4 : ((a : Int) == 0) = false := by simp; omega
  have wf2 : IntKind.i64.wrap ((a : Int) - 1) = (a : Int) - 1 := IntWalk.i64_in _ ⟨by omega, by omega⟩
  have HF4 := Lib.hid hF3; have HN4 := Lib.hid hN3
  clear hF3 hN3 hc1 hc2
  go_wp2_with fail
  apply wp_goto
  rw [← HQ2.out]
  refine gotoN_goto rfl ?_
  generalize hQ : gotoN _ _ 1 _ = Q1
  have HQ1 := Lib.hid hQ; clear hQ
  go_upto_region 9 with fail
  have cr := HF4.out.co t (by show t < (fillF F a n true).opn.length; omega)
  rw [show (fillF F a n true).opn[t]? = F.opn[t]? from setR_out _ _ _ _ _ (by omega), HR2.out] at cr
  dsimp only [Option.getD_some] at cr
  have u4 : ((t : Int) == (F.opn.length : Int)) = false := by simp; omega
  have u1 : (t : Int) < (F.opn.length : Int) := by omega
  go_wp2_with fail
  apply wp_goto
  rw [← HQ1.out]
  refine gotoN_goto rfl ?_
  generalize hQ : gotoN _ _ 0 _ = Q0
  have HQ0 := Lib.hid hQ; clear hQ
  have hsf2 : Short (fillF F a n true) := HSH.out.fill a n true
  have hc6 := list_F w3 B (fillF F a n true) a (n) HF4.out (by show a + (n) ≤ (fillF F a n true).opn.length; omega) (by have := hsf2 (kindOf (n)) (by have := kind_le (n := n) (by omega); omega); omega)
  have wf8 : IntKind.i64.wrap (((t : Nat) : Int) - (a : Int)) = ((n : Nat) : Int) := by rw [IntWalk.i64_in _ ⟨by omega, by omega⟩]; omega
  go_wp2_with (go_at_call 68; refine hc6.mono ?_; rintro e w6 ⟨rfl, B6, hF6, hN6⟩; dsimp only)
  try rw [← HQ0.out]
  try simp only [gotoN_ret]
  go_ret
  obtain rfl : t = a + n := by omega
  exact ⟨rfl, B6, hF6, HN4.out.trans hN6⟩
set_option maxHeartbeats 2000000 in
theorem give_no (w : World) (B : FB) (F : FS) (a n t b mL mR : Nat) (ht1 : t ≤ a + n) (ht2 : a + n ≤ t) (h : Fr w B F) (h1 : 1 ≤ n) (h2 : a + n ≤ F.opn.length) (h3 : ∀ i, i < n → F.opn[a + i]?.getD false = false) (hsh : Short F) (hw0 : -1000 ≤ F.words) (hw1 : F.words ≤ 100000)
    (hL : 0 < a) (hL2 : F.opn[a - 1]? = some false)
    (hR : t < F.opn.length) (hR2 : F.opn[t]? = some true) (hR5 : F.lng[t]? = some (mR : Int)) (hR4 : t + mR ≤ F.opn.length) (hR6 : (t : Int) ∈ (fillF F a n true).ls (kindOf mR)) :
    Calls Try.prog 55 #[.pointer (some ⟨B.r, 0, none⟩), .int .i64 a, .int .i64 n] w
      fun e w' => e = .returned (.bool true) ∧ ∃ B', Fr w' B' (giveF F a n false b mL true mR) ∧ Nx B w B' w' := by
  have hle := h.le
  have hc1 := taken_in w B F a n true h h1 h2 (by simpa using h3)
  have hc2 := fill_any w B F a n true h h2 (by omega) (by omega)
  have wf1 : IntKind.i64.wrap ((a : Int) + (n : Int)) = (t : Int) := by rw [IntWalk.i64_in _ ⟨by omega, by omega⟩]; omega
  have HSH := Lib.hid hsh; clear hsh h3 h
  have HL2 := Lib.hid hL2; clear hL2
  have HR2 := Lib.hid hR2; clear hR2
  have HR5 := Lib.hid hR5; clear hR5
  have HR6 := Lib.hid hR6; clear hR6
  unfold giveF
  simp only [if_true, Bool.false_eq_true, if_false, Nat.zero_add, Nat.add_zero]
  go_enter Try.func55, Try.ntmps55
  go_wp2_with fail
  refine wp_scope_gotos 2 ?_
  generalize hQ : gotoN _ _ 2 _ = Q2
  have HQ2 := Lib.hid hQ; clear hQ
  go_upto_region 6 with (first | (go_at_call 74; refine hc1.mono ?_; rintro e w2 ⟨rfl, e2⟩; subst w2; dsimp only) | (go_at_call 67; refine hc2.mono ?_; rintro e w3 ⟨rfl, hF3, hN3⟩; dsimp only))
  change Fr w3 B (fillF F a n true) at hF3
  have hlen : (fillF F a n true).opn.length = F.opn.length := by unfold fillF; exact setR_len _ _ _ _
  have c0 := hF3.c0
  rw [hlen] at c0
  have ca := hF3.co (a - 1) (by omega)
  rw [show (fillF F a n true).opn[a - 1]? = F.opn[a - 1]? from setR_out _ _ _ _ _ (by omega), HL2.out] at ca
  dsimp only [Option.getD_some] at ca
  have t1 : (a : Int) - 1 < (F.opn.length : Int) := by omega
  have t2 : (0 : Int) ≤ (a : Int) - 1 := by omega
  have t3 : ((a : Int) - 1).toNat = a - 1 := by omega
  have t4 : ((a : Int) == 0) = false := by simp; omega
  have wf2 : IntKind.i64.wrap ((a : Int) - 1) = (a : Int) - 1 := IntWalk.i64_in _ ⟨by omega, by omega⟩
  have HF4 := Lib.hid hF3; have HN4 := Lib.hid hN3
  clear hF3 hN3 hc1 hc2
  go_wp2_with fail
  apply wp_goto
  rw [← HQ2.out]
  refine gotoN_goto rfl ?_
  generalize hQ : gotoN _ _ 1 _ = Q1
  have HQ1 := Lib.hid hQ; clear hQ
  go_upto_region 9 with fail
  have cr := HF4.out.co t (by show t < (fillF F a n true).opn.length; omega)
  rw [show (fillF F a n true).opn[t]? = F.opn[t]? from setR_out _ _ _ _ _ (by omega), HR2.out] at cr
  dsimp only [Option.getD_some] at cr
  have u4 : ((t : Int) == (F.opn.length : Int)) = false := by simp; omega
  have u1 : (t : Int) < (F.opn.length : Int) := by omega
  have c1 := HF4.out.c1
  rw [show (fillF F a n true).opn.length = F.opn.length from hlen] at c1
  have ci := HF4.out.ci t (by show t < (fillF F a n true).opn.length; omega)
  rw [show (fillF F a n true).lng = F.lng from rfl, HR5.out] at ci
  dsimp only [Option.getD_some] at ci
  have hsf : Short (fillF F a n true) := HSH.out.fill a n true
  have hc5 := unlist_F w3 B (fillF F a n true) t mR HF4.out (by show t < (fillF F a n true).opn.length; omega) (by rw [show (fillF F a n true).lng = F.lng from rfl]; exact HR5.out) (by omega) HR6.out (by have := hsf (kindOf mR) (by have := kind_le (n := mR) (by omega); omega); omega)
  skip
  obtain ⟨s, hs1, hs2⟩ : ∃ s : Nat, s ≤ t + mR ∧ t + mR ≤ s := ⟨t + mR, by omega, by omega⟩
  have wf7 : IntKind.i64.wrap ((t : Int) + (mR : Int)) = (s : Int) := by rw [IntWalk.i64_in _ ⟨by omega, by omega⟩]; omega
  go_upto_region 11 with (go_at_call 70; refine hc5.mono ?_; rintro e w5 ⟨rfl, B5, hF5, hN5⟩; dsimp only)
  have e5 : B5.r = B.r := hN5.r
  have HF5 := Lib.hid hF5; have HN5 := Lib.hid (HN4.out.trans hN5)
  clear hF5 hN5 hc5
  have c1' := HF5.out.c1
  rw [show (unlistF (fillF F a n true) t mR).opn.length = F.opn.length from hlen, e5] at c1'
  have ci' := HF5.out.ci t (by show t < (fillF F a n true).opn.length; omega)
  rw [show (unlistF (fillF F a n true) t mR).lng = F.lng from rfl, HR5.out] at ci'
  dsimp only [Option.getD_some] at ci'
  have hsf2 : Short (unlistF (fillF F a n true) t mR) := (HSH.out.fill a n true).unlist t mR (by omega)
  have hc6 := list_F w5 B5 (unlistF (fillF F a n true) t mR) a (n + mR) HF5.out (by show a + (n + mR) ≤ (fillF F a n true).opn.length; omega) (by have := hsf2 (kindOf (n + mR)) (by have := kind_le (n := n + mR) (by omega); omega); omega)
  rw [e5] at hc6
  go_wp2_with fail
  apply wp_label
  have wf8 : IntKind.i64.wrap (((s : Nat) : Int) - (a : Int)) = ((n + mR : Nat) : Int) := by rw [IntWalk.i64_in _ ⟨by omega, by omega⟩]; omega
  go_wp2_with (go_at_call 68; refine hc6.mono ?_; rintro e w6 ⟨rfl, B6, hF6, hN6⟩; dsimp only)
  try rw [← HQ1.out]
  try simp only [gotoN_ret]
  go_ret
  obtain rfl : t = a + n := by omega
  exact ⟨rfl, B6, hF6, HN5.out.trans hN6⟩
set_option maxHeartbeats 2000000 in
theorem give_oz (w : World) (B : FB) (F : FS) (a n t b mL mR : Nat) (ht1 : t ≤ a + n) (ht2 : a + n ≤ t) (h : Fr w B F) (h1 : 1 ≤ n) (h2 : a + n ≤ F.opn.length) (h3 : ∀ i, i < n → F.opn[a + i]?.getD false = false) (hsh : Short F) (hw0 : -1000 ≤ F.words) (hw1 : F.words ≤ 100000)
    (hL : 0 < a) (hL2 : F.opn[a - 1]? = some true) (hL3 : F.bgn[a - 1]? = some (b : Int)) (hL4 : b + mL = a) (hL5 : F.lng[b]? = some (mL : Int)) (hL6 : (b : Int) ∈ F.ls (kindOf mL))
    (hR : F.opn.length ≤ t) :
    Calls Try.prog 55 #[.pointer (some ⟨B.r, 0, none⟩), .int .i64 a, .int .i64 n] w
      fun e w' => e = .returned (.bool true) ∧ ∃ B', Fr w' B' (giveF F a n true b mL false mR) ∧ Nx B w B' w' := by
  have hle := h.le
  have hc1 := taken_in w B F a n true h h1 h2 (by simpa using h3)
  have hc2 := fill_any w B F a n true h h2 (by omega) (by omega)
  have wf1 : IntKind.i64.wrap ((a : Int) + (n : Int)) = (t : Int) := by rw [IntWalk.i64_in _ ⟨by omega, by omega⟩]; omega
  have HSH := Lib.hid hsh; clear hsh h3 h
  have HL2 := Lib.hid hL2; clear hL2
  have HL3 := Lib.hid hL3; clear hL3
  have HL5 := Lib.hid hL5; clear hL5
  have HL6 := Lib.hid hL6; clear hL6
  have hL4a : b + mL ≤ a := by omega
  have hL4b : a ≤ b + mL := by omega
  clear hL4
  unfold giveF
  simp only [if_true, Bool.false_eq_true, if_false, Nat.zero_add, Nat.add_zero]
  go_enter Try.func55, Try.ntmps55
  go_wp2_with fail
  refine wp_scope_gotos 2 ?_
  generalize hQ : gotoN _ _ 2 _ = Q2
  have HQ2 := Lib.hid hQ; clear hQ
  go_upto_region 6 with (first | (go_at_call 74; refine hc1.mono ?_; rintro e w2 ⟨rfl, e2⟩; subst w2; dsimp only) | (go_at_call 67; refine hc2.mono ?_; rintro e w3 ⟨rfl, hF3, hN3⟩; dsimp only))
  change Fr w3 B (fillF F a n true) at hF3
  have hlen : (fillF F a n true).opn.length = F.opn.length := by unfold fillF; exact setR_len _ _ _ _
  have c0 := hF3.c0
  rw [hlen] at c0
  have ca := hF3.co (a - 1) (by omega)
  rw [show (fillF F a n true).opn[a - 1]? = F.opn[a - 1]? from setR_out _ _ _ _ _ (by omega), HL2.out] at ca
  dsimp only [Option.getD_some] at ca
  have t1 : (a : Int) - 1 < (F.opn.length : Int) := by omega
  have t2 : (0 : Int) ≤ (a : Int) - 1 := by omega
  have t3 : ((a : Int) - 1).toNat = a - 1 := by omega
  have t4 : ((a : Int) == 0) = false := by simp; omega
  have wf2 : IntKind.i64.wrap ((a : Int) - 1) = (a : Int) - 1 := IntWalk.i64_in _ ⟨by omega, by omega⟩
  have hlb : (fillF F a n true).lng = F.lng ∧ (fillF F a n true).bgn = F.bgn ∧ (fillF F a n true).ls = F.ls := ⟨rfl, rfl, rfl⟩
  have c2 := hF3.c2
  rw [hlen] at c2
  have cb := hF3.cb (a - 1) (by omega)
  rw [hlb.2.1, HL3.out] at cb
  dsimp only [Option.getD_some] at cb
  have hc3 := unlist_F w3 B (fillF F a n true) b mL hF3 (by omega) (by rw [hlb.1]; exact HL5.out) (by omega) (by rw [hlb.2.2]; exact HL6.out) (by have := HSH.out (kindOf mL) (by have := kind_le (n := mL) (by omega); omega); rw [hlb.2.2]; omega)
  have HN3 := Lib.hid hN3
  clear hF3 hN3 hc1 hc2
  go_wp2_with (go_at_call 70; refine hc3.mono ?_; rintro e w4 ⟨rfl, B4, hF4, hN4⟩; dsimp only)
  apply wp_label
  have e4 := hN4.r
  have HF4 := Lib.hid hF4; have HN4 := Lib.hid (HN3.out.trans hN4)
  clear hF4 hN4 hc3
  have c0 := HF4.out.c0
  rw [e4, show (unlistF (fillF F a n true) b mL).opn.length = F.opn.length from hlen] at c0
  have u4 : ((t : Int) == (F.opn.length : Int)) = true := by simp; omega
  go_wp2_with fail
  apply wp_goto
  rw [← HQ2.out]
  refine gotoN_goto rfl ?_
  generalize hQ : gotoN _ _ 1 _ = Q0
  have HQ0 := Lib.hid hQ; clear hQ
  have hsf2 : Short (unlistF (fillF F a n true) b mL) := (HSH.out.fill a n true).unlist b mL (by omega)
  have hc6 := list_F w4 B4 (unlistF (fillF F a n true) b mL) b (mL + n) HF4.out (by show b + (mL + n) ≤ (fillF F a n true).opn.length; omega) (by have := hsf2 (kindOf (mL + n)) (by have := kind_le (n := mL + n) (by omega); omega); omega)
  rw [e4] at hc6
  have wf8 : IntKind.i64.wrap (((t : Nat) : Int) - (b : Int)) = ((mL + n : Nat) : Int) := by rw [IntWalk.i64_in _ ⟨by omega, by omega⟩]; omega
  go_wp2_with (go_at_call 68; refine hc6.mono ?_; rintro e w6 ⟨rfl, B6, hF6, hN6⟩; dsimp only)
  try rw [← HQ0.out]
  try simp only [gotoN_ret]
  go_ret
  obtain rfl : t = a + n := by omega
  exact ⟨rfl, B6, hF6, HN4.out.trans hN6⟩
set_option maxHeartbeats 2000000 in
theorem give_on (w : World) (B : FB) (F : FS) (a n t b mL mR : Nat) (ht1 : t ≤ a + n) (ht2 : a + n ≤ t) (h : Fr w B F) (h1 : 1 ≤ n) (h2 : a + n ≤ F.opn.length) (h3 : ∀ i, i < n → F.opn[a + i]?.getD false = false) (hsh : Short F) (hw0 : -1000 ≤ F.words) (hw1 : F.words ≤ 100000)
    (hL : 0 < a) (hL2 : F.opn[a - 1]? = some true) (hL3 : F.bgn[a - 1]? = some (b : Int)) (hL4 : b + mL = a) (hL5 : F.lng[b]? = some (mL : Int)) (hL6 : (b : Int) ∈ F.ls (kindOf mL))
    (hR : t < F.opn.length) (hR2 : F.opn[t]? = some false) :
    Calls Try.prog 55 #[.pointer (some ⟨B.r, 0, none⟩), .int .i64 a, .int .i64 n] w
      fun e w' => e = .returned (.bool true) ∧ ∃ B', Fr w' B' (giveF F a n true b mL false mR) ∧ Nx B w B' w' := by
  have hle := h.le
  have hc1 := taken_in w B F a n true h h1 h2 (by simpa using h3)
  have hc2 := fill_any w B F a n true h h2 (by omega) (by omega)
  have wf1 : IntKind.i64.wrap ((a : Int) + (n : Int)) = (t : Int) := by rw [IntWalk.i64_in _ ⟨by omega, by omega⟩]; omega
  have HSH := Lib.hid hsh; clear hsh h3 h
  have HL2 := Lib.hid hL2; clear hL2
  have HL3 := Lib.hid hL3; clear hL3
  have HL5 := Lib.hid hL5; clear hL5
  have HL6 := Lib.hid hL6; clear hL6
  have HR2 := Lib.hid hR2; clear hR2
  have hL4a : b + mL ≤ a := by omega
  have hL4b : a ≤ b + mL := by omega
  clear hL4
  unfold giveF
  simp only [if_true, Bool.false_eq_true, if_false, Nat.zero_add, Nat.add_zero]
  go_enter Try.func55, Try.ntmps55
  go_wp2_with fail
  refine wp_scope_gotos 2 ?_
  generalize hQ : gotoN _ _ 2 _ = Q2
  have HQ2 := Lib.hid hQ; clear hQ
  go_upto_region 6 with (first | (go_at_call 74; refine hc1.mono ?_; rintro e w2 ⟨rfl, e2⟩; subst w2; dsimp only) | (go_at_call 67; refine hc2.mono ?_; rintro e w3 ⟨rfl, hF3, hN3⟩; dsimp only))
  change Fr w3 B (fillF F a n true) at hF3
  have hlen : (fillF F a n true).opn.length = F.opn.length := by unfold fillF; exact setR_len _ _ _ _
  have c0 := hF3.c0
  rw [hlen] at c0
  have ca := hF3.co (a - 1) (by omega)
  rw [show (fillF F a n true).opn[a - 1]? = F.opn[a - 1]? from setR_out _ _ _ _ _ (by omega), HL2.out] at ca
  dsimp only [Option.getD_some] at ca
  have t1 : (a : Int) - 1 < (F.opn.length : Int) := by omega
  have t2 : (0 : Int) ≤ (a : Int) - 1 := by omega
  have t3 : ((a : Int) - 1).toNat = a - 1 := by omega
  have t4 : ((a : Int) == 0) = false := by simp; omega
  have wf2 : IntKind.i64.wrap ((a : Int) - 1) = (a : Int) - 1 := IntWalk.i64_in _ ⟨by omega, by omega⟩
  have hlb : (fillF F a n true).lng = F.lng ∧ (fillF F a n true).bgn = F.bgn ∧ (fillF F a n true).ls = F.ls := ⟨rfl, rfl, rfl⟩
  have c2 := hF3.c2
  rw [hlen] at c2
  have cb := hF3.cb (a - 1) (by omega)
  rw [hlb.2.1, HL3.out] at cb
  dsimp only [Option.getD_some] at cb
  have hc3 := unlist_F w3 B (fillF F a n true) b mL hF3 (by omega) (by rw [hlb.1]; exact HL5.out) (by omega) (by rw [hlb.2.2]; exact HL6.out) (by have := HSH.out (kindOf mL) (by have := kind_le (n := mL) (by omega); omega); rw [hlb.2.2]; omega)
  have HN3 := Lib.hid hN3
  clear hF3 hN3 hc1 hc2
  go_wp2_with (go_at_call 70; refine hc3.mono ?_; rintro e w4 ⟨rfl, B4, hF4, hN4⟩; dsimp only)
  apply wp_label
  have e4 := hN4.r
  have HF4 := Lib.hid hF4; have HN4 := Lib.hid (HN3.out.trans hN4)
  clear hF4 hN4 hc3
  have c0 := HF4.out.c0
  rw [e4, show (unlistF (fillF F a n true) b mL).opn.length = F.opn.length from hlen] at c0
  have cr := HF4.out.co t (by show t < (fillF F a n true).opn.length; omega)
  rw [show (unlistF (fillF F a n true) b mL).opn[t]? = F.opn[t]? from setR_out _ _ _ _ _ (by omega), HR2.out] at cr
  dsimp only [Option.getD_some] at cr
  have u4 : ((t : Int) == (F.opn.length : Int)) = false := by simp; omega
  have u1 : (t : Int) < (F.opn.length : Int) := by omega
  go_wp2_with fail
  apply wp_goto
  rw [← HQ2.out]
  refine gotoN_goto rfl ?_
  generalize hQ : gotoN _ _ 1 _ = Q0
  have HQ0 := Lib.hid hQ; clear hQ
  have hsf2 : Short (unlistF (fillF F a n true) b mL) := (HSH.out.fill a n true).unlist b mL (by omega)
  have hc6 := list_F w4 B4 (unlistF (fillF F a n true) b mL) b (mL + n) HF4.out (by show b + (mL + n) ≤ (fillF F a n true).opn.length; omega) (by have := hsf2 (kindOf (mL + n)) (by have := kind_le (n := mL + n) (by omega); omega); omega)
  rw [e4] at hc6
  have wf8 : IntKind.i64.wrap (((t : Nat) : Int) - (b : Int)) = ((mL + n : Nat) : Int) := by rw [IntWalk.i64_in _ ⟨by omega, by omega⟩]; omega
  go_wp2_with (go_at_call 68; refine hc6.mono ?_; rintro e w6 ⟨rfl, B6, hF6, hN6⟩; dsimp only)
  try rw [← HQ0.out]
  try simp only [gotoN_ret]
  go_ret
  obtain rfl : t = a + n := by omega
  exact ⟨rfl, B6, hF6, HN4.out.trans hN6⟩
set_option maxHeartbeats 2000000 in
theorem give_oo (w : World) (B : FB) (F : FS) (a n t b mL mR : Nat) (ht1 : t ≤ a + n) (ht2 : a + n ≤ t) (h : Fr w B F) (h1 : 1 ≤ n) (h2 : a + n ≤ F.opn.length) (h3 : ∀ i, i < n → F.opn[a + i]?.getD false = false) (hsh : Short F) (hw0 : -1000 ≤ F.words) (hw1 : F.words ≤ 100000)
    (hL : 0 < a) (hL2 : F.opn[a - 1]? = some true) (hL3 : F.bgn[a - 1]? = some (b : Int)) (hL4 : b + mL = a) (hL5 : F.lng[b]? = some (mL : Int)) (hL6 : (b : Int) ∈ F.ls (kindOf mL))
    (hR : t < F.opn.length) (hR2 : F.opn[t]? = some true) (hR5 : F.lng[t]? = some (mR : Int)) (hR4 : t + mR ≤ F.opn.length) (hR6 : (t : Int) ∈ (unlistF (fillF F a n true) b mL).ls (kindOf mR)) :
    Calls Try.prog 55 #[.pointer (some ⟨B.r, 0, none⟩), .int .i64 a, .int .i64 n] w
      fun e w' => e = .returned (.bool true) ∧ ∃ B', Fr w' B' (giveF F a n true b mL true mR) ∧ Nx B w B' w' := by
  have hle := h.le
  have hc1 := taken_in w B F a n true h h1 h2 (by simpa using h3)
  have hc2 := fill_any w B F a n true h h2 (by omega) (by omega)
  have wf1 : IntKind.i64.wrap ((a : Int) + (n : Int)) = (t : Int) := by rw [IntWalk.i64_in _ ⟨by omega, by omega⟩]; omega
  have HSH := Lib.hid hsh; clear hsh h3 h
  have HL2 := Lib.hid hL2; clear hL2
  have HL3 := Lib.hid hL3; clear hL3
  have HL5 := Lib.hid hL5; clear hL5
  have HL6 := Lib.hid hL6; clear hL6
  have HR2 := Lib.hid hR2; clear hR2
  have HR5 := Lib.hid hR5; clear hR5
  have HR6 := Lib.hid hR6; clear hR6
  have hL4a : b + mL ≤ a := by omega
  have hL4b : a ≤ b + mL := by omega
  clear hL4
  unfold giveF
  simp only [if_true, Bool.false_eq_true, if_false, Nat.zero_add, Nat.add_zero]
  go_enter Try.func55, Try.ntmps55
  go_wp2_with fail
  refine wp_scope_gotos 2 ?_
  generalize hQ : gotoN _ _ 2 _ = Q2
  have HQ2 := Lib.hid hQ; clear hQ
  go_upto_region 6 with (first | (go_at_call 74; refine hc1.mono ?_; rintro e w2 ⟨rfl, e2⟩; subst w2; dsimp only) | (go_at_call 67; refine hc2.mono ?_; rintro e w3 ⟨rfl, hF3, hN3⟩; dsimp only))
  change Fr w3 B (fillF F a n true) at hF3
  have hlen : (fillF F a n true).opn.length = F.opn.length := by unfold fillF; exact setR_len _ _ _ _
  have c0 := hF3.c0
  rw [hlen] at c0
  have ca := hF3.co (a - 1) (by omega)
  rw [show (fillF F a n true).opn[a - 1]? = F.opn[a - 1]? from setR_out _ _ _ _ _ (by omega), HL2.out] at ca
  dsimp only [Option.getD_some] at ca
  have t1 : (a : Int) - 1 < (F.opn.length : Int) := by omega
  have t2 : (0 : Int) ≤ (a : Int) - 1 := by omega
  have t3 : ((a : Int) - 1).toNat = a - 1 := by omega
  have t4 : ((a : Int) == 0) = false := by simp; omega
  have wf2 : IntKind.i64.wrap ((a : Int) - 1) = (a : Int) - 1 := IntWalk.i64_in _ ⟨by omega, by omega⟩
  have hlb : (fillF F a n true).lng = F.lng ∧ (fillF F a n true).bgn = F.bgn ∧ (fillF F a n true).ls = F.ls := ⟨rfl, rfl, rfl⟩
  have c2 := hF3.c2
  rw [hlen] at c2
  have cb := hF3.cb (a - 1) (by omega)
  rw [hlb.2.1, HL3.out] at cb
  dsimp only [Option.getD_some] at cb
  have hc3 := unlist_F w3 B (fillF F a n true) b mL hF3 (by omega) (by rw [hlb.1]; exact HL5.out) (by omega) (by rw [hlb.2.2]; exact HL6.out) (by have := HSH.out (kindOf mL) (by have := kind_le (n := mL) (by omega); omega); rw [hlb.2.2]; omega)
  have HN3 := Lib.hid hN3
  clear hF3 hN3 hc1 hc2
  go_wp2_with (go_at_call 70; refine hc3.mono ?_; rintro e w4 ⟨rfl, B4, hF4, hN4⟩; dsimp only)
  apply wp_label
  have e4 := hN4.r
  have HF4 := Lib.hid hF4; have HN4 := Lib.hid (HN3.out.trans hN4)
  clear hF4 hN4 hc3
  have c0 := HF4.out.c0
  rw [e4, show (unlistF (fillF F a n true) b mL).opn.length = F.opn.length from hlen] at c0
  have cr := HF4.out.co t (by show t < (fillF F a n true).opn.length; omega)
  rw [show (unlistF (fillF F a n true) b mL).opn[t]? = F.opn[t]? from setR_out _ _ _ _ _ (by omega), HR2.out] at cr
  dsimp only [Option.getD_some] at cr
  have u4 : ((t : Int) == (F.opn.length : Int)) = false := by simp; omega
  have u1 : (t : Int) < (F.opn.length : Int) := by omega
  have c1 := HF4.out.c1
  rw [show (unlistF (fillF F a n true) b mL).opn.length = F.opn.length from hlen, e4] at c1
  have ci := HF4.out.ci t (by show t < (fillF F a n true).opn.length; omega)
  rw [show (unlistF (fillF F a n true) b mL).lng = F.lng from rfl, HR5.out] at ci
  dsimp only [Option.getD_some] at ci
  have hsf : Short (unlistF (fillF F a n true) b mL) := (HSH.out.fill a n true).unlist b mL (by omega)
  have hc5 := unlist_F w4 B4 (unlistF (fillF F a n true) b mL) t mR HF4.out (by show t < (fillF F a n true).opn.length; omega) (by rw [show (unlistF (fillF F a n true) b mL).lng = F.lng from rfl]; exact HR5.out) (by omega) HR6.out (by have := hsf (kindOf mR) (by have := kind_le (n := mR) (by omega); omega); omega)
  rw [e4] at hc5
  obtain ⟨s, hs1, hs2⟩ : ∃ s : Nat, s ≤ t + mR ∧ t + mR ≤ s := ⟨t + mR, by omega, by omega⟩
  have wf7 : IntKind.i64.wrap ((t : Int) + (mR : Int)) = (s : Int) := by rw [IntWalk.i64_in _ ⟨by omega, by omega⟩]; omega
  go_upto_region 11 with (go_at_call 70; refine hc5.mono ?_; rintro e w5 ⟨rfl, B5, hF5, hN5⟩; dsimp only)
  have e5 : B5.r = B.r := hN5.r.trans e4
  have HF5 := Lib.hid hF5; have HN5 := Lib.hid (HN4.out.trans hN5)
  clear hF5 hN5 hc5
  have c1' := HF5.out.c1
  rw [show (unlistF (unlistF (fillF F a n true) b mL) t mR).opn.length = F.opn.length from hlen, e5] at c1'
  have ci' := HF5.out.ci t (by show t < (fillF F a n true).opn.length; omega)
  rw [show (unlistF (unlistF (fillF F a n true) b mL) t mR).lng = F.lng from rfl, HR5.out] at ci'
  dsimp only [Option.getD_some] at ci'
  have hsf2 : Short (unlistF (unlistF (fillF F a n true) b mL) t mR) := ((HSH.out.fill a n true).unlist b mL (by omega)).unlist t mR (by omega)
  have hc6 := list_F w5 B5 (unlistF (unlistF (fillF F a n true) b mL) t mR) b (mL + n + mR) HF5.out (by show b + (mL + n + mR) ≤ (fillF F a n true).opn.length; omega) (by have := hsf2 (kindOf (mL + n + mR)) (by have := kind_le (n := mL + n + mR) (by omega); omega); omega)
  rw [e5] at hc6
  go_wp2_with fail
  apply wp_label
  have wf8 : IntKind.i64.wrap (((s : Nat) : Int) - (b : Int)) = ((mL + n + mR : Nat) : Int) := by rw [IntWalk.i64_in _ ⟨by omega, by omega⟩]; omega
  go_wp2_with (go_at_call 68; refine hc6.mono ?_; rintro e w6 ⟨rfl, B6, hF6, hN6⟩; dsimp only)
  try rw [← HQ2.out]
  try simp only [gotoN_ret]
  go_ret
  obtain rfl : t = a + n := by omega
  exact ⟨rfl, B6, hF6, HN5.out.trans hN6⟩
end Go.Proofs.Ytljgnmbjidkjnaa.Fr
