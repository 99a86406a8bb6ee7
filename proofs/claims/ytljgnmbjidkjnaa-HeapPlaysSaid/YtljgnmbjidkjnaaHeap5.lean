/- Make of package heap. -/
import Derived.Test.YtljgnmbjidkjnaaHeap4
namespace Go.Proofs.Ytljgnmbjidkjnaa.Hp
open Go.Proofs.Ytljgnmbjidkjnaa.Gen Go.Proofs.Ytljgnmbjidkjnaa.Base Go.Proofs.Ytljgnmbjidkjnaa.Fr Go.ChangeShapes Go.WideShapes Go.ChangeAt Go.RowKit
set_option linter.unusedVariables false
section
variable {w : World} {X : HB} {ws : List Int} {l bg : List Bool}
theorem hp_putN (h : HpAt w X ws l bg) (x v : Int) (q : Nat) (hx : x = (q : Int) + 1) (hq : q < bg.length) (v0 : 0 ≤ v) (v1 : v ≤ 4294967295) :
    Calls Try.prog 39 #[.pointer (some ⟨X.h, 0, none⟩), .int .i64 x, .int .u32 v] w
      fun e w' => e = .returned (.bool true) ∧ HpAt w' X (ws.set q v) l bg ∧ HNx X w X w' := by
  have hle := h.len
  have he := h.e1
  have hc := hp_put h x v (by omega) (by omega) v0 v1
  rw [show decide (1 ≤ x ∧ x ≤ (bg.length : Int)) = true by simp; omega, show Sr.putS ws (x - 1) v = ws.set q v by unfold Sr.putS; rw [if_pos (by omega), show (x - 1).toNat = q by omega]] at hc
  exact hc
theorem hp_getN (h : HpAt w X ws l bg) (x : Int) (q : Nat) (hx : x = (q : Int) + 1) (hq : q < bg.length) :
    Calls Try.prog 60 #[.pointer (some ⟨X.h, 0, none⟩), .int .i64 x] w fun e w' => e = .returned (.int .u32 (ws[q]?.getD 0)) ∧ w = w' := by
  have hle := h.len
  have he := h.e1
  have hc := hp_get h x (by omega) (by omega)
  rw [show Sr.getS ws (x - 1) = ws[q]?.getD 0 by unfold Sr.getS; rw [if_pos (by omega), show (x - 1).toNat = q by omega]] at hc
  exact hc
/-- Words from place a on, each set to v. -/
def fillW (ws : List Int) (a : Nat) : Nat → Int → List Int
  | 0, _ => ws
  | n + 1, v => (fillW ws a n v).set (a + n) v
theorem fillW_len (ws : List Int) (a n : Nat) (v : Int) : (fillW ws a n v).length = ws.length := by
  induction n with
  | zero => rfl
  | succ n ih => simp [fillW, ih]
theorem fillW_at (ws : List Int) (a n : Nat) (v : Int) (i : Nat) (h : a + n ≤ ws.length) : (fillW ws a n v)[i]?.getD 0 = if a ≤ i ∧ i < a + n then v else ws[i]?.getD 0 := by
  induction n with
  | zero => rw [if_neg (by omega)]; rfl
  | succ n ih =>
    have ih := ih (by omega)
    unfold fillW
    rw [List.getElem?_set]
    by_cases e : a + n = i
    · rw [if_pos e, if_pos (by rw [fillW_len]; omega), if_pos (by omega)]; rfl
    · rw [if_neg e, ih]
      by_cases c : a ≤ i ∧ i < a + n
      · rw [if_pos c, if_pos (by omega)]
      · rw [if_neg c, if_neg (by omega)]
/-- The words of a new object. -/
def mkW (ws : List Int) (p S : Nat) (hd cl hh E : Int) : List Int := fillW (((ws.set p hd).set (p + 1) cl).set (p + 2) hh) (p + 3) S E
theorem mkW_len (ws : List Int) (p S : Nat) (hd cl hh E : Int) : (mkW ws p S hd cl hh E).length = ws.length := by simp [mkW, fillW_len]
theorem set_at (ws : List Int) (p i : Nat) (v : Int) (h : p < ws.length) : (ws.set p v)[i]?.getD 0 = if i = p then v else ws[i]?.getD 0 := by
  rw [List.getElem?_set]
  by_cases e : p = i
  · rw [if_pos e, if_pos h, if_pos e.symm]; rfl
  · rw [if_neg e, if_neg (fun e' => e e'.symm)]
theorem mkW_at (ws : List Int) (p S : Nat) (hd cl hh E : Int) (i : Nat) (h : p + 3 + S ≤ ws.length) :
    (mkW ws p S hd cl hh E)[i]?.getD 0 = if i = p then hd else if i = p + 1 then cl else if i = p + 2 then hh else if p + 3 ≤ i ∧ i < p + 3 + S then E else ws[i]?.getD 0 := by
  unfold mkW
  rw [fillW_at _ _ _ _ _ (by simpa using h), set_at _ _ _ _ (by simp; omega), set_at _ _ _ _ (by simp; omega), set_at _ _ _ _ (by omega)]
  by_cases c : p + 3 ≤ i ∧ i < p + 3 + S
  · rw [if_pos c, if_neg (by omega), if_neg (by omega), if_neg (by omega), if_pos c]
  · rw [if_neg c]
    by_cases c2 : i = p + 2
    · rw [if_pos c2, if_neg (by omega), if_neg (by omega), if_pos c2]
    · rw [if_neg c2]
      by_cases c1 : i = p + 1
      · rw [if_pos c1, if_neg (by omega), if_pos c1]
      · rw [if_neg c1]
        by_cases c0 : i = p
        · rw [if_pos c0, if_pos c0]
        · rw [if_neg c0, if_neg c0, if_neg c1, if_neg c2, if_neg c]
/-- A format, how many fields or bytes; how many words behind the three, how many bytes too many, what they hold. -/
def Kind (f n S O : Nat) (E : Int) : Prop := ((f = 1 ∨ f = 2) ∧ n ≤ 60 ∧ S = n ∧ O = 0 ∧ E = 1) ∨ (f = 3 ∧ n ≤ 200 ∧ S = (n + 3) / 4 ∧ O = S * 4 - n ∧ E = 0)
theorem Kind.may {f n S O : Nat} {E : Int} (h : Kind f n S O E) : mayB f n = true := by
  unfold mayB
  rcases h with ⟨h1, h2, _⟩ | ⟨h1, h2, _⟩
  · rw [if_pos (by omega)]; simp; omega
  · rw [if_neg (by omega), if_pos (by omega)]; simp; omega
theorem hp_Make_no (h : HpAt w X ws l bg) (f n c hs : Int) (hn : mayB f n = false ∨ c < 0 ∨ 65536 < c ∨ hs < 0 ∨ 3000 < hs) :
    Calls Try.prog 12 #[.pointer (some ⟨X.h, 0, none⟩), .int .i64 f, .int .i64 n, .int .i64 c, .int .i64 hs] w fun e w' => e = .returned (.tuple #[.int .i64 0, .bool false]) ∧ w = w' := by
  have hm := may_any f n w
  clear h
  cases hb : mayB f n
  · rw [hb] at hm
    clear hb hn
    go_enter Try.func12, Try.ntmps12
    go_wp2_with (go_at_call 36; (with_reducible refine hm.mono ?_); rintro e w2 ⟨rfl, rfl⟩; dsimp only)
    go_ret2
    exact ⟨rfl, rfl⟩
  · rw [hb] at hm
    have hn2 : c < 0 ∨ (0 ≤ c ∧ 65536 < c) ∨ (0 ≤ c ∧ c ≤ 65536 ∧ hs < 0) ∨ (0 ≤ c ∧ c ≤ 65536 ∧ 0 ≤ hs ∧ 3000 < hs) := by
      rcases hn with hn | hn
      · rw [hb] at hn; cases hn
      · omega
    clear hb hn
    rcases hn2 with h1 | ⟨h1, h2⟩ | ⟨h1, h2, h3⟩ | ⟨h1, h2, h3, h4⟩
    all_goals
      go_enter Try.func12, Try.ntmps12
      go_wp2_with (go_at_call 36; (with_reducible refine hm.mono ?_); rintro e w2 ⟨rfl, rfl⟩; dsimp only)
      go_ret2
      exact ⟨rfl, rfl⟩
end
end Go.Proofs.Ytljgnmbjidkjnaa.Hp
