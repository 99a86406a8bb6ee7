/- Objects one behind the other: where they begin, and what is next. -/
import Derived.Test.YtljgnmbjidkjnaaL05
namespace Go.Proofs.Ytljgnmbjidkjnaa.Hp
open Go.Proofs.Ytljgnmbjidkjnaa.Gen Go.Proofs.Ytljgnmbjidkjnaa.Base Go.Proofs.Ytljgnmbjidkjnaa.Fr Go.ChangeShapes Go.WideShapes Go.ChangeAt Go.RowKit
set_option linter.unusedVariables false
/-- Where objects of so many words begin, one behind the other. -/
def pp (st : Nat → Nat) : Nat → Nat
  | 0 => 0
  | j + 1 => pp st j + st j
theorem pp_mono (st : Nat → Nat) {q q' : Nat} (h : q < q') : pp st q + st q ≤ pp st q' := by
  induction q' with
  | zero => omega
  | succ q' ih =>
    by_cases e : q = q'
    · subst e; exact Nat.le_refl _
    · have := ih (by omega); show _ ≤ pp st q' + st q'; omega
theorem pp_le (st : Nat → Nat) (c : Nat) (h : ∀ q, st q ≤ c) (n : Nat) : pp st n ≤ c * n := by
  induction n with
  | zero => exact Nat.zero_le _
  | succ n ih => have := h n; show pp st n + st n ≤ c * (n + 1); rw [Nat.mul_succ]; omega
def bgs (N : Nat) (st : Nat → Nat) (i : Nat) : List Bool := mk N fun x => (List.range i).any fun q => x == pp st q
theorem bgs_len (N : Nat) (st : Nat → Nat) (i : Nat) : (bgs N st i).length = N := mk_len _ _
theorem o_bgs {N : Nat} {st : Nat → Nat} {i x : Nat} : o (bgs N st i) x = true ↔ x < N ∧ ∃ q, q < i ∧ x = pp st q := by
  unfold bgs; rw [o_mk]
  by_cases h : x < N <;> simp [h]
theorem bgs_0 (N : Nat) (st : Nat → Nat) : List.replicate N false = bgs N st 0 :=
  list_o (by rw [bgs_len, List.length_replicate]) fun i hi => by
    rw [o_rep]; unfold bgs; rw [o_mk]; simp
theorem o_setl {l : List Bool} {p i : Nat} {v : Bool} (h : p < l.length) : o (l.set p v) i = if i = p then v else o l i := by
  unfold o
  rw [List.getElem?_set]
  by_cases e : p = i
  · rw [if_pos e, if_pos h, if_pos e.symm]; rfl
  · rw [if_neg e, if_neg (fun e' => e e'.symm)]
theorem bgs_succ {N : Nat} {st : Nat → Nat} {i : Nat} (h : pp st i < N) : (bgs N st i).set (pp st i) true = bgs N st (i + 1) :=
  list_o (by simp [bgs_len]) fun x hx => by
    rw [List.length_set, bgs_len] at hx
    rw [o_setl (by rw [bgs_len]; exact h), Bool.eq_iff_iff, o_bgs]
    split
    · rename_i e; exact ⟨fun _ => ⟨hx, i, by omega, e⟩, fun _ => rfl⟩
    · rename_i e
      rw [o_bgs]
      constructor
      · rintro ⟨_, q, q1, q2⟩; exact ⟨hx, q, by omega, q2⟩
      · rintro ⟨_, q, q1, q2⟩
        refine ⟨hx, q, ?_, q2⟩
        rcases Nat.lt_or_ge q i with c | c
        · exact c
        · exact absurd (by rw [q2, show q = i by omega]) e
theorem nextN_hit {bg : List Bool} {p : Nat} (hp : o bg p = true) : ∀ f k, k ≤ p → p < k + f → (∀ x, k ≤ x → x < p → o bg x = false) → nextN bg f k = p + 1 := by
  intro f
  induction f with
  | zero => intro k h1 h2; omega
  | succ f ih =>
    intro k h1 h2 h3
    unfold nextN
    by_cases e : k = p
    · subst e; rw [hp]; rfl
    · rw [h3 k (Nat.le_refl _) (by omega)]
      exact ih (k + 1) (by omega) (by omega) (fun x q1 q2 => h3 x (by omega) q2)
theorem nextN_miss {bg : List Bool} : ∀ f k, (∀ x, k ≤ x → o bg x = false) → nextN bg f k = 0 := by
  intro f
  induction f with
  | zero => intro k _; rfl
  | succ f ih =>
    intro k h
    unfold nextN
    rw [h k (Nat.le_refl _)]
    exact ih (k + 1) (fun x hx => h x (by omega))
/-- Where the s-th of n objects begins; 0 behind the last one. -/
def atB (st : Nat → Nat) (n s : Nat) : Nat := if s < n then pp st s + 1 else 0
theorem next_first {N n : Nat} {st : Nat → Nat} (hN : ∀ q, q < n → pp st q < N) (x : Int) (hx : x ≤ 0) : nextB (bgs N st n) x = atB st n 0 := by
  unfold nextB atB
  rw [show (max x 0).toNat = 0 by omega, bgs_len, Nat.sub_zero]
  split
  · rename_i h
    exact nextN_hit (o_bgs.2 ⟨hN 0 h, 0, h, rfl⟩) _ _ (Nat.zero_le _) (by have := hN 0 h; omega) (fun y _ hy => by have : pp st 0 = 0 := rfl; omega)
  · exact nextN_miss _ _ (fun y _ => by
      rw [← Bool.not_eq_true, o_bgs]
      rintro ⟨_, q, q1, _⟩; omega)
theorem next_step {N n s : Nat} {st : Nat → Nat} (hst : ∀ q, 1 ≤ st q) (hN : ∀ q, q < n → pp st q < N) (hs : s < n) : nextB (bgs N st n) ((pp st s : Int) + 1) = atB st n (s + 1) := by
  unfold nextB atB
  rw [show (max ((pp st s : Int) + 1) 0).toNat = pp st s + 1 by omega, bgs_len]
  have hlt := hN s hs
  have hno : ∀ y, pp st s + 1 ≤ y → (s + 1 < n → y < pp st (s + 1)) → o (bgs N st n) y = false := fun y h1 h2 => by
    rw [← Bool.not_eq_true, o_bgs]
    rintro ⟨_, q, q1, q2⟩
    rcases Nat.lt_trichotomy q s with c | c | c
    · have := pp_mono st c; omega
    · subst c; omega
    · have h3 := h2 (by omega)
      rcases Nat.eq_or_lt_of_le (show s + 1 ≤ q from c) with d | d
      · rw [← d] at q2; omega
      · have := pp_mono st d; omega
  split
  · rename_i h
    have h4 := hN (s + 1) h
    have h5 : pp st (s + 1) = pp st s + st s := rfl
    have h6 := hst s
    exact nextN_hit (o_bgs.2 ⟨h4, s + 1, h, rfl⟩) _ _ (by omega) (by omega) (fun y h1 h2 => hno y h1 fun _ => h2)
  · rename_i h
    exact nextN_miss _ _ (fun y h1 => hno y h1 fun h2 => absurd h2 h)
theorem cnt_tail {N x : Nat} (h : x ≤ N) : cnt (tail N x) = N - x := by
  have h1 := cnt_take (l := List.replicate N true) (a := 0) x (by simpa using h) (fun i _ hi => by rw [o_rep, if_pos (by omega)])
  rw [tail_0, tail_take (by omega), Nat.zero_add, ← tail_0, cnt_rep] at h1
  omega
theorem has_bgs {N n s : Nat} {st : Nat → Nat} (hN : ∀ q, q < n → pp st q < N) (hs : s < n) : hasB (bgs N st n) ((pp st s : Int) + 1) = true := by
  rw [hasB_nat _ _ (by rw [bgs_len]; exact hN s hs)]
  exact o_bgs.2 ⟨hN s hs, s, hs, rfl⟩
theorem head_at {ws : List Int} {bg : List Bool} {p : Nat} (hb : hasB bg ((p : Int) + 1) = true) (hl : p < ws.length) : headW ws bg ((p : Int) + 1) = ws[p]?.getD 0 := by
  unfold headW
  rw [hb]
  simp only [if_true]
  unfold Sr.getS
  rw [if_pos (by omega), show ((p : Int) + 1 - 1).toNat = p by omega]
theorem siz_bytes (k S O : Nat) (hk : k ≤ 200) (hS : S = (k + 3) / 4) (hO : O = S * 4 - k) : sizW (Hd.hput S 3 O 0 false true) = k := by
  have e1 := Hd.fmt_put (S : Int) (f := 3) (O : Int) 0 false true 0 (by omega) (by omega)
  have e2 := Hd.siz_put (s := (S : Int)) 3 (O : Int) 0 false true 0 (by omega) (by omega)
  have e3 := Hd.odd_put (S : Int) 3 (o := (O : Int)) 0 false true 0 (by omega) (by omega)
  simp only [Int.zero_mul, Int.add_zero] at e1 e2 e3
  unfold sizW
  rw [e1, e2, e3]
  simp; omega
end Go.Proofs.Ytljgnmbjidkjnaa.Hp
