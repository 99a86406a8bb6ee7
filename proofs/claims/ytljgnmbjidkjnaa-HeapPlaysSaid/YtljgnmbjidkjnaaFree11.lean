/- Give, by which words are free alone; which run is the best one, found out for lists at hand. -/
import Derived.Test.YtljgnmbjidkjnaaFree10
namespace Go.Proofs.Ytljgnmbjidkjnaa.Fr
open Go.Proofs.Ytljgnmbjidkjnaa.Gen Go.Proofs.Ytljgnmbjidkjnaa.Base Go.Proofs.Ytljgnmbjidkjnaa.Bt Go.ChangeShapes Go.WideShapes Go.ChangeAt Go.RowKit
set_option linter.unusedVariables false
theorem overlap {A N a' n' : Nat} (h : ¬ (a' + n' ≤ A ∨ A + N ≤ a')) (h1 : 1 ≤ n') (h2 : 1 ≤ N) : ∃ x, a' ≤ x ∧ x < a' + n' ∧ A ≤ x ∧ x < A + N := ⟨max a' A, by omega, by omega, by omega, by omega⟩
section
variable {w : World} {B : FB} {l : List Bool}
theorem give_lst {l : List Bool} {F : FS} {a n b mL mR : Nat} {cl cr : Bool} (hL : Lst l.length F.lng F.bgn F.ls (Run l)) (hn : 1 ≤ n) (hle : a + n ≤ l.length) (hc : ∀ i, a ≤ i → i < a + n → o l i = false)
    (h1 : if cl then Run l b mL ∧ b + mL = a else a = 0 ∨ o l (a - 1) = false) (h2 : if cr then Run l (a + n) mR else o l (a + n) = false) :
    Lst l.length (giveF F a n cl b mL cr mR).lng (giveF F a n cl b mL cr mR).bgn (giveF F a n cl b mL cr mR).ls (Run (setR l a n true)) := by
  have hs := o_set l a n true hle
  have hA : ∃ A N, A = (if cl then b else a) ∧ N = ((if cl then mL else 0) + n + (if cr then mR else 0)) := ⟨_, _, rfl, rfl⟩
  obtain ⟨A, N, eA, eN⟩ := hA
  have e : giveF F a n cl b mL cr mR = { (if cr then unlistF (if cl then unlistF (fillF F a n true) b mL else fillF F a n true) (a + n) mR else (if cl then unlistF (fillF F a n true) b mL else fillF F a n true)) with
      lng := F.lng.set A N, bgn := F.bgn.set (A + N - 1) A, ls := upd (if cr then unlistF (if cl then unlistF (fillF F a n true) b mL else fillF F a n true) (a + n) mR else (if cl then unlistF (fillF F a n true) b mL else fillF F a n true)).ls (kindOf N) ((if cr then unlistF (if cl then unlistF (fillF F a n true) b mL else fillF F a n true) (a + n) mR else (if cl then unlistF (fillF F a n true) b mL else fillF F a n true)).ls (kindOf N) ++ [(A : Int)]) } := by
    unfold giveF listF
    rw [← eA, ← eN, if_neg (by omega)]
    cases cl <;> cases cr <;> rfl
  rw [e]
  have hRun : Run (setR l a n true) A N ∧ A ≤ a ∧ a + n ≤ A + N ∧ A + N ≤ l.length ∧ (cl = true → b = A) ∧ (cr = true → 1 ≤ mR ∧ a + n + mR = A + N) ∧ (∀ x, A ≤ x → x < A + N → ¬ (a ≤ x ∧ x < a + n) → (cl = true ∧ b ≤ x ∧ x < b + mL) ∨ (cr = true ∧ a + n ≤ x ∧ x < a + n + mR)) := by
    cases cl <;> cases cr <;> simp only [Bool.false_eq_true, if_false, if_true, Nat.zero_add, Nat.add_zero] at h1 h2 eA eN <;> subst A <;> subst N
    · refine ⟨⟨hn, fun i q1 q2 => by rw [hs, if_pos ⟨q1, q2⟩], ?_, by rw [hs, if_neg (by omega)]; exact h2⟩, by omega, by omega, by omega, (fun e => by cases e), (fun e => by cases e), fun x q1 q2 q3 => by omega⟩
      rcases h1 with h1 | h1
      · exact .inl h1
      · by_cases c : a = 0
        · exact .inl c
        · exact .inr (by rw [hs, if_neg (by omega)]; exact h1)
    · have := h2.pos; have := h2.le
      refine ⟨⟨by omega, fun i q1 q2 => ?_, ?_, ?_⟩, by omega, by omega, by omega, (fun e => by cases e), (fun _ => by omega), fun x q1 q2 q3 => .inr ⟨rfl, by omega, by omega⟩⟩
      · rw [hs]; split
        · rfl
        · exact h2.all i (by omega) (by omega)
      · rcases h1 with h1 | h1
        · exact .inl h1
        · by_cases c : a = 0
          · exact .inl c
          · exact .inr (by rw [hs, if_neg (by omega)]; exact h1)
      · rw [hs, if_neg (by omega), show a + (n + mR) = a + n + mR by omega]; exact h2.hi
    · obtain ⟨h1, h3⟩ := h1
      have := h1.pos
      refine ⟨⟨by omega, fun i q1 q2 => ?_, ?_, ?_⟩, by omega, by omega, by omega, (fun e => rfl), (fun e => by cases e), fun x q1 q2 q3 => .inl ⟨rfl, by omega, by omega⟩⟩
      · rw [hs]; split
        · rfl
        · exact h1.all i (by omega) (by omega)
      · rcases h1.lo with h4 | h4
        · exact .inl h4
        · exact .inr (by rw [hs, if_neg (by omega)]; exact h4)
      · rw [hs, if_neg (by omega), show b + (mL + n) = a + n by omega]; exact h2
    · obtain ⟨h1, h3⟩ := h1
      have := h1.pos; have := h2.pos; have := h2.le
      refine ⟨⟨by omega, fun i q1 q2 => ?_, ?_, ?_⟩, by omega, by omega, by omega, (fun e => rfl), (fun e => by omega), fun x q1 q2 q3 => ?_⟩
      · rw [hs]; split
        · rfl
        · by_cases c : i < a
          · exact h1.all i (by omega) (by omega)
          · exact h2.all i (by omega) (by omega)
      · rcases h1.lo with h4 | h4
        · exact .inl h4
        · exact .inr (by rw [hs, if_neg (by omega)]; exact h4)
      · rw [hs, if_neg (by omega), show b + (mL + n + mR) = a + n + mR by omega]; exact h2.hi
      · by_cases c : x < a
        · exact .inl ⟨rfl, by omega, by omega⟩
        · exact .inr ⟨rfl, by omega, by omega⟩
  obtain ⟨hRun, hA1, hA2, hA3, hA4, hA5, hA6⟩ := hRun
  have hg := run_give hle hA1 hA2 hRun hc
  have hd : ∀ a' n', Run l a' n' → (cl = true → a' ≠ b) → (cr = true → a' ≠ a + n) → a' + n' ≤ A ∨ A + N ≤ a' := fun a' n' hr d1 d2 => by
    rcases Classical.em (a' + n' ≤ A ∨ A + N ≤ a') with c | c
    · exact c
    · obtain ⟨x, x1, x2, x3, x4⟩ := overlap c hr.pos (by omega)
      have ho := hr.all x x1 x2
      by_cases c2 : a ≤ x ∧ x < a + n
      · rw [hc x c2.1 c2.2] at ho; cases ho
      · rcases hA6 x x3 x4 c2 with ⟨rfl, q1, q2⟩ | ⟨rfl, q1, q2⟩
        · simp only [if_true] at h1
          exact absurd (hr.eq h1.1 x1 x2 q1 q2).1 (d1 rfl)
        · simp only [if_true] at h2
          exact absurd (hr.eq h2 x1 x2 q1 q2).1 (d2 rfl)
  have hback : ∀ a' n', Run l a' n' → (a' + n' ≤ A ∨ A + N ≤ a') → (cl = true → a' ≠ b) ∧ (cr = true → a' ≠ a + n) := fun a' n' hr hh => by
    have := hr.pos
    exact ⟨fun c e => by have := hA4 c; omega, fun c e => by have := hA5 c; omega⟩
  have fin : ∀ P : Nat → Nat → Prop, (∀ a' n', P a' n' ↔ (Run l a' n' ∧ (cl = true → a' ≠ b) ∧ (cr = true → a' ≠ a + n))) → ∀ ls, Lst l.length F.lng F.bgn ls P → Lst l.length (F.lng.set A N) (F.bgn.set (A + N - 1) A) (upd ls (kindOf N) (ls (kindOf N) ++ [(A : Int)])) (Run (setR l a n true)) := fun P hP ls hl => by
    refine Lst.congr (hl.list (a := A) (n := N) (by omega) hA3 fun a' n' hh => ?_) fun a' n' => ?_
    · have h4 := (hP a' n').1 hh
      exact hd a' n' h4.1 h4.2.1 h4.2.2
    · rw [hg, hP]
      constructor
      · rintro (hh | hh)
        · exact .inr ⟨hh.1, hd a' n' hh.1 hh.2.1 hh.2.2⟩
        · exact .inl hh
      · rintro (hh | hh)
        · exact .inr hh
        · exact .inl ⟨hh.1, hback a' n' hh.1 hh.2⟩
  cases cl <;> cases cr <;> simp only [Bool.false_eq_true, if_false, if_true] at h1 h2 ⊢
  · exact fin _ (fun a' n' => by simp) _ hL
  · exact fin _ (fun a' n' => by simp) _ (hL.unlist h2)
  · exact fin _ (fun a' n' => by simp) _ (hL.unlist h1.1)
  · refine fin _ (fun a' n' => ?_) _ ((hL.unlist h1.1).unlist (a := a + n) (n := mR) ⟨h2, ?_⟩)
    · simp [and_assoc]
    · have := h1.1.pos; omega
theorem free_give (h : FreeAt w B l) (a n : Nat) (h1 : 1 ≤ n) (h2 : a + n ≤ l.length) (h3 : ∀ i, a ≤ i → i < a + n → o l i = false) :
    Calls Try.prog 55 #[.pointer (some ⟨B.r, 0, none⟩), .int .i64 a, .int .i64 n] w
      fun e w' => e = .returned (.bool true) ∧ ∃ B', FreeAt w' B' (setR l a n true) ∧ Nx B w B' w' := by
  obtain ⟨F, hF, e1, hL, h4⟩ := h
  have hlim := hL.lim
  have hcl := cnt_le l
  have hleft : ∃ (cl : Bool) (b mL : Nat), if cl then Run l b mL ∧ b + mL = a else a = 0 ∨ o l (a - 1) = false := by
    by_cases c : a = 0
    · exact ⟨false, 0, 0, by simp [c]⟩
    · cases hx : o l (a - 1)
      · exact ⟨false, 0, 0, by simp⟩
      · obtain ⟨b, mL, hr, q1, q2⟩ := run_of hx
        refine ⟨true, b, mL, by
          simp only [if_true]
          refine ⟨hr, ?_⟩
          rcases Nat.lt_or_ge a (b + mL) with d | d
          · have := hr.all a (by omega) d; rw [h3 a (Nat.le_refl _) (by omega)] at this; cases this
          · omega⟩
  have hright : ∃ (cr : Bool) (mR : Nat), if cr then Run l (a + n) mR else o l (a + n) = false := by
    cases hx : o l (a + n)
    · exact ⟨false, 0, by simp⟩
    · obtain ⟨b, mR, hr, q1, q2⟩ := run_of hx
      refine ⟨true, mR, ?_⟩
      simp only [if_true]
      rcases Nat.lt_or_ge b (a + n) with d | d
      · have := hr.all (a + n - 1) (by omega) (by omega); rw [h3 (a + n - 1) (by omega) (by omega)] at this; cases this
      · obtain rfl : b = a + n := by omega
        exact hr
  obtain ⟨cl, b, mL, hl⟩ := hleft
  obtain ⟨cr, mR, hr⟩ := hright
  have hg := give_lst hL h1 h2 h3 hl hr
  have hopn : (giveF F a n cl b mL cr mR).opn = setR l a n true := by
    subst e1; unfold giveF listF; cases cl <;> cases cr <;> simp only [Bool.false_eq_true, if_false, if_true] <;> split <;> rfl
  have hwd : (giveF F a n cl b mL cr mR).words = F.words + n := by
    unfold giveF listF; cases cl <;> cases cr <;> simp only [Bool.false_eq_true, if_false, if_true] <;> split <;> rfl
  refine (give_F w B F a n b mL mR cl cr hF h1 (by rw [e1]; exact h2) (by rw [e1]; exact h3) (fun k hk => by have := hL.short k hk; omega) (by rw [h4]; omega) (by rw [h4]; omega) ?_ ?_).mono ?_
  · cases cl <;> simp only [Bool.false_eq_true, if_false, if_true] at hl ⊢
    · rw [e1]; exact hl
    · have hp := hl.1.pos
      refine ⟨by omega, by rw [e1]; exact hl.1.all _ (by omega) (by omega), ?_, hl.2, hL.at1 _ _ hl.1, hL.mem _ _ hl.1⟩
      rw [show a - 1 = b + mL - 1 by omega]; exact hL.at2 _ _ hl.1
  · cases cr <;> simp only [Bool.false_eq_true, if_false, if_true] at hr ⊢
    · rw [e1]; exact hr
    · have hp := hr.pos
      refine ⟨by rw [e1]; exact hr.all _ (by omega) (by omega), hL.at1 _ _ hr, by rw [e1]; exact hr.le, ?_⟩
      cases cl <;> simp only [Bool.false_eq_true, if_false, if_true] at hl ⊢
      · exact hL.mem _ _ hr
      · exact (hL.unlist hl.1).mem _ _ ⟨hr, by have := hl.1.pos; omega⟩
  · rintro e w' ⟨rfl, B', hF', hN⟩
    exact ⟨rfl, B', ⟨_, hF', hopn, by rw [setR_len]; exact hg, by rw [hwd, h4, cnt_give n h2 h3]⟩, hN⟩
end
end Go.Proofs.Ytljgnmbjidkjnaa.Fr
