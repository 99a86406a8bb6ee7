/- The lists of runs: what they tell, and what becomes of it. Plain lists, no program. -/
import Derived.Test.YtljgnmbjidkjnaaRuns
namespace Go.Proofs.Ytljgnmbjidkjnaa.Fr
open Go.Shelf Go.RowKit
set_option linter.unusedVariables false
theorem bitLenAux_mono : ∀ (f x y : Nat), x ≤ y → Lib.bitLenAux f x ≤ Lib.bitLenAux f y := by
  intro f
  induction f with
  | zero => intro x y _; exact Nat.le_refl _
  | succ f ih =>
    intro x y h
    unfold Lib.bitLenAux
    by_cases hx : x = 0
    · rw [if_pos hx]; omega
    · rw [if_neg hx, if_neg (by omega)]
      have := ih (x / 2) (y / 2) (Nat.div_le_div_right h)
      omega
theorem kind_mono {x y : Nat} (h : x ≤ y) : Bt.kindOf x ≤ Bt.kindOf y := bitLenAux_mono 64 x y h
theorem strike_perm {l : List Int} {p : Nat} (h : p < l.length) : (strike l p).Perm (l.eraseIdx p) := by
  unfold strike
  rcases List.eq_nil_or_concat l with rfl | ⟨l', z, rfl⟩
  · simp at h
  · rw [List.concat_eq_append] at *
    have e1 : (l' ++ [z])[(l' ++ [z]).length - 1]?.getD 0 = z := by simp
    rw [e1]
    have e2 : (l' ++ [z]).length - 1 = l'.length := by simp
    rw [e2]
    by_cases c : p = l'.length
    · subst c
      rw [List.set_append_right _ _ (by omega), List.take_append_of_le_length (by omega), List.take_length, List.eraseIdx_append_of_length_le (by omega)]
      simp
    · have hp : p < l'.length := by simp at h; omega
      rw [List.set_append_left _ _ hp, List.take_append_of_le_length (by simp), List.take_of_length_le (by simp), List.eraseIdx_append_of_lt_length hp]
      rw [List.set_eq_take_append_cons_drop, if_pos hp, List.eraseIdx_eq_take_drop_succ]
      refine (List.perm_middle).trans ?_
      exact (List.perm_append_singleton z _).symm
theorem strike_first {l : List Int} {x : Int} (hm : x ∈ l) : (strike l (l.idxOf x)).Perm (l.erase x) := by
  have := strike_perm (l := l) (p := l.idxOf x) (List.idxOf_lt_length_iff.2 hm)
  rwa [← List.erase_eq_eraseIdx_of_idxOf rfl] at this
/-- The lists tell the runs of P, each once, in the list of its kind. -/
structure Lst (len : Nat) (lng bgn : List Int) (ls : Nat → List Int) (P : Nat → Nat → Prop) : Prop where
  l1 : lng.length = len
  l2 : bgn.length = len
  lim : len ≤ 65536
  pos : ∀ a n, P a n → 1 ≤ n ∧ a + n ≤ len
  at1 : ∀ a n, P a n → lng[a]? = some (n : Int)
  at2 : ∀ a n, P a n → bgn[a + n - 1]? = some (a : Int)
  mem : ∀ a n, P a n → (a : Int) ∈ ls (Bt.kindOf n)
  only : ∀ k, k < 18 → ∀ x ∈ ls k, ∃ a n : Nat, x = (a : Int) ∧ P a n ∧ Bt.kindOf n = k
  once : ∀ k, k < 18 → (ls k).Nodup
  apart : ∀ a n a' n' x, P a n → P a' n' → a ≤ x → x < a + n → a' ≤ x → x < a' + n' → a = a' ∧ n = n'
theorem Lst.congr {len : Nat} {lng bgn : List Int} {ls : Nat → List Int} {P P' : Nat → Nat → Prop} (h : Lst len lng bgn ls P) (e : ∀ a n, P a n ↔ P' a n) : Lst len lng bgn ls P' := by
  have : P = P' := by funext a n; exact propext (e a n)
  rwa [← this]
theorem Lst.val {len : Nat} {lng bgn : List Int} {ls : Nat → List Int} {P : Nat → Nat → Prop} (h : Lst len lng bgn ls P) : ∀ k, k < 18 → ∀ x ∈ ls k, 0 ≤ x ∧ x < (len : Int) := fun k hk x hx => by
  obtain ⟨a, n, rfl, hp, _⟩ := h.only k hk x hx
  have := h.pos a n hp; omega
theorem nodup_len : ∀ (n : Nat) {l : List Int}, l.Nodup → (∀ x ∈ l, 0 ≤ x ∧ x < (n : Int)) → l.length ≤ n := by
  intro n
  induction n with
  | zero =>
    intro l _ hv
    cases l with
    | nil => simp
    | cons x l => have := hv x (by simp); omega
  | succ n ih =>
    intro l h hv
    have h1 := ih (l := l.erase (n : Int)) (h.erase _) (fun x hx => by
      have hx' := h.mem_erase_iff.1 hx
      have := hv x hx'.2; have := hx'.1; omega)
    rw [List.length_erase] at h1
    split at h1 <;> omega
theorem Lst.short {len : Nat} {lng bgn : List Int} {ls : Nat → List Int} {P : Nat → Nat → Prop} (h : Lst len lng bgn ls P) : ∀ k, k < 18 → (ls k).length ≤ len := fun k hk => nodup_len len (h.once k hk) (h.val k hk)
/-- One run is struck out. -/
theorem Lst.unlist {len : Nat} {lng bgn : List Int} {ls : Nat → List Int} {P : Nat → Nat → Prop} (h : Lst len lng bgn ls P) {a n : Nat} (hp : P a n) :
    Lst len lng bgn (upd ls (Bt.kindOf n) (strike (ls (Bt.kindOf n)) ((ls (Bt.kindOf n)).idxOf (a : Int)))) (fun a' n' => P a' n' ∧ a' ≠ a) := by
  have hpos := h.pos a n hp
  have hlim := h.lim
  have hk : Bt.kindOf n < 18 := by have := Bt.kind_le (n := n) (by omega); omega
  have hm := h.mem a n hp
  have hnd := h.once _ hk
  have hpm := strike_first hm
  have hmem : ∀ x, x ∈ strike (ls (Bt.kindOf n)) ((ls (Bt.kindOf n)).idxOf (a : Int)) ↔ x ∈ ls (Bt.kindOf n) ∧ x ≠ (a : Int) := fun x => by
    rw [hpm.mem_iff, hnd.mem_erase_iff]; exact And.comm
  exact
  { l1 := h.l1
    l2 := h.l2
    lim := h.lim
    pos := fun a' n' hh => h.pos a' n' hh.1
    at1 := fun a' n' hh => h.at1 a' n' hh.1
    at2 := fun a' n' hh => h.at2 a' n' hh.1
    mem := fun a' n' hh => by
      by_cases e : Bt.kindOf n' = Bt.kindOf n
      · rw [e, upd_same, hmem, ← e]; exact ⟨h.mem a' n' hh.1, by have := hh.2; omega⟩
      · rw [upd_other _ _ e]; exact h.mem a' n' hh.1
    only := fun k hk' x hx => by
      by_cases e : k = Bt.kindOf n
      · subst e
        rw [upd_same, hmem] at hx
        obtain ⟨a', n', rfl, hp', e'⟩ := h.only _ hk x hx.1
        exact ⟨a', n', rfl, ⟨hp', by have := hx.2; omega⟩, e'⟩
      · rw [upd_other _ _ e] at hx
        obtain ⟨a', n', rfl, hp', e'⟩ := h.only _ hk' x hx
        refine ⟨a', n', rfl, ⟨hp', ?_⟩, e'⟩
        rintro rfl
        have := h.pos a' n' hp'
        obtain ⟨_, rfl⟩ := h.apart a' n' a' n a' hp' hp (by omega) (by omega) (by omega) (by omega)
        exact e e'.symm
    once := fun k hk' => by
      by_cases e : k = Bt.kindOf n
      · subst e; rw [upd_same]; exact (hpm.nodup_iff).2 (hnd.erase _)
      · rw [upd_other _ _ e]; exact h.once k hk'
    apart := fun a1 n1 a2 n2 x h1 h2 => h.apart a1 n1 a2 n2 x h1.1 h2.1 }
/-- One run more, apart from the others, is written down. -/
theorem Lst.list {len : Nat} {lng bgn : List Int} {ls : Nat → List Int} {P : Nat → Nat → Prop} (h : Lst len lng bgn ls P) {a n : Nat} (h1 : 1 ≤ n) (h2 : a + n ≤ len)
    (hd : ∀ a' n', P a' n' → a' + n' ≤ a ∨ a + n ≤ a') :
    Lst len (lng.set a n) (bgn.set (a + n - 1) a) (upd ls (Bt.kindOf n) (ls (Bt.kindOf n) ++ [(a : Int)])) (fun a' n' => P a' n' ∨ (a' = a ∧ n' = n)) := by
  have hlim := h.lim
  have hk : Bt.kindOf n < 18 := by have := Bt.kind_le (n := n) (by omega); omega
  have hl1 := h.l1
  have hl2 := h.l2
  exact
  { l1 := by simpa using h.l1
    l2 := by simpa using h.l2
    lim := h.lim
    pos := fun a' n' hh => by
      rcases hh with hh | ⟨rfl, rfl⟩
      · exact h.pos a' n' hh
      · exact ⟨h1, h2⟩
    at1 := fun a' n' hh => by
      rcases hh with hh | ⟨rfl, rfl⟩
      · have := h.pos a' n' hh; have := hd a' n' hh
        rw [List.getElem?_set_ne (by omega)]; exact h.at1 a' n' hh
      · rw [List.getElem?_set_self (by omega)]
    at2 := fun a' n' hh => by
      rcases hh with hh | ⟨rfl, rfl⟩
      · have := h.pos a' n' hh; have := hd a' n' hh
        rw [List.getElem?_set_ne (by omega)]; exact h.at2 a' n' hh
      · rw [List.getElem?_set_self (by omega)]
    mem := fun a' n' hh => by
      rcases hh with hh | ⟨rfl, rfl⟩
      · by_cases e : Bt.kindOf n' = Bt.kindOf n
        · rw [e, upd_same, ← e]; exact List.mem_append_left _ (h.mem a' n' hh)
        · rw [upd_other _ _ e]; exact h.mem a' n' hh
      · rw [upd_same]; exact List.mem_append_right _ (List.mem_singleton.2 rfl)
    only := fun k hk' x hx => by
      by_cases e : k = Bt.kindOf n
      · subst e
        rw [upd_same] at hx
        rcases List.mem_append.1 hx with hx | hx
        · obtain ⟨a', n', rfl, hp', e'⟩ := h.only _ hk x hx
          exact ⟨a', n', rfl, .inl hp', e'⟩
        · exact ⟨a, n, by simpa using hx, .inr ⟨rfl, rfl⟩, rfl⟩
      · rw [upd_other _ _ e] at hx
        obtain ⟨a', n', rfl, hp', e'⟩ := h.only _ hk' x hx
        exact ⟨a', n', rfl, .inl hp', e'⟩
    once := fun k hk' => by
      by_cases e : k = Bt.kindOf n
      · subst e; rw [upd_same]
        rw [List.nodup_append]
        refine ⟨h.once _ hk, by simp, fun x hx y hy => ?_⟩
        simp at hy; subst hy
        rintro rfl
        obtain ⟨a', n', e1, hp', e'⟩ := h.only _ hk _ hx
        have := h.pos a' n' hp'; have := hd a' n' hp'
        omega
      · rw [upd_other _ _ e]; exact h.once k hk'
    apart := fun a1 n1 a2 n2 x p1 p2 q1 q2 q3 q4 => by
      rcases p1 with p1 | ⟨rfl, rfl⟩ <;> rcases p2 with p2 | ⟨rfl, rfl⟩
      · exact h.apart a1 n1 a2 n2 x p1 p2 q1 q2 q3 q4
      · have := hd a1 n1 p1; omega
      · have := hd a2 n2 p2; omega
      · exact ⟨rfl, rfl⟩ }
end Go.Proofs.Ytljgnmbjidkjnaa.Fr
