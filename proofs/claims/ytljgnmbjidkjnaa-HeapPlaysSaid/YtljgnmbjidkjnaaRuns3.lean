/- The shortest run that is long enough, the longest one, and how many words are free: plain lists, no program. -/
import Derived.Test.YtljgnmbjidkjnaaRuns2
namespace Go.Proofs.Ytljgnmbjidkjnaa.Fr
open Go.Shelf Go.RowKit
set_option linter.unusedVariables false
def Sc (lng : List Int) (n : Int) (l : List Int) (b : Int × Bool) : Prop :=
  (b.2 = false → b.1 = 0 ∧ ∀ x ∈ l, lg lng x < n) ∧ (b.2 = true → b.1 ∈ l ∧ n ≤ lg lng b.1 ∧ ∀ x ∈ l, n ≤ lg lng x → lg lng b.1 < lg lng x ∨ (lg lng b.1 = lg lng x ∧ b.1 ≤ x))
theorem Sc.step {lng : List Int} {n : Int} {l : List Int} {b : Int × Bool} (h : Sc lng n l b) (x : Int) : Sc lng n (l ++ [x]) (pickS lng n b x) := by
  obtain ⟨b1, b2⟩ := b
  unfold pickS
  split
  · rename_i hlt
    refine ⟨fun hb => ⟨(h.1 hb).1, fun y hy => ?_⟩, fun hb => ⟨List.mem_append_left _ (h.2 hb).1, (h.2 hb).2.1, fun y hy hn => ?_⟩⟩
    · rcases List.mem_append.1 hy with hy | hy
      · exact (h.1 hb).2 y hy
      · rw [List.mem_singleton] at hy; subst hy; exact hlt
    · rcases List.mem_append.1 hy with hy | hy
      · exact (h.2 hb).2.2 y hy hn
      · rw [List.mem_singleton] at hy; subst hy; omega
  · rename_i hge
    split
    · rename_i hc
      refine ⟨(fun hb => by cases hb), fun _ => ⟨by simp, by dsimp only; omega, fun y hy hn => ?_⟩⟩
      dsimp only at hc ⊢
      rcases List.mem_append.1 hy with hy | hy
      · rcases hc with hc | hc
        · have := (h.1 hc).2 y hy; omega
        · cases b2
          · have := (h.1 rfl).2 y hy; omega
          · have := (h.2 rfl).2.2 y hy hn
            dsimp only at this
            omega
      · rw [List.mem_singleton] at hy; subst hy; omega
    · rename_i hc
      dsimp only at hc
      cases b2
      · exact absurd (.inl rfl) hc
      · refine ⟨fun hb => (by cases hb), fun _ => ⟨List.mem_append_left _ (h.2 rfl).1, (h.2 rfl).2.1, fun y hy hn => ?_⟩⟩
        rcases List.mem_append.1 hy with hy | hy
        · exact (h.2 rfl).2.2 y hy hn
        · rw [List.mem_singleton] at hy; subst hy
          dsimp only
          have : ¬ (lg lng y < lg lng b1 ∨ lg lng y = lg lng b1 ∧ y < b1) := fun hh => hc (.inr hh)
          omega
theorem scan_sc (lng : List Int) (n : Int) (l : List Int) : Sc lng n l (scan lng n l) := by
  have key : ∀ (l d : List Int) (b : Int × Bool), Sc lng n d b → Sc lng n (d ++ l) (l.foldl (pickS lng n) b) := by
    intro l
    induction l with
    | nil => intro d b h; simpa using h
    | cons x l ih =>
      intro d b h
      rw [List.foldl_cons, show d ++ x :: l = (d ++ [x]) ++ l by simp]
      exact ih _ _ (h.step x)
  exact key l [] (0, false) ⟨fun _ => ⟨rfl, fun x hx => by cases hx⟩, fun h => by cases h⟩
theorem shortS_spec (lng : List Int) (n : Int) (ls : Nat → List Int) : ∀ f k,
    ((shortS lng n ls f k).2 = false → (shortS lng n ls f k).1 = 0 ∧ ∀ k', k ≤ k' → k' < k + f → ∀ x ∈ ls k', lg lng x < n) ∧
    ((shortS lng n ls f k).2 = true → ∃ k', k ≤ k' ∧ k' < k + f ∧ shortS lng n ls f k = scan lng n (ls k') ∧ ∀ k'', k ≤ k'' → k'' < k' → ∀ x ∈ ls k'', lg lng x < n) := by
  intro f
  induction f with
  | zero => intro k; exact ⟨fun _ => ⟨rfl, fun k' h1 h2 => by omega⟩, fun h => by cases h⟩
  | succ f ih =>
    intro k
    have hsc := scan_sc lng n (ls k)
    unfold shortS
    split
    · rename_i hb
      refine ⟨fun h => ?_, fun _ => ⟨k, Nat.le_refl _, by omega, rfl, fun k'' h1 h2 => by omega⟩⟩
      rw [hb] at h; cases h
    · rename_i hb
      have hb' : (scan lng n (ls k)).2 = false := by simpa using hb
      refine ⟨fun h => ⟨((ih (k + 1)).1 h).1, fun k' h1 h2 x hx => ?_⟩, fun h => ?_⟩
      · by_cases e : k' = k
        · subst e; exact (hsc.1 hb').2 x hx
        · exact ((ih (k + 1)).1 h).2 k' (by omega) (by omega) x hx
      · obtain ⟨k', h1, h2, h3, h4⟩ := (ih (k + 1)).2 h
        refine ⟨k', by omega, by omega, h3, fun k'' h5 h6 x hx => ?_⟩
        by_cases e : k'' = k
        · subst e; exact (hsc.1 hb').2 x hx
        · exact h4 k'' (by omega) h6 x hx
/-- The lowest of the shortest runs that have n words. -/
structure Best (P : Nat → Nat → Prop) (n a m : Nat) : Prop where
  run : P a m
  fits : n ≤ m
  least : ∀ a' m', P a' m' → n ≤ m' → m < m' ∨ (m = m' ∧ a ≤ a')
theorem Best.eq {P : Nat → Nat → Prop} {n a m a' m' : Nat} (h : Best P n a m) (h' : Best P n a' m') : a = a' ∧ m = m' := by
  have h1 := h.least a' m' h'.run h'.fits
  have h2 := h'.least a m h.run h.fits
  omega
section
variable {len : Nat} {lng bgn : List Int} {ls : Nat → List Int} {P : Nat → Nat → Prop}
theorem Lst.lg (h : Lst len lng bgn ls P) {a n : Nat} (hp : P a n) : lg lng (a : Int) = n := by
  unfold Fr.lg; rw [Int.toNat_natCast, h.at1 a n hp]; rfl
theorem Lst.kind (h : Lst len lng bgn ls P) {a n : Nat} (hp : P a n) : Bt.kindOf n < 18 := by
  have := h.pos a n hp; have := h.lim; have := Bt.kind_le (n := n) (by omega); omega
theorem Lst.no (h : Lst len lng bgn ls P) {n : Nat} (hb : (shortS lng n ls (18 - Bt.kindOf n) (Bt.kindOf n)).2 = false) : ∀ a m, P a m → m < n := by
  intro a m hp
  rcases Nat.lt_or_ge m n with c | c
  · exact c
  · have h1 := kind_mono c
    have h2 := h.kind hp
    have := ((shortS_spec lng n ls (18 - Bt.kindOf n) (Bt.kindOf n)).1 hb).2 (Bt.kindOf m) h1 (by omega) a (h.mem a m hp)
    rw [h.lg hp] at this; omega
theorem Lst.yes (h : Lst len lng bgn ls P) {n : Nat} (hb : (shortS lng n ls (18 - Bt.kindOf n) (Bt.kindOf n)).2 = true) : ∃ a m : Nat, shortS lng n ls (18 - Bt.kindOf n) (Bt.kindOf n) = ((a : Int), true) ∧ Best P n a m := by
  obtain ⟨k', h1, h2, h3, h4⟩ := (shortS_spec lng n ls (18 - Bt.kindOf n) (Bt.kindOf n)).2 hb
  have hsc := scan_sc lng n (ls k')
  rw [← h3] at hsc
  obtain ⟨s1, s2, s3⟩ := hsc.2 hb
  obtain ⟨a, m, e1, hp, e2⟩ := h.only k' (by omega) _ s1
  have hl := h.lg hp
  rw [e1, hl] at s2
  refine ⟨a, m, by rw [← e1, ← hb], ⟨hp, by omega, fun a' m' hp' hn => ?_⟩⟩
  have k1 := kind_mono hn
  have k2 := h.kind hp'
  have hl' := h.lg hp'
  rcases Nat.lt_trichotomy (Bt.kindOf m') k' with c | c | c
  · have := h4 _ k1 c _ (h.mem a' m' hp'); omega
  · have hm' := h.mem a' m' hp'
    rw [c] at hm'
    have := s3 _ hm' (by omega)
    rw [e1, hl, hl'] at this; omega
  · rcases Nat.lt_or_ge m m' with d | d
    · exact .inl d
    · have := kind_mono d; omega
theorem mostL_spec (lng : List Int) : ∀ (l : List Int) (m : Int), m ≤ mostL lng l m ∧ (∀ x ∈ l, Fr.lg lng x ≤ mostL lng l m) ∧ (mostL lng l m = m ∨ ∃ x ∈ l, Fr.lg lng x = mostL lng l m) := by
  intro l
  induction l with
  | nil => intro m; exact ⟨Int.le_refl _, (fun x hx => by cases hx), .inl rfl⟩
  | cons y l ih =>
    intro m
    obtain ⟨i1, i2, i3⟩ := ih (max m (Fr.lg lng y))
    have e : mostL lng (y :: l) m = mostL lng l (max m (Fr.lg lng y)) := rfl
    rw [e]
    refine ⟨by omega, fun x hx => ?_, ?_⟩
    · rcases List.mem_cons.1 hx with rfl | hx
      · omega
      · exact i2 x hx
    · rcases i3 with i3 | ⟨x, hx, i3⟩
      · by_cases c : Fr.lg lng y ≤ m
        · exact .inl (by omega)
        · exact .inr ⟨y, by simp, by omega⟩
      · exact .inr ⟨x, List.mem_cons_of_mem _ hx, i3⟩
theorem mostK_spec (lng : List Int) (ls : Nat → List Int) : ∀ K, 0 ≤ mostK lng ls K ∧ (∀ k, k < K → ∀ x ∈ ls k, Fr.lg lng x ≤ mostK lng ls K) ∧ (mostK lng ls K = 0 ∨ ∃ k, k < K ∧ ∃ x ∈ ls k, Fr.lg lng x = mostK lng ls K) := by
  intro K
  induction K with
  | zero => exact ⟨Int.le_refl _, fun k hk => by omega, .inl rfl⟩
  | succ K ih =>
    obtain ⟨i1, i2, i3⟩ := ih
    obtain ⟨m1, m2, m3⟩ := mostL_spec lng (ls K) (mostK lng ls K)
    have e : mostK lng ls (K + 1) = mostL lng (ls K) (mostK lng ls K) := rfl
    rw [e]
    refine ⟨by omega, fun k hk x hx => ?_, ?_⟩
    · by_cases c : k = K
      · subst c; exact m2 x hx
      · have := i2 k (by omega) x hx; omega
    · rcases m3 with m3 | ⟨x, hx, m3⟩
      · rcases i3 with i3 | ⟨k, hk, x, hx, i3⟩
        · exact .inl (by omega)
        · exact .inr ⟨k, by omega, x, hx, by omega⟩
      · exact .inr ⟨K, by omega, x, hx, m3⟩
/-- The longest. -/
structure Most (P : Nat → Nat → Prop) (m : Nat) : Prop where
  le : ∀ a n, P a n → n ≤ m
  is : m = 0 ∨ ∃ a, P a m
theorem Lst.most (h : Lst len lng bgn ls P) : ∃ m : Nat, mostK lng ls 18 = m ∧ Most P m := by
  obtain ⟨i1, i2, i3⟩ := mostK_spec lng ls 18
  obtain ⟨m, hm⟩ := Int.eq_ofNat_of_zero_le i1
  rw [hm] at i2 i3
  refine ⟨m, hm, ⟨fun a n hp => ?_, ?_⟩⟩
  · have := i2 _ (h.kind hp) a (h.mem a n hp); rw [h.lg hp] at this; omega
  · rcases i3 with i3 | ⟨k, hk, x, hx, i3⟩
    · exact .inl (by omega)
    · obtain ⟨a, n, rfl, hp, _⟩ := h.only k hk x hx
      rw [h.lg hp] at i3
      exact .inr ⟨a, by rw [show m = n by omega]; exact hp⟩
end
/-- How many are free. -/
def cnt (l : List Bool) : Nat := l.count true
theorem cnt_le (l : List Bool) : cnt l ≤ l.length := List.count_le_length
theorem cnt_set {l : List Bool} {i : Nat} (h : i < l.length) (v : Bool) : (cnt (l.set i v) : Int) = cnt l - (if o l i then 1 else 0) + (if v then 1 else 0) := by
  unfold cnt o
  induction l generalizing i with
  | nil => simp at h
  | cons x l ih =>
    cases i with
    | zero => cases x <;> cases v <;> simp [List.count_cons] <;> omega
    | succ i =>
      have := ih (i := i) (by simpa using h)
      rw [List.set_cons_succ, List.count_cons, List.count_cons]
      simp only [List.getElem?_cons_succ]
      push_cast
      omega
theorem cnt_give {l : List Bool} {a : Nat} : ∀ n, a + n ≤ l.length → (∀ i, a ≤ i → i < a + n → o l i = false) → (cnt (setR l a n true) : Int) = cnt l + n := by
  intro n
  induction n with
  | zero => intro _ _; simp [setR]
  | succ n ih =>
    intro h hc
    have h1 := ih (by omega) (fun i h1 h2 => hc i h1 (by omega))
    have e : o (setR l a n true) (a + n) = false := by rw [o_set l a n true (by omega), if_neg (by omega)]; exact hc (a + n) (by omega) (by omega)
    unfold setR
    rw [cnt_set (by rw [setR_len]; omega), h1, e]
    simp; omega
theorem cnt_take {l : List Bool} {a : Nat} : ∀ n, a + n ≤ l.length → (∀ i, a ≤ i → i < a + n → o l i = true) → (cnt (setR l a n false) : Int) = cnt l - n := by
  intro n
  induction n with
  | zero => intro _ _; simp [setR]
  | succ n ih =>
    intro h hc
    have h1 := ih (by omega) (fun i h1 h2 => hc i h1 (by omega))
    have e : o (setR l a n false) (a + n) = true := by rw [o_set l a n false (by omega), if_neg (by omega)]; exact hc (a + n) (by omega) (by omega)
    unfold setR
    rw [cnt_set (by rw [setR_len]; omega), h1, e]
    simp; omega
theorem list_o {l l' : List Bool} (h : l.length = l'.length) (ho : ∀ i, i < l.length → o l i = o l' i) : l = l' := by
  apply List.ext_getElem h
  intro i h1 h2
  have := ho i h1
  unfold o at this
  rw [List.getElem?_eq_getElem h1, List.getElem?_eq_getElem h2] at this
  simpa using this
theorem o_rep (n : Nat) (v : Bool) (i : Nat) : o (List.replicate n v) i = if i < n then v else false := by
  unfold o
  split
  · rename_i h; rw [List.getElem?_replicate, if_pos h]; rfl
  · rename_i h; rw [List.getElem?_replicate, if_neg h]; rfl
end Go.Proofs.Ytljgnmbjidkjnaa.Fr
