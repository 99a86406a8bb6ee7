/- The calls of package free, by which words are free alone. -/
import Derived.Test.YtljgnmbjidkjnaaRuns3
namespace Go.Proofs.Ytljgnmbjidkjnaa.Fr
open Go.Proofs.Ytljgnmbjidkjnaa.Gen Go.Proofs.Ytljgnmbjidkjnaa.Base Go.Proofs.Ytljgnmbjidkjnaa.Bt Go.ChangeShapes Go.WideShapes Go.ChangeAt Go.RowKit
set_option linter.unusedVariables false
/-- It lies at B, and just the words of l are free. -/
def FreeAt (w : World) (B : FB) (l : List Bool) : Prop := ∃ F, Fr w B F ∧ F.opn = l ∧ Lst l.length F.lng F.bgn F.ls (Run l) ∧ F.words = (cnt l : Int)
theorem FreeAt.keep {w w' : World} {B : FB} {l : List Bool} (h : FreeAt w B l) (hc : ∀ k, mine B k → w'.heap[k]? = w.heap[k]?) : FreeAt w' B l := by
  obtain ⟨F, hF, h1, h2, h3⟩ := h
  exact ⟨F, hF.keep hc, h1, h2, h3⟩
theorem FreeAt.mine_lt {w : World} {B : FB} {l : List Bool} (h : FreeAt w B l) {k : Nat} (hk : mine B k) : k < w.heap.size := by
  obtain ⟨F, hF, _⟩ := h; exact hF.mine_lt hk
theorem FreeAt.len {w : World} {B : FB} {l : List Bool} (h : FreeAt w B l) : l.length ≤ 65536 := by
  obtain ⟨F, hF, h1, h2, h3⟩ := h; exact h2.lim
theorem FreeAt.drewN {w : World} {B : FB} {l : List Bool} (h : FreeAt w B l) (q : Nat) : FreeAt (w.drewN q) B l := h.keep fun _ _ => rfl
theorem FreeAt.below {w w' : World} {B : FB} {l : List Bool} (h : FreeAt w B l) (hb : Below w.heap.size w w') : FreeAt w' B l := h.keep fun k hk => hb.block k (h.mine_lt hk)
theorem run_rep {n : Nat} (hn : 1 ≤ n) (a m : Nat) : Run (List.replicate n true) a m ↔ a = 0 ∧ m = n := by
  have h0 : Run (List.replicate n true) 0 n := ⟨hn, fun i _ h2 => by rw [o_rep, if_pos (by omega)], .inl rfl, by rw [o_rep, if_neg (by omega)]⟩
  constructor
  · intro h
    have hl := h.le
    rw [List.length_replicate] at hl
    exact h.eq h0 (x := a) (by omega) (by have := h.pos; omega) (by omega) (by have := h.pos; omega)
  · rintro ⟨rfl, rfl⟩; exact h0
theorem setR_rep (n : Nat) : setR (List.replicate n false) 0 n true = List.replicate n true :=
  list_o (by simp [setR_len]) fun i hi => by
    rw [setR_len, List.length_replicate] at hi
    rw [o_set _ _ _ _ (by simp), o_rep, o_rep, if_pos (by omega), if_pos hi]
theorem cnt_rep (n : Nat) : cnt (List.replicate n true) = n := by simp [cnt]
theorem new_lst (n : Nat) (hn : n ≤ 65536) : (newF n).opn = List.replicate n true ∧ Lst n (newF n).lng (newF n).bgn (newF n).ls (Run (List.replicate n true)) ∧ (newF n).words = (n : Int) := by
  have h0 : Lst n (zeroF n).lng (zeroF n).bgn (zeroF n).ls (fun _ _ => False) :=
    { l1 := by simp [zeroF]
      l2 := by simp [zeroF]
      lim := hn
      pos := fun _ _ h => h.elim
      at1 := fun _ _ h => h.elim
      at2 := fun _ _ h => h.elim
      mem := fun _ _ h => h.elim
      only := fun k _ x hx => by simp [zeroF] at hx
      once := fun k _ => by simp [zeroF]
      apart := fun _ _ _ _ _ h => h.elim }
  unfold newF
  by_cases e : n = 0
  · subst e
    refine ⟨rfl, ?_, rfl⟩
    refine Lst.congr h0 fun a m => ⟨fun h => h.elim, fun h => ?_⟩
    have := h.le; have := h.pos; simp at *; omega
  · have hL := h0.list (a := 0) (n := n) (by omega) (by omega) (fun _ _ h => h.elim)
    unfold listF
    rw [if_neg e]
    refine ⟨setR_rep n, ?_, by simp [fillF, zeroF]⟩
    refine Lst.congr hL fun a m => ?_
    rw [run_rep (by omega)]; simp
theorem free_new (n : Nat) (hn : n ≤ 65536) (w : World) :
    Calls Try.prog 33 #[.int .i64 n] w fun e w' => ∃ B, e = .returned (.pointer (some ⟨B.r, 0, none⟩)) ∧ FreeAt w' B (List.replicate n true) ∧ Below w.heap.size w w' ∧ (∀ k, mine B k → w.heap.size ≤ k) := by
  refine (new_any n hn w).mono ?_
  rintro e w' ⟨B, rfl, hF, hb, hm⟩
  obtain ⟨h1, h2, h3⟩ := new_lst n hn
  exact ⟨B, rfl, ⟨_, hF, h1, by rw [List.length_replicate]; exact h2, by rw [h3, cnt_rep]⟩, hb, hm⟩
section
variable {w : World} {B : FB} {l : List Bool}
theorem free_words (h : FreeAt w B l) :
    Calls Try.prog 66 #[.pointer (some ⟨B.r, 0, none⟩)] w fun e w' => e = .returned (.int .i64 (cnt l)) ∧ w = w' := by
  obtain ⟨F, hF, h1, h2, h3⟩ := h
  rw [← h3]; exact words_any w B F hF
theorem free_low (h : FreeAt w B l) (n : Int) (hn : n < 1) :
    Calls Try.prog 38 #[.pointer (some ⟨B.r, 0, none⟩), .int .i64 n] w fun e w' => e = .returned (.tuple #[.int .i64 0, .bool false]) ∧ w = w' :=
  take_low w B n hn
theorem free_none (h : FreeAt w B l) (n : Nat) (h1 : 1 ≤ n) (h2 : n ≤ 65536) (hno : ∀ a m, Run l a m → m < n) :
    Calls Try.prog 38 #[.pointer (some ⟨B.r, 0, none⟩), .int .i64 n] w fun e w' => e = .returned (.tuple #[.int .i64 0, .bool false]) ∧ ∃ q, w' = w.drewN q := by
  obtain ⟨F, hF, e1, hL, h3⟩ := h
  refine take_none w B F n hF h1 h2 (by rw [e1]; exact hL.val) ?_
  cases hb : (shortS F.lng n F.ls (18 - kindOf n) (kindOf n)).2
  · rfl
  · obtain ⟨a, m, _, hB⟩ := hL.yes hb
    have := hno a m hB.run; have := hB.fits; omega
theorem free_take (h : FreeAt w B l) (n a m : Nat) (h1 : 1 ≤ n) (hB : Best (Run l) n a m) :
    Calls Try.prog 38 #[.pointer (some ⟨B.r, 0, none⟩), .int .i64 n] w
      fun e w' => e = .returned (.tuple #[.int .i64 a, .bool true]) ∧ ∃ B', FreeAt w' B' (setR l a n false) ∧ Nx B w B' w' := by
  obtain ⟨F, hF, e1, hL, h3⟩ := h
  have hlim := hL.lim
  have hpos := hL.pos a m hB.run
  have hfit := hB.fits
  have hs : shortS F.lng n F.ls (18 - kindOf n) (kindOf n) = ((a : Int), true) := by
    cases hb : (shortS F.lng n F.ls (18 - kindOf n) (kindOf n)).2
    · have := hL.no hb a m hB.run; omega
    · obtain ⟨a', m', e, hB'⟩ := hL.yes hb
      obtain ⟨rfl, rfl⟩ := hB.eq hB'
      exact e
  have hcl := cnt_le l
  refine (take_some w B F n a m hF h1 (by rw [e1]; exact hL.val) hs (hL.at1 a m hB.run) hfit (by rw [e1]; exact hpos.2) (hL.mem a m hB.run) (fun k hk => by have := hL.short k hk; omega) (by rw [h3]; omega) (by rw [h3]; omega)).mono ?_
  rintro e w' ⟨rfl, B', hF', hN⟩
  have hU := hL.unlist hB.run
  have hrun := run_take hB.run h1 hfit
  have hopn : (fillF (listF (unlistF F a m) (a + n) (m - n)) a n false).opn = setR l a n false := by
    unfold fillF listF; subst e1; split <;> rfl
  have hwd : (fillF (listF (unlistF F a m) (a + n) (m - n)) a n false).words = F.words - n := by
    unfold fillF listF; split <;> rfl
  refine ⟨rfl, B', ⟨_, hF', hopn, ?_, ?_⟩, hN⟩
  · rw [setR_len]
    by_cases c : m - n = 0
    · have e2 : listF (unlistF F a m) (a + n) (m - n) = unlistF F a m := by unfold listF; rw [if_pos c]
      rw [e2]
      refine Lst.congr hU fun a' n' => ?_
      rw [hrun]
      constructor
      · intro hh; exact .inl hh
      · rintro (hh | hh)
        · exact hh
        · omega
    · have hL2 := hU.list (a := a + n) (n := m - n) (by omega) (by omega) (fun a' n' hh => by
        rcases Nat.lt_or_ge a' (a + m) with d1 | d1
        · rcases Nat.lt_or_ge a (a' + n') with d2 | d2
          · have hp := hL.pos a' n' hh.1
            exact absurd (hL.apart a' n' a m (max a a') hh.1 hB.run (by omega) (by omega) (by omega) (by omega)).1 hh.2
          · omega
        · omega)
      have e2 : listF (unlistF F a m) (a + n) (m - n) = { unlistF F a m with lng := (unlistF F a m).lng.set (a + n) ((m - n : Nat) : Int), bgn := (unlistF F a m).bgn.set (a + n + (m - n) - 1) ((a + n : Nat) : Int), ls := upd (unlistF F a m).ls (kindOf (m - n)) ((unlistF F a m).ls (kindOf (m - n)) ++ [((a + n : Nat) : Int)]) } := by unfold listF; rw [if_neg c]
      rw [e2]
      refine Lst.congr hL2 fun a' n' => ?_
      rw [hrun]
      constructor
      · rintro (hh | ⟨d1, d2⟩)
        · exact .inl hh
        · exact .inr ⟨d1, d2, by omega⟩
      · rintro (hh | ⟨d1, d2, _⟩)
        · exact .inl hh
        · exact .inr ⟨d1, d2⟩
  · rw [hwd, h3, cnt_take n (by have := hpos.2; omega) (fun i q1 q2 => hB.run.all i q1 (by omega))]
theorem free_no (h : FreeAt w B l) (x n : Int)
    (hx : (n < 1 ∨ (l.length : Int) < n ∨ x < 0 ∨ (l.length : Int) - n < x) ∨ (∃ a m : Nat, x = a ∧ n = m ∧ 1 ≤ m ∧ a + m ≤ l.length ∧ ∃ i, a ≤ i ∧ i < a + m ∧ o l i = true)) :
    Calls Try.prog 55 #[.pointer (some ⟨B.r, 0, none⟩), .int .i64 x, .int .i64 n] w fun e w' => e = .returned (.bool false) ∧ w = w' := by
  obtain ⟨F, hF, e1, hL, h3⟩ := h
  subst e1
  refine give_not w B F x n hF ?_
  rcases hx with hx | ⟨a, m, h1, h2, h4, h5, i, h6, h7, h8⟩
  · exact .inl hx
  · exact .inr ⟨a, m, h1, h2, h4, h5, i - a, by omega, by rw [show a + (i - a) = i by omega]; exact h8⟩
theorem some_o {l : List Bool} {i : Nat} (h : i < l.length) : l[i]? = some (o l i) := by
  unfold o; rw [List.getElem?_eq_getElem h]; rfl
theorem give_F (w : World) (B : FB) (F : FS) (a n b mL mR : Nat) (cl cr : Bool) (h : Fr w B F) (h1 : 1 ≤ n) (h2 : a + n ≤ F.opn.length) (h3 : ∀ i, a ≤ i → i < a + n → o F.opn i = false) (hsh : Short F) (hw0 : -1000 ≤ F.words) (hw1 : F.words ≤ 100000)
    (hL : if cl then 0 < a ∧ o F.opn (a - 1) = true ∧ F.bgn[a - 1]? = some (b : Int) ∧ b + mL = a ∧ F.lng[b]? = some (mL : Int) ∧ (b : Int) ∈ F.ls (kindOf mL) else a = 0 ∨ o F.opn (a - 1) = false)
    (hR : if cr then o F.opn (a + n) = true ∧ F.lng[a + n]? = some (mR : Int) ∧ a + n + mR ≤ F.opn.length ∧ ((a + n : Nat) : Int) ∈ (if cl then unlistF (fillF F a n true) b mL else fillF F a n true).ls (kindOf mR) else o F.opn (a + n) = false) :
    Calls Try.prog 55 #[.pointer (some ⟨B.r, 0, none⟩), .int .i64 a, .int .i64 n] w
      fun e w' => e = .returned (.bool true) ∧ ∃ B', Fr w' B' (giveF F a n cl b mL cr mR) ∧ Nx B w B' w' := by
  have h3' : ∀ i, i < n → F.opn[a + i]?.getD false = false := fun i hi => h3 (a + i) (by omega) (by omega)
  have hn1 := Nat.le_refl (a + n)
  cases cl <;> cases cr
  · simp only [Bool.false_eq_true, if_false] at hL hR
    by_cases c1 : a = 0 <;> by_cases c2 : a + n = F.opn.length
    · exact give_zz w B F a n (a + n) b mL mR hn1 hn1 h h1 h2 h3' hsh hw0 hw1 (by omega) (by omega)
    · exact give_zn w B F a n (a + n) b mL mR hn1 hn1 h h1 h2 h3' hsh hw0 hw1 (by omega) (by omega) (by rw [some_o (by omega), hR])
    · exact give_nz w B F a n (a + n) b mL mR hn1 hn1 h h1 h2 h3' hsh hw0 hw1 (by omega) (by rw [some_o (by omega), hL.resolve_left c1]) (by omega)
    · exact give_nn w B F a n (a + n) b mL mR hn1 hn1 h h1 h2 h3' hsh hw0 hw1 (by omega) (by rw [some_o (by omega), hL.resolve_left c1]) (by omega) (by rw [some_o (by omega), hR])
  · simp only [Bool.false_eq_true, if_false, if_true] at hL hR
    obtain ⟨r1, r2, r3, r4⟩ := hR
    have hlt := o_lt r1
    by_cases c1 : a = 0
    · exact give_zo w B F a n (a + n) b mL mR hn1 hn1 h h1 h2 h3' hsh hw0 hw1 (by omega) hlt (by rw [some_o hlt, r1]) r2 r3 r4
    · exact give_no w B F a n (a + n) b mL mR hn1 hn1 h h1 h2 h3' hsh hw0 hw1 (by omega) (by rw [some_o (by omega), hL.resolve_left c1]) hlt (by rw [some_o hlt, r1]) r2 r3 r4
  · simp only [Bool.false_eq_true, if_false, if_true] at hL hR
    obtain ⟨l1, l2, l3, l4, l5, l6⟩ := hL
    by_cases c2 : a + n = F.opn.length
    · exact give_oz w B F a n (a + n) b mL mR hn1 hn1 h h1 h2 h3' hsh hw0 hw1 l1 (by rw [some_o (by omega), l2]) l3 l4 l5 l6 (by omega)
    · exact give_on w B F a n (a + n) b mL mR hn1 hn1 h h1 h2 h3' hsh hw0 hw1 l1 (by rw [some_o (by omega), l2]) l3 l4 l5 l6 (by omega) (by rw [some_o (by omega), hR])
  · simp only [if_true] at hL hR
    obtain ⟨l1, l2, l3, l4, l5, l6⟩ := hL
    obtain ⟨r1, r2, r3, r4⟩ := hR
    have hlt := o_lt r1
    exact give_oo w B F a n (a + n) b mL mR hn1 hn1 h h1 h2 h3' hsh hw0 hw1 l1 (by rw [some_o (by omega), l2]) l3 l4 l5 l6 hlt (by rw [some_o hlt, r1]) r2 r3 r4
end
end Go.Proofs.Ytljgnmbjidkjnaa.Fr
