/- The document's example of layer 4. -/
import Derived.Test.YtljgnmbjidkjnaaJoin
namespace Go.Proofs.Ytljgnmbjidkjnaa.Fr
open Go.Proofs.Ytljgnmbjidkjnaa.Gen Go.Proofs.Ytljgnmbjidkjnaa.Base Go.ChangeShapes Go.WideShapes Go.ChangeAt Go.RowKit
set_option linter.unusedVariables false
/-- Only new blocks have changed, and its own are new. -/
structure Own (w u : World) (B : FB) : Prop where
  below : Below w.heap.size w u
  own : ∀ k, mine B k → w.heap.size ≤ k
theorem Own.nx {w u u' : World} {B B' : FB} (h : Own w u B) (hn : Nx B u B' u') : Own w u' B' :=
  ⟨h.below.trans (hn.below h.own h.below.size), fun k hk => by
    rcases hn.own k hk with h1 | h1
    · exact h.own k h1
    · have := h.below.size; omega⟩
theorem Own.drewN {w u : World} {B : FB} (h : Own w u B) (q : Nat) : Own w (u.drewN q) B := ⟨below_drewN h.below q, h.own⟩
theorem Own.grow {w u u' : World} {B : FB} (h : Own w u B) (hb : Below u.heap.size u u') : Own w u' B := ⟨h.below.trans (hb.mono h.below.size), h.own⟩
theorem Own.free {w u u' : World} {B : FB} {l : List Bool} (hF : FreeAt u B l) (hb : Below u.heap.size u u') : FreeAt u' B l := hF.below hb
instance (l : List Bool) (a n : Nat) : Decidable (Run l a n) :=
  decidable_of_iff (1 ≤ n ∧ (∀ i, i < n → o l (a + i) = true) ∧ (a = 0 ∨ o l (a - 1) = false) ∧ o l (a + n) = false)
    ⟨fun h => ⟨h.1, fun i h1 h2 => by have := h.2.1 (i - a) (by omega); rwa [show a + (i - a) = i by omega] at this, h.2.2.1, h.2.2.2⟩,
     fun h => ⟨h.pos, fun i hi => h.all _ (by omega) (by omega), h.lo, h.hi⟩⟩
def bestB (l : List Bool) (n a m : Nat) : Bool := decide (Run l a m) && decide (n ≤ m) && (List.range (l.length + 1)).all fun a' => (List.range (l.length + 1)).all fun m' => !(decide (Run l a' m') && decide (n ≤ m')) || decide (m < m' ∨ (m = m' ∧ a ≤ a'))
theorem best_of {l : List Bool} {n a m : Nat} (h : bestB l n a m = true) : Best (Run l) n a m := by
  unfold bestB at h
  simp only [Bool.and_eq_true, decide_eq_true_eq, List.all_eq_true, List.mem_range] at h
  refine ⟨h.1.1, h.1.2, fun a' m' hr hn => ?_⟩
  have := h.2 a' (by have := hr.le; omega) m' (by have := hr.le; omega)
  simp only [hr, hn, decide_true, Bool.and_self, Bool.not_true, Bool.false_or, decide_eq_true_eq] at this
  exact this
def ten : List Bool := List.replicate 10 true
def ten1 : List Bool := setR ten 0 3 false
def ten2 : List Bool := setR ten1 3 4 false
def ten3 : List Bool := setR ten2 0 3 true
def ten4 : List Bool := setR ten3 0 2 false
theorem b1 : bestB ten 3 0 10 = true := by decide +kernel
theorem b2 : bestB ten1 4 3 7 = true := by decide +kernel
theorem b4 : bestB ten3 2 0 3 = true := by decide +kernel
theorem g3 : ten2.length = 10 ∧ ∀ i, i < 3 → o ten2 i = false := by decide +kernel
theorem c4 : cnt ten4 = 4 := by decide +kernel
end Go.Proofs.Ytljgnmbjidkjnaa.Fr
