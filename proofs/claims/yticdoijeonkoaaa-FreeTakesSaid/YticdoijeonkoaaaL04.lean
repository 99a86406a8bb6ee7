/- The document's example of layer 4. -/
import Derived.Test.YticdoijeonkoaaaJoin
namespace Go.Proofs.Yticdoijeonkoaaa.Fr
open Go.Proofs.Yticdoijeonkoaaa.Gen Go.Proofs.Yticdoijeonkoaaa.Base Go.ChangeShapes Go.WideShapes Go.ChangeAt Go.RowKit
set_option linter.unusedVariables false
/-- Only new blocks have changed, and its own are new. -/
structure Own (w u : World) (B : FB) : Prop where
  below : Below w.heap.size w u
  own : ∀ k, mine B k → w.heap.size ≤ k
theorem Own.nx {w u u' : World} {B B' : FB} (h : Own w u B) (hn : Nx B u B' u') : Own w u' B' :=
  ⟨h.below.trans (hn.below h.own h.below.size), fun k hk => by
    rcases hn.own k hk with h1 | h1
    · exact h.own k h1
    · have := h.below.size; omega⟩
theorem Own.drewN {w u : World} {B : FB} (h : Own w u B) (q : Nat) : Own w (u.drewN q) B := ⟨below_drewN h.below q, h.own⟩
theorem Own.grow {w u u' : World} {B : FB} (h : Own w u B) (hb : Below u.heap.size u u') : Own w u' B := ⟨h.below.trans (hb.mono h.below.size), h.own⟩
theorem Own.free {w u u' : World} {B : FB} {l : List Bool} (hF : FreeAt u B l) (hb : Below u.heap.size u u') : FreeAt u' B l := hF.below hb
instance (l : List Bool) (a n : Nat) : Decidable (Run l a n) :=
  decidable_of_iff (1 ≤ n ∧ (∀ i, i < n → o l (a + i) = true) ∧ (a = 0 ∨ o l (a - 1) = false) ∧ o l (a + n) = false)
    ⟨fun h => ⟨h.1, fun i h1 h2 => by have := h.2.1 (i - a) (by omega); rwa [show a + (i - a) = i by omega] at this, h.2.2.1, h.2.2.2⟩,
     fun h => ⟨h.pos, fun i hi => h.all _ (by omega) (by omega), h.lo, h.hi⟩⟩
def bestB (l : List Bool) (n a m : Nat) : Bool := decide (Run l a m) && decide (n ≤ m) && (List.range (l.length + 1)).all fun a' => (List.range (l.length + 1)).all fun m' => !(decide (Run l a' m') && decide (n ≤ m')) || decide (m < m' ∨ (m = m' ∧ a ≤ a'))
theorem best_of {l : List Bool} {n a m : Nat} (h : bestB l n a m = true) : Best (Run l) n a m := by
  unfold bestB at h
  simp only [Bool.and_eq_true, decide_eq_true_eq, List.all_eq_true, List.mem_range] at h
  refine ⟨h.1.1, h.1.2, fun a' m' hr hn => ?_⟩
  have := h.2 a' (by have := hr.le; omega) m' (by have := hr.le; omega)
  simp only [hr, hn, decide_true, Bool.and_self, Bool.not_true, Bool.false_or, decide_eq_true_eq] at this
  exact this
def ten : List Bool := List.replicate 10 true
def ten1 : List Bool := setR ten 0 3 false
def ten2 : List Bool := setR ten1 3 4 false
def ten3 : List Bool := setR ten2 0 3 true
def ten4 : List Bool := setR ten3 0 2 false
theorem b1 : bestB ten 3 0 10 = true := by decide +kernel
theorem b2 : bestB ten1 4 3 7 = true := by decide +kernel
theorem b4 : bestB ten3 2 0 3 = true := by decide +kernel
theorem g3 : ten2.length = 10 ∧ ∀ i, i < 3 → o ten2 i = false := by decide +kernel
theorem c4 : cnt ten4 = 4 := by decide +kernel
set_option maxHeartbeats 1000000 in
theorem awake_any (w : World) :
    Calls Try.prog 14 #[] w fun e w' => e = .returned (.bool true) ∧ Below w.heap.size w w' := by
  have hn : Calls Try.prog 7 #[.int .i64 10] w fun e w' => ∃ B, e = .returned (.pointer (some ⟨B.r, 0, none⟩)) ∧ FreeAt w' B ten ∧ Below w.heap.size w w' ∧ (∀ k, mine B k → w.heap.size ≤ k) := free_new 10 (by omega) w
  go_enter Try.func14, Try.ntmps14
  go_wp2_with (go_at_call 7; refine hn.mono ?_; rintro e u1 ⟨B1, rfl, hF1, hb1, hm1⟩; dsimp only)
  have hO1 : Own w u1 B1 := ⟨hb1, hm1⟩
  have hc1 : Calls Try.prog 9 #[.pointer (some ⟨B1.r, 0, none⟩), .int .i64 3] u1 fun e w' => e = .returned (.tuple #[.int .i64 0, .bool true]) ∧ ∃ B', FreeAt w' B' ten1 ∧ Nx B1 u1 B' w' := free_take hF1 3 0 10 (by omega) (best_of b1)
  clear hn hF1 hb1 hm1
  have HO1 := Lib.hid hO1; clear hO1
  generalize hr : B1.r = r at *
  have HR := Lib.hid hr; clear hr
  go_wp2_with (go_at_call 9; (with_reducible refine hc1.mono ?_); rintro e u2 ⟨rfl, B2, hF2, hN2⟩; dsimp only)
  have hr2 : B2.r = r := hN2.r.trans HR.out
  have HO2 := Lib.hid (HO1.out.nx hN2)
  have hc2 : Calls Try.prog 9 #[.pointer (some ⟨B2.r, 0, none⟩), .int .i64 4] u2 fun e w' => e = .returned (.tuple #[.int .i64 3, .bool true]) ∧ ∃ B', FreeAt w' B' ten2 ∧ Nx B2 u2 B' w' := free_take hF2 4 3 7 (by omega) (best_of b2)
  clear hc1 hF2 hN2
  rw [hr2] at hc2
  have HR2 := Lib.hid hr2; clear hr2
  go_wp2_with (go_at_call 9; (with_reducible refine hc2.mono ?_); rintro e u3 ⟨rfl, B3, hF3, hN3⟩; dsimp only)
  have hr3 : B3.r = r := hN3.r.trans HR2.out
  have HO3 := Lib.hid (HO2.out.nx hN3)
  have hc3 : Calls Try.prog 11 #[.pointer (some ⟨B3.r, 0, none⟩), .int .i64 0, .int .i64 3] u3 fun e w' => e = .returned (.bool true) ∧ ∃ B', FreeAt w' B' ten3 ∧ Nx B3 u3 B' w' := free_give hF3 0 3 (by omega) (by rw [g3.1]; omega) (fun i _ h2 => g3.2 i (by omega))
  clear hc2 hF3 hN3
  rw [hr3] at hc3
  have HR3 := Lib.hid hr3; clear hr3
  go_wp2_with (go_at_call 11; (with_reducible refine hc3.mono ?_); rintro e u4 ⟨rfl, B4, hF4, hN4⟩; dsimp only)
  have hr4 : B4.r = r := hN4.r.trans HR3.out
  have HO4 := Lib.hid (HO3.out.nx hN4)
  have hc4 : Calls Try.prog 9 #[.pointer (some ⟨B4.r, 0, none⟩), .int .i64 2] u4 fun e w' => e = .returned (.tuple #[.int .i64 0, .bool true]) ∧ ∃ B', FreeAt w' B' ten4 ∧ Nx B4 u4 B' w' := free_take hF4 2 0 3 (by omega) (best_of b4)
  clear hc3 hF4 hN4
  rw [hr4] at hc4
  have HR4 := Lib.hid hr4; clear hr4
  go_wp2_with (go_at_call 9; (with_reducible refine hc4.mono ?_); rintro e u5 ⟨rfl, B5, hF5, hN5⟩; dsimp only)
  have hr5 : B5.r = r := hN5.r.trans HR4.out
  have HO5 := Lib.hid (HO4.out.nx hN5)
  have hc5 := free_words hF5
  rw [c4, hr5] at hc5
  clear hc4 hF5 hN5 hr5
  go_wp2_with (go_at_call 13; (with_reducible refine hc5.mono ?_); rintro e u6 ⟨rfl, e6⟩; subst u6; dsimp only)
  go_ret
  exact ⟨rfl, HO5.out.below⟩
end Go.Proofs.Yticdoijeonkoaaa.Fr
