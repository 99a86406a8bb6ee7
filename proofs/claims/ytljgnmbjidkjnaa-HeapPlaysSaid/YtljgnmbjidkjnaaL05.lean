/- The document's example of layer 5. -/
import Derived.Test.YtljgnmbjidkjnaaHeap6
import Derived.Test.YtljgnmbjidkjnaaL04
namespace Go.Proofs.Ytljgnmbjidkjnaa.Hp
open Go.Proofs.Ytljgnmbjidkjnaa.Gen Go.Proofs.Ytljgnmbjidkjnaa.Base Go.Proofs.Ytljgnmbjidkjnaa.Fr Go.ChangeShapes Go.WideShapes Go.ChangeAt Go.RowKit
set_option linter.unusedVariables false
def noneB (l : List Bool) (n : Nat) : Bool := (List.range (l.length + 1)).all fun a' => (List.range (l.length + 1)).all fun m' => !decide (Run l a' m') || decide (m' < n)
theorem none_of {l : List Bool} {n : Nat} (h : noneB l n = true) : ∀ a m, Run l a m → m < n := fun a m hr => by
  unfold noneB at h
  simp only [List.all_eq_true, List.mem_range] at h
  have := h a (by have := hr.le; omega) m (by have := hr.le; omega)
  simp only [hr, decide_true, Bool.not_true, Bool.false_or, decide_eq_true_eq] at this
  exact this
def wz0 : List Int := List.replicate 10 0
def bz0 : List Bool := List.replicate 10 false
def wz1 : List Int := mkW wz0 0 2 (Hd.hput 2 1 0 0 false true) (Wd.wr 0) (Wd.wi 1) 1
def lz1 : List Bool := setR ten 0 (3 + 2) false
def bz1 : List Bool := bz0.set 0 true
def wz2 : List Int := mkW wz1 5 2 (Hd.hput 2 3 3 0 false true) (Wd.wr 0) (Wd.wi 2) 0
def lz2 : List Bool := setR lz1 5 (3 + 2) false
def bz2 : List Bool := bz1.set 5 true
theorem zb1 : bestB ten (3 + 2) 0 10 = true := by decide +kernel
theorem zb2 : bestB lz1 (3 + 2) 5 5 = true := by decide +kernel
theorem zb3 : noneB lz2 (3 + 0) = true := by decide +kernel
theorem zs : (if hasB bz2 6 then sizW (headW wz2 bz2 6) else -1) = 5 := by decide +kernel
theorem zn : nextB bz2 1 = 6 := by decide +kernel
section
variable {w : World} {X : HB} {ws : List Int} {l bg : List Bool}
theorem hp_SetMark_no (h : HpAt w X ws l bg) (x c : Int) (fi : Bool) (hw : (Lit.int .i64 x).wf = true) (hb : hasB bg x = false) :
    Calls Try.prog 23 #[.pointer (some ⟨X.h, 0, none⟩), .int .i64 x, .int .i64 c, .bool fi] w fun e w' => e = .returned (.bool false) ∧ w = w' := by
  have hc1 := has_any h x hw
  rw [hb] at hc1
  clear h hb
  go_enter Try.func23, Try.ntmps23
  go_wp2_with (go_at_call 26; (with_reducible refine hc1.mono ?_); rintro e w2 ⟨rfl, rfl⟩; dsimp only)
  go_ret
  exact ⟨rfl, rfl⟩
end
set_option maxHeartbeats 1000000 in
theorem awake_any (w : World) :
    Calls Try.prog 8 #[] w fun e w' => e = .returned (.bool true) ∧ Below w.heap.size w w' := by
  have hn : Calls Try.prog 9 #[.int .i64 10] w fun e w' => ∃ X, e = .returned (.pointer (some ⟨X.h, 0, none⟩)) ∧ HpAt w' X wz0 ten bz0 ∧ HOwn w w' X := hp_New 10 (by omega) w
  go_enter Try.func8, Try.ntmps8
  go_wp2_with (go_at_call 9; refine hn.mono ?_; rintro e u1 ⟨X1, rfl, hA1, hO1⟩; dsimp only)
  have hc1 : Calls Try.prog 12 #[.pointer (some ⟨X1.h, 0, none⟩), .int .i64 1, .int .i64 2, .int .i64 0, .int .i64 1] u1 fun e w' => e = .returned (.tuple #[.int .i64 1, .bool true]) ∧ ∃ X', HpAt w' X' wz1 lz1 bz1 ∧ HNx X1 u1 X' w' :=
    hp_Make_ok hA1 1 2 2 0 1 (.inl ⟨by omega, by omega, rfl, rfl, rfl⟩) 0 1 (by omega) (by omega) 0 10 (best_of zb1)
  have HO1 := Lib.hid hO1
  clear hn hA1 hO1
  generalize hr : X1.h = r at *
  have HR := Lib.hid hr; clear hr
  go_wp2_with (go_at_call 12; (with_reducible refine hc1.mono ?_); rintro e u2 ⟨rfl, X2, hA2, hN2⟩; dsimp only)
  have hr2 : X2.h = r := hN2.h.trans HR.out
  have HO2 := Lib.hid (HO1.out.nx hN2)
  have hc2 : Calls Try.prog 12 #[.pointer (some ⟨X2.h, 0, none⟩), .int .i64 3, .int .i64 5, .int .i64 0, .int .i64 2] u2 fun e w' => e = .returned (.tuple #[.int .i64 6, .bool true]) ∧ ∃ X', HpAt w' X' wz2 lz2 bz2 ∧ HNx X2 u2 X' w' :=
    hp_Make_ok hA2 3 5 2 3 0 (.inr ⟨rfl, by omega, rfl, rfl, rfl⟩) 0 2 (by omega) (by omega) 5 5 (best_of zb2)
  rw [hr2] at hc2
  have HR2 := Lib.hid hr2
  clear hc1 hA2 hN2 hr2
  go_wp2_with (go_at_call 12; (with_reducible refine hc2.mono ?_); rintro e u3 ⟨rfl, X3, hA3, hN3⟩; dsimp only)
  have hr3 : X3.h = r := hN3.h.trans HR2.out
  have HO3 := Lib.hid (HO2.out.nx hN3)
  have hc3 : Calls Try.prog 12 #[.pointer (some ⟨X3.h, 0, none⟩), .int .i64 3, .int .i64 0, .int .i64 0, .int .i64 3] u3 fun e w' => e = .returned (.tuple #[.int .i64 0, .bool false]) ∧ ∃ q, w' = u3.drewN q :=
    hp_Make_full hA3 3 0 0 0 0 (.inr ⟨rfl, by omega, rfl, rfl, rfl⟩) 0 3 (by omega) (by omega) (none_of zb3)
  have hs : ∀ q, Calls Try.prog 27 #[.pointer (some ⟨X3.h, 0, none⟩), .int .i64 6] (u3.drewN q) fun e w' => e = .returned (.int .i64 5) ∧ u3.drewN q = w' := fun q => by
    have := hp_Size (hA3.keep (w' := u3.drewN q) fun _ _ => rfl) 6 (by decide)
    rwa [zs] at this
  have hx : ∀ q, Calls Try.prog 30 #[.pointer (some ⟨X3.h, 0, none⟩), .int .i64 1] (u3.drewN q) fun e w' => e = .returned (.int .i64 6) ∧ u3.drewN q = w' := fun q => by
    have := hp_Next (hA3.keep (w' := u3.drewN q) fun _ _ => rfl) 1 (by decide)
    rwa [zn] at this
  rw [hr3] at hc3 hs hx
  clear hc2 hA3 hN3 hr3
  go_wp2_with (go_at_call 12; (with_reducible refine hc3.mono ?_); rintro e u4 ⟨rfl, q, rfl⟩; have hs4 := hs q; have hx4 := hx q; clear hs hx; dsimp only)
  go_wp2_with (first | (go_at_call 27; (with_reducible refine hs4.mono ?_); rintro e w2 ⟨rfl, rfl⟩; dsimp only) | (go_at_call 30; (with_reducible refine hx4.mono ?_); rintro e w2 ⟨rfl, rfl⟩; dsimp only))
  go_ret
  exact ⟨rfl, below_drewN HO3.out.below q⟩
end Go.Proofs.Ytljgnmbjidkjnaa.Hp
