/- Take of package free. -/
import Derived.Test.YtljgnmbjidkjnaaFree5
namespace Go.Proofs.Ytljgnmbjidkjnaa.Fr
open Go.Proofs.Ytljgnmbjidkjnaa.Gen Go.Proofs.Ytljgnmbjidkjnaa.Base Go.Proofs.Ytljgnmbjidkjnaa.Bt Go.ChangeShapes Go.WideShapes Go.ChangeAt Go.RowKit
set_option linter.unusedVariables false
def fillF (F : FS) (a n : Nat) (v : Bool) : FS := { F with opn := setR F.opn a n v, words := F.words + (if v then (n : Int) else -(n : Int)) }
def listF (F : FS) (a n : Nat) : FS := if n = 0 then F else { F with lng := F.lng.set a n, bgn := F.bgn.set (a + n - 1) a, ls := upd F.ls (kindOf n) (F.ls (kindOf n) ++ [(a : Int)]) }
def unlistF (F : FS) (a n : Nat) : FS := { F with ls := upd F.ls (kindOf n) (strike (F.ls (kindOf n)) ((F.ls (kindOf n)).idxOf (a : Int))) }
/-- Lists are no longer than this: room to append. -/
def Short (F : FS) : Prop := ∀ k, k < 18 → (F.ls k).length ≤ 200000
theorem fill_F (w : World) (B : FB) (F : FS) (a n : Nat) (v : Bool) (h : Fr w B F) (hn : a + n ≤ F.opn.length) (hw0 : -1000000 ≤ F.words) (hw1 : F.words ≤ 1000000) :
    Calls Try.prog 67 #[.pointer (some ⟨B.r, 0, none⟩), .int .i64 a, .int .i64 n, .bool v] w
      fun e w' => e = .returned (.tuple #[]) ∧ ∃ B', Fr w' B' (fillF F a n v) ∧ Nx B w B' w' :=
  (fill_any w B F a n v h hn hw0 hw1).mono fun e w' hh => ⟨hh.1, B, hh.2.1, hh.2.2⟩
theorem list_F (w : World) (B : FB) (F : FS) (a n : Nat) (h : Fr w B F) (h2 : a + n ≤ F.opn.length) (h3 : (F.ls (kindOf n)).length ≤ 1000000) :
    Calls Try.prog 68 #[.pointer (some ⟨B.r, 0, none⟩), .int .i64 a, .int .i64 n] w
      fun e w' => e = .returned (.tuple #[]) ∧ ∃ B', Fr w' B' (listF F a n) ∧ Nx B w B' w' := by
  by_cases hn : n = 0
  · subst hn
    refine (list_none w B (a : Int)).mono ?_
    rintro e w' ⟨rfl, rfl⟩
    exact ⟨rfl, B, by simpa [listF] using h, Nx.refl _ _⟩
  · refine (list_any w B F a n h (by omega) h2 h3).mono ?_
    rintro e w' ⟨rfl, B', hf, hx⟩
    exact ⟨rfl, B', by rw [listF, if_neg hn]; exact hf, hx⟩
theorem idxOf_first {l : List Int} {x : Int} (h : x ∈ l) : l[l.idxOf x]? = some x ∧ ∀ q, q < l.idxOf x → l[q]? ≠ some x := by
  induction l with
  | nil => cases h
  | cons y l ih =>
    by_cases e : y = x
    · subst e
      simp [List.idxOf_cons]
    · have hm : x ∈ l := by
        rcases List.mem_cons.1 h with h1 | h1
        · exact absurd h1.symm e
        · exact h1
      have hi : (y :: l).idxOf x = l.idxOf x + 1 := by
        have hb : (y == x) = false := by simpa using e
        rw [List.idxOf_cons, hb]; rfl
      rw [hi]
      refine ⟨by simpa using (ih hm).1, fun q hq => ?_⟩
      cases q with
      | zero => simpa using e
      | succ q => simpa using (ih hm).2 q (by omega)
theorem unlist_F (w : World) (B : FB) (F : FS) (a n : Nat) (h : Fr w B F) (ha : a < F.opn.length) (hn : F.lng[a]? = some (n : Int)) (hn2 : n ≤ 65536) (hm : (a : Int) ∈ F.ls (kindOf n)) (hl : (F.ls (kindOf n)).length ≤ 1000000) :
    Calls Try.prog 70 #[.pointer (some ⟨B.r, 0, none⟩), .int .i64 a] w
      fun e w' => e = .returned (.tuple #[]) ∧ ∃ B', Fr w' B' (unlistF F a n) ∧ Nx B w B' w' :=
  unlist_any w B F a n _ h ha hn hn2 (idxOf_first hm).1 (idxOf_first hm).2 hl
theorem take_low (w : World) (B : FB) (n : Int) (hn : n < 1) :
    Calls Try.prog 38 #[.pointer (some ⟨B.r, 0, none⟩), .int .i64 n] w fun e w' => e = .returned (.tuple #[.int .i64 0, .bool false]) ∧ w = w' := by
  go_enter Try.func38, Try.ntmps38
  go_wp2_with fail
  go_ret2
  exact ⟨rfl, rfl⟩
theorem take_none (w : World) (B : FB) (F : FS) (n : Nat) (h : Fr w B F) (h1 : 1 ≤ n) (h2 : n ≤ 65536) (hv : ∀ k, k < 18 → ∀ x ∈ F.ls k, 0 ≤ x ∧ x < (F.opn.length : Int))
    (hs : (shortS F.lng n F.ls (18 - kindOf n) (kindOf n)).2 = false) :
    Calls Try.prog 38 #[.pointer (some ⟨B.r, 0, none⟩), .int .i64 n] w fun e w' => e = .returned (.tuple #[.int .i64 0, .bool false]) ∧ ∃ q, w' = w.drewN q := by
  have hc := short_any w B F n h h2 hv
  rw [hs] at hc
  generalize (shortS F.lng n F.ls (18 - kindOf n) (kindOf n)).1 = s at *
  have t0 : ¬ (n : Int) < 1 := by omega
  clear h hv hs
  go_enter Try.func38, Try.ntmps38
  go_wp2_with (go_at_call 69; refine hc.mono ?_; rintro e w2 ⟨rfl, q, rfl⟩; dsimp only)
  go_ret2
  exact ⟨rfl, q, rfl⟩
set_option maxHeartbeats 2000000 in
theorem take_some (w : World) (B : FB) (F : FS) (n a m : Nat) (h : Fr w B F) (h1 : 1 ≤ n) (hv : ∀ k, k < 18 → ∀ x ∈ F.ls k, 0 ≤ x ∧ x < (F.opn.length : Int))
    (hs : shortS F.lng n F.ls (18 - kindOf n) (kindOf n) = ((a : Int), true)) (hm : F.lng[a]? = some (m : Int)) (hnm : n ≤ m) (ham : a + m ≤ F.opn.length) (hmem : (a : Int) ∈ F.ls (kindOf m)) (hsh : Short F)
    (hw0 : -1000 ≤ F.words) (hw1 : F.words ≤ 100000) :
    Calls Try.prog 38 #[.pointer (some ⟨B.r, 0, none⟩), .int .i64 n] w
      fun e w' => e = .returned (.tuple #[.int .i64 a, .bool true]) ∧ ∃ B', Fr w' B' (fillF (listF (unlistF F a m) (a + n) (m - n)) a n false) ∧ Nx B w B' w' := by
  have hle := h.le
  have hc := short_any w B F n h (by omega) hv
  rw [hs] at hc
  have t0 : ¬ (n : Int) < 1 := by omega
  have c1 := h.c1
  have ci := h.ci a (by omega)
  rw [hm] at ci
  dsimp only [Option.getD_some] at ci
  have t1 : (a : Int) < (F.opn.length : Int) := by omega
  have wf1 : IntKind.i64.wrap ((m : Int) - (n : Int)) = ((m - n : Nat) : Int) := by rw [IntWalk.i64_in _ ⟨by omega, by omega⟩]; omega
  have wf2 : IntKind.i64.wrap ((a : Int) + (n : Int)) = ((a + n : Nat) : Int) := by rw [IntWalk.i64_in _ ⟨by omega, by omega⟩]; omega
  have HF := Lib.hid h; have HSH := Lib.hid hsh; have HM := Lib.hid hm; have HME := Lib.hid hmem
  clear h hv hs hsh hm hmem
  go_enter Try.func38, Try.ntmps38
  go_upto_region 7 with (go_at_call 69; refine hc.mono ?_; rintro e w2 ⟨rfl, q, rfl⟩; dsimp only)
  have HFq : Fr (w.drewN q) B F := HF.out.keep fun _ _ => rfl
  have HNq : Nx B w B (w.drewN q) := ⟨rfl, rfl, rfl, Nat.le_refl _, fun _ _ _ => rfl, fun _ hh => .inl hh, rfl⟩
  have hc2 := unlist_F (w.drewN q) B F a m HFq (by omega) HM.out (by omega) HME.out (by have := HSH.out (kindOf m) (by have := kind_le (n := m) (by omega); omega); omega)
  have HNQ := Lib.hid HNq; clear HNq HFq
  go_upto_region 8 with (go_at_call 70; refine hc2.mono ?_; rintro e w3 ⟨rfl, B3, hF3, hN3⟩; dsimp only)
  have e3 := hN3.r
  have hsl : ((unlistF F a m).ls (kindOf (m - n))).length ≤ 200000 := by
    have h17 := kind_le (n := m - n) (by omega)
    have h5 := HSH.out (kindOf (m - n)) (by omega)
    unfold unlistF
    dsimp only
    by_cases e : kindOf (m - n) = kindOf m
    · rw [e, upd_same]; unfold strike; rw [List.length_take]; rw [e] at h5; rw [List.length_set]; omega
    · rw [upd_other _ _ e]; exact h5
  have hc3 := list_F w3 B3 (unlistF F a m) (a + n) (m - n) hF3 (by show a + n + (m - n) ≤ F.opn.length; omega) (by omega)
  rw [e3] at hc3
  have HN3 := Lib.hid (HNQ.out.trans hN3)
  clear hc2 hN3
  go_upto_region 9 with (go_at_call 68; refine hc3.mono ?_; rintro e w4 ⟨rfl, B4, hF4, hN4⟩; dsimp only)
  have e4 : B4.r = B.r := hN4.r.trans e3
  have hsame : (listF (unlistF F a m) (a + n) (m - n)).opn = F.opn ∧ (listF (unlistF F a m) (a + n) (m - n)).words = F.words := by
    unfold listF; split <;> exact ⟨rfl, rfl⟩
  have hc4 := fill_F w4 B4 (listF (unlistF F a m) (a + n) (m - n)) a n false hF4 (by rw [hsame.1]; omega) (by rw [hsame.2]; omega) (by rw [hsame.2]; omega)
  rw [e4] at hc4
  have HN4 := Lib.hid (HN3.out.trans hN4)
  clear hc3 hN4 hF3 hF4
  go_wp2_with (go_at_call 67; refine hc4.mono ?_; rintro e w5 ⟨rfl, B5, hF5, hN5⟩; dsimp only)
  go_ret2
  exact ⟨rfl, B5, hF5, HN4.out.trans hN5⟩
end Go.Proofs.Ytljgnmbjidkjnaa.Fr
