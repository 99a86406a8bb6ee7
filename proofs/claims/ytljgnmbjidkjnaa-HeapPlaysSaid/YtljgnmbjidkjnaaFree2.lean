/- Words, Is, fill and taken of package free. -/
import Derived.Test.YtljgnmbjidkjnaaFree
namespace Go.Proofs.Ytljgnmbjidkjnaa.Fr
open Go.Proofs.Ytljgnmbjidkjnaa.Gen Go.Proofs.Ytljgnmbjidkjnaa.Base Go.Proofs.Ytljgnmbjidkjnaa.Bt Go.ChangeShapes Go.WideShapes Go.ChangeAt Go.RowKit
set_option linter.unusedVariables false
theorem words_any (w : World) (B : FB) (F : FS) (h : Fr w B F) :
    Calls Try.prog 66 #[.pointer (some ⟨B.r, 0, none⟩)] w fun e w' => e = .returned (.int .i64 F.words) ∧ w = w' := by
  have c := h.cw
  go_enter Try.func66, Try.ntmps66
  go_wp2
  go_ret
  exact ⟨rfl, rfl⟩
/-- Is a place free? -/
def isB (l : List Bool) (x : Int) : Bool := if 0 ≤ x ∧ x < l.length then l[x.toNat]?.getD false else false
/-- n places from a on, each set to v. -/
def setR (l : List Bool) (a : Nat) : Nat → Bool → List Bool
  | 0, _ => l
  | n + 1, v => (setR l a n v).set (a + n) v
theorem setR_len (l : List Bool) (a n : Nat) (v : Bool) : (setR l a n v).length = l.length := by
  induction n with
  | zero => rfl
  | succ n ih => simp [setR, ih]
set_option maxHeartbeats 1000000 in
theorem fill_any (w : World) (B : FB) (F : FS) (a n : Nat) (v : Bool) (h : Fr w B F) (hn : a + n ≤ F.opn.length) (hw0 : -1000000 ≤ F.words) (hw1 : F.words ≤ 1000000) :
    Calls Try.prog 67 #[.pointer (some ⟨B.r, 0, none⟩), .int .i64 a, .int .i64 n, .bool v] w
      fun e w' => e = .returned (.tuple #[]) ∧ Fr w' B { F with opn := setR F.opn a n v, words := F.words + (if v then (n : Int) else -(n : Int)) } ∧ Nx B w B w' := by
  have hle := h.le
  go_enter Try.func67, Try.ntmps67
  go_wp2_with fail
  go_loopw [8] (fun v8 wr => ∃ i : Nat, i ≤ n ∧ v8 = .int .i64 ((a : Int) + (i : Int)) ∧ Fr wr B { F with opn := setR F.opn a i v } ∧ Nx B w B wr) (fun v8 wr => a + n - (intOf v8).toNat)
  case atStart => exact ⟨0, by omega, by simp, h, Nx.refl _ _⟩
  case round =>
    obtain ⟨i, i0', rfl, hr, hk⟩ := hrel
    by_cases hi' : i < n
    · have c0 := hr.c0
      have f1 := hr.fo (a + i)
      have c1 := hr.co (a + i) (by simp only [setR_len]; omega)
      have hset := Lib.hid (hr.setOpn (a + i) v)
      simp only [setR_len] at c0 hset
      generalize (setR F.opn a i v)[a + i]?.getD false = V at *
      have t1 : (a : Int) + (i : Int) < (F.opn.length : Int) := by omega
      have t0 : (0 : Int) ≤ (a : Int) + (i : Int) := by omega
      have t2 : ((a : Int) + (i : Int)).toNat = a + i := by omega
      have t3 : (a : Int) + (i : Int) < (a : Int) + (n : Int) := by omega
      go_wp2_with fail
      refine ⟨⟨i + 1, by omega, by rw [show ((a : Int) + (i : Int) + 1) = (a : Int) + ((i + 1 : Nat) : Int) by push_cast; omega], hset.out, hk.setCell _ _ _ (.inr (.inl rfl))⟩, by simp only [intOf]; omega⟩
    · have e : i = n := by omega
      subst e
      have c2 := hr.cw
      have f2 := hr.fz 21
      have wf1 : IntKind.i64.wrap (-(i : Int)) = -(i : Int) := IntWalk.i64_in _ ⟨by omega, by omega⟩
      have HS := Lib.hid hr; have HK := Lib.hid hk
      clear hr hk
      cases v
      · go_wp2_with fail
        go_end0
        exact ⟨rfl, HS.out.setWords _, HK.out.setCell _ _ _ (.inl rfl)⟩
      · go_wp2_with fail
        go_end0
        exact ⟨rfl, HS.out.setWords _, HK.out.setCell _ _ _ (.inl rfl)⟩
theorem taken_no (w : World) (B : FB) (F : FS) (x n : Int) (h : Fr w B F) (hx : n < 1 ∨ (F.opn.length : Int) < n ∨ x < 0 ∨ (F.opn.length : Int) - n < x) :
    Calls Try.prog 74 #[.pointer (some ⟨B.r, 0, none⟩), .int .i64 x, .int .i64 n] w fun e w' => e = .returned (.bool false) ∧ w = w' := by
  have c0 := h.c0
  have hle := h.le
  by_cases h1 : n < 1
  · go_enter Try.func74, Try.ntmps74
    go_wp2
    go_ret
    exact ⟨rfl, rfl⟩
  · by_cases h2 : (F.opn.length : Int) < n
    · have d2 : decide ((F.opn.length : Int) < n) = true := by simpa using h2
      go_enter Try.func74, Try.ntmps74
      go_wp2
      go_ret
      exact ⟨rfl, rfl⟩
    · have d2 : decide ((F.opn.length : Int) < n) = false := by simpa using h2
      by_cases h3 : x < 0
      · go_enter Try.func74, Try.ntmps74
        go_wp2
        go_ret
        exact ⟨rfl, rfl⟩
      · have h4 : (F.opn.length : Int) - n < x := by omega
        have wf1 : IntKind.i64.wrap ((F.opn.length : Int) - n) = (F.opn.length : Int) - n := IntWalk.i64_in _ ⟨by omega, by omega⟩
        go_enter Try.func74, Try.ntmps74
        go_wp2
        go_ret
        exact ⟨rfl, rfl⟩
/-- The places a .. a+n-1 lie within: the first i of them are not free; what then? -/
theorem taken_in (w : World) (B : FB) (F : FS) (a n : Nat) (v : Bool) (h : Fr w B F) (h1 : 1 ≤ n) (h2 : a + n ≤ F.opn.length)
    (hv : if v then (∀ i, i < n → F.opn[a + i]?.getD false = false) else (∃ j, j < n ∧ F.opn[a + j]?.getD false = true)) :
    Calls Try.prog 74 #[.pointer (some ⟨B.r, 0, none⟩), .int .i64 a, .int .i64 n] w fun e w' => e = .returned (.bool v) ∧ w = w' := by
  have c0 := h.c0
  have hle := h.le
  have d1 : ¬ (n : Int) < 1 := by omega
  have d2 : decide ((F.opn.length : Int) < (n : Int)) = false := by simp; omega
  have d3 : decide ((F.opn.length : Int) - (n : Int) < (a : Int)) = false := by simp; omega
  have wf1 : IntKind.i64.wrap ((F.opn.length : Int) - (n : Int)) = (F.opn.length : Int) - (n : Int) := IntWalk.i64_in _ ⟨by omega, by omega⟩
  have wf2 : IntKind.i64.wrap ((a : Int) + (n : Int)) = (a : Int) + (n : Int) := IntWalk.i64_in _ ⟨by omega, by omega⟩
  have s1 : (a : Int) + (n : Int) ≤ (F.opn.length : Int) := by omega
  have s2 : (a : Int) ≤ (a : Int) + (n : Int) := by omega
  have HF := Lib.hid h; have HV := Lib.hid hv
  clear h hv
  go_enter Try.func74, Try.ntmps74
  go_upto_region 4 with fail
  go_loop [45] (fun v45 => ∃ i : Nat, i ≤ n ∧ v45 = .int .i64 i ∧ ∀ j, j < i → F.opn[a + j]?.getD false = false) (fun v45 => n - (intOf v45).toNat)
  case atStart => exact ⟨0, by omega, rfl, fun j hj => by omega⟩
  case round =>
    obtain ⟨i, i0', rfl, hi⟩ := hrel
    by_cases hi' : i < n
    · have c1 := HF.out.co (a + i) (by omega)
      have t3 : (i : Int) < (n : Int) := by omega
      have t4 : (0 : Int) ≤ (i : Int) := by omega
      cases hb : F.opn[a + i]?.getD false
      · rw [hb] at c1
        have HI := Lib.hid hi; have HB := Lib.hid hb
        clear hi hb
        go_wp2_with fail
        refine ⟨⟨i + 1, by omega, by simp, fun j hj => ?_⟩, by simp only [intOf]; omega⟩
        by_cases e : j = i
        · rw [e]; exact HB.out
        · exact HI.out j (by omega)
      · have e : v = false := by
          cases v
          · rfl
          · have := HV.out; simp only [if_true] at this; rw [this i hi'] at hb; cases hb
        subst e
        rw [hb] at c1
        go_wp2_with fail
        go_ret
        exact ⟨rfl, rfl⟩
    · have e : i = n := by omega
      subst e
      have e : v = true := by
        cases v
        · have := HV.out; simp at this
          obtain ⟨j, hj, hb⟩ := this
          have hj' := hi j hj
          rw [hj'] at hb; cases hb
        · rfl
      subst e
      go_wp2_with fail
      go_ret
      exact ⟨rfl, rfl⟩
end Go.Proofs.Ytljgnmbjidkjnaa.Fr
