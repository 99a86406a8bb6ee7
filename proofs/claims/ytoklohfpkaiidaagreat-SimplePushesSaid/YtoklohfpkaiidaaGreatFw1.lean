/- Frames: homes further out. -/
import Derived.Test.YtoklohfpkaiidaaGreatB5
import Derived.WalkMore
namespace Go.Proofs.YtoklohfpkaiidaaGreat.Obj
open Go.Proofs.YtoklohfpkaiidaaGreat.Gen Go.Proofs.YtoklohfpkaiidaaGreat.Base Go.ChangeShapes Go.WideShapes Go.ChangeAt Go.RowKit
set_option linter.unusedVariables false
/-- Frames, each one's home the next one: K homes outwards; the last one has none. -/
structure MS.chain (M : MS) (c bl : Nat → Int) (K : Nat) : Prop where
  frame : ∀ j, j ≤ K → ∃ sn mn, M.isF (c j) sn mn (bl j)
  home : ∀ j, j < K → bl j ≠ 0 ∧ (M.get (bl j) 0).2 = c (j + 1)
  last : bl K = 0
section
variable {w u : World} {m li : Nat} {lv dv : Value} {M : MS} {c bl : Nat → Int} {K : Nat}
set_option maxHeartbeats 2000000 in
set_option maxRecDepth 100000 in
theorem fr_further (h : MemAt w m li lv dv M) (hC : M.chain c bl K) (n : Nat) (hn : n ≤ 8) : Calls Tryz.prog 85 #[.pointer (some ⟨m, 0, none⟩), .int .i64 (c 0), .int .i64 (n : Int)] w fun e w' => (∃ x : Int, e = .returned (.tuple #[.int .i64 x, .bool (decide (n ≤ K))]) ∧ (n ≤ K → x = c n)) ∧ Below w.heap.size w w' := by
  have HIS := Lib.hid fun u (hb : Below w.heap.size w u) j (hj : j ≤ K) => (let ⟨sn, mn, hI⟩ := hC.frame j hj; fr_Is (h.below hb) hI)
  have HG5 : Hid (∀ u, Below w.heap.size w u → ∀ j, j ≤ K → Calls Tryz.prog 24 #[.pointer (some ⟨m, 0, none⟩), .int .i64 (c j), .int .i64 5] u fun e w' => e = .returned (.agg #[.bool true, .int .i64 (bl j)]) ∧ Below u.heap.size u w') := Lib.hid fun u hb j hj => by
    obtain ⟨sn, mn, hI⟩ := hC.frame j hj
    have := me_Get2 (h.below hb) (c j) 5
    rw [hI.block] at this
    exact this
  have HG0 := Lib.hid fun u (hb : Below w.heap.size w u) (id : Int) => me_Get2 (h.below hb) id 0
  have HC := Lib.hid hC
  have hvn := val_N
  clear h hC
  go_enter Tryz.func85, Tryz.ntmps85
  have b1 : ¬ (n : Int) < 0 := by omega
  have b2 : ¬ 8 < (n : Int) := by omega
  go_wp2_with fail
  apply wp_scope_straight
  go_wp2_with (first
    | (go_at_call 41; (with_reducible refine (HIS.out _ (Below.refl _ _) 0 (Nat.zero_le _)).mono ?_); rintro e u1 ⟨rfl, hb1⟩; have HB := Lib.hid hb1; clear hb1; dsimp only))
  go_step3
  go_wp2_with fail
  go_loopw [1, 8, 23] (fun v1 v8 v23 wr => ∃ k : Nat, k ≤ n ∧ k ≤ K ∧ v1 = .int .i64 (c k) ∧ v8 = .bool true ∧ v23 = .int .i64 k ∧ Below w.heap.size w wr) (fun v1 v8 v23 wr => n - (intOf v23).toNat)
  case atStart => exact ⟨0, by omega, by omega, rfl, rfl, rfl, HB.out⟩
  case round =>
    obtain ⟨k, hk, hkK, rfl, rfl, rfl, hb⟩ := hrel
    have HBR := Lib.hid hb
    clear hb
    by_cases hlt : k < n
    · have t1 : (k : Int) < (n : Int) := by omega
      have hg5 := fun u hb => HG5.out u hb k hkK
      have HG5k := Lib.hid hg5
      clear hg5
      by_cases hK : k < K
      · obtain ⟨hbl, hnx⟩ := HC.out.home k hK
        have hg0 := fun u hb => HG0.out u hb (bl k)
        rw [hnx] at hg0
        have HG0k := Lib.hid hg0
        clear hg0 hnx
        have hne : (bl k == 0) = false := by simpa using hbl
        have hne2 : (bl k != 0) = true := by simpa using hbl
        have hK1 : k + 1 ≤ K := hK
        go_wp2_with (first
          | (go_at_call 24; (with_reducible refine (HG5k.out _ HBR.out).mono ?_); rintro e u2 ⟨rfl, hb2⟩; have HBR := Lib.hid (HBR.out.trans (hb2.mono HBR.out.size)); clear hb2; dsimp only)
          | (go_at_call 24; (with_reducible refine (HG0k.out _ HBR.out).mono ?_); rintro e u3 ⟨rfl, hb3⟩; have HBR := Lib.hid (HBR.out.trans (hb3.mono HBR.out.size)); clear hb3; dsimp only)
          | (go_at_call 41; (with_reducible refine (HIS.out _ HBR.out (k + 1) hK1).mono ?_); rintro e u4 ⟨rfl, hb4⟩; have HBR := Lib.hid (HBR.out.trans (hb4.mono HBR.out.size)); clear hb4; dsimp only))
        exact ⟨⟨k + 1, by omega, hK1, rfl, rfl, by simp, HBR.out⟩, by simp only [intOf]; omega⟩
      · obtain rfl : k = K := by omega
        have hbl := HC.out.last
        have hd : decide (n ≤ k) = false := by simp; omega
        go_wp2_with (go_at_call 24; (with_reducible refine (HG5k.out _ HBR.out).mono ?_); rintro e u2 ⟨rfl, hb2⟩; have HBR := Lib.hid (HBR.out.trans (hb2.mono HBR.out.size)); clear hb2; rw [hbl]; dsimp only)
        rw [Exit.noGoto_ret]
        go_ret2
        exact ⟨⟨c k, by rw [hd]; rfl, fun e => absurd e (by omega)⟩, HBR.out⟩
    · obtain rfl : k = n := by omega
      have hd : decide (k ≤ K) = true := by simpa using hkK
      go_wp2_with fail
      rw [Exit.noGoto_ret]
      go_ret2
      exact ⟨⟨c k, by rw [hd]; rfl, fun _ => rfl⟩, HBR.out⟩
end
end Go.Proofs.YtoklohfpkaiidaaGreat.Obj
