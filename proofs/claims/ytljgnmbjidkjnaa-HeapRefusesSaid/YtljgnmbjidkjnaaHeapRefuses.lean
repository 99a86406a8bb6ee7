/- The law HeapRefuses returns true at every input, and leaves its arguments as they were. No condition. -/
import Derived.Test.YtljgnmbjidkjnaaRows
import Derived.WalkKit
import Derived.ProofKit
import Derived.OpenShut
import Derived.Test.YtljgnmbjidkjnaaL05
import Derived.Great.BuildSlice
import Derived.Deep.WholeRow
import Derived.Deep.MidRow
import Derived.ShutString
import Derived.ChangeOld
import Derived.Below
namespace Go.Proofs.Ytljgnmbjidkjnaa.heapRefuses
open Go.ChangeShapes Go.WideShapes Go.ChangeAt Go.RowKit
open Go.ChangeMaps (open_string shut_string)

open Go.Proofs.Ytljgnmbjidkjnaa.Gen Go.Proofs.Ytljgnmbjidkjnaa.Base Go.Proofs.Ytljgnmbjidkjnaa.Fr Go.Proofs.Ytljgnmbjidkjnaa.Hp
set_option linter.unusedVariables false

theorem own : ownKnob Try.prog.godebug = none := by kernel_rfl
theorem laidOut : laidOutB Try.prog = true := by kernel_rfl
def z32 : Array Value := ⟨List.replicate 32 (.int .i64 0)⟩
theorem z32_run (w : World) : Sem.run Try.prog (zeroValue 58) w = .ok (.agg z32) w := by kernel_rfl
def R32 (M : Nat) : Array Value := #[.int .i64 0, .int .i64 1, .int .i64 0, .int .i64 1, .int .i64 (3 + (M : Int)), .int .i64 1, .int .i64 0, .int .i64 1, .int .i64 1, .int .i64 (60 + (M : Int)), .int .i64 0, .int .i64 1, .int .i64 2, .int .i64 (-(M : Int)), .int .i64 0, .int .i64 1, .int .i64 3, .int .i64 (200 + (M : Int)), .int .i64 0, .int .i64 1, .int .i64 1, .int .i64 1, .int .i64 (-(M : Int)), .int .i64 1, .int .i64 1, .int .i64 1, .int .i64 (65536 + (M : Int)), .int .i64 1, .int .i64 1, .int .i64 1, .int .i64 0, .int .i64 (3000 + (M : Int))]
def rr (M : Nat) (k j : Nat) : Int := match k, j with
  | 0, 0 => 0
  | 0, 1 => 1
  | 0, 2 => 0
  | 0, 3 => 1
  | 1, 0 => (3 + (M : Int))
  | 1, 1 => 1
  | 1, 2 => 0
  | 1, 3 => 1
  | 2, 0 => 1
  | 2, 1 => (60 + (M : Int))
  | 2, 2 => 0
  | 2, 3 => 1
  | 3, 0 => 2
  | 3, 1 => (-(M : Int))
  | 3, 2 => 0
  | 3, 3 => 1
  | 4, 0 => 3
  | 4, 1 => (200 + (M : Int))
  | 4, 2 => 0
  | 4, 3 => 1
  | 5, 0 => 1
  | 5, 1 => 1
  | 5, 2 => (-(M : Int))
  | 5, 3 => 1
  | 6, 0 => 1
  | 6, 1 => 1
  | 6, 2 => (65536 + (M : Int))
  | 6, 3 => 1
  | 7, 0 => 1
  | 7, 1 => 1
  | 7, 2 => 0
  | 7, 3 => (3000 + (M : Int))
  | _, _ => 0
theorem rr_at (M k j : Nat) (hk : k < 8) (hj : j < 4) : (R32 M)[k * 4 + j]? = some (.int .i64 (rr M k j)) := by
  have hk' : k = 0 ∨ k = 1 ∨ k = 2 ∨ k = 3 ∨ k = 4 ∨ k = 5 ∨ k = 6 ∨ k = 7 := by omega
  have hj' : j = 0 ∨ j = 1 ∨ j = 2 ∨ j = 3 := by omega
  rcases hk' with rfl | rfl | rfl | rfl | rfl | rfl | rfl | rfl <;> rcases hj' with rfl | rfl | rfl | rfl <;> rfl
theorem rr_bad (M k : Nat) (hM : 1 ≤ M) (hk : k < 8) : mayB (rr M k 0) (rr M k 1) = false ∨ rr M k 2 < 0 ∨ 65536 < rr M k 2 ∨ rr M k 3 < 0 ∨ 3000 < rr M k 3 := by
  have hk' : k = 0 ∨ k = 1 ∨ k = 2 ∨ k = 3 ∨ k = 4 ∨ k = 5 ∨ k = 6 ∨ k = 7 := by omega
  rcases hk' with rfl | rfl | rfl | rfl | rfl | rfl | rfl | rfl <;> simp only [rr, mayB] <;> first | (left; rfl) | (left; split <;> simp <;> omega) | (left; simp; omega) | omega
theorem range_rr (u : World) (M k : Nat) (hk : k < 8) : (u.alloc (.cells (R32 M) 58)).rangeAt u.heap.size (k * 4) [.int .i64 (rr M k 0), .int .i64 (rr M k 1), .int .i64 (rr M k 2), .int .i64 (rr M k 3)] := by
  intro j v hj
  have hj4 : j < 4 := by have := (List.getElem?_eq_some_iff.1 hj).1; simpa using this
  rw [World.cell?_alloc_new, rr_at M k j hk hj4]
  have hj' : j = 0 ∨ j = 1 ∨ j = 2 ∨ j = 3 := by omega
  rcases hj' with rfl | rfl | rfl | rfl <;> simpa using hj
def z4 : Array Value := #[.int .i64 0, .int .i64 0, .int .i64 0, .int .i64 0]
theorem z4_run (w : World) : Sem.run Try.prog (zeroValue 57) w = .ok (.agg z4) w := by kernel_rfl
theorem nextN_none (n f k : Nat) : nextN (List.replicate n false) f k = 0 := by
  induction f generalizing k with
  | zero => rfl
  | succ f ih =>
    have : o (List.replicate n false) k = false := by rw [o_rep]; split <;> rfl
    rw [nextN, this]; exact ih _
theorem next_none (n : Nat) (x : Int) : ((nextB (List.replicate n false) x : Nat) : Int) = 0 := by unfold nextB; rw [nextN_none]; rfl
theorem has_none (n : Nat) (x : Int) : hasB (List.replicate n false) x = false := by
  unfold hasB; split
  · rw [o_rep]; split <;> rfl
  · rfl

set_option maxRecDepth 100000 in
set_option maxHeartbeats 16000000 in
theorem walk (a0 : Int) (a1 : Int) (w : World) (w0 : (Lit.int .i64 a0).wf = true) (w1 : (Lit.int .i64 a1).wf = true) :
    Calls Try.prog 7 #[.int .i64 a0, .int .i64 a1] w fun e w' => e = .returned (.bool true) ∧ Below w.heap.size w w' := by
  have hn : Calls Try.prog 9 #[.int .i64 500] w fun e w' => ∃ X, e = .returned (.pointer (some ⟨X.h, 0, none⟩)) ∧ HpAt w' X (List.replicate 500 0) (List.replicate 500 true) (List.replicate 500 false) ∧ HOwn w w' X := hp_New 500 (by omega) w
  have hz32 := z32_run
  go_enter Try.func7, Try.ntmps7
  go_wp2_with (go_at_call 9; refine hn.mono ?_; rintro e u1 ⟨X, rfl, hA, hO⟩; dsimp only)
  refine (place_gen a1 1000 (by omega) (by omega) w1 _).mono ?_
  rintro e w' ⟨m, m0, m1, rfl, rfl⟩
  obtain ⟨m, rfl⟩ := Int.eq_ofNat_of_zero_le m0
  obtain ⟨M, hM, hM2⟩ : ∃ M : Nat, 1 + (m : Int) = (M : Int) ∧ M = m + 1 := ⟨m + 1, by push_cast; omega, rfl⟩
  have hM3 : 1 ≤ M := by omega
  have hM4 : M ≤ 1000 := by omega
  clear hM2
  have HA := Lib.hid hA; have HO := Lib.hid hO
  clear hA hO hn
  dsimp only
  go_upto_region 6 with (first | (with_reducible refine wpList_buildTo (o := ⟨some 19, _, _, _, _, _⟩) rfl _ _ rfl (some 19) rfl #[.int .i64 0, .int .i64 1, .int .i64 0, .int .i64 1] (by kernel_rfl) ?_) | (with_reducible refine wpList_buildTo (o := ⟨some 22, _, _, _, _, _⟩) rfl _ _ rfl (some 22) rfl #[.int .i64 (3 + (M : Int)), .int .i64 1, .int .i64 0, .int .i64 1] (by kernel_rfl) ?_) | (with_reducible refine wpList_buildTo (o := ⟨some 25, _, _, _, _, _⟩) rfl _ _ rfl (some 25) rfl #[.int .i64 1, .int .i64 (60 + (M : Int)), .int .i64 0, .int .i64 1] (by kernel_rfl) ?_) | (with_reducible refine wpList_buildTo (o := ⟨some 28, _, _, _, _, _⟩) rfl _ _ rfl (some 28) rfl #[.int .i64 2, .int .i64 (-(M : Int)), .int .i64 0, .int .i64 1] (by kernel_rfl) ?_) | (with_reducible refine wpList_buildTo (o := ⟨some 31, _, _, _, _, _⟩) rfl _ _ rfl (some 31) rfl #[.int .i64 3, .int .i64 (200 + (M : Int)), .int .i64 0, .int .i64 1] (by kernel_rfl) ?_) | (with_reducible refine wpList_buildTo (o := ⟨some 34, _, _, _, _, _⟩) rfl _ _ rfl (some 34) rfl #[.int .i64 1, .int .i64 1, .int .i64 (-(M : Int)), .int .i64 1] (by kernel_rfl) ?_) | (with_reducible refine wpList_buildTo (o := ⟨some 37, _, _, _, _, _⟩) rfl _ _ rfl (some 37) rfl #[.int .i64 1, .int .i64 1, .int .i64 (65536 + (M : Int)), .int .i64 1] (by kernel_rfl) ?_) | (with_reducible refine wpList_buildTo (o := ⟨some 40, _, _, _, _, _⟩) rfl _ _ rfl (some 40) rfl #[.int .i64 1, .int .i64 1, .int .i64 0, .int .i64 (3000 + (M : Int))] (by kernel_rfl) ?_) | (with_reducible refine wpList_buildTo (o := ⟨some 41, _, _, _, _, _⟩) rfl _ _ rfl (some 41) rfl (R32 M) (by kernel_rfl) ?_) | (with_reducible refine wpList_store_row (o := ⟨none, .store 58 _ _, _, _, _, _⟩) rfl _ _ _ rfl u1.heap.size (R32 M) rfl rfl _ z32 (heap_alloc_new u1 _) (by kernel_rfl) (by kernel_rfl) (by kernel_rfl) ?_))
  rw [World.setRow_alloc_new]
  generalize hu2 : u1.alloc (.cells (R32 M) 58) = u2
  have hb2 : Below u1.heap.size u1 u2 := by rw [← hu2]; exact (Below.refl _ _).alloc (Nat.le_refl _) _
  have HA2 := Lib.hid (HA.out.below hb2); have HO2 := Lib.hid (HO.out.grow hb2)
  have hrg : ∀ k, k < 8 → u2.rangeAt u1.heap.size (k * 4) [.int .i64 (rr M k 0), .int .i64 (rr M k 1), .int .i64 (rr M k 2), .int .i64 (rr M k 3)] := fun k hk => by rw [← hu2]; exact range_rr u1 M k hk
  have HRG := Lib.hid hrg
  generalize u1.heap.size = g at *
  clear hrg hu2 hb2 HA HO hz32
  generalize R32 M = RM at *
  go_wp2_with fail
  refine (place_gen a0 8 (by omega) (by omega) w0 _).mono ?_
  rintro e w' ⟨k, k0, k1, rfl, rfl⟩
  obtain ⟨k, rfl⟩ := Int.eq_ofNat_of_zero_le k0
  have hk8 : k < 8 := by omega
  have hrg := HRG.out k hk8
  have hbad := rr_bad M k hM3 hk8
  generalize rr M k 0 = r0 at *
  generalize rr M k 1 = r1 at *
  generalize rr M k 2 = r2 at *
  generalize rr M k 3 = r3 at *
  have cc0 : u2.cell? ⟨g, k * 4, none⟩ = some (.int .i64 r0) := hrg 0 _ rfl
  have cc1 : u2.cell? ⟨g, k * 4 + 1, none⟩ = some (.int .i64 r1) := hrg 1 _ rfl
  have cc2 : u2.cell? ⟨g, k * 4 + 2, none⟩ = some (.int .i64 r2) := hrg 2 _ rfl
  have cc3 : u2.cell? ⟨g, k * 4 + 3, none⟩ = some (.int .i64 r3) := hrg 3 _ rfl
  have HBD := Lib.hid hbad
  clear hrg hbad HRG
  have hz4 := z4_run
  dsimp only
  go_upto_region 7 with (first
    | (with_reducible refine wpList_store_row (o := ⟨none, .store 57 _ _, _, _, _, _⟩) rfl _ _ _ rfl u2.heap.size #[.int .i64 r0, .int .i64 r1, .int .i64 r2, .int .i64 r3] rfl rfl _ z4 (heap_alloc_new u2 _) (by kernel_rfl) (by kernel_rfl) (by kernel_rfl) ?_))
  rw [World.setRow_alloc_new]
  generalize hu3 : u2.alloc (.cells #[.int .i64 r0, .int .i64 r1, .int .i64 r2, .int .i64 r3] 57) = u3
  have hb3 : Below u2.heap.size u2 u3 := by rw [← hu3]; exact (Below.refl _ _).alloc (Nat.le_refl _) _
  have HA3 := Lib.hid (HA2.out.below hb3); have HO3 := Lib.hid (HO2.out.grow hb3)
  have d0 : u3.cell? ⟨u2.heap.size, 0, none⟩ = some (.int .i64 r0) := by rw [← hu3]; exact new_cell _ _ _ rfl
  have d1 : u3.cell? ⟨u2.heap.size, 1, none⟩ = some (.int .i64 r1) := by rw [← hu3]; exact new_cell _ _ _ rfl
  have d2 : u3.cell? ⟨u2.heap.size, 2, none⟩ = some (.int .i64 r2) := by rw [← hu3]; exact new_cell _ _ _ rfl
  have d3 : u3.cell? ⟨u2.heap.size, 3, none⟩ = some (.int .i64 r3) := by rw [← hu3]; exact new_cell _ _ _ rfl
  generalize u2.heap.size = g2 at *
  have hc := hp_Make_no HA3.out r0 r1 r2 r3 HBD.out
  have hw := hp_Words HA3.out
  rw [cnt_rep, List.length_replicate] at hw
  have hx := fun q => hp_Next (HA3.out.keep (w' := u3.drewN q) fun _ _ => rfl) 0 (by decide)
  rw [next_none] at hx
  have hs := fun q => hp_Size (HA3.out.keep (w' := u3.drewN q) fun _ _ => rfl) 1 (by decide)
  rw [has_none] at hs
  have hm := fun q => hp_SetMark_no (HA3.out.keep (w' := u3.drewN q) fun _ _ => rfl) 1 1 true (by decide) (has_none _ _)
  clear hu3 hb3 HA2 HO2 hz4 cc0 cc1 cc2 cc3
  go_wp2_with (first
    | (go_at_call 12; (with_reducible refine hc.mono ?_); rintro e w2 ⟨rfl, rfl⟩; dsimp only)
    | (go_at_call 29; (with_reducible refine hw.mono ?_); rintro e w2 ⟨rfl, q, rfl⟩; have hx' := hx q; have hs' := hs q; have hm' := hm q; clear hx hs hm; dsimp only)
    | (go_at_call 30; (with_reducible refine hx'.mono ?_); rintro e w2 ⟨rfl, rfl⟩; dsimp only)
    | (go_at_call 27; (with_reducible refine hs'.mono ?_); rintro e w2 ⟨rfl, rfl⟩; dsimp only)
    | (go_at_call 23; (with_reducible refine hm'.mono ?_); rintro e w2 ⟨rfl, rfl⟩; dsimp only)
    | (go_at_call 8; refine (awake_any _).mono ?_; rintro e w6 ⟨rfl, hb6⟩; dsimp only))
  go_ret
  exact ⟨rfl, (HO3.out.below.trans (below_drewN (Below.refl _ _) q)).trans (hb6.mono HO3.out.below.size)⟩

set_option maxRecDepth 100000 in
theorem lifted (os : Os) (started : os.Started) (H : Type) (enc : TypeId × Value → H) :
    ReturnsInHanded {} Try.checked os 7 .any (Rows.heapRefusesSpec.pre6 enc Try.prog Try.f7 Rows.heapRefusesRow.domain false) (Rows.heapRefusesSpec.post enc Try.prog Try.f7 false true false false) := by
  refine returnsInHanded_of_change (C := Try.checked) own started (by kernel_rfl) Try.func7
    (ChangeSpec.witness6 (enc := enc) (C := Try.checked) false ⟨#[], #[.int .i64 0, .int .i64 0], []⟩ 8 (by kernel_rfl) (by kernel_rfl) (by kernel_rfl) (by kernel_rfl)) ?_
  intro W base args ds gs before hval0 hW hcnd _
  have hval : ∀ (j : Nat) t v, Try.f7.params[j]? = some t → args[j]? = some v → Value.okWide Try.prog W .any base t v := hval0
  have hW' := hW
  obtain ⟨p, q, hA0, hV, rfl, hfz, hnd⟩ := hW
  have hA : DataW.TrodAll enc Try.prog W 0 (fun _ => true) true Try.f7.params.toList args.toList ds p := hA0
  rw [Try.params7] at hA hval
  obtain ⟨v0, vs0, d0, ds0, p0, q0, hargs, rfl, rfl, h0, r0⟩ := trodAll_cons hA
  obtain ⟨v1, vs1, d1, ds1, p1, q1, rfl, rfl, rfl, h1, r1⟩ := trodAll_cons r0
  obtain ⟨rfl, rfl, rfl⟩ := trodAll_nil r1
  obtain rfl : args = #[v0, v1] := by cases args; simp_all
  obtain ⟨rfl, rfl⟩ := trodVars_none hV
  obtain ⟨a0, rfl, rfl, rfl, w0⟩ := open_int Try.underlying3 (hval 0 3 v0 rfl rfl) h0
  obtain ⟨a1, rfl, rfl, rfl, w1⟩ := open_int Try.underlying3 (hval 1 3 v1 rfl rfl) h1
  clear hA0 hval0
  refine (walk a0 a1 W w0 w1).mono fun e W' ⟨he, bel⟩ => ?_
  subst he
  exact ⟨_, rfl, _, _, _, [], _, [], hW', trodAll_mk1 (shut_bool Try.underlying4 _), (trodAll_cons_mk (shut_int Try.underlying3 w0) (trodAll_cons_mk (shut_int Try.underlying3 w1) trodAll_mk0)), rfl, bel.frame _, fun h => by cases h⟩

theorem over : Rows.heapRefusesRow.holds Try.pinned (OpenSpec.ofChange Rows.heapRefusesSpec) :=
  OpenClaim.holds_of_wide 7 Try.f7 rfl rfl rfl rfl rfl rfl rfl ⟨rfl, rfl, rfl, rfl, rfl⟩ rfl rfl rfl rfl rfl (by kernel_rfl) Try.func7 (by kernel_rfl)
    (of_decide_eq_true (by kernel_rfl)) (by unfold Func.isWrapper; first | (rw [if_pos (by decide +kernel)]; kernel_rfl) | (rw [if_neg (by decide +kernel)]; exact ⟨rfl, rfl⟩))
    (fun os started H enc _ => lifted os started H enc)

/-- THE STATEMENT -/
theorem proved : Rows.HeapRefusesSaid := over
#print axioms proved
end Go.Proofs.Ytljgnmbjidkjnaa.heapRefuses
