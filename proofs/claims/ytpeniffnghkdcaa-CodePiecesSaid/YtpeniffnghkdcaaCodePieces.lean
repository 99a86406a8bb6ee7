/- The law CodePieces returns true at every input, and leaves its arguments as they were. No condition. -/
import Derived.Test.YtpeniffnghkdcaaRows
import Derived.WalkKit
import Derived.ProofKit
import Derived.OpenShut
import Derived.Test.YtpeniffnghkdcaaL13
import Derived.Lib.SmallJoins
import Derived.ShutString
namespace Go.Proofs.Ytpeniffnghkdcaa.codePieces
open Go.ChangeShapes Go.WideShapes Go.ChangeAt Go.RowKit
open Go.ChangeMaps (open_string shut_string)
open Go.Proofs.Ytpeniffnghkdcaa.Gen
open Go.Proofs.Ytpeniffnghkdcaa.Base
open Go.Proofs.Ytpeniffnghkdcaa.Cd
set_option linter.unusedVariables false      -- a walk need not use every 'w<i>' (that an integer argument fits its kind)

theorem own : ownKnob Try.prog.godebug = none := by kernel_rfl

theorem alloc3 {u u' : World} {x0 x1 x2 : Value} {t : TypeId} (g : Gr (u.alloc (.cells #[x0, x1, x2] t)) u') : u.heap.size < u'.heap.size ∧ (u'.cell? ⟨u.heap.size, 0, none⟩ = some x0 ∧ u'.cell? ⟨u.heap.size, 1, none⟩ = some x1 ∧ u'.cell? ⟨u.heap.size, 2, none⟩ = some x2) ∧ (u'.frozen? ⟨u.heap.size, 0, none⟩ = false ∧ u'.frozen? ⟨u.heap.size, 1, none⟩ = false ∧ u'.frozen? ⟨u.heap.size, 2, none⟩ = false) := by
  have z : u.heap.size < u'.heap.size := by have := g.size; simp at this; omega
  refine ⟨z, ⟨g.keep (by simp), g.keep (by simp), g.keep (by simp)⟩, ?_, ?_, ?_⟩ <;> (rw [g.frozen _ _ (by simp)]; simp)
theorem keep3c {u u' : World} {p : Nat} {x0 x1 x2 : Value} (h : u.cell? ⟨p, 0, none⟩ = some x0 ∧ u.cell? ⟨p, 1, none⟩ = some x1 ∧ u.cell? ⟨p, 2, none⟩ = some x2) (o : Obj) {g : Gr (u.alloc o) u'} : u'.cell? ⟨p, 0, none⟩ = some x0 ∧ u'.cell? ⟨p, 1, none⟩ = some x1 ∧ u'.cell? ⟨p, 2, none⟩ = some x2 := by
  have k : ∀ i v, u.cell? ⟨p, i, none⟩ = some v → u'.cell? ⟨p, i, none⟩ = some v := fun i v hh => g.keep (by
    have := World.block_lt_of_cell? _ _ hh
    rw [World.cell?_alloc_lt _ _ _ this]; exact hh)
  exact ⟨k 0 _ h.1, k 1 _ h.2.1, k 2 _ h.2.2⟩
theorem byt_left (x y : ByteArray) (i : Nat) (h : i < x.size) : byt (x ++ y) i = byt x i := by
  unfold byt
  have e : (x ++ y).data.toList = x.data.toList ++ y.data.toList := ByteArray.toList_data_append
  have hl : x.data.toList.length = x.size := Array.length_toList
  rw [e, List.getElem?_append_left (by omega)]
theorem byt_right (x y : ByteArray) (i : Nat) : byt (x ++ y) (x.size + i) = byt y i := by
  unfold byt
  have e : (x ++ y).data.toList = x.data.toList ++ y.data.toList := ByteArray.toList_data_append
  have hl : x.data.toList.length = x.size := Array.length_toList
  rw [e, List.getElem?_append_right (by omega)]
  rw [show x.size + i - x.data.toList.length = i by omega]
/-! ### STEP 1: THE WALK: the Go text returns true. 'Grown w w'': the world has at most new blocks (Derived/RowKit3.lean). Part the cases AHEAD of 'go_enter' where a test parts the walk; take each callee by a contract of your own. -/
set_option maxRecDepth 100000 in
set_option maxHeartbeats 16000000 in
theorem walk (a0 : ByteArray) (a1 : ByteArray) (a2 : Int) (w0 : a0.size ≤ maxLen) (w1 : a1.size ≤ maxLen) (w2 : (Lit.int .i64 a2).wf = true) (w : World) :
    Calls Try.prog 6 #[.string a0, .string a1, .int .i64 a2] w fun e w' => e = .returned (.bool true) ∧ Grown w w' := by
  unfold maxLen at w0 w1
  by_cases ha : 300 < a0.size
  · go_enter Try.func6, Try.ntmps6
    go_wp2_with fail
    refine (awake_any _).mono ?_; rintro e u1 ⟨rfl, g1⟩
    go_wp2_with fail
    go_ret
    exact ⟨rfl, g1.toGrown⟩
  · by_cases hb : 300 < a1.size
    · go_enter Try.func6, Try.ntmps6
      go_wp2_with fail
      refine (awake_any _).mono ?_; rintro e u1 ⟨rfl, g1⟩
      go_wp2_with fail
      go_ret
      exact ⟨rfl, g1.toGrown⟩
    · have q1 : a0.size / 3 * 3 ≤ a0.size := by omega
      have hx : (a0.extract 0 (a0.size / 3 * 3)).size = a0.size / 3 * 3 := by simp; omega
      go_enter Try.func6, Try.ntmps6
      go_wp2_with fail
      refine (place_any _ _ (by omega) (by omega) w2 _).mono ?_; rintro e w' ⟨rfl, rfl⟩
      have m0 : 0 ≤ a2 % 250 ∧ a2 % 250 < 250 := by omega
      rw [← hx] at q1
      generalize hxx : a0.extract 0 (a0.size / 3 * 3) = x at *
      have HXX := Lib.hid hxx; clear hxx
      obtain ⟨n, hn⟩ : ∃ n : Nat, a0.size / 3 = n := ⟨_, rfl⟩
      rw [hn] at hx
      have n1 : n ≤ 100 := by omega
      have HN := Lib.hid (show a0.size / 3 = n from hn); clear hn
      obtain ⟨m, hm⟩ : ∃ m : Nat, a2 % 250 = (m : Int) := ⟨(a2 % 250).toNat, by omega⟩
      rw [hm] at m0 ⊢; clear hm
      have xs : x.size ≤ 9223372036854775807 := by omega
      have bs : a1.size ≤ 9223372036854775807 := by omega
      have ys : (x ++ a1).size ≤ 9223372036854775807 := by simp; omega
      have yz : (x ++ a1).size = x.size + a1.size := by simp
      have D1 := Lib.hid (show x.size / 3 = n by omega)
      have D2 := Lib.hid (show (x ++ a1).size / 3 = n + a1.size / 3 by omega)
      have D3 : (x.size : Int) / 3 = (n : Int) := by omega
      have hx1 : x.size ≤ n * 3 ∧ n * 3 ≤ x.size := by omega
      obtain ⟨c, hc⟩ : ∃ c : Nat, a1.size / 3 = c := ⟨_, rfl⟩
      have c1 : 3 * c ≤ a1.size ∧ a1.size < 3 * c + 3 := by omega
      have D4 := Lib.hid hc; clear hc
      have YZ := Lib.hid yz; clear yz
      have HX := Lib.hid hx; clear hx
      by_cases hA : m < n
      · have g1 : 3 * m + 3 ≤ (x ++ a1).size := by rw [YZ.out]; omega
        have e0 := Lib.hid (byt_left x a1 (3 * m) (by omega))
        have e1 := Lib.hid (byt_left x a1 (3 * m + 1) (by omega))
        have e2 := Lib.hid (byt_left x a1 (3 * m + 2) (by omega))
        go_wp2_with fail
        refine (cd_Len x _ xs).mono ?_; rintro e u1 ⟨rfl, rfl⟩
        rw [D1.out]
        go_wp2_with fail
        refine (cd_Get (x ++ a1) m _ ys g1).mono ?_; rintro e u2 ⟨rfl, g2⟩
        rw [e0.out, e1.out, e2.out]
        go_wp2_with fail
        refine (cd_Get x m _ xs (by omega)).mono ?_; rintro e u3 ⟨rfl, g3⟩
        obtain ⟨z3, p3, f3⟩ := alloc3 g3
        go_wp2_with fail
        refine (cd_Len (x ++ a1) _ ys).mono ?_; rintro e u5 ⟨rfl, rfl⟩
        rw [D2.out, D4.out]
        go_wp2_with fail
        refine (cd_Len a1 _ bs).mono ?_; rintro e u6 ⟨rfl, rfl⟩
        rw [D4.out]
        go_wp2_with fail
        refine (awake_any _).mono ?_; rintro e u7 ⟨rfl, g7⟩
        go_wp2_with fail
        go_ret
        exact ⟨rfl, Gr.toGrown (by repeat' (first | with_reducible exact Gr.refl _ | with_reducible assumption | with_reducible refine Gr.drewN ?_ _ | with_reducible refine Gr.drew ?_ | with_reducible refine Gr.alloc ?_ _ _ | with_reducible refine Gr.setCell ?_ ?_ _ | with_reducible refine Gr.trans ?_ (by with_reducible assumption) | (simp; done) | exact hw3 | (simp; omega)))⟩
      · obtain ⟨j, rfl⟩ : ∃ j, m = n + j := ⟨m - n, by omega⟩
        have ej := Lib.hid (show (n : Int) + (j : Int) - (n : Int) = (j : Int) by omega)
        by_cases hB : j < c
        · have g1 : 3 * (n + j) + 3 ≤ (x ++ a1).size := by rw [YZ.out]; omega
          have e0 := Lib.hid (show byt (x ++ a1) (3 * (n + j)) = byt a1 (3 * j) by rw [← byt_right x a1]; congr 1; have := HX.out; omega)
          have e1 := Lib.hid (show byt (x ++ a1) (3 * (n + j) + 1) = byt a1 (3 * j + 1) by rw [← byt_right x a1]; congr 1; have := HX.out; omega)
          have e2 := Lib.hid (show byt (x ++ a1) (3 * (n + j) + 2) = byt a1 (3 * j + 2) by rw [← byt_right x a1]; congr 1; have := HX.out; omega)
          go_wp2_with fail
          refine (cd_Len x _ xs).mono ?_; rintro e u1 ⟨rfl, rfl⟩
          rw [D1.out]
          go_wp2_with fail
          refine (cd_Get (x ++ a1) (n + j) _ ys g1).mono ?_; rintro e u2 ⟨rfl, g2⟩
          rw [e0.out, e1.out, e2.out]
          go_wp2_with fail
          refine (cd_Get_no x _ _ xs (Or.inr (by rw [D1.out]; omega))).mono ?_; rintro e u3 ⟨rfl, g3⟩
          obtain ⟨z3, p3, f3⟩ := alloc3 g3
          go_wp2_with fail
          rw [ej.out]
          refine (cd_Get a1 j _ bs (by omega)).mono ?_; rintro e u4 ⟨rfl, g4⟩
          obtain ⟨z4, ⟨p40, p41, p42⟩, f40, f41, f42⟩ := alloc3 g4
          obtain ⟨p30, p31, p32⟩ := keep3c p3 _ (g := g4)
          have ne : u2.heap.size ≠ u3.heap.size := by omega
          have hw3 : w.heap.size ≤ u3.heap.size := by have := g2.size; omega
          go_wp2_with fail
          refine (cd_Len (x ++ a1) _ ys).mono ?_; rintro e u5 ⟨rfl, rfl⟩
          rw [D2.out, D4.out]
          go_wp2_with fail
          refine (cd_Len a1 _ bs).mono ?_; rintro e u6 ⟨rfl, rfl⟩
          rw [D4.out]
          go_wp2_with fail
          refine (awake_any _).mono ?_; rintro e u7 ⟨rfl, g7⟩
          go_wp2_with fail
          go_ret
          exact ⟨rfl, Gr.toGrown (by repeat' (first | with_reducible exact Gr.refl _ | with_reducible assumption | with_reducible refine Gr.drewN ?_ _ | with_reducible refine Gr.drew ?_ | with_reducible refine Gr.alloc ?_ _ _ | with_reducible refine Gr.setCell ?_ ?_ _ | with_reducible refine Gr.trans ?_ (by with_reducible assumption) | (simp; done) | exact hw3 | (simp; omega)))⟩
        · go_wp2_with fail
          refine (cd_Len x _ xs).mono ?_; rintro e u1 ⟨rfl, rfl⟩
          rw [D1.out]
          go_wp2_with fail
          refine (cd_Get_no (x ++ a1) _ _ ys (Or.inr (by rw [D2.out, D4.out]; omega))).mono ?_; rintro e u2 ⟨rfl, g2⟩
          go_wp2_with fail
          refine (cd_Get_no x _ _ xs (Or.inr (by rw [D1.out]; omega))).mono ?_; rintro e u3 ⟨rfl, g3⟩
          obtain ⟨z3, p3, f3⟩ := alloc3 g3
          go_wp2_with fail
          rw [ej.out]
          refine (cd_Get_no a1 _ _ bs (Or.inr (by rw [D4.out]; omega))).mono ?_; rintro e u4 ⟨rfl, g4⟩
          obtain ⟨z4, ⟨p40, p41, p42⟩, f40, f41, f42⟩ := alloc3 g4
          obtain ⟨p30, p31, p32⟩ := keep3c p3 _ (g := g4)
          have ne : u2.heap.size ≠ u3.heap.size := by omega
          have hw3 : w.heap.size ≤ u3.heap.size := by have := g2.size; omega
          go_wp2_with fail
          refine (cd_Len (x ++ a1) _ ys).mono ?_; rintro e u5 ⟨rfl, rfl⟩
          rw [D2.out, D4.out]
          go_wp2_with fail
          refine (cd_Len a1 _ bs).mono ?_; rintro e u6 ⟨rfl, rfl⟩
          rw [D4.out]
          go_wp2_with fail
          refine (awake_any _).mono ?_; rintro e u7 ⟨rfl, g7⟩
          go_wp2_with fail
          go_ret
          exact ⟨rfl, Gr.toGrown (by repeat' (first | with_reducible exact Gr.refl _ | with_reducible assumption | with_reducible refine Gr.drewN ?_ _ | with_reducible refine Gr.drew ?_ | with_reducible refine Gr.alloc ?_ _ _ | with_reducible refine Gr.setCell ?_ ?_ _ | with_reducible refine Gr.trans ?_ (by with_reducible assumption) | (simp; done) | exact hw3 | (simp; omega)))⟩

/-! ### THE ROW's STEP: WRITTEN OUT: LEAVE IT -/
set_option maxRecDepth 100000 in
theorem lifted (os : Os) (started : os.Started) (H : Type) (enc : TypeId × Value → H) :
    ReturnsInHanded {} Try.checked os 6 .any (Rows.codePiecesSpec.pre6 enc Try.prog Try.f6 Rows.codePiecesRow.domain false) (Rows.codePiecesSpec.post enc Try.prog Try.f6 false true false false) := by
  refine returnsInHanded_of_change (C := Try.checked) own started (by kernel_rfl) Try.func6
    (ChangeSpec.witness6 (enc := enc) (C := Try.checked) false ⟨#[], #[.string ByteArray.empty, .string ByteArray.empty, .int .i64 0], []⟩ 8 (by kernel_rfl) (by kernel_rfl) (by kernel_rfl) (by kernel_rfl)) ?_
  intro W base args ds gs before hval0 hW hcnd _
  have hval : ∀ (j : Nat) t v, Try.f6.params[j]? = some t → args[j]? = some v → Value.okWide Try.prog W .any base t v := hval0
  have hW' := hW
  obtain ⟨p, q, hA0, hV, rfl, hfz, hnd⟩ := hW
  have hA : DataW.TrodAll enc Try.prog W 0 (fun _ => true) true Try.f6.params.toList args.toList ds p := hA0
  rw [Try.params6] at hA hval
  obtain ⟨v0, vs0, d0, ds0, p0, q0, hargs, rfl, rfl, h0, r0⟩ := trodAll_cons hA
  obtain ⟨v1, vs1, d1, ds1, p1, q1, rfl, rfl, rfl, h1, r1⟩ := trodAll_cons r0
  obtain ⟨v2, vs2, d2, ds2, p2, q2, rfl, rfl, rfl, h2, r2⟩ := trodAll_cons r1
  obtain ⟨rfl, rfl, rfl⟩ := trodAll_nil r2
  obtain rfl : args = #[v0, v1, v2] := by cases args; simp_all
  obtain ⟨rfl, rfl⟩ := trodVars_none hV
  obtain ⟨a0, rfl, rfl, rfl, w0⟩ := open_string Try.underlying9 (hval 0 9 v0 rfl rfl) h0
  obtain ⟨a1, rfl, rfl, rfl, w1⟩ := open_string Try.underlying9 (hval 1 9 v1 rfl rfl) h1
  obtain ⟨a2, rfl, rfl, rfl, w2⟩ := open_int Try.underlying3 (hval 2 3 v2 rfl rfl) h2
  clear hA0 hval0
  simp only [List.append_nil] at hW'
  refine (walk a0 a1 a2 w0 w1 w2 W).mono fun e W' ⟨he, hg⟩ => ?_
  subst he
  exact ⟨_, rfl, post_of_same (pa := []) (pv := []) hW' (fun _ _ _ => (trodAll_cons_mk (shut_bool Try.underlying4 _) trodAll_mk0)) (fun sp _ => (trodAll_cons_mk (shut_string Try.underlying9 w0) (trodAll_cons_mk (shut_string Try.underlying9 w1) (trodAll_cons_mk (shut_int Try.underlying3 w2) trodAll_mk0)))) (fun _ _ => rfl) rfl
    (hg.frame _) hg.2.1 (ok_one (by kernel_rfl) rfl (okWide_bool_mk Try.underlying4 _))⟩

theorem over : Rows.codePiecesRow.holds Try.pinned (OpenSpec.ofChange Rows.codePiecesSpec) :=
  OpenClaim.holds_of_wide 6 Try.f6 rfl rfl rfl rfl rfl rfl rfl ⟨rfl, rfl, rfl, rfl, rfl⟩ rfl rfl rfl rfl rfl (by kernel_rfl) Try.func6 (by kernel_rfl)
    (of_decide_eq_true (by kernel_rfl)) (by unfold Func.isWrapper; first | (rw [if_pos (by decide +kernel)]; kernel_rfl) | (rw [if_neg (by decide +kernel)]; exact ⟨rfl, rfl⟩))
    (fun os started H enc _ => lifted os started H enc)

/-- THE STATEMENT -/
theorem proved : Rows.CodePiecesSaid :=
  over
#print axioms proved
end Go.Proofs.Ytpeniffnghkdcaa.codePieces
