/- New and may of package heap. -/
import Derived.Test.YtljgnmbjidkjnaaHeap3
namespace Go.Proofs.Ytljgnmbjidkjnaa.Hp
open Go.Proofs.Ytljgnmbjidkjnaa.Gen Go.Proofs.Ytljgnmbjidkjnaa.Base Go.Proofs.Ytljgnmbjidkjnaa.Fr Go.ChangeShapes Go.WideShapes Go.ChangeAt Go.RowKit
set_option linter.unusedVariables false
theorem lenOf_nat (n : Nat) (h : n ≤ 65536) : Sr.lenOf (n : Int) = n := by unfold Sr.lenOf; omega
theorem rep_wf (n : Nat) : ∀ x ∈ List.replicate n (0 : Int), 0 ≤ x ∧ x ≤ 4294967295 := fun x hx => by
  rw [List.eq_of_mem_replicate hx]; decide
theorem hp_new {w u1 u2 : World} {n : Nat} {B : FB} (hn : n ≤ 65536) (hS : Sr.Sto u1 (w.heap.size + 1) w.heap.size (List.replicate n 0)) (g1 : Below w.heap.size w u1) (hs1 : u1.heap.size = w.heap.size + 2)
    (hF : FreeAt u2 B (List.replicate n true)) (hb : Below u1.heap.size u1 u2) (hm : ∀ k, mine B k → u1.heap.size ≤ k) :
    HpAt ((u2.alloc (.cells (zbools n) 4)).alloc (.cells #[.pointer (some ⟨w.heap.size + 1, 0, none⟩), .pointer (some ⟨B.r, 0, none⟩), .slice (some ⟨u2.heap.size, 0, none⟩) n n] 66)) ⟨u2.heap.size + 1, w.heap.size + 1, w.heap.size, u2.heap.size, B⟩ (List.replicate n 0) (List.replicate n true) (List.replicate n false) ∧
    HOwn w ((u2.alloc (.cells (zbools n) 4)).alloc (.cells #[.pointer (some ⟨w.heap.size + 1, 0, none⟩), .pointer (some ⟨B.r, 0, none⟩), .slice (some ⟨u2.heap.size, 0, none⟩) n n] 66)) ⟨u2.heap.size + 1, w.heap.size + 1, w.heap.size, u2.heap.size, B⟩ := by
  have hsz := hb.size
  have hml : ∀ k, mine B k → k < u2.heap.size := fun k hk => hF.mine_lt hk
  have hS2 : Sr.Sto u2 (w.heap.size + 1) w.heap.size (List.replicate n 0) := hS.of_blocks (hb.block _ (by omega)) (hb.block _ (by omega))
  have hold : ∀ (c d : Obj) (k : Nat), k < u2.heap.size → ((u2.alloc c).alloc d).heap[k]? = u2.heap[k]? := fun c d k hk => by
    rw [heap_alloc_old _ _ (by simp; omega), heap_alloc_old _ _ hk]
  refine ⟨{
    row := by
      have := heap_alloc_new (u2.alloc (.cells (zbools n) 4)) (.cells #[.pointer (some ⟨w.heap.size + 1, 0, none⟩), .pointer (some ⟨B.r, 0, none⟩), .slice (some ⟨u2.heap.size, 0, none⟩) n n] 66)
      simpa using this
    sto := hS2.of_blocks (hold _ _ _ (by omega)) (hold _ _ _ (by omega))
    free := hF.keep fun k hk => hold _ _ _ (hml k hk)
    bgn := by
      show ((u2.alloc _).alloc _).heap[u2.heap.size]? = _
      rw [heap_alloc_old _ _ (by simp), heap_alloc_new]; rfl
    e1 := by simp
    e2 := by simp
    d1 := by show u2.heap.size + 1 ≠ w.heap.size + 1; omega
    d2 := by show u2.heap.size + 1 ≠ w.heap.size; omega
    d3 := by show u2.heap.size + 1 ≠ u2.heap.size; omega
    d4 := by show w.heap.size + 1 ≠ u2.heap.size; omega
    d5 := by show w.heap.size ≠ u2.heap.size; omega
    n1 := fun h => by have := hml _ h; dsimp only at this; omega
    n2 := fun h => by have := hm _ h; dsimp only at this; omega
    n3 := fun h => by have := hm _ h; dsimp only at this; omega
    n4 := fun h => by have := hml _ h; dsimp only at this; omega
    wf := rep_wf n }, ⟨?_, ?_⟩⟩
  · exact ((g1.trans (hb.mono (by omega))).alloc (by omega) _).alloc (by simp; omega) _
  · intro k hk
    rcases hk with rfl | rfl | rfl | rfl | hk
    · show w.heap.size ≤ u2.heap.size + 1; omega
    · show w.heap.size ≤ w.heap.size + 1; omega
    · exact Nat.le_refl _
    · show w.heap.size ≤ u2.heap.size; omega
    · have := hm k hk; omega
set_option maxHeartbeats 1000000 in
theorem hp_New (n : Nat) (hn : n ≤ 65536) (w : World) :
    Calls Try.prog 9 #[.int .i64 n] w fun e w' => ∃ X, e = .returned (.pointer (some ⟨X.h, 0, none⟩)) ∧ HpAt w' X (List.replicate n 0) (List.replicate n true) (List.replicate n false) ∧ HOwn w w' X := by
  have hs := Sr.new_any (n : Int) w
  rw [lenOf_nat n hn] at hs
  have hb := mk_b n hn
  have hz : ∀ u, Sem.run Try.prog (zeroValue 66) u = .ok (.agg #[.pointer none, .pointer none, .slice none 0 0]) u := fun u => by kernel_rfl
  go_enter Try.func9, Try.ntmps9
  go_wp2_with fail
  refine hs.mono ?_
  rintro e u1 ⟨rfl, hS, g1, hs1⟩
  have hl := Sr.len_any u1 _ _ _ hS
  rw [List.length_replicate] at hl
  have HS := Lib.hid hS; have HS1 := Lib.hid hs1
  clear hS hs hs1
  dsimp only
  go_wp2_with fail
  refine hl.mono ?_
  rintro e u2 ⟨rfl, e2⟩
  subst e2
  dsimp only
  go_wp2_with fail
  refine (free_new n hn u1).mono ?_
  rintro e u2 ⟨B, rfl, hF, hb2, hm⟩
  have hl2 := Sr.len_any u2 _ _ _ (HS.out.of_blocks (hb2.block _ (by have := HS1.out; omega)) (hb2.block _ (by have := HS1.out; omega)))
  rw [List.length_replicate] at hl2
  have HN := Lib.hid (hp_new hn HS.out g1.2 HS1.out hF hb2 hm)
  clear hl hF hb2 hm g1
  dsimp only
  go_wp2_with fail
  refine hl2.mono ?_
  rintro e u3 ⟨rfl, e3⟩
  subst e3
  dsimp only
  go_wp2_with fail
  go_ret
  exact ⟨_, rfl, HN.out.1, HN.out.2⟩
def mayB (f n : Int) : Bool := if f = 1 ∨ f = 2 then decide (0 ≤ n ∧ n ≤ 60) else if f = 3 then decide (0 ≤ n ∧ n ≤ 200) else false
theorem may_any (f n : Int) (w : World) : Calls Try.prog 36 #[.int .i64 f, .int .i64 n] w fun e w' => e = .returned (.bool (mayB f n)) ∧ w = w' := by
  by_cases h1 : f = 1
  · subst h1
    have e : mayB 1 n = decide (0 ≤ n ∧ n ≤ 60) := rfl
    rw [e]; clear e
    by_cases a : 0 ≤ n <;> by_cases b : n ≤ 60 <;> simp only [a, b, and_self, and_true, true_and, and_false, false_and, decide_true, decide_false] <;>
    · go_enter Try.func36, Try.ntmps36
      go_wp2
      go_ret
      exact ⟨rfl, rfl⟩
  · by_cases h2 : f = 2
    · subst h2
      have e : mayB 2 n = decide (0 ≤ n ∧ n ≤ 60) := rfl
      rw [e]; clear e
      by_cases a : 0 ≤ n <;> by_cases b : n ≤ 60 <;> simp only [a, b, and_self, and_true, true_and, and_false, false_and, decide_true, decide_false] <;>
      · go_enter Try.func36, Try.ntmps36
        go_wp2
        go_ret
        exact ⟨rfl, rfl⟩
    · by_cases h3 : f = 3
      · subst h3
        have e : mayB 3 n = decide (0 ≤ n ∧ n ≤ 200) := rfl
        rw [e]; clear e
        by_cases a : 0 ≤ n <;> by_cases b : n ≤ 200 <;> simp only [a, b, and_self, and_true, true_and, and_false, false_and, decide_true, decide_false] <;>
        · go_enter Try.func36, Try.ntmps36
          go_wp2
          go_ret
          exact ⟨rfl, rfl⟩
      · have e : mayB f n = false := by unfold mayB; rw [if_neg (by omega), if_neg h3]
        rw [e]; clear e
        go_enter Try.func36, Try.ntmps36
        go_wp2
        go_ret
        exact ⟨rfl, rfl⟩
end Go.Proofs.Ytljgnmbjidkjnaa.Hp
