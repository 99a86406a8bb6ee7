/- Make of a heap, and of the reference; both new. -/
import Derived.Test.YtljgnmbjidkjnaaPlay4
import Derived.Test.YtljgnmbjidkjnaaSame
import Derived.Test.YtljgnmbjidkjnaaL05
namespace Go.Proofs.Ytljgnmbjidkjnaa.Rf5
open Go.Proofs.Ytljgnmbjidkjnaa.Gen Go.Proofs.Ytljgnmbjidkjnaa.Base Go.Proofs.Ytljgnmbjidkjnaa.Fr Go.Proofs.Ytljgnmbjidkjnaa.Hp Go.Proofs.Ytljgnmbjidkjnaa.Rf4 Go.ChangeShapes Go.WideShapes Go.ChangeAt Go.RowKit
set_option linter.unusedVariables false
section
variable {w u u' : World} {N n h r g ot hh : Nat} {ro : Obj}
theorem kind_of {f m c hs : Int} (hno : ¬ NoMake f m c hs) : ∃ (f' m' S O : Nat) (E : Int) (c' h' : Nat), f = f' ∧ m = m' ∧ c = c' ∧ hs = h' ∧ Kind f' m' S O E ∧ c' ≤ 65536 ∧ h' ≤ 3000 := by
  unfold NoMake at hno
  refine ⟨f.toNat, m.toNat, if f = 3 then (m.toNat + 3) / 4 else m.toNat, if f = 3 then (m.toNat + 3) / 4 * 4 - m.toNat else 0, if f = 3 then 0 else 1, c.toNat, hs.toNat, by omega, by omega, by omega, by omega, ?_, by omega, by omega⟩
  by_cases e : f = 3
  · refine .inr ⟨by omega, by omega, ?_, ?_, ?_⟩
    · rw [if_pos e]
    · rw [if_pos e, if_pos e]
    · rw [if_pos e]
  · refine .inl ⟨by omega, by omega, ?_, ?_, ?_⟩
    · rw [if_neg e]
    · rw [if_neg e]
    · rw [if_neg e]
theorem may_of {f m c hs : Int} (hno : NoMake f m c hs) : mayB f m = false ∨ c < 0 ∨ 65536 < c ∨ hs < 0 ∨ 3000 < hs := by
  unfold NoMake at hno
  by_cases k : c < 0 ∨ 65536 < c ∨ hs < 0 ∨ 3000 < hs
  · exact .inr k
  · left
    unfold mayB
    by_cases e : f = 1 ∨ f = 2
    · rw [if_pos e]; simp; omega
    · rw [if_neg e]
      by_cases e3 : f = 3
      · rw [if_pos e3]; simp; omega
      · rw [if_neg e3]
theorem ins_lo {obs : List Ob} {k : Nat} {p : Ob} (hs : (obs.take k ++ p :: obs.drop k).Pairwise fun a b => a.pos < b.pos) : (∀ q ∈ obs.take k, q.pos < p.pos) ∧ ∀ q ∈ obs.drop k, p.pos < q.pos := by
  rw [List.pairwise_append, List.pairwise_cons] at hs
  exact ⟨fun q hq => hs.2.2 q hq p (List.mem_cons_self ..), hs.2.1.1⟩
set_option maxHeartbeats 1000000 in
theorem st_Make (hB : Bth w u hh h r g N n ot ro) (hn1 : n ≤ 1000) (f m c hs : Int) :
    Calls Try.prog 12 #[.pointer (some ⟨hh, 0, none⟩), .int .i64 f, .int .i64 m, .int .i64 c, .int .i64 hs] u fun e u' => ∃ (a : Int) (y : Bool), e = .returned (.tuple #[.int .i64 a, .bool y]) ∧ (Lit.int .i64 a).wf = true ∧ u'.heap[ot]? = some ro ∧ Fol w u' hh h r g N (n + 1) ot ro 13 #[.pointer (some ⟨h, 0, none⟩), .int .i64 f, .int .i64 m, .int .i64 c, .int .i64 hs] (.tuple #[.int .i64 a, .bool y]) := by
  obtain ⟨X, ws, l, bg, lv, obs, rfl, hT, hK, hn⟩ := hB
  by_cases hno : NoMake f m c hs
  · refine (hp_Make_no hT.hp f m c hs (may_of hno)).mono ?_
    rintro e u' ⟨rfl, rfl⟩
    refine ⟨0, false, rfl, by decide, hT.row, (r5_Make_no f m c hs hno).mono ?_⟩
    rintro e u' ⟨rfl, rfl⟩
    exact ⟨rfl, X, ws, l, bg, lv, obs, rfl, hT, hK, by omega⟩
  · obtain ⟨f', m', S, O, E, c', h', rfl, rfl, rfl, rfl, hk, hc, hh⟩ := kind_of hno
    have hS := (u32E hk).2.2.1
    rcases best_or hT.hp.free (3 + S) with ⟨A, mm, hBst⟩ | hnb
    · refine (hp_Make_ok hT.hp f' m' S O E hk c' h' hc hh A mm hBst).mono ?_
      rintro e u' ⟨rfl, X', hA, hN⟩
      have hT2 := hT.heap hA hN
      have hle := hBst.run.le
      have hft := hBst.fits
      have hll := hK.ll
      have hlb := hT.hp.len
      have hbl := hK.lb
      have hall : ∀ i, A ≤ i → i < A + (3 + S) → Fr.o l i = true := fun i i1 i2 => hBst.run.all i i1 (by omega)
      have hnew : ∀ o ∈ obs, o.pos ≠ A + 1 := fun o ho => by
        have h1 := hK.ex.free (T := 3 + S) (by omega) (by omega) hall o.ext (List.mem_map_of_mem ho)
        have h2 := (hK.one o ho).wds
        simp only [Ob.ext] at h1; omega
      refine ⟨(A : Int) + 1, true, rfl, WalkArith.wf_i64 ⟨by omega, by omega⟩, hT2.row, ?_⟩
      by_cases h3 : f' = 3
      · refine (r5_Make_ok3 hT2.rf f' m' S O E hk h3 c' h' hc hh A mm hBst (A + 1) rfl hnew (by omega)).mono ?_
        rintro e u'' ⟨rfl, k, bv, lv', hk2, hR, hN2⟩
        obtain ⟨f6, f7⟩ := ins_lo hR.srt
        subst h3
        rcases hk with ⟨k1, _⟩ | ⟨_, k2, k3, k4, k5⟩
        · omega
        subst k5
        have h1 := One.newB ws A S O m' c' h' k2 k3 k4 hc hh (.slice none 0 0) bv (by rw [hK.lw]; omega)
        refine ⟨by push_cast; rfl, X', _, _, _, lv', _, hN.h, hT2.ref hR hN2, hK.make rfl (by simp only [mkOb]; omega) hall f6 f7 h1 (mkW_len ..) (fun x hx => ?_), by simp; omega⟩
        rw [mkW_at _ _ _ _ _ _ _ _ (by rw [hK.lw]; omega)]
        simp only [mkOb] at hx
        rw [if_neg (by omega), if_neg (by omega), if_neg (by omega), if_neg (by omega)]
      · refine (r5_Make_okF hT2.rf f' m' S O E hk h3 c' h' hc hh A mm hBst (A + 1) rfl hnew (by omega)).mono ?_
        rintro e u'' ⟨rfl, k, fv, lv', hk2, hR, hN2⟩
        obtain ⟨f6, f7⟩ := ins_lo hR.srt
        rcases hk with ⟨k1, k2, k3, k4, k5⟩ | ⟨k1, _⟩
        · subst k4 k5
          have h1 := One.newF ws A S f' c' h' k1 (by omega) hc hh fv (.slice none 0 0) (by rw [hK.lw]; omega)
          refine ⟨by push_cast; rfl, X', _, _, _, lv', _, hN.h, hT2.ref hR hN2, hK.make rfl (by simp only [mkOb]; omega) hall f6 f7 h1 (mkW_len ..) (fun x hx => ?_), by simp; omega⟩
          rw [mkW_at _ _ _ _ _ _ _ _ (by rw [hK.lw]; omega)]
          simp only [mkOb] at hx
          rw [if_neg (by omega), if_neg (by omega), if_neg (by omega), if_neg (by omega)]
        · exact absurd k1 h3
    · refine (hp_Make_full hT.hp f' m' S O E hk c' h' hc hh hnb).mono ?_
      rintro e u' ⟨rfl, q, rfl⟩
      have hT2 := hT.more (u' := u.drewN q) ⟨rfl, rfl, rfl, Nat.le_refl _, fun _ _ => rfl⟩
      refine ⟨0, false, rfl, by decide, hT2.row, (r5_Make_full hT2.rf f' m' S O E hk c' h' hc hh hnb).mono ?_⟩
      rintro e u'' ⟨rfl, hR, hN2⟩
      exact ⟨rfl, X, ws, l, bg, lv, obs, rfl, hT2.ref hR hN2, hK, by omega⟩
theorem st_same (hB : Bth w u hh h r g N n ot ro) (x i : Int) (hx : (Lit.int .i64 x).wf = true) (hi : (Lit.int .i64 i).wf = true) :
    Calls Try.prog 14 #[.pointer (some ⟨hh, 0, none⟩), .pointer (some ⟨h, 0, none⟩), .int .i64 x, .int .i64 i] u fun e u' => e = .returned (.bool true) ∧ u'.heap[ot]? = some ro ∧ Bth w u' hh h r g N n ot ro := by
  have hB' := hB
  obtain ⟨X, ws, l, bg, lv, obs, rfl, hT, hK, hn⟩ := hB'
  refine (same_any hT.hp hT.rf hK x i hx hi).mono ?_
  rintro e u' ⟨rfl, hb⟩
  have := hB.more hb
  exact ⟨rfl, this.row, this⟩
set_option maxHeartbeats 1000000 in
theorem r5_New (w : World) (x : Int) (hx : (Lit.int .i64 x).wf = true) (n : Nat) (hk : newK n x) :
    Calls Try.prog 10 #[.int .i64 x] w fun e w' => ∃ hb r g, e = .returned (.pointer (some ⟨hb, 0, none⟩)) ∧ R5 w' hb r g (.slice none 0 0) [] (List.replicate n true) ∧ (∀ k, own5 hb r g (.slice none 0 0) [] k → w.heap.size ≤ k) ∧ Below w.heap.size w w' := by
  have h4 := r4_New w x hx n hk
  have hz : ∀ u, Sem.run Try.prog (zeroValue 43) u = .ok (.agg #[.slice none 0 0, .pointer none]) u := fun u => by kernel_rfl
  go_enter Try.func10, Try.ntmps10
  go_wp2_with fail
  refine h4.mono ?_
  rintro e u1 ⟨rfl, hF, hb⟩
  have hlt := hF.lt
  have hw : Below w.heap.size w (u1.alloc (.cells #[.slice none 0 0, .pointer (some ⟨w.heap.size + 1, 0, none⟩)] 43)) := hb.alloc hb.size _
  have HR : Hid (R5 (u1.alloc (.cells #[.slice none 0 0, .pointer (some ⟨w.heap.size + 1, 0, none⟩)] 43)) u1.heap.size (w.heap.size + 1) w.heap.size (.slice none 0 0) [] (List.replicate n true)) := Lib.hid
    { row := heap_alloc_new u1 _
      fr := hF.keep fun k hk => heap_alloc_old _ _ (by rcases hk with rfl | rfl <;> omega)
      ls := ⟨rfl, .inl ⟨rfl, rfl⟩⟩
      fs := fun o ho => by simp at ho
      bs := fun o ho => by simp at ho
      n1 := by omega
      n2 := by omega
      n3 := by simp [Value.ownBlock]
      n4 := fun o ho => by simp at ho
      n5 := fun q q' o o' hq => by simp at hq
      n6 := fun o ho => by simp at ho
      srt := List.Pairwise.nil
      hi := fun o ho => by simp at ho
      few := by simp }
  have HO : Hid (∀ k, own5 u1.heap.size (w.heap.size + 1) w.heap.size (.slice none 0 0) [] k → w.heap.size ≤ k) := Lib.hid fun k hk => by
    have := hb.size
    rcases hk with e | e | e | e | ⟨o, ho, _⟩
    · omega
    · omega
    · omega
    · simp [Value.ownBlock] at e
    · simp at ho
  have HW := Lib.hid hw
  clear h4 hF hb hlt hw
  dsimp only
  go_wp2_with fail
  go_ret
  exact ⟨_, _, _, rfl, HR.out, HO.out, HW.out⟩
end
end Go.Proofs.Ytljgnmbjidkjnaa.Rf5
