/- Frames: an instance of a class; a thing with these fields behind the others. -/
import Derived.Test.YtoklohfpkaiidaaGreatMk4
namespace Go.Proofs.YtoklohfpkaiidaaGreat.Obj
open Go.Proofs.YtoklohfpkaiidaaGreat.Gen Go.Proofs.YtoklohfpkaiidaaGreat.Base Go.ChangeShapes Go.WideShapes Go.ChangeAt Go.RowKit
set_option linter.unusedVariables false
/-- One thing more, with these fields. -/
def MS.mkF (M : MS) (cls fmt : Int) (F : List V) (fv : Value) : MS := { M with bs := M.bs ++ [⟨cls, fmt, M.last + 1, 0, false, fv, F, .slice none 0 0, []⟩], dead := M.dead ++ [false], last := M.last + 1 }
theorem mk1_mkF (M : MS) (cls fmt : Int) (k : Nat) (fv : Value) : M.mk1 cls fmt k fv = M.mkF cls fmt (nilF k) fv := rfl
section
variable {w : World} {m li : Nat} {lv dv fv : Value} {M : MS} {cls fmt own : Int} {F : List V}
theorem mkF_at (M : MS) : (M.mkF cls fmt F fv).bs[M.bs.length]? = some ⟨cls, fmt, M.last + 1, 0, false, fv, F, .slice none 0 0, []⟩ := by
  show (M.bs ++ [_])[M.bs.length]? = _
  rw [List.getElem?_append_right (Nat.le_refl _), Nat.sub_self]; rfl
theorem mkF_old (M : MS) {j : Nat} (h : j < M.bs.length) : (M.mkF cls fmt F fv).bs[j]? = M.bs[j]? := by
  show (M.bs ++ [_])[j]? = _
  rw [List.getElem?_append_left h]
theorem mkF_put (M : MS) (i : Int) (v : V) : (M.mkF cls fmt F fv).put (M.bs.length : Int) i v = M.mkF cls fmt (F.set i.toNat v) fv := by
  have hat : (M.mkF cls fmt F fv).at (M.bs.length : Int) = ⟨cls, fmt, M.last + 1, 0, false, fv, F, .slice none 0 0, []⟩ := by unfold MS.at; rw [Int.toNat_natCast, mkF_at]; rfl
  unfold MS.put
  rw [hat, Int.toNat_natCast]
  unfold MS.mkF
  simp only [List.set_append_right _ _ (Nat.le_refl M.bs.length), Nat.sub_self, List.set_cons_zero]
theorem mkF_has (M : MS) (hl : M.dead.length = M.bs.length) : (M.mkF cls fmt F fv).has (M.bs.length : Int) = true := by
  unfold MS.has
  have e : (M.mkF cls fmt F fv).dead = M.dead ++ [false] := rfl
  rw [e, Int.toNat_natCast, ← hl, List.getElem?_append_right (Nat.le_refl _), Nat.sub_self, List.length_append, decide_eq_true (by simp; omega)]
  rfl
theorem mkF_hasO (M : MS) {id : Int} (h : id < M.dead.length) : (M.mkF cls fmt F fv).has id = M.has id := by
  unfold MS.has
  have e : (M.mkF cls fmt F fv).dead = M.dead ++ [false] := rfl
  by_cases h0 : 0 ≤ id
  · rw [e, List.getElem?_append_left (by omega), List.length_append, decide_eq_true (by simp; omega), decide_eq_true (by omega)]
  · rw [decide_eq_false (by omega), decide_eq_false (by omega)]; rfl
theorem has_lt {M : MS} {id : Int} (h : M.has id = true) : 0 ≤ id ∧ id < M.dead.length := by
  unfold MS.has at h
  simp only [Bool.and_eq_true, decide_eq_true_eq] at h
  exact h.1
theorem mkF_hasT (M : MS) {id : Int} (h : M.has id = true) : (M.mkF cls fmt F fv).has id = true := by
  rw [mkF_hasO M (has_lt h).2]; exact h
theorem mkF_may (M : MS) {v : V} (h : M.may v = true) : (M.mkF cls fmt F fv).may v = true := by
  unfold MS.may at h ⊢
  split
  · rename_i hv; rw [if_pos hv] at h; exact mkF_hasT M h
  · rename_i hv; rw [if_neg hv] at h; exact h
theorem mkF_get (M : MS) (hl : M.dead.length = M.bs.length) (i : Int) : (M.mkF cls fmt F fv).get (M.bs.length : Int) i = elV F i := by
  unfold MS.get
  rw [mkF_has M hl, if_pos rfl]
  unfold MS.at
  rw [Int.toNat_natCast, mkF_at]; rfl
/-- No class: its size is a thing. -/
theorem mkF_noclass (M : MS) (hl : M.dead.length = M.bs.length) (h : (elV F 3).1 = true) (i : Int) (v : V) : (M.mkF cls fmt F fv).unmakes (M.bs.length : Int) i v = false := by
  unfold MS.unmakes MS.isClass
  rw [mkF_get M hl 3]
  have e : shapes (elV F 3) ((M.mkF cls fmt F fv).get (M.bs.length : Int) 4) = false := by unfold shapes; rw [h]; rfl
  rw [e, Bool.and_false, Bool.and_false, Bool.false_and]
theorem fr_Make (h : MemAt w m li lv dv M) (hc : M.isClass cls = true) (hs : M.shape cls = (own, 1)) {k : Nat} (hk60 : k ≤ 60) (h0 : 0 ≤ own) (h1 : own ≤ (k : Int)) (hlast : 0 ≤ M.last ∧ M.last < 3000) (hlen : M.bs.length ≤ 3000) :
    Calls Tryz.prog 88 #[.pointer (some ⟨m, 0, none⟩), .int .i64 cls, .int .i64 (k : Int)] w fun e w' => e = .returned (.tuple #[.int .i64 (M.dead.length : Int), .bool true]) ∧ ∃ lv' dv' fv, MemAt w' m li lv' dv' (M.mkF cls 1 (nilF k) fv) ∧ Nx (ownM m li lv dv M) w (ownM m li lv' dv' (M.mkF cls 1 (nilF k) fv)) w' := by
  have HSH := Lib.hid (me_Shape h cls)
  rw [hs] at HSH
  dsimp only at HSH
  have HMK := Lib.hid fun u (hb : Below w.heap.size w u) => me_Make (h.below hb) hc hs (by omega) ((k : Int) - own) (by omega) (by omega) hk60 h0 hlast hlen
  clear h hc hs
  go_enter Tryz.func88, Tryz.ntmps88
  go_wp2_with (first
    | (go_at_call 122; (with_reducible refine HSH.out.mono ?_); rintro e u1 ⟨rfl, hb1⟩; have HB1 := Lib.hid hb1; clear hb1; dsimp only)
    | (go_at_call 90; (with_reducible refine (HMK.out _ HB1.out).mono ?_); rintro e u2 ⟨rfl, lv', dv', fv, hM2, hN2⟩; have HM2 := Lib.hid hM2; have HN2 := Lib.hid hN2; clear hM2 hN2; dsimp only))
  go_ret2
  exact ⟨rfl, _, _, fv, HM2.out, nx_bel HB1.out HN2.out⟩
end
end Go.Proofs.YtoklohfpkaiidaaGreat.Obj
