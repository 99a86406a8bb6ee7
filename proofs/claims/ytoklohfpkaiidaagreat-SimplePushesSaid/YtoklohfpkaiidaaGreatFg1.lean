/- A world with a method, as plain data. -/
import Derived.Test.YtoklohfpkaiidaaGreatFw2
namespace Go.Proofs.YtoklohfpkaiidaaGreat.Obj
open Go.Proofs.YtoklohfpkaiidaaGreat.Gen Go.Proofs.YtoklohfpkaiidaaGreat.Base Go.ChangeShapes Go.WideShapes Go.ChangeAt Go.RowKit
set_option linter.unusedVariables false
def MS.bare (M : MS) : MS := { M with bs := M.bs.map Bd.bare }
section
variable (M : MS)
theorem bare_at (id : Int) : M.bare.at id = (M.at id).bare := by
  unfold MS.at
  show (M.bs.map Bd.bare)[id.toNat]?.getD noB = _
  rw [List.getElem?_map]
  cases M.bs[id.toNat]? <;> rfl
theorem bare_has (id : Int) : M.bare.has id = M.has id := rfl
theorem bare_get (id i : Int) : M.bare.get id i = M.get id i := by unfold MS.get; rw [bare_has, bare_at]; rfl
theorem bare_fmt (id : Int) : M.bare.fmt id = M.fmt id := by unfold MS.fmt; rw [bare_has, bare_at]; rfl
theorem bare_size (id : Int) : M.bare.size id = M.size id := by unfold MS.size; rw [bare_has, bare_at]; rfl
theorem bare_byte (id i : Int) : M.bare.byte id i = M.byte id i := by unfold MS.byte; rw [bare_has, bare_at]; rfl
theorem bare_isClass (id : Int) : M.bare.isClass id = M.isClass id := by unfold MS.isClass; rw [bare_fmt, bare_size, bare_get, bare_get]
theorem bare_shape (id : Int) : M.bare.shape id = M.shape id := by unfold MS.shape; rw [bare_isClass, bare_get, bare_get]
theorem bare_like (id : Int) : M.bare.like id = M.like id := by unfold MS.like; rw [bare_fmt, bare_size]
theorem bare_cnt (id a t : Int) : M.bare.cnt id a t = M.cnt id a t := by unfold MS.cnt; rw [bare_get, bare_get]
theorem bare_isM (id : Int) : M.bare.isM id = M.isM id := by unfold MS.isM; rw [bare_fmt, bare_size, bare_cnt, bare_get, bare_get, bare_fmt]
theorem bare_isB (id : Int) : M.bare.isB id = M.isB id := by unfold MS.isB; rw [bare_fmt, bare_size, bare_cnt, bare_get, bare_get, bare_like]
end
/-- The first world's things, a text without bytes, and a method of it. -/
def stL (args temps prim : Int) : List Th := (List.range 23).map firstT ++ [⟨8, 3, 24, false, .slice none 0 0, [], ByteArray.empty⟩, ⟨11, 1, 25, false, .slice none 0 0, [(false, args), (false, temps), (false, prim), (true, 23)], ByteArray.empty⟩]
theorem ok_st0 : okL 25 (stL 0 0 0) = true := by kernel_rfl
theorem ok_st4 : okL 25 (stL 0 4 0) = true := by kernel_rfl
theorem small_of {L : List Th} (h : ((L.map Th.pl).all fun t => decide (t.F.length ≤ 100000 ∧ t.B.size ≤ 100000)) = true) : ∀ t ∈ L, t.F.length ≤ 100000 ∧ t.B.size ≤ 100000 := fun t ht => by
  rw [List.all_eq_true] at h
  exact of_decide_eq_true (h t.pl (List.mem_map_of_mem ht))
theorem small_st (temps : Int) : ((stL 0 temps 0).all fun t => decide (t.F.length ≤ 100000 ∧ t.B.size ≤ 100000)) = true := by kernel_rfl
theorem bare_pl (L : List Th) : (L.map Th.pl).map Th.bare = L.map Th.bare := by rw [List.map_map]; rfl
/-- What a memory of such a world holds. -/
def stM (M : MS) (temps : Int) : MS := { M with bs := (stL 0 temps 0).map Th.bare, dead := nos 25 }
section
variable {w u : World} {L : List Th} {last temps : Int} {m li : Nat} {lv dv : Value} {M : MS}
theorem New.st (h : New w u L last m li lv dv M) (hL : L.map Th.pl = stL 0 temps 0) : M.bare = stM M temps := by
  have h1 := h.bare
  have h2 := h.dead
  have hl : L.length = 25 := by
    have := congrArg List.length hL
    rw [List.length_map] at this
    rw [this]; rfl
  rw [← bare_pl, hL] at h1
  rw [hl] at h2
  unfold MS.bare stM
  rw [h1, ← h2]
theorem st_isM0 (M : MS) : (stM M 0).isM 24 = true := by kernel_rfl
theorem st_isM4 (M : MS) : (stM M 4).isM 24 = true := by kernel_rfl
theorem st_class (M : MS) (t : Int) : (stM M t).isClass 12 = true := by kernel_rfl
theorem st_shape (M : MS) (t : Int) : (stM M t).shape 12 = (22, 1) := by kernel_rfl
theorem st_classB (M : MS) (t : Int) : (stM M t).isClass 13 = true := by kernel_rfl
theorem st_shapeB (M : MS) (t : Int) : (stM M t).shape 13 = (4, 1) := by kernel_rfl
theorem st_has0 (M : MS) (t : Int) : (stM M t).has 0 = true := by kernel_rfl
theorem st_has24 (M : MS) (t : Int) : (stM M t).has 24 = true := by kernel_rfl
end
end Go.Proofs.YtoklohfpkaiidaaGreat.Obj
