/- A frame whose stack holds numbers. -/
import Derived.Test.YtoklohfpkaiidaaGreatFg2
namespace Go.Proofs.YtoklohfpkaiidaaGreat.Obj
open Go.Proofs.YtoklohfpkaiidaaGreat.Gen Go.Proofs.YtoklohfpkaiidaaGreat.Base Go.ChangeShapes Go.WideShapes Go.ChangeAt Go.RowKit
set_option linter.unusedVariables false
/-- A frame's fields: t temps, numbers on its stack. -/
def fsF (t : Nat) (l : List Int) : List V := [(true, 0), (false, 0), (false, ((t + l.length : Nat) : Int)), (true, 24), (false, 5), (true, 0)] ++ (nilF t ++ ((l.map fun v => (false, v)) ++ nilF (16 - t - l.length)))
theorem nilF_add (a b : Nat) : nilF a ++ nilF b = nilF (a + b) := by unfold nilF; rw [List.replicate_append_replicate]
theorem nilF_succ (a : Nat) : nilF (a + 1) = (true, 0) :: nilF a := by unfold nilF; rw [List.replicate_succ]
theorem fsF_new (t : Nat) (ht : t ≤ 16) : hdF (hdL 0 0 (t : Int) 24 (false, 5) 0) 6 = fsF t [] := by
  unfold fsF hdF
  rw [show (hdL 0 0 (t : Int) 24 (false, 5) 0).take 6 = hdL 0 0 (t : Int) 24 (false, 5) 0 from rfl, List.map_nil, List.nil_append, nilF_add, show t + (16 - t - ([] : List Int).length) = 22 - 6 by simp; omega]
  rfl
theorem fsF_2 (t : Nat) (l : List Int) : elV (fsF t l) 2 = (false, ((t + l.length : Nat) : Int)) := rfl
theorem fsF_at (t : Nat) (l : List Int) (i : Nat) (h : i < l.length) : elV (fsF t l) (6 + ((t + i : Nat) : Int)) = (false, l[i]) := by
  unfold elV fsF
  rw [if_pos (by omega), show (6 + ((t + i : Nat) : Int)).toNat = 6 + (t + i) by omega, List.getElem?_append_right (by simp), List.getElem?_append_right (by simp [nilF_len])]
  simp only [List.length_cons, List.length_nil, nilF_len]
  rw [show 6 + (t + i) - (0 + 1 + 1 + 1 + 1 + 1 + 1) - t = i by omega, List.getElem?_append_left (by simpa using h)]
  simp [h]
theorem fsF_15 (t : Nat) (ht : t ≤ 8) : elV (fsF t []) 21 = (true, 0) := by
  rw [← fsF_new t (by omega)]; rfl
theorem fsF_slot (t : Nat) (l : List Int) (u : V) (h : t + l.length < 16) : (fsF t l).set (6 + (t + l.length)) u = [(true, 0), (false, 0), (false, ((t + l.length : Nat) : Int)), (true, 24), (false, 5), (true, 0)] ++ (nilF t ++ ((l.map fun v => (false, v)) ++ u :: nilF (16 - t - l.length - 1))) := by
  unfold fsF
  have e : nilF (16 - t - l.length) = (true, 0) :: nilF (16 - t - l.length - 1) := by rw [← nilF_succ]; congr 1; omega
  rw [List.set_append_right _ _ (by simp), List.set_append_right _ _ (by simp [nilF_len] <;> omega), List.set_append_right _ _ (by simp [nilF_len] <;> omega)]
  simp only [List.length_cons, List.length_nil, nilF_len, List.length_map]
  rw [show 6 + (t + l.length) - (0 + 1 + 1 + 1 + 1 + 1 + 1) - t - l.length = 0 by omega, e, List.set_cons_zero]
theorem fsF_push (t : Nat) (l : List Int) (v : Int) (h : t + l.length < 16) : ((fsF t l).set (6 + (t + l.length)) (false, v)).set 2 (false, ((t + l.length : Nat) : Int) + 1) = fsF t (l ++ [v]) := by
  rw [fsF_slot t l _ h]
  unfold fsF
  rw [List.map_append, List.length_append, show 16 - t - (l.length + [v].length) = 16 - t - l.length - 1 by simp; omega, List.append_assoc]
  rfl
theorem fsF_pop (t : Nat) (l : List Int) (v : Int) (h : t + l.length < 16) : ((fsF t (l ++ [v])).set 2 (false, ((t + l.length : Nat) : Int))).set (6 + (t + l.length)) (true, 0) = fsF t l := by
  rw [← fsF_push t l v h, List.set_set, List.set_comm _ _ (show 2 ≠ 6 + (t + l.length) by omega), List.set_set, fsF_slot t l _ h]
  unfold fsF
  have e : nilF (16 - t - l.length) = (true, 0) :: nilF (16 - t - l.length - 1) := by rw [← nilF_succ]; congr 1; omega
  rw [e]
  rfl
end Go.Proofs.YtoklohfpkaiidaaGreat.Obj
