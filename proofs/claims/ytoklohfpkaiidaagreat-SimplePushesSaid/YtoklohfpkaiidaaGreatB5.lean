/- A world that is being built: a method without code. -/
import Derived.Test.YtoklohfpkaiidaaGreatFn2
namespace Go.Proofs.YtoklohfpkaiidaaGreat.Obj
open Go.Proofs.YtoklohfpkaiidaaGreat.Gen Go.Proofs.YtoklohfpkaiidaaGreat.Base Go.ChangeShapes Go.WideShapes Go.ChangeAt Go.RowKit
set_option linter.unusedVariables false
theorem cv_nil (u : World) : Sem.run Tryz.prog (convert 108 9 (.slice none 0 0)) u = .ok (.string ByteArray.empty) u := by kernel_rfl
set_option maxRecDepth 100000 in
theorem rf_Put (w : World) : Calls Tryz.prog 40 #[.slice none 0 0] w fun e w' => e = .returned (.string ByteArray.empty) ∧ w = w' := by
  have hcv := cv_nil
  go_enter Tryz.func40, Tryz.ntmps40
  go_wp2_with fail
  go_loopw [3, 4] (fun v3 v4 wr => v3 = .slice none 0 0 ∧ v4 = .int .i64 0 ∧ w = wr) (fun _ _ _ => 0)
  case atStart => exact ⟨rfl, rfl, rfl⟩
  case round =>
    obtain ⟨rfl, rfl, rfl⟩ := hrel
    go_wp2_with fail
    go_ret
    exact ⟨rfl, rfl⟩
section
variable {w u u' : World} {b : Nat} {lv : Value} {L : List Th} {last : Int}
theorem b_Add0 (h : LB w u b 51 lv L last) (hn : L.length ≤ 3000) (hl : 0 ≤ last ∧ last ≤ 3000) (cls fmt : Int) (B : ByteArray) :
    Calls Tryz.prog 18 #[.pointer (some ⟨b, 0, none⟩), .int .i64 cls, .int .i64 fmt, .slice none 0 0, .string B] u fun e w' => e = .returned (.int .i64 L.length) ∧ ∃ va vc, LB w w' b 51 (.slice va (L.length + 1) vc) (L ++ [⟨cls, fmt, last + 1, false, .slice none 0 0, [], B⟩]) (last + 1) :=
  b_Add h hn hl cls fmt (F := []) (.inl ⟨rfl, rfl, _, _, rfl⟩) ⟨fun k hk => by simp [blk] at hk, Nat.le_refl _, by simp⟩ B
theorem LB.newF (h : LB w u b 51 lv L last) (F : List V) (hF : 0 < F.length ∧ F.length ≤ 60000) : RowV (u.alloc (.cells (vals F).toArray 54)) 54 2 (.slice (some ⟨u.heap.size, 0, none⟩) F.length F.length) F.length (vals F) ∧ (∀ k, blk (.slice (some ⟨u.heap.size, 0, none⟩) F.length F.length) F.length = some k → k ≠ b ∧ lv.ownBlock ≠ some k) := by
  refine ⟨.inr ⟨hF.1, vals_len F, _, _, _, (0, 0), rfl, heap_alloc_new _ _, .inl rfl, Nat.le_refl _, by unfold maxLen; omega, by rw [List.size_toArray, vals_len], by rw [List.take_of_length_le (by rw [List.toList_toArray, vals_len]; omega)]⟩, fun k hk => ?_⟩
  have e : k = u.heap.size := by
    unfold blk at hk
    split at hk
    · cases hk
    · simpa [Value.ownBlock] using hk.symm
  subst e
  exact ⟨by have := h.lt; omega, fun c => by have := (h.ls.lt _ c).2; omega⟩
set_option maxHeartbeats 2000000 in
set_option maxRecDepth 100000 in
theorem b_Method (h : LB w u b 51 lv L last) (hn : L.length ≤ 2990) (hl : 0 ≤ last ∧ last ≤ 2990) (args temps prim : Int) :
    Calls Tryz.prog 20 #[.pointer (some ⟨b, 0, none⟩), .int .i64 args, .int .i64 temps, .int .i64 prim, .slice none 0 0, .slice none 0 0] u fun e w' => e = .returned (.int .i64 ((L.length : Int) + 1)) ∧ ∃ va vc t1 t2, LB w w' b 51 (.slice va (L.length + 2) vc) (L ++ [t1, t2]) (last + 2) ∧ t1.pl = ⟨8, 3, last + 1, false, .slice none 0 0, [], ByteArray.empty⟩ ∧ t2.pl = ⟨11, 1, last + 2, false, .slice none 0 0, [(false, args), (false, temps), (false, prim), (true, (L.length : Int))], ByteArray.empty⟩ := by
  have HL := Lib.hid h
  have HA1 := Lib.hid (b_Add0 h (by omega) (by omega) 8 3 ByteArray.empty)
  have HA2 : Hid (∀ va vc ux, LB w ux b 51 (.slice va (L.length + 1) vc) (L ++ [⟨8, 3, last + 1, false, .slice none 0 0, [], ByteArray.empty⟩]) (last + 1) → Calls Tryz.prog 18 #[.pointer (some ⟨b, 0, none⟩), .int .i64 11, .int .i64 1, .slice (some ⟨ux.heap.size, 0, none⟩) 4 4, .string ⟨#[]⟩] (ux.alloc (.cells #[.bool false, .int .i64 args, .bool false, .int .i64 temps, .bool false, .int .i64 prim, .bool true, .int .i64 (L.length : Int)] 54)) fun e w' => e = .returned (.int .i64 ((L.length : Int) + 1)) ∧ ∃ va vc, LB w w' b 51 (.slice va (L.length + 2) vc) (L ++ [⟨8, 3, last + 1, false, .slice none 0 0, [], ByteArray.empty⟩, ⟨11, 1, last + 2, false, .slice (some ⟨ux.heap.size, 0, none⟩) 4 4, [(false, args), (false, temps), (false, prim), (true, (L.length : Int))], ⟨#[]⟩⟩]) (last + 2)) := Lib.hid fun va vc ux hx => by
    have hF := hx.newF [(false, args), (false, temps), (false, prim), (true, (L.length : Int))] ⟨by simp, by simp⟩
    have := b_Add (hx.more ((Below.refl _ _).alloc (Nat.le_refl _) (.cells (vals [(false, args), (false, temps), (false, prim), (true, (L.length : Int))]).toArray 54))) (by simp; omega) (by omega) 11 1 hF.1 ⟨hF.2, Nat.le_refl _, by simp⟩ ⟨#[]⟩
    rw [List.length_append, List.append_assoc, show last + 1 + 1 = last + 2 by omega] at this
    exact this
  clear h
  go_enter Tryz.func20, Tryz.ntmps20
  go_wp2_with (first
    | (go_at_call 40; (with_reducible refine (rf_Put _).mono ?_); rintro e u1 ⟨rfl, rfl⟩; dsimp only)
    | (go_at_call 18; (with_reducible refine HA1.out.mono ?_); rintro e u2 ⟨rfl, va, vc, hL2⟩; have HL2 := Lib.hid hL2; clear hL2 HA1; dsimp only)
    | (go_at_call 18; (with_reducible refine (HA2.out _ _ _ HL2.out).mono ?_); rintro e u2 ⟨rfl, va, vc, hL3⟩; have HL3 := Lib.hid hL3; clear hL3; dsimp only)
    | (go_at_call 19; (with_reducible refine (nl_Num _ _).mono ?_); rintro e ux ⟨rfl, hbx⟩; have HL2 := Lib.hid (HL2.out.more hbx); clear hbx; dsimp only)
    | (go_at_call 22; (with_reducible refine (nl_Obj _ _).mono ?_); rintro e ux ⟨rfl, hbx⟩; have HL2 := Lib.hid (HL2.out.more hbx); clear hbx; dsimp only))
  go_ret
  exact ⟨rfl, va, vc, _, _, HL3.out, rfl, rfl⟩
end
end Go.Proofs.YtoklohfpkaiidaaGreat.Obj
