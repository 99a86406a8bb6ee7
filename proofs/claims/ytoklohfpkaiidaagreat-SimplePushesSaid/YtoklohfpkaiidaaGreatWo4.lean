/- Worlds that may be: the first things, registers that are none: package image. -/
import Derived.Test.YtoklohfpkaiidaaGreatWo3
namespace Go.Proofs.YtoklohfpkaiidaaGreat.Obj
open Go.Proofs.YtoklohfpkaiidaaGreat.Gen Go.Proofs.YtoklohfpkaiidaaGreat.Base Go.ChangeShapes Go.WideShapes Go.ChangeAt Go.RowKit
set_option linter.unusedVariables false
/-- What the first things must be. -/
def okB (k : Nat) (t : Th) : Bool := if k = 0 then decide (t.cls = 3) else if k = 1 then decide (t.cls = 4) else if k = 2 then decide (t.cls = 5) else if k ≤ 18 then decide (t.cls = 10) else if k ≤ 21 then decide (t.fmt = 3) else decide (t.fmt = 1)
section
variable {w w' u u' : World} {a : Option Addr} {c : Nat} {L : List Th} {last : Int}
set_option maxRecDepth 100000 in
set_option maxHeartbeats 4000000 in
theorem im_begun (h : LAt w (.slice a L.length c) L) (hlen : L.length ≤ 100000) (h23 : 23 ≤ L.length) (hJ : ∀ (k : Nat) t, k < 23 → L[k]? = some t → okB k t = true) :
    Calls Tryz.prog 55 #[.agg #[.slice a L.length c, .slice none 0 0, .int .i64 last, .int .i64 0, .int .i64 0, .slice none 0 0, .slice none 0 0, .slice none 0 0, .string ByteArray.empty, .string ByteArray.empty, .int .i64 0, .int .i64 0, .slice none 0 0]] w fun e w' => e = .returned (.bool true) ∧ Below w.heap.size w w' := by
  have hz := zT
  have HW := Lib.hid (Wk.start (last := last) h)
  have HJ := Lib.hid hJ
  clear h hJ
  go_enter Tryz.func55, Tryz.ntmps55
  go_wp2_with fail
  go_loopw [6] (fun v6 wr => ∃ k : Nat, k ≤ 23 ∧ v6 = .int .i64 k ∧ Wk w wr a c L last) (fun v6 wr => 23 - (intOf v6).toNat)
  case atStart => exact ⟨0, by omega, rfl, HW.out⟩
  case round =>
    obtain ⟨k, hk, rfl, hW⟩ := hrel
    by_cases hlt : k < 23
    · have t2 : (k : Int) < 23 := by omega
      have t1 : (k : Int) < (L.length : Int) := by omega
      have t0 : (0 : Int) ≤ (k : Int) := by omega
      obtain ⟨t, ht⟩ : ∃ t, L[k]? = some t := ⟨_, List.getElem?_eq_getElem (by omega)⟩
      have hok := HJ.out k t hlt ht
      obtain ⟨aa, cc, e, hlc, hcm, hat⟩ := hW.la.at
      simp only [Value.slice.injEq] at e
      obtain ⟨rfl, -, rfl⟩ := e
      obtain ⟨b, o, rfl, hrg, hbb⟩ := hat k t ht
      obtain ⟨fa, fc, hfv⟩ := (hW.la.fs t (List.mem_of_getElem? ht)).slice
      obtain ⟨cls, fmt, hash, fin, fv, F, B⟩ := t
      dsimp only at hfv
      subst hfv
      unfold Th.cells at hrg
      dsimp only at hrg
      have HWK := Lib.hid (hW.alloc (.cells #[.int .i64 cls, .int .i64 fmt, .int .i64 hash, .bool fin, .slice fa F.length fc, .string B] 64))
      have HRG := Lib.hid hrg
      have x0 := hW.cell (j := 0) rfl
      unfold okB at hok
      dsimp only at hok
      have HOK := Lib.hid hok
      clear hat hrg ht hW HW hok
      go_upto_region 5 with (first
        | (refine wpList_load_mid (by rfl) 64 (Operand.tmp 12) (by rfl) b (o + k * 6) (by rfl) _ _ HRG.out Tryz.underlying64 rfl info6 ?_)
        | (refine wpList_store_row rfl 64 (Operand.tmp 4) (Operand.tmp 13) rfl wr.heap.size _ rfl rfl _ _ (heap_alloc_new wr _) info6 rfl rfl ?_; rw [World.setRow_alloc_new]))
      go_wp2_with (refine wpList_load_mid (by rfl) 30 (Operand.tmp 1) (by rfl) w.heap.size 0 (by rfl) _ _ HWK.out.rng Tryz.underlying30 rfl info13 ?_)
      refine (im_lives (last := last) (k : Int) t0 t1).mono ?_
      rintro e u2 ⟨rfl, hb2⟩
      have HK2 := Lib.hid (HWK.out.more hb2)
      have hT2 := (hb2.block wr.heap.size (by simp)).trans (heap_alloc_new wr (.cells #[.int .i64 cls, .int .i64 fmt, .int .i64 hash, .bool fin, .slice fa F.length fc, .string B] 64))
      have y0 : u2.cell? ⟨wr.heap.size, 0, none⟩ = some (.int .i64 cls) := by rw [cell_row _ _ _ _ _ _ hT2]; rfl
      have y1 : u2.cell? ⟨wr.heap.size, 1, none⟩ = some (.int .i64 fmt) := by rw [cell_row _ _ _ _ _ _ hT2]; rfl
      clear hb2 x0 hT2 HRG
      dsimp only
      have hok := HOK.out
      clear HOK
      rcases (show k = 0 ∨ k = 1 ∨ k = 2 ∨ (3 ≤ k ∧ k ≤ 18) ∨ (19 ≤ k ∧ k ≤ 21) ∨ k = 22 by omega) with rfl | rfl | rfl | ⟨ka, kb⟩ | ⟨ka, kb⟩ | rfl
      · obtain rfl : cls = 3 := by simpa using hok
        clear hok
        go_wp2_with fail
        refine ⟨⟨1, by omega, by simp, HK2.out⟩, by simp only [intOf]; omega⟩
      · obtain rfl : cls = 4 := by simpa using hok
        clear hok
        go_wp2_with fail
        refine ⟨⟨2, by omega, by simp, HK2.out⟩, by simp only [intOf]; omega⟩
      · obtain rfl : cls = 5 := by simpa using hok
        clear hok
        go_wp2_with fail
        refine ⟨⟨3, by omega, by simp, HK2.out⟩, by simp only [intOf]; omega⟩
      · rw [if_neg (by omega), if_neg (by omega), if_neg (by omega), if_pos kb] at hok
        obtain rfl : cls = 10 := by simpa using hok
        have d0 : ((k : Int) == 0) = false := by simp; omega
        have d1 : ((k : Int) == 1) = false := by simp; omega
        have d2 : ((k : Int) == 2) = false := by simp; omega
        have d3 : (k : Int) ≤ 18 := by omega
        clear hok
        go_wp2_with fail
        refine ⟨⟨k + 1, by omega, by simp, HK2.out⟩, by simp only [intOf]; omega⟩
      · rw [if_neg (by omega), if_neg (by omega), if_neg (by omega), if_neg (by omega), if_pos kb] at hok
        obtain rfl : fmt = 3 := by simpa using hok
        have d0 : ((k : Int) == 0) = false := by simp; omega
        have d1 : ((k : Int) == 1) = false := by simp; omega
        have d2 : ((k : Int) == 2) = false := by simp; omega
        have d3 : ¬ (k : Int) ≤ 18 := by omega
        have d4 : (k : Int) ≤ 21 := by omega
        clear hok
        go_wp2_with fail
        refine ⟨⟨k + 1, by omega, by simp, HK2.out⟩, by simp only [intOf]; omega⟩
      · obtain rfl : fmt = 1 := by simpa using hok
        clear hok
        go_wp2_with fail
        refine ⟨⟨23, by omega, by simp, HK2.out⟩, by simp only [intOf]; omega⟩
    · obtain rfl : k = 23 := by omega
      go_wp2_with fail
      go_ret
      exact ⟨rfl, hW.bel⟩
theorem im_told (w : World) : Calls Tryz.prog 99 #[.agg #[.int .i64 0, .int .i64 0, .slice none 0 0, .slice none 0 0, .slice none 0 0, .string ByteArray.empty, .string ByteArray.empty, .int .i64 0, .int .i64 0, .slice none 0 0]] w fun e w' => e = .returned (.bool true) ∧ Below w.heap.size w w' := by
  have hb : ∀ x, Below w.heap.size w (w.alloc x) := fun x => (Below.refl _ _).alloc (Nat.le_refl _) _
  go_enter Tryz.func99, Tryz.ntmps99
  go_wp2_with fail
  go_loopw [24] (fun v24 wr => v24 = .int .i64 0 ∧ wr = w.alloc (.cells #[.int .i64 0, .int .i64 0, .slice none 0 0, .slice none 0 0, .slice none 0 0, .string ByteArray.empty, .string ByteArray.empty, .int .i64 0, .int .i64 0, .slice none 0 0] 28)) (fun v24 wr => 0)
  case atStart => exact ⟨rfl, rfl⟩
  case round =>
    obtain ⟨rfl, rfl⟩ := hrel
    go_wp2_with fail
    go_ret
    exact ⟨rfl, hb _⟩
end
end Go.Proofs.YtoklohfpkaiidaaGreat.Obj
