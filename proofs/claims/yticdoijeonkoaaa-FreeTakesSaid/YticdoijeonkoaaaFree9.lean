/- Longest of package free. -/
import Derived.Test.YticdoijeonkoaaaFree8
import Derived.Deep.MidRow
namespace Go.Proofs.Yticdoijeonkoaaa.Fr
open Go.Proofs.Yticdoijeonkoaaa.Gen Go.Proofs.Yticdoijeonkoaaa.Base Go.Proofs.Yticdoijeonkoaaa.Bt Go.ChangeShapes Go.WideShapes Go.ChangeAt Go.RowKit
set_option linter.unusedVariables false
/-- The longest of the runs that are listed in the first k kinds, at least m. -/
def mostL (lng : List Int) (l : List Int) (m : Int) : Int := l.foldl (fun m x => max m (lg lng x)) m
def mostK (lng : List Int) (ls : Nat → List Int) : Nat → Int
  | 0 => 0
  | k + 1 => mostL lng (ls k) (mostK lng ls k)
theorem mostL_step {lng : List Int} {l : List Int} {m : Int} {i : Nat} (h : i < l.length) : mostL lng (l.take (i + 1)) m = max (mostL lng (l.take i) m) (lg lng (l[i]?.getD 0)) := by
  unfold mostL
  rw [List.take_add_one, List.getElem?_eq_getElem h, Option.toList_some, List.foldl_append]
  rfl
def vsl (B : FB) : List Value := (List.range 18).map B.vs
theorem range_lists (w : World) (B : FB) (F : FS) (h : Fr w B F) : w.rangeAt B.r 3 (vsl B) := by
  intro j v hj
  have hj18 : j < 18 := by
    have := (List.getElem?_eq_some_iff.1 hj).1
    simpa [vsl] using this
  rw [h.cl j hj18]
  simpa [vsl, hj18] using hj
theorem size_lists (B : FB) : (Try.prog.info? 40).map (·.size) = some (vsl B).length := by simp only [vsl, List.length_map, List.length_range]; kernel_rfl
theorem lists_index (B : FB) (k : Nat) (h : k < 18) (w : World) : (Instr.index 40 (.agg (vsl B).toArray) (.int .i64 k)).run Try.prog w = .ok (B.vs k) w := by
  have hk : k = 0 ∨ k = 1 ∨ k = 2 ∨ k = 3 ∨ k = 4 ∨ k = 5 ∨ k = 6 ∨ k = 7 ∨ k = 8 ∨ k = 9 ∨ k = 10 ∨ k = 11 ∨ k = 12 ∨ k = 13 ∨ k = 14 ∨ k = 15 ∨ k = 16 ∨ k = 17 := by omega
  rcases hk with rfl | rfl | rfl | rfl | rfl | rfl | rfl | rfl | rfl | rfl | rfl | rfl | rfl | rfl | rfl | rfl | rfl | rfl <;> rfl
set_option maxHeartbeats 2000000 in
theorem longest_any (w : World) (B : FB) (F : FS) (h : Fr w B F) (hv : ∀ k, k < 18 → ∀ x ∈ F.ls k, 0 ≤ x ∧ x < (F.opn.length : Int)) :
    Calls Try.prog 8 #[.pointer (some ⟨B.r, 0, none⟩)] w
      fun e w' => e = .returned (.int .i64 (mostK F.lng F.ls 18)) ∧ w = w' := by
  have hr := range_lists w B F h
  have hsl := size_lists B
  have harr := fun k h => lists_index B k h
  have HF := Lib.hid h; have HV := Lib.hid hv; have HA := Lib.hid harr
  have c1 := h.c1
  have hle := h.le
  clear h hv harr
  go_enter Try.func8, Try.ntmps8
  have HR := Lib.hid hr; have HSL := Lib.hid hsl; clear hr hsl
  go_wp2_with (refine wpList_load_mid (by rfl) 40 (Operand.tmp 10) (by rfl) B.r 3 (by rfl) _ _ HR.out Try.underlying40 rfl HSL.out ?_)
  generalize (vsl B).toArray = arr at *
  go_loop [3, 12] (fun v3 v12 => ∃ k : Nat, k ≤ 18 ∧ v12 = .int .i64 k ∧ v3 = .int .i64 (mostK F.lng F.ls k)) (fun _ v12 => 18 - (intOf v12).toNat)
  case atStart => exact ⟨0, by omega, rfl, rfl⟩
  case round =>
    obtain ⟨k, k1, rfl, rfl⟩ := hrel
    by_cases hk' : k < 18
    · obtain ⟨la, cap, hvs, hcap1, hcap2⟩ := HF.out.form k hk'
      have hcell := fun w => HA.out k hk' w
      rw [hvs] at hcell
      have b1 : (k : Int) < 18 := by omega
      have b0 : (0 : Int) ≤ (k : Int) := by omega
      generalize hlen : (F.ls k).length = L at *
      have hcl : ∀ i, i < L → ∃ x : Nat, (F.ls k)[i]?.getD 0 = (x : Int) ∧ x < F.opn.length ∧ ∃ g, la = some ⟨g, 0, none⟩ ∧ w.cell? ⟨g, i, none⟩ = some (.int .i64 (x : Int)) := fun i hi => by
        have hown := HF.out.ls k hk'
        rw [hvs, hlen] at hown
        obtain ⟨g, cap', hv2, _, _⟩ := own_form hown (by omega)
        obtain ⟨rfl, rfl⟩ : la = some ⟨g, 0, none⟩ ∧ cap = cap' := by simpa using hv2
        obtain ⟨hc, _, _⟩ := own_cells hown
        have hil : i < (F.ls k).length := by omega
        have := HV.out k hk' ((F.ls k)[i]) (List.getElem_mem _)
        refine ⟨((F.ls k)[i]).toNat, ?_, by omega, g, rfl, ?_⟩
        · rw [List.getElem?_eq_getElem hil]; simp; omega
        · rw [hc i hi, List.getElem?_eq_getElem hil]; simp; omega
      have HCL := Lib.hid hcl; have HVS := Lib.hid hvs; have HLEN := Lib.hid hlen; clear hcl hvs hlen
      go_upto_region 6 with fail
      go_loop [3, 17] (fun v3 v17 => ∃ i : Nat, i ≤ L ∧ v17 = .int .i64 i ∧ v3 = .int .i64 (mostL F.lng ((F.ls k).take i) (mostK F.lng F.ls k))) (fun _ v17 => L - (intOf v17).toNat)
      case atStart => exact ⟨0, by omega, rfl, rfl⟩
      case round =>
        obtain ⟨i, i1, rfl, rfl⟩ := hrel
        by_cases hi' : i < L
        · obtain ⟨x, hx, hxl, g, rfl, cx⟩ := HCL.out i hi'
          have cix := HF.out.ci x hxl
          have hst := Lib.hid (mostL_step (lng := F.lng) (l := F.ls k) (m := mostK F.lng F.ls k) (i := i) (by have := HLEN.out; omega))
          have hlx : lg F.lng (x : Int) = F.lng[x]?.getD 0 := by simp [lg]
          have hst2 : mostL F.lng ((F.ls k).take (i + 1)) (mostK F.lng F.ls k) = max (mostL F.lng ((F.ls k).take i) (mostK F.lng F.ls k)) (F.lng[x]?.getD 0) := by rw [hst.out, hx, hlx]
          have HST := Lib.hid hst2; clear hst2 hlx hst hx
          generalize F.lng[x]?.getD 0 = V at *
          generalize mostL F.lng ((F.ls k).take i) (mostK F.lng F.ls k) = M at *
          have t3 : (i : Int) < (L : Int) := by omega
          have t4 : (0 : Int) ≤ (i : Int) := by omega
          have t5 : (x : Int) < (F.opn.length : Int) := by omega
          go_wp2_with fail
          all_goals
            refine ⟨⟨i + 1, by omega, by simp, by rw [HST.out]⟩, by simp only [intOf]; omega⟩
        · obtain rfl : i = L := by omega
          have hall : (F.ls k).take i = F.ls k := List.take_of_length_le (by have := HLEN.out; omega)
          rw [hall]
          have HK := Lib.hid (show mostK F.lng F.ls (k + 1) = mostL F.lng (F.ls k) (mostK F.lng F.ls k) from rfl)
          generalize mostL F.lng (F.ls k) (mostK F.lng F.ls k) = M at *
          go_wp2_with fail
          exact ⟨⟨k + 1, by omega, by simp, by rw [HK.out]⟩, by simp only [intOf]; omega⟩
    · obtain rfl : k = 18 := by omega
      generalize hM : mostK F.lng F.ls 18 = M at *
      have HM := Lib.hid hM; clear hM
      go_wp2_with fail
      go_ret
      exact ⟨by rw [HM.out]; rfl, rfl⟩
end Go.Proofs.Yticdoijeonkoaaa.Fr
