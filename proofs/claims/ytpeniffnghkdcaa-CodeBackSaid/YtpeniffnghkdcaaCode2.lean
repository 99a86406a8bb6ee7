/- Instructions by their names, the document's names, and instructions in bytes. -/
import Derived.Test.YtpeniffnghkdcaaCode
import Derived.Deep.DeepCutAuto
namespace Go.Proofs.Ytpeniffnghkdcaa.Cd
open Go.Proofs.Ytpeniffnghkdcaa.Gen Go.Proofs.Ytpeniffnghkdcaa.Base Go.ChangeShapes Go.WideShapes Go.ChangeAt Go.RowKit
set_option linter.unusedVariables false
theorem cd_Op (s : ByteArray) (w : World) :
    Calls Try.prog 15 #[.string s] w fun e w' => e = .returned (.int .i64 (opOf s)) ∧ Gr w w' := by
  have hz := nmz_run
  have hs : nmz.size = 23 := rfl
  have E := Lib.hid (show max 0 (ix s 23 0) = opOf s from rfl)
  go_enter Try.func15, Try.ntmps15
  go_wp2_with fail
  refine (cd_names _).mono ?_; rintro e u1 ⟨rfl, g1⟩
  go_wp2_with (with_reducible refine wpList_store_row rfl _ _ _ rfl u1.heap.size nmsV rfl rfl _ nmz (heap_alloc_new u1 _) (by kernel_rfl) (by kernel_rfl) (by kernel_rfl) ?_)
  rw [World.setRow_alloc_new]
  refine (cd_index s _ _ (nms_cells u1)).mono ?_; rintro e u2 ⟨rfl, rfl⟩
  go_wp2_with fail
  go_ret
  exact ⟨ret_i64 E.out, by repeat' (first | with_reducible exact Gr.refl _ | with_reducible assumption | with_reducible refine Gr.drewN ?_ _ | with_reducible refine Gr.drew ?_ | with_reducible refine Gr.alloc ?_ _ _ | with_reducible refine Gr.setCell ?_ ?_ _ | with_reducible refine Gr.trans ?_ (by with_reducible assumption) | (simp; done) | (simp; omega))⟩
theorem rf_chain : (((((((((((((((((((((((nmz.setIfInBounds 0 (.string ⟨#[]⟩)).setIfInBounds 1 (.string ⟨#[115, 101, 108, 102]⟩)).setIfInBounds 2 (.string ⟨#[116, 101, 109, 112]⟩)).setIfInBounds 3 (.string ⟨#[108, 105, 116]⟩)).setIfInBounds 4 (.string ⟨#[102, 105, 101, 108, 100]⟩)).setIfInBounds 5 (.string ⟨#[115, 101, 116]⟩)).setIfInBounds 6 (.string ⟨#[115, 101, 116, 102, 105, 101, 108, 100]⟩)).setIfInBounds 7 (.string ⟨#[112, 111, 112]⟩)).setIfInBounds 8 (.string ⟨#[100, 117, 112]⟩)).setIfInBounds 9 (.string ⟨#[105, 110, 116]⟩)).setIfInBounds 10 (.string ⟨#[99, 111, 110, 115, 116]⟩)).setIfInBounds 11 (.string ⟨#[115, 101, 110, 100]⟩)).setIfInBounds 12 (.string ⟨#[115, 117, 112, 101, 114]⟩)).setIfInBounds 13 (.string ⟨#[106, 117, 109, 112]⟩)).setIfInBounds 14 (.string ⟨#[105, 102, 116, 114, 117, 101]⟩)).setIfInBounds 15 (.string ⟨#[105, 102, 102, 97, 108, 115, 101]⟩)).setIfInBounds 16 (.string ⟨#[114, 101, 116]⟩)).setIfInBounds 17 (.string ⟨#[117, 112]⟩)).setIfInBounds 18 (.string ⟨#[98, 108, 111, 99, 107]⟩)).setIfInBounds 19 (.string ⟨#[111, 117, 116, 101, 114]⟩)).setIfInBounds 20 (.string ⟨#[115, 101, 116, 111, 117, 116, 101, 114]⟩)).setIfInBounds 21 (.string ⟨#[97, 114, 114, 97, 121]⟩)).setIfInBounds 22 (.string ⟨#[102, 114, 97, 109, 101]⟩)) = nmsV := by kernel_rfl
set_option maxHeartbeats 2000000 in
theorem rf_Name (n : Int) (hw : (Lit.int .i64 n).wf = true) (w : World) :
    Calls Try.prog 14 #[.int .i64 n] w fun e w' => e = .returned (.string (cnm n)) ∧ Gr w w' := by
  have hb := bounds_i64 hw
  have hz := nmz_run
  have hs : nmz.size = 23 := rfl
  by_cases h1 : 1 ≤ n
  · by_cases h2 : n ≤ 22
    · obtain ⟨k, rfl⟩ := Int.eq_ofNat_of_zero_le (show 0 ≤ n by omega)
      have hc := nms_cells w k (by omega)
      have e : cnm (k : Int) = cn k := by unfold cnm; rw [if_pos ⟨h1, h2⟩]; simp
      have E := Lib.hid e; clear e
      have h3 : (k : Int) < 23 := by omega
      go_enter Try.func14, Try.ntmps14
      go_upto_region 2 with (with_reducible refine wpList_store_row rfl _ _ _ rfl w.heap.size _ rfl rfl _ nmz (heap_alloc_new w _) (by kernel_rfl) (by kernel_rfl) (by kernel_rfl) ?_)
      rw [rf_chain, World.setRow_alloc_new]
      go_wp2_with fail
      go_ret
      exact ⟨ret_str E.out.symm, by repeat' (first | with_reducible exact Gr.refl _ | with_reducible assumption | with_reducible refine Gr.drewN ?_ _ | with_reducible refine Gr.drew ?_ | with_reducible refine Gr.alloc ?_ _ _ | with_reducible refine Gr.setCell ?_ ?_ _ | with_reducible refine Gr.trans ?_ (by with_reducible assumption) | (simp; done) | (simp; omega))⟩
    · have e := Lib.hid (show cnm n = ⟨#[]⟩ by unfold cnm; rw [if_neg (by omega)])
      go_enter Try.func14, Try.ntmps14
      go_upto_region 2 with (with_reducible refine wpList_store_row rfl _ _ _ rfl w.heap.size _ rfl rfl _ nmz (heap_alloc_new w _) (by kernel_rfl) (by kernel_rfl) (by kernel_rfl) ?_)
      rw [rf_chain, World.setRow_alloc_new]
      go_wp2_with fail
      go_ret
      exact ⟨ret_str e.out.symm, by repeat' (first | with_reducible exact Gr.refl _ | with_reducible assumption | with_reducible refine Gr.drewN ?_ _ | with_reducible refine Gr.drew ?_ | with_reducible refine Gr.alloc ?_ _ _ | with_reducible refine Gr.setCell ?_ ?_ _ | with_reducible refine Gr.trans ?_ (by with_reducible assumption) | (simp; done) | (simp; omega))⟩
  · have e := Lib.hid (show cnm n = ⟨#[]⟩ by unfold cnm; rw [if_neg (by omega)])
    go_enter Try.func14, Try.ntmps14
    go_upto_region 2 with (with_reducible refine wpList_store_row rfl _ _ _ rfl w.heap.size _ rfl rfl _ nmz (heap_alloc_new w _) (by kernel_rfl) (by kernel_rfl) (by kernel_rfl) ?_)
    rw [rf_chain, World.setRow_alloc_new]
    go_wp2_with fail
    go_ret
    exact ⟨ret_str e.out.symm, by repeat' (first | with_reducible exact Gr.refl _ | with_reducible assumption | with_reducible refine Gr.drewN ?_ _ | with_reducible refine Gr.drew ?_ | with_reducible refine Gr.alloc ?_ _ _ | with_reducible refine Gr.setCell ?_ ?_ _ | with_reducible refine Gr.trans ?_ (by with_reducible assumption) | (simp; done) | (simp; omega))⟩
def rx (s : ByteArray) : Nat → Nat → Int
  | 0, _ => 0
  | n + 1, k => if cn k = s then (k : Int) else rx s n (k + 1)
theorem rx_ix (s : ByteArray) : ∀ n k, rx s n k = max 0 (ix s n k)
  | 0, _ => by show (0 : Int) = max 0 (-1); decide
  | n + 1, k => by
    unfold rx ix
    by_cases h : s = cn k
    · rw [if_pos h.symm, if_pos h]; omega
    · rw [if_neg (fun e => h e.symm), if_neg h]; exact rx_ix s n (k + 1)
theorem rx_op (s : ByteArray) : rx s 22 1 = opOf s := by
  unfold opOf
  by_cases h : s = cn 0
  · rw [h]; rfl
  · rw [rx_ix]; conv => rhs; unfold ix
    rw [if_neg h]
theorem rf_Op (s : ByteArray) (w : World) :
    Calls Try.prog 16 #[.string s] w fun e w' => e = .returned (.int .i64 (opOf s)) ∧ Gr w w' := by
  rw [← rx_op]
  go_enter Try.func16, Try.ntmps16
  go_wp2
  go_loopw [3] (fun v wr => ∃ k : Nat, 1 ≤ k ∧ k ≤ 23 ∧ v = .int .i64 k ∧ rx s 22 1 = rx s (23 - k) k ∧ Gr w wr) (fun v wr => 23 - (intOf v).toNat)
  case atStart => exact ⟨1, by omega, by omega, rfl, rfl, Gr.refl _⟩
  case round =>
    obtain ⟨k, k1, k0, rfl, hk, hg⟩ := hrel
    have HK := Lib.hid hk; clear hk
    by_cases hlt : k < 23
    · have hs : rx s (23 - k) k = if cn k = s then (k : Int) else rx s (23 - (k + 1)) (k + 1) := by
        rw [show 23 - k = (23 - (k + 1)) + 1 by omega]; rfl
      have hcm : cnm (k : Int) = cn k := by unfold cnm; rw [if_pos ⟨by omega, by omega⟩]; simp
      have wfk : (Lit.int .i64 (k : Int)).wf = true := i64_wf (by omega) (by omega)
      have HCM := Lib.hid hcm; clear hcm
      by_cases he : cn k = s
      · have HS := Lib.hid (show rx s 22 1 = (k : Int) by rw [HK.out, hs, if_pos he])
        have HE := Lib.hid he
        clear hs he
        go_wp2_with fail
        refine (rf_Name _ wfk _).mono ?_; rintro e u1 ⟨rfl, g1⟩
        rw [HCM.out, HE.out]
        go_wp2_with fail
        go_ret
        exact ⟨ret_i64 HS.out.symm, hg.trans g1⟩
      · have hb := str_ne he
        have HS := Lib.hid (show rx s 22 1 = rx s (23 - (k + 1)) (k + 1) by rw [HK.out, hs, if_neg he])
        clear hs
        go_wp2_with fail
        refine (rf_Name _ wfk _).mono ?_; rintro e u1 ⟨rfl, g1⟩
        rw [HCM.out]
        go_wp2_with fail
        go_roundw
        case rel => exact ⟨k + 1, by omega, by omega, by go_num, HS.out, hg.trans g1⟩
        case measure => simp [intOf]; omega
    · obtain rfl : k = 23 := by omega
      have HS := Lib.hid (show rx s 22 1 = 0 by rw [HK.out]; rfl)
      go_wp2
      go_ret
      exact ⟨ret_i64 HS.out.symm, hg⟩
end Go.Proofs.Ytpeniffnghkdcaa.Cd
