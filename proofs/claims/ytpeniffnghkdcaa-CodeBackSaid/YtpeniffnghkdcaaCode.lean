/- The names of instructions: by their numbers, and numbers by names. -/
import Derived.Test.YtpeniffnghkdcaaBase2
import Derived.Lib.MinMax
import Derived.Deep.WholeRow
namespace Go.Proofs.Ytpeniffnghkdcaa.Cd
open Go.Proofs.Ytpeniffnghkdcaa.Gen Go.Proofs.Ytpeniffnghkdcaa.Base Go.ChangeShapes Go.WideShapes Go.ChangeAt Go.RowKit
set_option linter.unusedVariables false
def nms : Array ByteArray := #[⟨#[]⟩, ⟨#[115, 101, 108, 102]⟩, ⟨#[116, 101, 109, 112]⟩, ⟨#[108, 105, 116]⟩, ⟨#[102, 105, 101, 108, 100]⟩, ⟨#[115, 101, 116]⟩, ⟨#[115, 101, 116, 102, 105, 101, 108, 100]⟩, ⟨#[112, 111, 112]⟩, ⟨#[100, 117, 112]⟩, ⟨#[105, 110, 116]⟩, ⟨#[99, 111, 110, 115, 116]⟩, ⟨#[115, 101, 110, 100]⟩, ⟨#[115, 117, 112, 101, 114]⟩, ⟨#[106, 117, 109, 112]⟩, ⟨#[105, 102, 116, 114, 117, 101]⟩, ⟨#[105, 102, 102, 97, 108, 115, 101]⟩, ⟨#[114, 101, 116]⟩, ⟨#[117, 112]⟩, ⟨#[98, 108, 111, 99, 107]⟩, ⟨#[111, 117, 116, 101, 114]⟩, ⟨#[115, 101, 116, 111, 117, 116, 101, 114]⟩, ⟨#[97, 114, 114, 97, 121]⟩, ⟨#[102, 114, 97, 109, 101]⟩]
def cn (k : Nat) : ByteArray := nms.getD k ⟨#[]⟩
def nmsV : Array Value := #[.string ⟨#[]⟩, .string ⟨#[115, 101, 108, 102]⟩, .string ⟨#[116, 101, 109, 112]⟩, .string ⟨#[108, 105, 116]⟩, .string ⟨#[102, 105, 101, 108, 100]⟩, .string ⟨#[115, 101, 116]⟩, .string ⟨#[115, 101, 116, 102, 105, 101, 108, 100]⟩, .string ⟨#[112, 111, 112]⟩, .string ⟨#[100, 117, 112]⟩, .string ⟨#[105, 110, 116]⟩, .string ⟨#[99, 111, 110, 115, 116]⟩, .string ⟨#[115, 101, 110, 100]⟩, .string ⟨#[115, 117, 112, 101, 114]⟩, .string ⟨#[106, 117, 109, 112]⟩, .string ⟨#[105, 102, 116, 114, 117, 101]⟩, .string ⟨#[105, 102, 102, 97, 108, 115, 101]⟩, .string ⟨#[114, 101, 116]⟩, .string ⟨#[117, 112]⟩, .string ⟨#[98, 108, 111, 99, 107]⟩, .string ⟨#[111, 117, 116, 101, 114]⟩, .string ⟨#[115, 101, 116, 111, 117, 116, 101, 114]⟩, .string ⟨#[97, 114, 114, 97, 121]⟩, .string ⟨#[102, 114, 97, 109, 101]⟩]
theorem nmsV_at (k : Nat) (h : k < 23) : nmsV[k]? = some (.string (cn k)) := by
  have hk : k = 0 ∨ k = 1 ∨ k = 2 ∨ k = 3 ∨ k = 4 ∨ k = 5 ∨ k = 6 ∨ k = 7 ∨ k = 8 ∨ k = 9 ∨ k = 10 ∨ k = 11 ∨ k = 12 ∨ k = 13 ∨ k = 14 ∨ k = 15 ∨ k = 16 ∨ k = 17 ∨ k = 18 ∨ k = 19 ∨ k = 20 ∨ k = 21 ∨ k = 22 := by omega
  rcases hk with rfl | rfl | rfl | rfl | rfl | rfl | rfl | rfl | rfl | rfl | rfl | rfl | rfl | rfl | rfl | rfl | rfl | rfl | rfl | rfl | rfl | rfl | rfl <;> rfl
def cnm (n : Int) : ByteArray := if 1 ≤ n ∧ n ≤ 22 then cn n.toNat else ⟨#[]⟩
theorem ret_str {a b : ByteArray} (h : a = b) : Ending.returned (.string a) = .returned (.string b) := by rw [h]
def nmz : Array Value := Array.replicate 23 (.string ⟨#[]⟩)
theorem nmz_run (w : World) : Sem.run Try.prog (zeroValue 42) w = .ok (.agg nmz) w := by kernel_rfl
theorem nms_chain : ((((((((((((((((((((((nmz.setIfInBounds 1 (.string ⟨#[115, 101, 108, 102]⟩)).setIfInBounds 2 (.string ⟨#[116, 101, 109, 112]⟩)).setIfInBounds 3 (.string ⟨#[108, 105, 116]⟩)).setIfInBounds 4 (.string ⟨#[102, 105, 101, 108, 100]⟩)).setIfInBounds 5 (.string ⟨#[115, 101, 116]⟩)).setIfInBounds 6 (.string ⟨#[115, 101, 116, 102, 105, 101, 108, 100]⟩)).setIfInBounds 7 (.string ⟨#[112, 111, 112]⟩)).setIfInBounds 8 (.string ⟨#[100, 117, 112]⟩)).setIfInBounds 9 (.string ⟨#[105, 110, 116]⟩)).setIfInBounds 10 (.string ⟨#[99, 111, 110, 115, 116]⟩)).setIfInBounds 11 (.string ⟨#[115, 101, 110, 100]⟩)).setIfInBounds 12 (.string ⟨#[115, 117, 112, 101, 114]⟩)).setIfInBounds 13 (.string ⟨#[106, 117, 109, 112]⟩)).setIfInBounds 14 (.string ⟨#[105, 102, 116, 114, 117, 101]⟩)).setIfInBounds 15 (.string ⟨#[105, 102, 102, 97, 108, 115, 101]⟩)).setIfInBounds 16 (.string ⟨#[114, 101, 116]⟩)).setIfInBounds 17 (.string ⟨#[117, 112]⟩)).setIfInBounds 18 (.string ⟨#[98, 108, 111, 99, 107]⟩)).setIfInBounds 19 (.string ⟨#[111, 117, 116, 101, 114]⟩)).setIfInBounds 20 (.string ⟨#[115, 101, 116, 111, 117, 116, 101, 114]⟩)).setIfInBounds 21 (.string ⟨#[97, 114, 114, 97, 121]⟩)).setIfInBounds 22 (.string ⟨#[102, 114, 97, 109, 101]⟩)) = nmsV := by kernel_rfl
set_option maxHeartbeats 1000000 in
theorem cd_names (w : World) : Calls Try.prog 18 #[] w fun e w' => e = .returned (.agg nmsV) ∧ Gr w w' := by
  have hz := nmz_run
  have hs : nmz.size = 23 := rfl
  go_enter Try.func18, Try.ntmps18
  go_wp2_with (with_reducible refine wpList_store_row rfl _ _ _ rfl w.heap.size nmsV rfl rfl _ nmz (heap_alloc_new w _) (by kernel_rfl) (by kernel_rfl) (by kernel_rfl) ?_)
  rw [nms_chain, World.setRow_alloc_new]
  exact bodyPost_ret (v := .agg nmsV) (results_cell_row rfl _ _ w.heap.size _ nmsV (0, 0) (.array 23 9) rfl (heap_alloc_new w _) (by kernel_rfl) (by kernel_rfl) (by kernel_rfl)) rfl ⟨rfl, Gr.alloc (Gr.refl _) _ _⟩
theorem nms_index (k : Nat) (h : k < 23) (w : World) : (Instr.index 42 (.agg nmsV) (.int .i64 k)).run Try.prog w = .ok (.string (cn k)) w := by
  have hk : k = 0 ∨ k = 1 ∨ k = 2 ∨ k = 3 ∨ k = 4 ∨ k = 5 ∨ k = 6 ∨ k = 7 ∨ k = 8 ∨ k = 9 ∨ k = 10 ∨ k = 11 ∨ k = 12 ∨ k = 13 ∨ k = 14 ∨ k = 15 ∨ k = 16 ∨ k = 17 ∨ k = 18 ∨ k = 19 ∨ k = 20 ∨ k = 21 ∨ k = 22 := by omega
  rcases hk with rfl | rfl | rfl | rfl | rfl | rfl | rfl | rfl | rfl | rfl | rfl | rfl | rfl | rfl | rfl | rfl | rfl | rfl | rfl | rfl | rfl | rfl | rfl <;> rfl
theorem cd_Name (n : Int) (hw : (Lit.int .i64 n).wf = true) (w : World) :
    Calls Try.prog 13 #[.int .i64 n] w fun e w' => e = .returned (.string (cnm n)) ∧ Gr w w' := by
  have hb := bounds_i64 hw
  by_cases h1 : 1 ≤ n
  · by_cases h2 : n ≤ 22
    · obtain ⟨k, rfl⟩ := Int.eq_ofNat_of_zero_le (show 0 ≤ n by omega)
      have hi := nms_index k (by omega)
      have e : cnm (k : Int) = cn k := by unfold cnm; rw [if_pos ⟨h1, h2⟩]; simp
      have E := Lib.hid e; clear e
      go_enter Try.func13, Try.ntmps13
      go_wp2_with (refine (cd_names _).mono ?_; rintro e u1 ⟨rfl, g1⟩)
      go_ret
      exact ⟨ret_str E.out.symm, by repeat' (first | with_reducible exact Gr.refl _ | with_reducible assumption | with_reducible refine Gr.drewN ?_ _ | with_reducible refine Gr.drew ?_ | with_reducible refine Gr.alloc ?_ _ _ | with_reducible refine Gr.setCell ?_ ?_ _ | with_reducible refine Gr.trans ?_ (by with_reducible assumption) | (simp; done) | (simp; omega))⟩
    · have e := Lib.hid (show cnm n = ⟨#[]⟩ by unfold cnm; rw [if_neg (by omega)])
      go_enter Try.func13, Try.ntmps13
      go_wp2
      go_ret
      exact ⟨ret_str e.out.symm, by repeat' (first | with_reducible exact Gr.refl _ | with_reducible assumption | with_reducible refine Gr.drewN ?_ _ | with_reducible refine Gr.drew ?_ | with_reducible refine Gr.alloc ?_ _ _ | with_reducible refine Gr.setCell ?_ ?_ _ | with_reducible refine Gr.trans ?_ (by with_reducible assumption) | (simp; done) | (simp; omega))⟩
  · have e := Lib.hid (show cnm n = ⟨#[]⟩ by unfold cnm; rw [if_neg (by omega)])
    go_enter Try.func13, Try.ntmps13
    go_wp2
    go_ret
    exact ⟨ret_str e.out.symm, by repeat' (first | with_reducible exact Gr.refl _ | with_reducible assumption | with_reducible refine Gr.drewN ?_ _ | with_reducible refine Gr.drew ?_ | with_reducible refine Gr.alloc ?_ _ _ | with_reducible refine Gr.setCell ?_ ?_ _ | with_reducible refine Gr.trans ?_ (by with_reducible assumption) | (simp; done) | (simp; omega))⟩
theorem str_ne {a b : ByteArray} (h : ¬ a = b) : (a.toList == b.toList) = false := by
  rw [beq_eq_false_iff_ne, ByteArray.toList_eq, ByteArray.toList_eq]; exact fun e => h (bytes_inj e)
def ix (s : ByteArray) : Nat → Nat → Int
  | 0, _ => -1
  | n + 1, k => if s = cn k then (k : Int) else ix s n (k + 1)
def opOf (s : ByteArray) : Int := max 0 (ix s 23 0)
theorem ix_lo (s : ByteArray) : ∀ n k, -1 ≤ ix s n k
  | 0, _ => by simp [ix]
  | n + 1, k => by unfold ix; split; omega; exact ix_lo s n (k + 1)
theorem cd_index (s : ByteArray) (b : Nat) (w : World) (hc : ∀ k, k < 23 → w.cell? ⟨b, k, none⟩ = some (.string (cn k))) :
    Calls Try.prog 19 #[.slice (some ⟨b, 0, none⟩) 23 23, .string s] w fun e w' => e = .returned (.int .i64 (ix s 23 0)) ∧ w = w' := by
  have HC := Lib.hid hc; clear hc
  go_enter Try.func19, Try.ntmps19
  go_wp2
  go_loop [8] (fun v => ∃ k : Nat, k ≤ 23 ∧ v = .int .i64 k ∧ ix s 23 0 = ix s (23 - k) k) (fun v => 23 - (intOf v).toNat)
  case atStart => exact ⟨0, by omega, rfl, rfl⟩
  case round =>
    obtain ⟨k, k0, rfl, hk⟩ := hrel
    have HK := Lib.hid hk; clear hk
    by_cases hlt : k < 23
    · have hx := HC.out k hlt
      have i0 : (0 : Int) ≤ (k : Int) := by omega
      have i1 : (k : Int) < 23 := by omega
      have hs : ix s (23 - k) k = if s = cn k then (k : Int) else ix s (23 - (k + 1)) (k + 1) := by
        rw [show 23 - k = (23 - (k + 1)) + 1 by omega]; rfl
      generalize hcn : cn k = c at *
      by_cases he : s = c
      · subst he
        have HS := Lib.hid (show ix s 23 0 = (k : Int) by rw [HK.out, hs, if_pos rfl])
        clear hs hcn
        go_wp2
        go_ret
        exact ⟨ret_i64 HS.out.symm, rfl⟩
      · have hb := str_ne he
        have HS := Lib.hid (show ix s 23 0 = ix s (23 - (k + 1)) (k + 1) by rw [HK.out, hs, if_neg he])
        clear hs hcn
        go_wp2
        go_round
        case rel => exact ⟨k + 1, by omega, by go_num, HS.out⟩
        case measure => simp [intOf]; omega
    · obtain rfl : k = 23 := by omega
      have HS := Lib.hid (show ix s 23 0 = -1 by rw [HK.out]; rfl)
      go_wp2
      go_ret
      exact ⟨ret_i64 HS.out.symm, rfl⟩
theorem nms_cells (w : World) (k : Nat) (h : k < 23) : (w.alloc (.cells nmsV 42)).cell? ⟨w.heap.size, k, none⟩ = some (.string (cn k)) := by
  rw [World.cell?_alloc_new]; simpa using nmsV_at k h
end Go.Proofs.Ytpeniffnghkdcaa.Cd
