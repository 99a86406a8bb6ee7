/- One way of a law: which field is turned is fixed. -/
import Derived.Test.YthdidhpblhfcbabHead3
import Derived.Test.YthdidhpblhfcbabBase2
import Derived.Deep.RegionHeld3
import Derived.Deep.DrawnRows
namespace Go.Proofs.Ythdidhpblhfcbab.Ap4
open Go.Proofs.Ythdidhpblhfcbab.Gen Go.Proofs.Ythdidhpblhfcbab.Base Go.Proofs.Ythdidhpblhfcbab.Hd Go.ChangeShapes Go.WideShapes Go.ChangeAt Go.RowKit
set_option linter.unusedVariables false
attribute [local go_sem ↓] Go.wp_at_zero Go.wp_at_succ
theorem keep18 {W wa wb : World} {p q r : Nat} {x0 x1 x2 x3 x4 x5 y0 y1 y2 y3 y4 y5 z0 z1 z2 z3 z4 z5 : Value} (h : Gr W wa ∧ p < wa.heap.size ∧ q < wa.heap.size ∧ r < wa.heap.size ∧ wa.cell? ⟨p, 0, none⟩ = some x0 ∧ wa.cell? ⟨p, 1, none⟩ = some x1 ∧ wa.cell? ⟨p, 2, none⟩ = some x2 ∧ wa.cell? ⟨p, 3, none⟩ = some x3 ∧ wa.cell? ⟨p, 4, none⟩ = some x4 ∧ wa.cell? ⟨p, 5, none⟩ = some x5 ∧ wa.cell? ⟨q, 0, none⟩ = some y0 ∧ wa.cell? ⟨q, 1, none⟩ = some y1 ∧ wa.cell? ⟨q, 2, none⟩ = some y2 ∧ wa.cell? ⟨q, 3, none⟩ = some y3 ∧ wa.cell? ⟨q, 4, none⟩ = some y4 ∧ wa.cell? ⟨q, 5, none⟩ = some y5 ∧ wa.cell? ⟨r, 0, none⟩ = some z0 ∧ wa.cell? ⟨r, 1, none⟩ = some z1 ∧ wa.cell? ⟨r, 2, none⟩ = some z2 ∧ wa.cell? ⟨r, 3, none⟩ = some z3 ∧ wa.cell? ⟨r, 4, none⟩ = some z4 ∧ wa.cell? ⟨r, 5, none⟩ = some z5) (hg : Gr wa wb) : Gr W wb ∧ p < wb.heap.size ∧ q < wb.heap.size ∧ r < wb.heap.size ∧ wb.cell? ⟨p, 0, none⟩ = some x0 ∧ wb.cell? ⟨p, 1, none⟩ = some x1 ∧ wb.cell? ⟨p, 2, none⟩ = some x2 ∧ wb.cell? ⟨p, 3, none⟩ = some x3 ∧ wb.cell? ⟨p, 4, none⟩ = some x4 ∧ wb.cell? ⟨p, 5, none⟩ = some x5 ∧ wb.cell? ⟨q, 0, none⟩ = some y0 ∧ wb.cell? ⟨q, 1, none⟩ = some y1 ∧ wb.cell? ⟨q, 2, none⟩ = some y2 ∧ wb.cell? ⟨q, 3, none⟩ = some y3 ∧ wb.cell? ⟨q, 4, none⟩ = some y4 ∧ wb.cell? ⟨q, 5, none⟩ = some y5 ∧ wb.cell? ⟨r, 0, none⟩ = some z0 ∧ wb.cell? ⟨r, 1, none⟩ = some z1 ∧ wb.cell? ⟨r, 2, none⟩ = some z2 ∧ wb.cell? ⟨r, 3, none⟩ = some z3 ∧ wb.cell? ⟨r, 4, none⟩ = some z4 ∧ wb.cell? ⟨r, 5, none⟩ = some z5 := by
  obtain ⟨a, b, c, d, h0, h1, h2, h3, h4, h5, k0, k1, k2, k3, k4, k5, l0, l1, l2, l3, l4, l5⟩ := h
  have hs := hg.size
  exact ⟨a.trans hg, by omega, by omega, by omega, hg.keep h0, hg.keep h1, hg.keep h2, hg.keep h3, hg.keep h4, hg.keep h5, hg.keep k0, hg.keep k1, hg.keep k2, hg.keep k3, hg.keep k4, hg.keep k5, hg.keep l0, hg.keep l1, hg.keep l2, hg.keep l3, hg.keep l4, hg.keep l5⟩
theorem place_k (v : Int) (k : Int) (hk : v % 6 = k) (hv : (Lit.int .i64 v).wf = true) (w : World) : Calls Try.prog 13 #[.int .i64 v, .int .i64 6] w fun e w' => e = .returned (.int .i64 k) ∧ w = w' := by
  have c := place_any v 6 (by decide) (by decide) hv w; rw [hk] at c; exact c
set_option maxHeartbeats 4000000 in
theorem walk4 (a0 a1 a2 : Int) (w0 : (Lit.int .u32 a0).wf = true) (w1 : (Lit.int .i64 a1).wf = true) (w2 : (Lit.int .i64 a2).wf = true) (hk : a1 % 6 = 4) (w : World) :
    Calls Try.prog 5 #[.int .u32 a0, .int .i64 a1, .int .i64 a2] w fun e w' => e = .returned (.bool true) ∧ Grown w w' := by
  have b0 := bounds_u32 w0
  have m0 : bits .and .u32 a0 16777215 = a0 % 16777216 := u32_mask 24 a0 (by decide) (by omega) (by omega)
  have PG := put_get a0
  have HK := Lib.hid hk; clear hk
  have hix : ∀ w, (Instr.index 35 (.agg #[.int .u32 65535, .int .u32 196608, .int .u32 786432, .int .u32 3145728, .int .u32 4194304, .int .u32 8388608]) (.int .i64 4)).run Try.prog w = .ok (.int .u32 4194304) w := fun _ => by kernel_rfl
  go_enter Try.func5, Try.ntmps5
  go_wp2_with fail
  refine (hd_Get _ w0 _).mono ?_
  rintro e u1 ⟨rfl, g1⟩
  go_wp2_with fail
  refine (place_k a1 4 HK.out w1 _).mono ?_
  rintro e w' ⟨rfl, rfl⟩
  go_wp2_with fail
  have hb := hput_bd (hsiz a0) (hfmt a0) (hodd a0) (hcol a0) (!hfin a0) (hliv a0)
  have wf1 := u32_wf (v := hput (hsiz a0) (hfmt a0) (hodd a0) (hcol a0) (!hfin a0) (hliv a0)) (by omega) (by omega)
  have p1 := siz_put (hfmt a0) (hodd a0) (hcol a0) (!hfin a0) (hliv a0) 0 (hsiz_bd a0).1 (hsiz_bd a0).2
  have p2 := fmt_put (hsiz a0) (hodd a0) (hcol a0) (!hfin a0) (hliv a0) 0 (hfmt_bd a0).1 (hfmt_bd a0).2
  have p3 := odd_put (hsiz a0) (hfmt a0) (hcol a0) (!hfin a0) (hliv a0) 0 (hodd_bd a0).1 (hodd_bd a0).2
  have p4 := col_put (hsiz a0) (hfmt a0) (hodd a0) (!hfin a0) (hliv a0) 0 (hcol_bd a0).1 (hcol_bd a0).2
  have p5 := fin_put (hsiz a0) (hfmt a0) (hodd a0) (hcol a0) (!hfin a0) (hliv a0) 0
  have p6 := liv_put (hsiz a0) (hfmt a0) (hodd a0) (hcol a0) (!hfin a0) (hliv a0) 0
  simp only [Int.zero_mul, Int.add_zero] at p1 p2 p3 p4 p5 p6
  have AP : bits .andNot .u32 (a0 % 16777216) 4194304 = bits .andNot .u32 (hput (hsiz a0) (hfmt a0) (hodd a0) (hcol a0) (!hfin a0) (hliv a0)) 4194304 := by rw [← PG]; exact ap4 _ _ _ _ (hfin a0) (!hfin a0) _
  refine (hd_Put _ _ _ _ _ _ _).mono ?_
  rintro e u2 ⟨rfl, g2⟩
  go_wp2_with fail
  refine (hd_Get _ wf1 _).mono ?_
  rintro e u3 ⟨rfl, g3⟩
  go_wp2_with fail
  refine (place_k a1 4 HK.out w1 _).mono ?_
  rintro e w' ⟨rfl, rfl⟩
  have hS : Gr w (u3.alloc (.cells #[.int .i64 (hsiz a0), .int .i64 (hfmt a0), .int .i64 (hodd a0), .int .i64 (hcol a0), .bool (!hfin a0), .bool (hliv a0)] 25)) ∧ u1.heap.size < (u3.alloc (.cells #[.int .i64 (hsiz a0), .int .i64 (hfmt a0), .int .i64 (hodd a0), .int .i64 (hcol a0), .bool (!hfin a0), .bool (hliv a0)] 25)).heap.size ∧ u1.heap.size + 1 < (u3.alloc (.cells #[.int .i64 (hsiz a0), .int .i64 (hfmt a0), .int .i64 (hodd a0), .int .i64 (hcol a0), .bool (!hfin a0), .bool (hliv a0)] 25)).heap.size ∧ u3.heap.size < (u3.alloc (.cells #[.int .i64 (hsiz a0), .int .i64 (hfmt a0), .int .i64 (hodd a0), .int .i64 (hcol a0), .bool (!hfin a0), .bool (hliv a0)] 25)).heap.size ∧ (u3.alloc (.cells #[.int .i64 (hsiz a0), .int .i64 (hfmt a0), .int .i64 (hodd a0), .int .i64 (hcol a0), .bool (!hfin a0), .bool (hliv a0)] 25)).cell? ⟨u1.heap.size, 0, none⟩ = some (.int .i64 (hsiz a0)) ∧ (u3.alloc (.cells #[.int .i64 (hsiz a0), .int .i64 (hfmt a0), .int .i64 (hodd a0), .int .i64 (hcol a0), .bool (!hfin a0), .bool (hliv a0)] 25)).cell? ⟨u1.heap.size, 1, none⟩ = some (.int .i64 (hfmt a0)) ∧ (u3.alloc (.cells #[.int .i64 (hsiz a0), .int .i64 (hfmt a0), .int .i64 (hodd a0), .int .i64 (hcol a0), .bool (!hfin a0), .bool (hliv a0)] 25)).cell? ⟨u1.heap.size, 2, none⟩ = some (.int .i64 (hodd a0)) ∧ (u3.alloc (.cells #[.int .i64 (hsiz a0), .int .i64 (hfmt a0), .int .i64 (hodd a0), .int .i64 (hcol a0), .bool (!hfin a0), .bool (hliv a0)] 25)).cell? ⟨u1.heap.size, 3, none⟩ = some (.int .i64 (hcol a0)) ∧ (u3.alloc (.cells #[.int .i64 (hsiz a0), .int .i64 (hfmt a0), .int .i64 (hodd a0), .int .i64 (hcol a0), .bool (!hfin a0), .bool (hliv a0)] 25)).cell? ⟨u1.heap.size, 4, none⟩ = some (.bool (hfin a0)) ∧ (u3.alloc (.cells #[.int .i64 (hsiz a0), .int .i64 (hfmt a0), .int .i64 (hodd a0), .int .i64 (hcol a0), .bool (!hfin a0), .bool (hliv a0)] 25)).cell? ⟨u1.heap.size, 5, none⟩ = some (.bool (hliv a0)) ∧ (u3.alloc (.cells #[.int .i64 (hsiz a0), .int .i64 (hfmt a0), .int .i64 (hodd a0), .int .i64 (hcol a0), .bool (!hfin a0), .bool (hliv a0)] 25)).cell? ⟨u1.heap.size + 1, 0, none⟩ = some (.int .i64 (hsiz a0)) ∧ (u3.alloc (.cells #[.int .i64 (hsiz a0), .int .i64 (hfmt a0), .int .i64 (hodd a0), .int .i64 (hcol a0), .bool (!hfin a0), .bool (hliv a0)] 25)).cell? ⟨u1.heap.size + 1, 1, none⟩ = some (.int .i64 (hfmt a0)) ∧ (u3.alloc (.cells #[.int .i64 (hsiz a0), .int .i64 (hfmt a0), .int .i64 (hodd a0), .int .i64 (hcol a0), .bool (!hfin a0), .bool (hliv a0)] 25)).cell? ⟨u1.heap.size + 1, 2, none⟩ = some (.int .i64 (hodd a0)) ∧ (u3.alloc (.cells #[.int .i64 (hsiz a0), .int .i64 (hfmt a0), .int .i64 (hodd a0), .int .i64 (hcol a0), .bool (!hfin a0), .bool (hliv a0)] 25)).cell? ⟨u1.heap.size + 1, 3, none⟩ = some (.int .i64 (hcol a0)) ∧ (u3.alloc (.cells #[.int .i64 (hsiz a0), .int .i64 (hfmt a0), .int .i64 (hodd a0), .int .i64 (hcol a0), .bool (!hfin a0), .bool (hliv a0)] 25)).cell? ⟨u1.heap.size + 1, 4, none⟩ = some (.bool (!hfin a0)) ∧ (u3.alloc (.cells #[.int .i64 (hsiz a0), .int .i64 (hfmt a0), .int .i64 (hodd a0), .int .i64 (hcol a0), .bool (!hfin a0), .bool (hliv a0)] 25)).cell? ⟨u1.heap.size + 1, 5, none⟩ = some (.bool (hliv a0)) ∧ (u3.alloc (.cells #[.int .i64 (hsiz a0), .int .i64 (hfmt a0), .int .i64 (hodd a0), .int .i64 (hcol a0), .bool (!hfin a0), .bool (hliv a0)] 25)).cell? ⟨u3.heap.size, 0, none⟩ = some (.int .i64 (hsiz a0)) ∧ (u3.alloc (.cells #[.int .i64 (hsiz a0), .int .i64 (hfmt a0), .int .i64 (hodd a0), .int .i64 (hcol a0), .bool (!hfin a0), .bool (hliv a0)] 25)).cell? ⟨u3.heap.size, 1, none⟩ = some (.int .i64 (hfmt a0)) ∧ (u3.alloc (.cells #[.int .i64 (hsiz a0), .int .i64 (hfmt a0), .int .i64 (hodd a0), .int .i64 (hcol a0), .bool (!hfin a0), .bool (hliv a0)] 25)).cell? ⟨u3.heap.size, 2, none⟩ = some (.int .i64 (hodd a0)) ∧ (u3.alloc (.cells #[.int .i64 (hsiz a0), .int .i64 (hfmt a0), .int .i64 (hodd a0), .int .i64 (hcol a0), .bool (!hfin a0), .bool (hliv a0)] 25)).cell? ⟨u3.heap.size, 3, none⟩ = some (.int .i64 (hcol a0)) ∧ (u3.alloc (.cells #[.int .i64 (hsiz a0), .int .i64 (hfmt a0), .int .i64 (hodd a0), .int .i64 (hcol a0), .bool (!hfin a0), .bool (hliv a0)] 25)).cell? ⟨u3.heap.size, 4, none⟩ = some (.bool (!hfin a0)) ∧ (u3.alloc (.cells #[.int .i64 (hsiz a0), .int .i64 (hfmt a0), .int .i64 (hodd a0), .int .i64 (hcol a0), .bool (!hfin a0), .bool (hliv a0)] 25)).cell? ⟨u3.heap.size, 5, none⟩ = some (.bool (hliv a0)) := by
    have z2 := g2.size
    have z3 := g3.size
    simp at z2
    have gg := g2.trans g3
    refine ⟨Gr.alloc ((Gr.alloc (Gr.alloc g1 _ _) _ _).trans gg) _ _, by simp; omega, by simp; omega, by simp, keep_alloc _ (gg.keep (keep_alloc _ (new_cell u1 _ _ rfl))), keep_alloc _ (gg.keep (keep_alloc _ (new_cell u1 _ _ rfl))), keep_alloc _ (gg.keep (keep_alloc _ (new_cell u1 _ _ rfl))), keep_alloc _ (gg.keep (keep_alloc _ (new_cell u1 _ _ rfl))), keep_alloc _ (gg.keep (keep_alloc _ (new_cell u1 _ _ rfl))), keep_alloc _ (gg.keep (keep_alloc _ (new_cell u1 _ _ rfl))), ?_, ?_, ?_, ?_, ?_, ?_, new_cell u3 _ _ rfl, new_cell u3 _ _ rfl, new_cell u3 _ _ rfl, new_cell u3 _ _ rfl, new_cell u3 _ _ rfl, new_cell u3 _ _ rfl⟩
    all_goals
      refine keep_alloc _ (gg.keep ?_)
      have hn := new_cell (u1.alloc (.cells #[.int .i64 (hsiz a0), .int .i64 (hfmt a0), .int .i64 (hodd a0), .int .i64 (hcol a0), .bool (hfin a0), .bool (hliv a0)] 25))
      simp [go_sem]
  generalize (u3.alloc (.cells #[.int .i64 (hsiz a0), .int .i64 (hfmt a0), .int .i64 (hodd a0), .int .i64 (hcol a0), .bool (!hfin a0), .bool (hliv a0)] 25)) = u4 at hS ⊢
  go_wp2_with fail
  go_region_held3 (fun w' => Gr w w' ∧ u1.heap.size < w'.heap.size ∧ u1.heap.size + 1 < w'.heap.size ∧ u3.heap.size < w'.heap.size ∧ w'.cell? ⟨u1.heap.size, 0, none⟩ = some (.int .i64 (hsiz a0)) ∧ w'.cell? ⟨u1.heap.size, 1, none⟩ = some (.int .i64 (hfmt a0)) ∧ w'.cell? ⟨u1.heap.size, 2, none⟩ = some (.int .i64 (hodd a0)) ∧ w'.cell? ⟨u1.heap.size, 3, none⟩ = some (.int .i64 (hcol a0)) ∧ w'.cell? ⟨u1.heap.size, 4, none⟩ = some (.bool (hfin a0)) ∧ w'.cell? ⟨u1.heap.size, 5, none⟩ = some (.bool (hliv a0)) ∧ w'.cell? ⟨u1.heap.size + 1, 0, none⟩ = some (.int .i64 (hsiz a0)) ∧ w'.cell? ⟨u1.heap.size + 1, 1, none⟩ = some (.int .i64 (hfmt a0)) ∧ w'.cell? ⟨u1.heap.size + 1, 2, none⟩ = some (.int .i64 (hodd a0)) ∧ w'.cell? ⟨u1.heap.size + 1, 3, none⟩ = some (.int .i64 (hcol a0)) ∧ w'.cell? ⟨u1.heap.size + 1, 4, none⟩ = some (.bool (!hfin a0)) ∧ w'.cell? ⟨u1.heap.size + 1, 5, none⟩ = some (.bool (hliv a0)) ∧ w'.cell? ⟨u3.heap.size, 0, none⟩ = some (.int .i64 (hsiz a0)) ∧ w'.cell? ⟨u3.heap.size, 1, none⟩ = some (.int .i64 (hfmt a0)) ∧ w'.cell? ⟨u3.heap.size, 2, none⟩ = some (.int .i64 (hodd a0)) ∧ w'.cell? ⟨u3.heap.size, 3, none⟩ = some (.int .i64 (hcol a0)) ∧ w'.cell? ⟨u3.heap.size, 4, none⟩ = some (.bool (!hfin a0)) ∧ w'.cell? ⟨u3.heap.size, 5, none⟩ = some (.bool (hliv a0)))
    (first
      | exact ⟨Gr.drew hS.1, hS.2⟩
      | exact keep18 (by assumption) hg)
    (first
      | (go_at_call 7; refine (hd_Put _ _ _ _ _ _ _).mono ?_; rintro e w' ⟨rfl, hg⟩)
      | (go_at_call 12; refine (awake_any _).mono ?_; rintro e w' ⟨rfl, hg⟩))
  go_wp2
  go_ret
  exact ⟨rfl, Gr.toGrown (And.left (by assumption))⟩
end Go.Proofs.Ythdidhpblhfcbab.Ap4
