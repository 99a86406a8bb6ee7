/- The law CodeAll returns true at every input, and leaves its arguments as they were. No condition. -/
import Derived.Test.YtpeniffnghkdcaaRows
import Derived.WalkKit
import Derived.ProofKit
import Derived.OpenShut
import Derived.Test.YtpeniffnghkdcaaCode4
import Derived.Test.YtpeniffnghkdcaaRec
import Derived.Deep.DeepCutAuto
import Derived.ShutString
import Derived.ChangeOld
import Derived.Below
namespace Go.Proofs.Ytpeniffnghkdcaa.codeAll
open Go.ChangeShapes Go.WideShapes Go.ChangeAt Go.RowKit
open Go.ChangeMaps (open_string shut_string)
open Go.Proofs.Ytpeniffnghkdcaa.Rec
open Go.Proofs.Ytpeniffnghkdcaa.Gen
open Go.Proofs.Ytpeniffnghkdcaa.Base
open Go.Proofs.Ytpeniffnghkdcaa.Cd
open Go.Proofs.Ytpeniffnghkdcaa.Cp
set_option linter.unusedVariables false

theorem own : ownKnob Try.prog.godebug = none := by kernel_rfl
theorem laidOut : laidOutB Try.prog = true := by kernel_rfl
theorem alloc3 {u u' : World} {x0 x1 x2 : Value} {t : TypeId} (g : Gr (u.alloc (.cells #[x0, x1, x2] t)) u') : u.heap.size < u'.heap.size ∧ u'.cell? ⟨u.heap.size, 0, none⟩ = some x0 ∧ u'.cell? ⟨u.heap.size, 1, none⟩ = some x1 ∧ u'.cell? ⟨u.heap.size, 2, none⟩ = some x2 := by
  have z : u.heap.size < u'.heap.size := by have := g.size; simp at this; omega
  exact ⟨z, g.keep (by simp), g.keep (by simp), g.keep (by simp)⟩
def Got (w : World) (p q : Nat) (A B C : Int) : Prop := (p < w.heap.size ∧ q < w.heap.size) ∧ (w.cell? ⟨p, 0, none⟩ = some (.int .i64 A) ∧ w.cell? ⟨p, 1, none⟩ = some (.int .i64 B) ∧ w.cell? ⟨p, 2, none⟩ = some (.int .i64 C)) ∧ (w.cell? ⟨q, 0, none⟩ = some (.int .i64 A) ∧ w.cell? ⟨q, 1, none⟩ = some (.int .i64 B) ∧ w.cell? ⟨q, 2, none⟩ = some (.int .i64 C))
theorem Got.below {w w' : World} {p q : Nat} {A B C : Int} {D : Nat} (h : Got w p q A B C) (k : Below D w w') (hp : p < D) (hq : q < D) : Got w' p q A B C := by
  obtain ⟨⟨a, b⟩, ⟨c0, c1, c2⟩, d0, d1, d2⟩ := h
  have e : ∀ x i, x < D → w'.cell? ⟨x, i, none⟩ = w.cell? ⟨x, i, none⟩ := fun x i hx => k.cell (p := ⟨x, i, none⟩) hx
  have := k.size
  exact ⟨⟨by omega, by omega⟩, ⟨by rw [e _ _ hp]; exact c0, by rw [e _ _ hp]; exact c1, by rw [e _ _ hp]; exact c2⟩, by rw [e _ _ hq]; exact d0, by rw [e _ _ hq]; exact d1, by rw [e _ _ hq]; exact d2⟩
theorem gets (s : ByteArray) (pc : Int) (hs : s.size ≤ 1000) : ∃ (A B C : Int) (k : Bool), (∀ w, Calls Try.prog 8 #[.string s, .int .i64 pc] w fun e w' => e = .returned (.tuple #[.agg #[.int .i64 A, .int .i64 B, .int .i64 C], .bool k]) ∧ Gr w w') ∧ (∀ w, Calls Try.prog 9 #[.string s, .int .i64 pc] w fun e w' => e = .returned (.tuple #[.agg #[.int .i64 A, .int .i64 B, .int .i64 C], .bool k]) ∧ Gr w w') := by
  by_cases h : pc < 0 ∨ ((s.size / 3 : Nat) : Int) ≤ pc
  · exact ⟨0, 0, 0, false, fun w => cd_Get_no s pc w (by omega) h, fun w => rf_Get_no s pc w (by omega) h⟩
  · obtain ⟨k, rfl⟩ := Int.eq_ofNat_of_zero_le (show 0 ≤ pc by omega)
    exact ⟨_, _, _, true, fun w => cd_Get s k w (by omega) (by omega), fun w => rf_Get s k w hs (by omega)⟩
def rv (z : Nat → Nat → Int) : Nat → List Value
  | 0 => []
  | k + 1 => rv z k ++ [.int .i64 (z k 0), .int .i64 (z k 1), .int .i64 (z k 2)]
theorem rv_len (z : Nat → Nat → Int) : ∀ k, (rv z k).length = k * 3
  | 0 => rfl
  | k + 1 => by simp [rv, rv_len z k]; omega
theorem rv_at (z : Nat → Nat → Int) (j : Nat) (hj : j < 3) : ∀ n i, i < n → (rv z n)[i * 3 + j]? = some (.int .i64 (z i j))
  | 0, i, hi => by omega
  | n + 1, i, hi => by
    have hl := rv_len z n
    unfold rv
    by_cases e : i = n
    · subst e
      rw [List.getElem?_append_right (by omega), hl, show i * 3 + j - i * 3 = j by omega]
      have : j = 0 ∨ j = 1 ∨ j = 2 := by omega
      rcases this with rfl | rfl | rfl <;> rfl
    · rw [List.getElem?_append_left (by omega)]; exact rv_at z j hj n i (by omega)
theorem own3 {w : World} {base : Nat} {e : TypeId} {v : Value} {n : Nat} {z : Nat → Nat → Int} (h : w.ownsRow base e 3 v n (rv z n)) (hn : 0 < n) : ∃ g cap, v = .slice (some ⟨g, 0, none⟩) n cap ∧ base ≤ g ∧ n ≤ cap ∧ cap ≤ 9223372036854775807 ∧ g < w.heap.size ∧ Rows3 w g 0 n z := by
  obtain ⟨hx, h2 | ⟨g, cap, cur, h3, h4, h5, h6, h7, h8, h9⟩⟩ := h
  · omega
  · refine ⟨g, cap, h3, h4, h6, by unfold maxLen at h7; omega, (Array.getElem?_eq_some_iff.1 h5).1, fun i hi j hj => ?_⟩
    have hu := rv_at z j hj n i hi
    rw [← h9, List.getElem?_take] at hu
    rw [cell_of_row w g _ _ _ _ h5]
    simp only [show i * 3 + j < n * 3 by omega, if_true] at hu
    simpa using hu
theorem infoIns : (Try.prog.info? 25).map (fun i => (i.zero, i.size, i.bytes)) = some (some (.agg #[.int .i64 0, .int .i64 0, .int .i64 0]), 3, 24) := by kernel_rfl

set_option maxRecDepth 100000 in
set_option maxHeartbeats 16000000 in
theorem walk (a0 : ByteArray) (a1 : Int) (a2 : Option Addr) (len2 cap2 : Nat) (z2 : Nat → Nat → Int) (a3 : Int) (a4 : ByteArray) (w : World) (w0 : a0.size ≤ maxLen) (w1 : (Lit.int .i64 a1).wf = true) (w2 : IsRecs w 3 (fun _ => .i64) a2 len2 cap2 z2) (w3 : (Lit.int .i64 a3).wf = true) (w4 : a4.size ≤ maxLen) :
    Calls Try.prog 3 #[.string a0, .int .i64 a1, .slice a2 len2 cap2, .int .i64 a3, .string a4] w fun e w' => e = .returned (.bool true) ∧ Below w.heap.size w w' := by
  unfold maxLen at w0
  by_cases h1 : 1000 < a0.size
  · have h1' : (1000 : Int) < (a0.size : Int) := by omega
    go_enter Try.func3, Try.ntmps3
    go_wp2_with fail
    refine (awake_any _).mono ?_; rintro e u1 ⟨rfl, g1⟩
    go_wp2_with fail
    go_ret
    exact ⟨rfl, g1.2⟩
  by_cases h2 : 200 < len2
  · have h2' : (200 : Int) < (len2 : Int) := by omega
    have h1' : (a0.size : Int) ≤ 1000 := by omega
    go_enter Try.func3, Try.ntmps3
    go_wp2_with fail
    refine (awake_any _).mono ?_; rintro e u1 ⟨rfl, g1⟩
    go_wp2_with fail
    go_ret
    exact ⟨rfl, g1.2⟩
  have h1' : (a0.size : Int) ≤ 1000 := by omega
  have h2' : (len2 : Int) ≤ 200 := by omega
  have D3 : ((a0.size / 3 : Nat) : Int) = (a0.size : Int) / 3 := by omega
  have D3' := Lib.hid D3; clear D3
  obtain ⟨A, B, C, ok, hg1, hg2⟩ := gets a0 a1 (by omega)
  have HG1 := Lib.hid hg1; have HG2 := Lib.hid hg2; clear hg1 hg2
  by_cases hl0 : len2 = 0
  · subst hl0
    go_enter Try.func3, Try.ntmps3
    go_wp2_with fail
    refine (HG1.out _).mono ?_; rintro e u1 ⟨rfl, g1⟩
    go_wp2_with fail
    refine (HG2.out _).mono ?_; rintro e u2 ⟨rfl, g2⟩
    obtain ⟨y0, y1, y2, y3⟩ := alloc3 g2
    have hGot : Got (u2.alloc (.cells #[.int .i64 A, .int .i64 B, .int .i64 C] 28)) u1.heap.size u2.heap.size A B C := ⟨⟨by simp; omega, by simp⟩, ⟨keep_alloc _ y1, keep_alloc _ y2, keep_alloc _ y3⟩, by simp, by simp, by simp⟩
    have hGW : Gr w (u2.alloc (.cells #[.int .i64 A, .int .i64 B, .int .i64 C] 28)) := Gr.alloc ((Gr.alloc g1 _ _).trans g2) _ _
    go_upto_region 5 with fail
    generalize (u2.alloc (.cells #[.int .i64 A, .int .i64 B, .int .i64 C] 28)) = W0 at hGot hGW ⊢
    generalize u1.heap.size = p at *
    generalize u2.heap.size = q at *
    clear g1 g2 y0 y1 y2 y3
    go_wp2_with fail
    refine wp_loop_rounds 1 ?_
    rw [rounds_succ]
    have hGotE := hGot
    have belF : Below w.heap.size w W0 := hGW.2
    obtain ⟨⟨pl, ql⟩, ⟨f0, f1, f2⟩, e0, e1, e2⟩ := hGotE
    go_wp2_with fail
    refine (cd_Put_0 none 0 _).mono ?_; rintro e u3 ⟨rfl, rfl⟩
    go_wp2_with fail
    refine (rf_Put_0 _ _ _).mono ?_; rintro e u4 ⟨rfl, rfl⟩
    go_wp2_with fail
    refine (cd_Len a0 _ (by omega)).mono ?_; rintro e u5 ⟨rfl, rfl⟩
    go_wp2_with fail
    refine (cd_Name a3 w3 _).mono ?_; rintro e u6 ⟨rfl, g6⟩
    go_wp2_with fail
    refine (rf_Name a3 w3 _).mono ?_; rintro e u7 ⟨rfl, g7⟩
    go_wp2_with fail
    refine (cd_Op a4 _).mono ?_; rintro e u8 ⟨rfl, g8⟩
    go_wp2_with fail
    refine (rf_Op a4 _).mono ?_; rintro e u9 ⟨rfl, g9⟩
    go_wp2_with fail
    refine (awake_any _).mono ?_; rintro e u10 ⟨rfl, g10⟩
    go_wp2_with fail
    go_ret
    have gg := (((g6.trans g7).trans g8).trans g9).trans g10
    exact ⟨rfl, belF.trans (gg.2.mono belF.size)⟩
  · rcases w2 with h0 | ⟨xb, xo, rfl, hlc, hm, hcell⟩
    · exact absurd h0 hl0
    unfold maxLen at hm
    have hxb : xb < w.heap.size := World.block_lt_of_cell? _ _ (hcell 0 (by omega) 0 (by decide)).1
    have hrows : Rows3 w xb xo len2 z2 := fun i hi j hj => (hcell i hi j hj).1
    have HR0 := Lib.hid hrows; clear hrows hcell
    go_enter Try.func3, Try.ntmps3
    go_wp2_with fail
    refine (HG1.out _).mono ?_; rintro e u1 ⟨rfl, g1⟩
    go_wp2_with fail
    refine (HG2.out _).mono ?_; rintro e u2 ⟨rfl, g2⟩
    obtain ⟨y0, y1, y2, y3⟩ := alloc3 g2
    have hGot : Got (u2.alloc (.cells #[.int .i64 A, .int .i64 B, .int .i64 C] 28)) u1.heap.size u2.heap.size A B C := ⟨⟨by simp; omega, by simp⟩, ⟨keep_alloc _ y1, keep_alloc _ y2, keep_alloc _ y3⟩, by simp, by simp, by simp⟩
    have hGW : Gr w (u2.alloc (.cells #[.int .i64 A, .int .i64 B, .int .i64 C] 28)) := Gr.alloc ((Gr.alloc g1 _ _).trans g2) _ _
    go_upto_region 5 with fail
    generalize (u2.alloc (.cells #[.int .i64 A, .int .i64 B, .int .i64 C] 28)) = W0 at hGot hGW ⊢
    generalize u1.heap.size = p at *
    generalize u2.heap.size = q at *
    clear g1 g2 y0 y1 y2 y3
    have hxW : xb < W0.heap.size := by have := hGW.size; omega
    have HR := Lib.hid (HR0.out.below hxb hGW.2)
    obtain ⟨i0, hi, hz0, hz1, hz2⟩ := info_parts infoIns
    go_wp2_with fail
    go_loopw [15, 16] (fun v15 v16 wr => ∃ k : Nat, k ≤ len2 ∧ v16 = .int .i64 k ∧ wr.ownsRow W0.heap.size 25 3 v15 k (rv z2 k) ∧ Below W0.heap.size W0 wr) (fun _ v16 wr => len2 - (intOf v16).toNat)
    case atStart => exact ⟨0, by omega, rfl, World.ownsRow_nil _ _ _ _, Below.refl _ _⟩
    case round =>
      obtain ⟨k, kl, rfl, hown, bel⟩ := hrel
      by_cases hk : k < len2
      · obtain ⟨c0, c1, c2⟩ := (HR.out.below hxW bel).at hk
        have s0 : (0 : Int) ≤ (k : Int) := by omega
        have s1 : (k : Int) < (len2 : Int) := by omega
        have clh := hGot.1
        clear hGot
        · go_upto_region 9 with fail
          refine wp_region_held_drew (S := (fun w' => w'.cell? ⟨xb, xo + k * 3, none⟩ = some (.int .i64 (z2 k 0)) ∧ w'.cell? ⟨xb, xo + k * 3 + 1, none⟩ = some (.int .i64 (z2 k 1)) ∧ w'.cell? ⟨xb, xo + k * 3 + 2, none⟩ = some (.int .i64 (z2 k 2)))) (by kernel_rfl) ?_ (fun hH0 => ?_)
          · (try dsimp only); exact ⟨c0, c1, c2⟩
          refine wpAnyH_take (i := 0) (oi := { dst := some 44, op := Op.move (Operand.tmp 15), type := 31, pos := "law.go:25", after := #[], guard := none }) (v := ?v1) rfl (by kernel_rfl) (by kernel_rfl) (by kernel_rfl) (fun _ _ _ h => h) (Or.inl ⟨by rfl, ?hy1⟩) (by assumption) ?_
          case hy1 => intro w hSw; (try dsimp only at hSw); go_simp; (try with_reducible rfl)
          try simp only [Act.put, List.setIfInBounds_toArray, List.set_cons_zero, List.set_cons_succ]
          refine wpAnyH_take (i := 1) (oi := { dst := some 45, op := Op.move (Operand.tmp 2), type := 22, pos := "law.go:25", after := #[], guard := none }) (v := ?v2) rfl (by kernel_rfl) (by kernel_rfl) (by kernel_rfl) (fun _ _ _ h => h) (Or.inl ⟨by rfl, ?hy2⟩) (by assumption) ?_
          case hy2 => intro w hSw; (try dsimp only at hSw); go_simp; (try with_reducible rfl)
          try simp only [Act.put, List.setIfInBounds_toArray, List.set_cons_zero, List.set_cons_succ]
          refine wpAnyH_take (i := 2) (oi := { dst := some 46, op := Op.move (Operand.tmp 16), type := 3, pos := "law.go:25", after := #[], guard := none }) (v := ?v3) rfl (by kernel_rfl) (by kernel_rfl) (by kernel_rfl) (fun _ _ _ h => h) (Or.inl ⟨by rfl, ?hy3⟩) (by assumption) ?_
          case hy3 => intro w hSw; (try dsimp only at hSw); go_simp; (try with_reducible rfl)
          try simp only [Act.put, List.setIfInBounds_toArray, List.set_cons_zero, List.set_cons_succ]
          refine wpAnyH_take (i := 3) (oi := { dst := some 47, op := Op.indexAddr 22 (Operand.tmp 45) (Operand.tmp 46), type := 0, pos := "law.go:25", after := #[{ on := 1, ground := Ground.data }, { on := 2, ground := Ground.data }], guard := none }) (v := ?v4) rfl (by kernel_rfl) (by kernel_rfl) (by kernel_rfl) (fun _ _ _ h => h) (Or.inl ⟨by rfl, ?hy4⟩) (by assumption) ?_
          case hy4 => intro w hSw; (try dsimp only at hSw); go_simp; (try with_reducible rfl)
          try simp only [Act.put, List.setIfInBounds_toArray, List.set_cons_zero, List.set_cons_succ]
          refine wpAnyH_take (i := 4) (oi := { dst := some 48, op := Op.fieldAddr 28 (Operand.tmp 47) 0, type := 0, pos := "law.go:25", after := #[{ on := 3, ground := Ground.data }], guard := none }) (v := ?v5) rfl (by kernel_rfl) (by kernel_rfl) (by kernel_rfl) (fun _ _ _ h => h) (Or.inl ⟨by rfl, ?hy5⟩) (by assumption) ?_
          case hy5 => intro w hSw; (try dsimp only at hSw); go_simp; (try with_reducible rfl)
          try simp only [Act.put, List.setIfInBounds_toArray, List.set_cons_zero, List.set_cons_succ]
          refine wpAnyH_take (i := 5) (oi := { dst := some 49, op := Op.load 3 (Operand.tmp 48), type := 3, pos := "law.go:25", after := #[{ on := 4, ground := Ground.data }], guard := none }) (v := ?v6) rfl (by kernel_rfl) (by kernel_rfl) (by kernel_rfl) (fun _ _ _ h => h) (Or.inl ⟨by rfl, ?hy6⟩) (by assumption) ?_
          case hy6 => intro w hSw; (try dsimp only at hSw); go_simp; (try with_reducible rfl)
          try simp only [Act.put, List.setIfInBounds_toArray, List.set_cons_zero, List.set_cons_succ]
          refine wpAnyH_take (i := 6) (oi := { dst := some 50, op := Op.move (Operand.tmp 2), type := 22, pos := "law.go:25", after := #[], guard := none }) (v := ?v7) rfl (by kernel_rfl) (by kernel_rfl) (by kernel_rfl) (fun _ _ _ h => h) (Or.inl ⟨by rfl, ?hy7⟩) (by assumption) ?_
          case hy7 => intro w hSw; (try dsimp only at hSw); go_simp; (try with_reducible rfl)
          try simp only [Act.put, List.setIfInBounds_toArray, List.set_cons_zero, List.set_cons_succ]
          refine wpAnyH_take (i := 7) (oi := { dst := some 51, op := Op.move (Operand.tmp 16), type := 3, pos := "law.go:25", after := #[], guard := none }) (v := ?v8) rfl (by kernel_rfl) (by kernel_rfl) (by kernel_rfl) (fun _ _ _ h => h) (Or.inl ⟨by rfl, ?hy8⟩) (by assumption) ?_
          case hy8 => intro w hSw; (try dsimp only at hSw); go_simp; (try with_reducible rfl)
          try simp only [Act.put, List.setIfInBounds_toArray, List.set_cons_zero, List.set_cons_succ]
          refine wpAnyH_take (i := 8) (oi := { dst := some 52, op := Op.indexAddr 22 (Operand.tmp 50) (Operand.tmp 51), type := 0, pos := "law.go:25", after := #[{ on := 6, ground := Ground.data }, { on := 7, ground := Ground.data }], guard := none }) (v := ?v9) rfl (by kernel_rfl) (by kernel_rfl) (by kernel_rfl) (fun _ _ _ h => h) (Or.inl ⟨by rfl, ?hy9⟩) (by assumption) ?_
          case hy9 => intro w hSw; (try dsimp only at hSw); go_simp; (try with_reducible rfl)
          try simp only [Act.put, List.setIfInBounds_toArray, List.set_cons_zero, List.set_cons_succ]
          refine wpAnyH_take (i := 9) (oi := { dst := some 53, op := Op.fieldAddr 28 (Operand.tmp 52) 1, type := 0, pos := "law.go:25", after := #[{ on := 8, ground := Ground.data }], guard := none }) (v := ?v10) rfl (by kernel_rfl) (by kernel_rfl) (by kernel_rfl) (fun _ _ _ h => h) (Or.inl ⟨by rfl, ?hy10⟩) (by assumption) ?_
          case hy10 => intro w hSw; (try dsimp only at hSw); go_simp; (try with_reducible rfl)
          try simp only [Act.put, List.setIfInBounds_toArray, List.set_cons_zero, List.set_cons_succ]
          refine wpAnyH_take (i := 10) (oi := { dst := some 54, op := Op.load 3 (Operand.tmp 53), type := 3, pos := "law.go:25", after := #[{ on := 9, ground := Ground.data }], guard := none }) (v := ?v11) rfl (by kernel_rfl) (by kernel_rfl) (by kernel_rfl) (fun _ _ _ h => h) (Or.inl ⟨by rfl, ?hy11⟩) (by assumption) ?_
          case hy11 => intro w hSw; (try dsimp only at hSw); go_simp; (try with_reducible rfl)
          try simp only [Act.put, List.setIfInBounds_toArray, List.set_cons_zero, List.set_cons_succ]
          refine wpAnyH_take (i := 11) (oi := { dst := some 55, op := Op.move (Operand.tmp 2), type := 22, pos := "law.go:25", after := #[], guard := none }) (v := ?v12) rfl (by kernel_rfl) (by kernel_rfl) (by kernel_rfl) (fun _ _ _ h => h) (Or.inl ⟨by rfl, ?hy12⟩) (by assumption) ?_
          case hy12 => intro w hSw; (try dsimp only at hSw); go_simp; (try with_reducible rfl)
          try simp only [Act.put, List.setIfInBounds_toArray, List.set_cons_zero, List.set_cons_succ]
          refine wpAnyH_take (i := 12) (oi := { dst := some 56, op := Op.move (Operand.tmp 16), type := 3, pos := "law.go:25", after := #[], guard := none }) (v := ?v13) rfl (by kernel_rfl) (by kernel_rfl) (by kernel_rfl) (fun _ _ _ h => h) (Or.inl ⟨by rfl, ?hy13⟩) (by assumption) ?_
          case hy13 => intro w hSw; (try dsimp only at hSw); go_simp; (try with_reducible rfl)
          try simp only [Act.put, List.setIfInBounds_toArray, List.set_cons_zero, List.set_cons_succ]
          refine wpAnyH_take (i := 13) (oi := { dst := some 57, op := Op.indexAddr 22 (Operand.tmp 55) (Operand.tmp 56), type := 0, pos := "law.go:25", after := #[{ on := 11, ground := Ground.data }, { on := 12, ground := Ground.data }], guard := none }) (v := ?v14) rfl (by kernel_rfl) (by kernel_rfl) (by kernel_rfl) (fun _ _ _ h => h) (Or.inl ⟨by rfl, ?hy14⟩) (by assumption) ?_
          case hy14 => intro w hSw; (try dsimp only at hSw); go_simp; (try with_reducible rfl)
          try simp only [Act.put, List.setIfInBounds_toArray, List.set_cons_zero, List.set_cons_succ]
          refine wpAnyH_take (i := 14) (oi := { dst := some 58, op := Op.fieldAddr 28 (Operand.tmp 57) 2, type := 0, pos := "law.go:25", after := #[{ on := 13, ground := Ground.data }], guard := none }) (v := ?v15) rfl (by kernel_rfl) (by kernel_rfl) (by kernel_rfl) (fun _ _ _ h => h) (Or.inl ⟨by rfl, ?hy15⟩) (by assumption) ?_
          case hy15 => intro w hSw; (try dsimp only at hSw); go_simp; (try with_reducible rfl)
          try simp only [Act.put, List.setIfInBounds_toArray, List.set_cons_zero, List.set_cons_succ]
          refine wpAnyH_take (i := 15) (oi := { dst := some 59, op := Op.load 3 (Operand.tmp 58), type := 3, pos := "law.go:25", after := #[{ on := 14, ground := Ground.data }], guard := none }) (v := ?v16) rfl (by kernel_rfl) (by kernel_rfl) (by kernel_rfl) (fun _ _ _ h => h) (Or.inl ⟨by rfl, ?hy16⟩) (by assumption) ?_
          case hy16 => intro w hSw; (try dsimp only at hSw); go_simp; (try with_reducible rfl)
          try simp only [Act.put, List.setIfInBounds_toArray, List.set_cons_zero, List.set_cons_succ]
          refine wpAnyH_take (i := 16) (oi := { dst := some 60, op := Op.build 25 #[(0, Operand.tmp 49), (1, Operand.tmp 54), (2, Operand.tmp 59)], type := 25, pos := "law.go:25", after := #[{ on := 5, ground := Ground.data }, { on := 10, ground := Ground.data }, { on := 15, ground := Ground.data }], guard := none }) (v := ?v17) rfl (by kernel_rfl) (by kernel_rfl) (by kernel_rfl) (fun _ _ _ h => h) (Or.inl ⟨by rfl, ?hy17⟩) (by assumption) ?_
          case hy17 => intro w hSw; (try dsimp only at hSw); go_simp; (try with_reducible rfl)
          try simp only [Act.put, List.setIfInBounds_toArray, List.set_cons_zero, List.set_cons_succ]
          refine wpAnyH_ready (rs := [17]) (by kernel_rfl) (by simp) ?_
          refine AllReadyH.cons (o := { dst := some 61, op := Op.buildSlice 31 1 #[(0, Operand.tmp 60)], type := 31, pos := "law.go:25", after := #[{ on := 16, ground := Ground.data }], guard := none }) rfl (fun K hK => ?_) AllReadyH.nil
          go_simp
          refine hK.out _ _ ?_ (fun hH1 => ?_)
          · (try dsimp only); (first | exact ⟨d0, d1, d2⟩ | exact ⟨keep_alloc _ c0, keep_alloc _ c1, keep_alloc _ c2⟩)
          clear hK K
          clear hH0
          try simp only [Act.put, List.setIfInBounds_toArray, List.set_cons_zero, List.set_cons_succ]
          refine wpAnyH_ready (rs := [18]) (by kernel_rfl) (by simp) ?_
          refine AllReadyH.cons (o := { dst := some 62, op := Op.call { callee := Callee.builtin Builtin.append, args := #[Operand.tmp 44, Operand.tmp 61], argTypes := #[31, 31] }, type := 31, pos := "law.go:25", after := #[{ on := 0, ground := Ground.data }, { on := 17, ground := Ground.data }], guard := none }) rfl (fun K hK => ?_) AllReadyH.nil
          rw [if_pos (by rfl)]; refine wp_append_own _ (.tmp 44) (.tmp 61) 31 (by rfl) W0.heap.size 25 i0 (.agg #[.int .i64 0, .int .i64 0, .int .i64 0]) 3 24 Try.underlying31 hi hz0 hz1 hz2 rfl (by decide) u15 k (rv z2 k) (by rfl) (owns_da hown _) ⟨wr.heap.size, 0, none⟩ 1 1 [.int .i64 (z2 k 0), .int .i64 (z2 k 1), .int .i64 (z2 k 2)] (by rfl) rfl (World.news_of_block (heap_alloc_new wr _)) (by intro u hu; simp at hu; rcases hu with rfl | rfl | rfl <;> rfl) (by unfold maxLen; omega) (by omega) (by simp; have := bel.size; omega) ?_
          intro v' w1 hown' hgrow _
          have bel1 : Below W0.heap.size W0 w1 := Below.grown (Below.drew (Below.alloc bel bel.size _)) hgrow (by simp; have := bel.size; omega) (fun q hq => (hown.lt q hq).1)
          have HO := Lib.hid (show w1.ownsRow W0.heap.size 25 3 v' (k + 1) (rv z2 (k + 1)) from hown')
          obtain ⟨d0, d1, d2⟩ := (HR.out.below hxW bel1).at hk
          refine hK.out _ _ ?_ (fun hH2 => ?_)
          · (try dsimp only); (first | exact ⟨d0, d1, d2⟩ | exact ⟨keep_alloc _ c0, keep_alloc _ c1, keep_alloc _ c2⟩)
          clear hK K
          clear hH1
          try simp only [Act.put, List.setIfInBounds_toArray, List.set_cons_zero, List.set_cons_succ]
          refine wpAnyH_take (i := 19) (oi := { dst := some 15, op := Op.assign (Operand.tmp 62), type := 31, pos := "law.go:25", after := #[{ on := 18, ground := Ground.data }, { on := 18, ground := Ground.chain }, { on := 0, ground := Ground.phase }, { on := 1, ground := Ground.phase }, { on := 2, ground := Ground.phase }, { on := 3, ground := Ground.phase }, { on := 4, ground := Ground.phase }, { on := 5, ground := Ground.phase }, { on := 6, ground := Ground.phase }, { on := 7, ground := Ground.phase }, { on := 8, ground := Ground.phase }, { on := 9, ground := Ground.phase }, { on := 10, ground := Ground.phase }, { on := 11, ground := Ground.phase }, { on := 12, ground := Ground.phase }, { on := 13, ground := Ground.phase }, { on := 14, ground := Ground.phase }, { on := 15, ground := Ground.phase }, { on := 16, ground := Ground.phase }, { on := 17, ground := Ground.phase }, { on := 18, ground := Ground.phase }], guard := none }) (v := ?v20) rfl (by kernel_rfl) (by kernel_rfl) (by kernel_rfl) (fun _ _ _ h => h) (Or.inl ⟨by rfl, ?hy20⟩) (by assumption) ?_
          case hy20 => intro w hSw; (try dsimp only at hSw); go_simp; (try with_reducible rfl)
          try simp only [Act.put, List.setIfInBounds_toArray, List.set_cons_zero, List.set_cons_succ]
          refine wpAnyH_done (by kernel_rfl) ?_ _
          go_wp2_with fail
          go_roundw
          case rel => exact ⟨k + 1, by omega, by go_num, HO.out, bel1⟩
          case measure => simp [intOf]; omega
      · obtain rfl : k = len2 := by omega
        obtain ⟨g, cap, rfl, hgb, hcap1, hcap2, hglt, hrowm⟩ := own3 hown (by omega)
        have HM := Lib.hid hrowm
        have hRl := Lib.hid (HR.out.below hxW bel)
        have hGotE := hGot.below bel hGot.1.1 hGot.1.2
        have belE : Below w.heap.size w wr := hGW.2.trans (bel.mono hGW.size)
        have bsz := bel.size
        clear hown hrowm hGot
        obtain ⟨⟨pl, ql⟩, ⟨f0, f1, f2⟩, e0, e1, e2⟩ := hGotE
        go_wp2_with fail
        refine (cd_Put g 0 k cap z2 _ HM.out hglt (by omega) (by omega) hcap1 hcap2).mono ?_; rintro e u3 ⟨rfl, b3⟩
        go_wp2_with fail
        refine (rf_Put xb xo k cap2 z2 _ (hRl.out.below (by omega) b3) (by have := b3.size; omega) (by omega) (by omega) hlc hm).mono ?_; rintro e u4 ⟨rfl, b4⟩
        have belF : Below w.heap.size w u4 := (belE.trans (b3.mono belE.size)).trans (b4.mono (by have := b3.size; have := belE.size; omega))
        go_wp2_with fail
        refine (cd_Len a0 _ (by omega)).mono ?_; rintro e u5 ⟨rfl, rfl⟩
        go_wp2_with fail
        refine (cd_Name a3 w3 _).mono ?_; rintro e u6 ⟨rfl, g6⟩
        go_wp2_with fail
        refine (rf_Name a3 w3 _).mono ?_; rintro e u7 ⟨rfl, g7⟩
        go_wp2_with fail
        refine (cd_Op a4 _).mono ?_; rintro e u8 ⟨rfl, g8⟩
        go_wp2_with fail
        refine (rf_Op a4 _).mono ?_; rintro e u9 ⟨rfl, g9⟩
        go_wp2_with fail
        refine (awake_any _).mono ?_; rintro e u10 ⟨rfl, g10⟩
        go_wp2_with fail
        go_ret
        have gg := (((g6.trans g7).trans g8).trans g9).trans g10
        exact ⟨rfl, belF.trans (gg.2.mono belF.size)⟩

set_option maxRecDepth 100000 in
theorem lifted (os : Os) (started : os.Started) (H : Type) (enc : TypeId × Value → H) :
    ReturnsInHanded {} Try.checked os 3 .any (Rows.codeAllSpec.pre6 enc Try.prog Try.f3 Rows.codeAllRow.domain false) (Rows.codeAllSpec.post enc Try.prog Try.f3 false true false false) := by
  refine returnsInHanded_of_change (C := Try.checked) own started (by kernel_rfl) Try.func3
    (ChangeSpec.witness6 (enc := enc) (C := Try.checked) false ⟨#[], #[.string ByteArray.empty, .int .i64 0, .slice none 0 0, .int .i64 0, .string ByteArray.empty], []⟩ 8 (by kernel_rfl) (by kernel_rfl) (by kernel_rfl) (by kernel_rfl)) ?_
  intro W base args ds gs before hval0 hW hcnd _
  have hval : ∀ (j : Nat) t v, Try.f3.params[j]? = some t → args[j]? = some v → Value.okWide Try.prog W .any base t v := hval0
  have hW' := hW
  obtain ⟨p, q, hA0, hV, rfl, hfz, hnd⟩ := hW
  have hA : DataW.TrodAll enc Try.prog W 0 (fun _ => true) true Try.f3.params.toList args.toList ds p := hA0
  rw [Try.params3] at hA hval
  obtain ⟨v0, vs0, d0, ds0, p0, q0, hargs, rfl, rfl, h0, r0⟩ := trodAll_cons hA
  obtain ⟨v1, vs1, d1, ds1, p1, q1, rfl, rfl, rfl, h1, r1⟩ := trodAll_cons r0
  obtain ⟨v2, vs2, d2, ds2, p2, q2, rfl, rfl, rfl, h2, r2⟩ := trodAll_cons r1
  obtain ⟨v3, vs3, d3, ds3, p3, q3, rfl, rfl, rfl, h3, r3⟩ := trodAll_cons r2
  obtain ⟨v4, vs4, d4, ds4, p4, q4, rfl, rfl, rfl, h4, r4⟩ := trodAll_cons r3
  obtain ⟨rfl, rfl, rfl⟩ := trodAll_nil r4
  obtain rfl : args = #[v0, v1, v2, v3, v4] := by cases args; simp_all
  obtain ⟨rfl, rfl⟩ := trodVars_none hV
  obtain ⟨a0, rfl, rfl, rfl, w0⟩ := open_string Try.underlying9 (hval 0 9 v0 rfl rfl) h0
  obtain ⟨a1, rfl, rfl, rfl, w1⟩ := open_int Try.underlying3 (hval 1 3 v1 rfl rfl) h1
  obtain ⟨a2, len2, cap2, rfl⟩ := okWide_slice Try.underlying22 (hval 2 22 v2 rfl rfl)
  have k2 := h2
  have lt2 : ∀ x ∈ p2, x.block < W.heap.size := by obtain ⟨m, hm⟩ := k2; exact DataW.trod_lt m _ _ _ hm
  obtain ⟨z2, w2⟩ : ∃ z, IsRecs W 3 (fun _ => .i64) a2 len2 cap2 z := by
    obtain ⟨fuel, hf⟩ := h2
    rcases open_recs (fun _ => .i64) Try.underlying22 Try.underlying28 (by kernel_rfl) (by kernel_rfl) (by
      intro j f hf
      match j, hf with
      | 0, hf => (have hf' := Option.some.inj hf; rw [← hf']; rfl)
      | 1, hf => (have hf' := Option.some.inj hf; rw [← hf']; rfl)
      | 2, hf => (have hf' := Option.some.inj hf; rw [← hf']; rfl)
      | j + 3, hf => simp at hf) hf with hcs | ⟨x, l, c, z, hcs, hl, hm, hcell⟩
    · simp [Value.cells] at hcs
      obtain ⟨rfl, rfl, rfl⟩ := hcs
      exact ⟨fun _ _ => 0, .inl rfl⟩
    · simp [Value.cells] at hcs
      obtain ⟨rfl, rfl, rfl⟩ := hcs
      rcases Nat.eq_zero_or_pos len2 with h0 | h0
      · exact ⟨z, .inl h0⟩
      · exact ⟨z, isRecs (by decide) hl hm hcell h0⟩
  obtain ⟨a3, rfl, rfl, rfl, w3⟩ := open_int Try.underlying3 (hval 3 3 v3 rfl rfl) h3
  obtain ⟨a4, rfl, rfl, rfl, w4⟩ := open_string Try.underlying9 (hval 4 9 v4 rfl rfl) h4
  clear hA0 hval0
  refine (walk a0 a1 a2 len2 cap2 z2 a3 a4 W w0 w1 w2 w3 w4).mono fun e W' ⟨he, bel⟩ => ?_
  subst he
  exact ⟨_, rfl, _, _, _, [], _, [], hW', trodAll_mk1 (shut_bool Try.underlying4 _), (trodAll_cons_mk (shut_string Try.underlying9 w0) (trodAll_cons_mk (shut_int Try.underlying3 w1) (trodAll_cons_mk (Below.trod laidOut (by kernel_rfl) (of_decide_eq_true (by kernel_rfl)) k2 bel lt2) (trodAll_cons_mk (shut_int Try.underlying3 w3) (trodAll_cons_mk (shut_string Try.underlying9 w4) trodAll_mk0))))), rfl, bel.frame _, fun h => by cases h⟩

theorem over : Rows.codeAllRow.holds Try.pinned (OpenSpec.ofChange Rows.codeAllSpec) :=
  OpenClaim.holds_of_wide 3 Try.f3 rfl rfl rfl rfl rfl rfl rfl ⟨rfl, rfl, rfl, rfl, rfl⟩ rfl rfl rfl rfl rfl (by kernel_rfl) Try.func3 (by kernel_rfl)
    (of_decide_eq_true (by kernel_rfl)) (by unfold Func.isWrapper; first | (rw [if_pos (by decide +kernel)]; kernel_rfl) | (rw [if_neg (by decide +kernel)]; exact ⟨rfl, rfl⟩))
    (fun os started H enc _ => lifted os started H enc)

/-- THE STATEMENT -/
theorem proved : Rows.CodeAllSaid := over
#print axioms proved
end Go.Proofs.Ytpeniffnghkdcaa.codeAll
