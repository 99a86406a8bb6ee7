/- The document's own stack: a slice that is kept in a block of its own. -/
import Derived.Test.YtlancbacdjiciaaL09
import Derived.Deep.AppendLies
import Derived.Deep.RegionHeld3
import Derived.Deep.DeepCutAuto
namespace Go.Proofs.Ytlancbacdjiciaa.Rf
open Go.Proofs.Ytlancbacdjiciaa.Gen Go.Proofs.Ytlancbacdjiciaa.Base Go.Proofs.Ytlancbacdjiciaa.Gy Go.ChangeShapes Go.WideShapes Go.ChangeAt Go.RowKit
set_option linter.unusedVariables false
def ints (l : List Int) : List Value := l.map (Value.int .i64)
theorem ints_len (l : List Int) : (ints l).length = l.length := by simp [ints]
/-- Block r is the document's stack; what it holds lies in a block behind it. -/
def Ref (w : World) (r : Nat) (g : Option Nat) (l : List Int) (most : Nat) (over : Bool) : Prop :=
  ∃ (a : Option Addr) (cap : Nat), a.map (·.block) = g ∧ w.heap[r]? = some (.cells #[.slice a l.length cap, .int .i64 most, .bool over] 35 (0, 0)) ∧ w.ownsRow (r + 1) 3 1 (.slice a l.length cap) l.length (ints l) ∧ cap ≤ 9223372036854775807 ∧ l.length ≤ most ∧ 1 ≤ most ∧ most ≤ 100
/-- Only block r and the block of what it holds may have changed. -/
def Oth (r : Nat) (g : Option Nat) (w w' : World) : Prop := w.heap.size ≤ w'.heap.size ∧ ∀ k, k < w.heap.size → k ≠ r → g ≠ some k → w'.heap[k]? = w.heap[k]?
theorem Oth.refl (r : Nat) (g : Option Nat) (w : World) : Oth r g w w := ⟨Nat.le_refl _, fun _ _ _ _ => rfl⟩
theorem Oth.set {r : Nat} {g : Option Nat} {w w' : World} (h : Oth r g w w') (i : Nat) (v : Value) : Oth r g w (w'.setCell ⟨r, i, none⟩ v) :=
  ⟨by simpa using h.1, fun k hk hkr hkg => by rw [heap_setCell_other _ _ _ _ (by simpa using hkr)]; exact h.2 k hk hkr hkg⟩
theorem Oth.cell {r : Nat} {g : Option Nat} {w w' : World} (h : Oth r g w w') {k i : Nat} {v : Value} (hk : k ≠ r) (hg : g ≠ some k) (hc : w.cell? ⟨k, i, none⟩ = some v) : w'.cell? ⟨k, i, none⟩ = some v := by
  rw [World.cell?_of_block (h.2 k (World.block_lt_of_cell? _ _ hc) hk hg)]; exact hc
theorem owns_of {w w' : World} {base : Nat} {e : TypeId} {size : Nat} {v : Value} {n : Nat} {xs : List Value} (h : w.ownsRow base e size v n xs) (hb : ∀ k, base ≤ k → k < w.heap.size → w'.heap[k]? = w.heap[k]?) : w'.ownsRow base e size v n xs := by
  obtain ⟨h1, h2 | ⟨g, cap, cur, h3, h4, h5, h6⟩⟩ := h
  · exact ⟨h1, .inl h2⟩
  · have hg : g < w.heap.size := (Array.getElem?_eq_some_iff.1 h5).1
    exact ⟨h1, .inr ⟨g, cap, cur, h3, h4, by rw [hb g h4 hg]; exact h5, h6⟩⟩
theorem Ref.lt {w : World} {r : Nat} {g : Option Nat} {l : List Int} {most : Nat} {over : Bool} (h : Ref w r g l most over) : r < w.heap.size := by
  obtain ⟨a, cap, _, h1, _⟩ := h; exact (Array.getElem?_eq_some_iff.1 h1).1
/-- What changes only a block before r leaves it as it is. -/
theorem Ref.chg {w w' : World} {r b : Nat} {g : Option Nat} {l : List Int} {most : Nat} {over : Bool} (h : Ref w r g l most over) (hc : Chg b w w') (hb : b < r) : Ref w' r g l most over := by
  have hr := h.lt
  obtain ⟨a, cap, hg, h1, h2, h3⟩ := h
  exact ⟨a, cap, hg, by rw [hc.2.1 r hr (by omega)]; exact h1, owns_of h2 fun k hk hk2 => hc.2.1 k hk2 (by omega), h3⟩
theorem Ref.gr {w w' : World} {r : Nat} {g : Option Nat} {l : List Int} {most : Nat} {over : Bool} (h : Ref w r g l most over) (hc : Gr w w') : Ref w' r g l most over := by
  have hr := h.lt
  obtain ⟨a, cap, hg, h1, h2, h3⟩ := h
  exact ⟨a, cap, hg, by rw [hc.2.block r hr]; exact h1, owns_of h2 fun k hk hk2 => hc.2.block k hk2, h3⟩
theorem Ref.cell {w : World} {r : Nat} {g : Option Nat} {l : List Int} {most : Nat} {over : Bool} (h : Ref w r g l most over) :
    ∃ (a : Option Addr) (cap : Nat), a.map (·.block) = g ∧ w.cell? ⟨r, 0, none⟩ = some (.slice a l.length cap) ∧ w.cell? ⟨r, 1, none⟩ = some (.int .i64 most) ∧ w.cell? ⟨r, 2, none⟩ = some (.bool over) ∧ (∀ i, w.frozen? ⟨r, i, none⟩ = false) ∧
      w.heap[r]? = some (.cells #[.slice a l.length cap, .int .i64 most, .bool over] 35 (0, 0)) ∧ w.ownsRow (r + 1) 3 1 (.slice a l.length cap) l.length (ints l) ∧ cap ≤ 9223372036854775807 ∧ l.length ≤ most ∧ 1 ≤ most ∧ most ≤ 100 := by
  obtain ⟨a, cap, hg, h1, h2, h3⟩ := h
  refine ⟨a, cap, hg, ?_, ?_, ?_, fun i => frozen_of_row w r i _ _ h1, h1, h2, h3⟩
  · rw [cell_of_row w r 0 _ _ _ h1]; rfl
  · rw [cell_of_row w r 1 _ _ _ h1]; rfl
  · rw [cell_of_row w r 2 _ _ _ h1]; rfl
theorem Ref.mk {w : World} {r : Nat} {g : Option Nat} {l : List Int} {most : Nat} {over : Bool} (a : Option Addr) (cap : Nat) (hg : a.map (·.block) = g) (h1 : w.heap[r]? = some (.cells #[.slice a l.length cap, .int .i64 most, .bool over] 35 (0, 0))) (h2 : w.ownsRow (r + 1) 3 1 (.slice a l.length cap) l.length (ints l)) (h3 : cap ≤ 9223372036854775807) (h4 : l.length ≤ most) (h5 : 1 ≤ most) (h6 : most ≤ 100) : Ref w r g l most over := ⟨a, cap, hg, h1, h2, h3, h4, h5, h6⟩
theorem rf_New (v : Int) (w : World) :
    Calls Try.prog 7 #[.int .i64 v] w fun e w' => e = .returned (.pointer (some ⟨w.heap.size, 0, none⟩)) ∧ Ref w' w.heap.size none [] (mostOf v) false ∧ Gr w w' := by
  have hm : (mostOf v : Int) = if v < 1 then 1 else if 100 < v then 100 else v := by unfold mostOf; split <;> (try split) <;> omega
  have K1 : 1 ≤ mostOf v ∧ mostOf v ≤ 100 := by unfold mostOf; omega
  have HM := Lib.hid hm; clear hm
  have key : ∀ m : Int, (mostOf v : Int) = m → Ref (w.alloc (.cells #[.slice none 0 0, .int .i64 m, .bool false] 35)) w.heap.size none [] (mostOf v) false := fun m hm => by
    subst hm
    exact Ref.mk none 0 rfl (heap_alloc_new w _) (World.ownsRow_nil _ _ _ _) (by decide) (by simp) K1.1 K1.2
  have KEY := Lib.hid key; clear key
  by_cases h1 : v < 1
  · have e := Lib.hid (show (mostOf v : Int) = 1 by rw [HM.out, if_pos h1])
    go_enter Try.func7, Try.ntmps7
    go_wp2_with fail
    go_ret
    exact ⟨rfl, KEY.out _ e.out, Gr.alloc (Gr.refl _) _ _⟩
  · by_cases h2 : 100 < v
    · have e := Lib.hid (show (mostOf v : Int) = 100 by rw [HM.out, if_neg h1, if_pos h2])
      go_enter Try.func7, Try.ntmps7
      go_wp2_with fail
      all_goals
        go_ret
        exact ⟨rfl, KEY.out _ e.out, Gr.alloc (Gr.refl _) _ _⟩
    · have e := Lib.hid (show (mostOf v : Int) = v by rw [HM.out, if_neg h1, if_neg h2])
      go_enter Try.func7, Try.ntmps7
      go_wp2_with fail
      all_goals
        go_ret
        exact ⟨rfl, KEY.out _ (by have := e.out; omega), Gr.alloc (Gr.refl _) _ _⟩
theorem bel_set {w : World} {r : Nat} (i : Nat) (v : Value) : Below r w (w.drew.setCell ⟨r, i, none⟩ v) := Below.setCell (Below.drew (Below.refl _ _)) (Nat.le_refl r) v
theorem rf_push_full (w : World) (r : Nat) (g : Option Nat) (l : List Int) (most : Nat) (over : Bool) (v : Int) (h : Ref w r g l most over) (hl : l.length = most) :
    Calls Try.prog 10 #[.pointer (some ⟨r, 0, none⟩), .int .i64 v] w fun e w' => e = .returned (.bool false) ∧ Ref w' r g l most true ∧ Below r w w' ∧ Oth r g w w' := by
  obtain ⟨a, cap, hag, c0, c1, c2, fz, hb, hown, hcap, h4, h5, h6⟩ := h.cell
  have f2 := fz 2
  have FZ := Lib.hid fz; have HB := Lib.hid hb; have HO := Lib.hid hown; have HL := Lib.hid hl
  have d1 : decide ((most : Int) ≤ (l.length : Int)) = true := by simp; omega
  have d2 : decide (most ≤ l.length) = true := by simp; omega
  have hcc : (l.length : Int) ≤ 100 := by omega
  clear hl fz hb hown
  go_enter Try.func10, Try.ntmps10
  go_upto_region 1 with fail
  refine wp_region_held_drew (S := (fun w' => w'.cell? ⟨r, 0, none⟩ = some (.slice a l.length cap) ∧ w'.cell? ⟨r, 1, none⟩ = some (.int .i64 most))) (by kernel_rfl) ?_ (fun hH0 => ?_)
  · (try dsimp only); exact ⟨by simpa using c0, by simpa using c1⟩
  refine wpAnyH_take (i := 0) (oi := { dst := some 5, op := Op.move (Operand.tmp 0), type := 25, pos := "ref.go:18", after := #[], guard := none }) (v := ?v1) rfl (by kernel_rfl) (by kernel_rfl) (by kernel_rfl) (fun _ _ _ h => h) (Or.inl ⟨by rfl, ?hy1⟩) (by assumption) ?_
  case hy1 => intro w hSw; (try dsimp only at hSw); go_simp; (try with_reducible rfl)
  try simp only [Act.put, List.setIfInBounds_toArray, List.set_cons_zero, List.set_cons_succ]
  refine wpAnyH_take (i := 1) (oi := { dst := some 6, op := Op.nilCheck (Operand.tmp 5), type := 0, pos := "ref.go:18", after := #[{ on := 0, ground := Ground.data }], guard := none }) (v := ?v2) rfl (by kernel_rfl) (by kernel_rfl) (by kernel_rfl) (fun _ _ _ h => h) (Or.inl ⟨by rfl, ?hy2⟩) (by assumption) ?_
  case hy2 => intro w hSw; (try dsimp only at hSw); go_simp; (try with_reducible rfl)
  try simp only [Act.put, List.setIfInBounds_toArray, List.set_cons_zero, List.set_cons_succ]
  refine wpAnyH_take (i := 2) (oi := { dst := some 7, op := Op.fieldAddr 35 (Operand.tmp 6) 0, type := 0, pos := "ref.go:18", after := #[{ on := 1, ground := Ground.data }], guard := none }) (v := ?v3) rfl (by kernel_rfl) (by kernel_rfl) (by kernel_rfl) (fun _ _ _ h => h) (Or.inl ⟨by rfl, ?hy3⟩) (by assumption) ?_
  case hy3 => intro w hSw; (try dsimp only at hSw); go_simp; (try with_reducible rfl)
  try simp only [Act.put, List.setIfInBounds_toArray, List.set_cons_zero, List.set_cons_succ]
  refine wpAnyH_take (i := 3) (oi := { dst := some 8, op := Op.load 33 (Operand.tmp 7), type := 33, pos := "ref.go:18", after := #[{ on := 2, ground := Ground.data }], guard := none }) (v := ?v4) rfl (by kernel_rfl) (by kernel_rfl) (by kernel_rfl) (fun _ _ _ h => h) (Or.inl ⟨by rfl, ?hy4⟩) (by assumption) ?_
  case hy4 => intro w hSw; (try dsimp only at hSw); go_simp; (try with_reducible rfl)
  try simp only [Act.put, List.setIfInBounds_toArray, List.set_cons_zero, List.set_cons_succ]
  refine wpAnyH_take (i := 5) (oi := { dst := some 10, op := Op.move (Operand.tmp 0), type := 25, pos := "ref.go:18", after := #[], guard := none }) (v := ?v5) rfl (by kernel_rfl) (by kernel_rfl) (by kernel_rfl) (fun _ _ _ h => h) (Or.inl ⟨by rfl, ?hy5⟩) (by assumption) ?_
  case hy5 => intro w hSw; (try dsimp only at hSw); go_simp; (try with_reducible rfl)
  try simp only [Act.put, List.setIfInBounds_toArray, List.set_cons_zero, List.set_cons_succ]
  refine wpAnyH_take (i := 6) (oi := { dst := some 11, op := Op.nilCheck (Operand.tmp 10), type := 0, pos := "ref.go:18", after := #[{ on := 5, ground := Ground.data }], guard := none }) (v := ?v6) rfl (by kernel_rfl) (by kernel_rfl) (by kernel_rfl) (fun _ _ _ h => h) (Or.inl ⟨by rfl, ?hy6⟩) (by assumption) ?_
  case hy6 => intro w hSw; (try dsimp only at hSw); go_simp; (try with_reducible rfl)
  try simp only [Act.put, List.setIfInBounds_toArray, List.set_cons_zero, List.set_cons_succ]
  refine wpAnyH_take (i := 7) (oi := { dst := some 12, op := Op.fieldAddr 35 (Operand.tmp 11) 1, type := 0, pos := "ref.go:18", after := #[{ on := 6, ground := Ground.data }], guard := none }) (v := ?v7) rfl (by kernel_rfl) (by kernel_rfl) (by kernel_rfl) (fun _ _ _ h => h) (Or.inl ⟨by rfl, ?hy7⟩) (by assumption) ?_
  case hy7 => intro w hSw; (try dsimp only at hSw); go_simp; (try with_reducible rfl)
  try simp only [Act.put, List.setIfInBounds_toArray, List.set_cons_zero, List.set_cons_succ]
  refine wpAnyH_take (i := 8) (oi := { dst := some 13, op := Op.load 3 (Operand.tmp 12), type := 3, pos := "ref.go:18", after := #[{ on := 7, ground := Ground.data }], guard := none }) (v := ?v8) rfl (by kernel_rfl) (by kernel_rfl) (by kernel_rfl) (fun _ _ _ h => h) (Or.inl ⟨by rfl, ?hy8⟩) (by assumption) ?_
  case hy8 => intro w hSw; (try dsimp only at hSw); go_simp; (try with_reducible rfl)
  try simp only [Act.put, List.setIfInBounds_toArray, List.set_cons_zero, List.set_cons_succ]
  refine wpAnyH_ready (rs := [4]) (by kernel_rfl) (by simp) ?_
  refine AllReadyH.cons (o := { dst := some 9, op := Op.call { callee := Callee.builtin Builtin.len, args := #[Operand.tmp 8], argTypes := #[33] }, type := 3, pos := "ref.go:18", after := #[{ on := 3, ground := Ground.data }], guard := none }) rfl (fun K hK => ?_) AllReadyH.nil
  go_simp
  refine hK.out _ _ ?_ (fun hH1 => ?_)
  · (try dsimp only); (first | assumption)
  clear hK K
  clear hH0
  try simp only [Act.put, List.setIfInBounds_toArray, List.set_cons_zero, List.set_cons_succ]
  refine wpAnyH_take (i := 9) (oi := { dst := some 14, op := Op.binOp BinOp.geq 3 (Operand.tmp 9) (Operand.tmp 13) 3, type := 4, pos := "ref.go:18", after := #[{ on := 4, ground := Ground.data }, { on := 8, ground := Ground.data }], guard := none }) (v := ?v10) rfl (by kernel_rfl) (by kernel_rfl) (by kernel_rfl) (fun _ _ _ h => h) (Or.inl ⟨by rfl, ?hy10⟩) (by assumption) ?_
  case hy10 => intro w hSw; (try dsimp only at hSw); go_simp; (try with_reducible rfl)
  try simp only [Act.put, List.setIfInBounds_toArray, List.set_cons_zero, List.set_cons_succ]
  refine wpAnyH_done (by kernel_rfl) ?_ _
  go_wp2_with fail
  go_ret
  exact ⟨rfl, Ref.mk a cap hag (heap_setCell_same w r 2 _ _ _ HB.out) (owns_of HO.out fun k hk _ => heap_setCell_other w _ k _ (by simp; omega)) hcap h4 h5 h6, Below.drew (Below.setCell (Below.refl _ _) (Nat.le_refl r) _), Oth.set (Oth.refl _ _ _) _ _⟩
theorem own_form {w : World} {base : Nat} {e : TypeId} {size : Nat} {v : Value} {n : Nat} {xs : List Value} (h : w.ownsRow base e size v n xs) (hn : 0 < n) : ∃ g cap, v = .slice (some ⟨g, 0, none⟩) n cap ∧ base ≤ g ∧ cap ≤ 9223372036854775807 := by
  obtain ⟨_, h2 | ⟨g, cap, cur, h3, h4, h5, h6, h7, _⟩⟩ := h
  · omega
  · exact ⟨g, cap, h3, h4, by unfold maxLen at h7; omega⟩
theorem infoI : (Try.prog.info? 3).map (fun i => (i.zero, i.size, i.bytes)) = some (some (.int .i64 0), 1, 8) := by kernel_rfl
set_option maxHeartbeats 1000000 in
theorem rf_push_ok (w : World) (r : Nat) (g : Option Nat) (l : List Int) (most : Nat) (over : Bool) (v : Int) (h : Ref w r g l most over) (hl : l.length < most) :
    Calls Try.prog 10 #[.pointer (some ⟨r, 0, none⟩), .int .i64 v] w fun e w' => e = .returned (.bool true) ∧ (∃ g', Ref w' r g' (l ++ [v]) most over) ∧ Below r w w' ∧ Oth r g w w' := by
  have hr := h.lt
  obtain ⟨a, cap, hag, c0, c1, c2, fz, hb, hown, hcap, h4, h5, h6⟩ := h.cell
  have f0 := fz 0
  have HB := Lib.hid hb; have HL := Lib.hid hl
  have d1 : decide ((most : Int) ≤ (l.length : Int)) = false := by simp; omega
  have d2 : decide (most ≤ l.length) = false := by simp; omega
  have hcc : (l.length : Int) ≤ 100 := by omega
  obtain ⟨i0, hi, hz0, hz1, hz2⟩ := info_parts infoI
  clear hl fz hb
  go_enter Try.func10, Try.ntmps10
  go_upto_region 1 with fail
  refine wp_region_held_drew (S := (fun w' => w'.cell? ⟨r, 0, none⟩ = some (.slice a l.length cap) ∧ w'.cell? ⟨r, 1, none⟩ = some (.int .i64 most))) (by kernel_rfl) ?_ (fun hH0 => ?_)
  · (try dsimp only); exact ⟨by simpa using c0, by simpa using c1⟩
  refine wpAnyH_take (i := 0) (oi := { dst := some 5, op := Op.move (Operand.tmp 0), type := 25, pos := "ref.go:18", after := #[], guard := none }) (v := ?v11) rfl (by kernel_rfl) (by kernel_rfl) (by kernel_rfl) (fun _ _ _ h => h) (Or.inl ⟨by rfl, ?hy11⟩) (by assumption) ?_
  case hy11 => intro w hSw; (try dsimp only at hSw); go_simp; (try with_reducible rfl)
  try simp only [Act.put, List.setIfInBounds_toArray, List.set_cons_zero, List.set_cons_succ]
  refine wpAnyH_take (i := 1) (oi := { dst := some 6, op := Op.nilCheck (Operand.tmp 5), type := 0, pos := "ref.go:18", after := #[{ on := 0, ground := Ground.data }], guard := none }) (v := ?v12) rfl (by kernel_rfl) (by kernel_rfl) (by kernel_rfl) (fun _ _ _ h => h) (Or.inl ⟨by rfl, ?hy12⟩) (by assumption) ?_
  case hy12 => intro w hSw; (try dsimp only at hSw); go_simp; (try with_reducible rfl)
  try simp only [Act.put, List.setIfInBounds_toArray, List.set_cons_zero, List.set_cons_succ]
  refine wpAnyH_take (i := 2) (oi := { dst := some 7, op := Op.fieldAddr 35 (Operand.tmp 6) 0, type := 0, pos := "ref.go:18", after := #[{ on := 1, ground := Ground.data }], guard := none }) (v := ?v13) rfl (by kernel_rfl) (by kernel_rfl) (by kernel_rfl) (fun _ _ _ h => h) (Or.inl ⟨by rfl, ?hy13⟩) (by assumption) ?_
  case hy13 => intro w hSw; (try dsimp only at hSw); go_simp; (try with_reducible rfl)
  try simp only [Act.put, List.setIfInBounds_toArray, List.set_cons_zero, List.set_cons_succ]
  refine wpAnyH_take (i := 3) (oi := { dst := some 8, op := Op.load 33 (Operand.tmp 7), type := 33, pos := "ref.go:18", after := #[{ on := 2, ground := Ground.data }], guard := none }) (v := ?v14) rfl (by kernel_rfl) (by kernel_rfl) (by kernel_rfl) (fun _ _ _ h => h) (Or.inl ⟨by rfl, ?hy14⟩) (by assumption) ?_
  case hy14 => intro w hSw; (try dsimp only at hSw); go_simp; (try with_reducible rfl)
  try simp only [Act.put, List.setIfInBounds_toArray, List.set_cons_zero, List.set_cons_succ]
  refine wpAnyH_take (i := 5) (oi := { dst := some 10, op := Op.move (Operand.tmp 0), type := 25, pos := "ref.go:18", after := #[], guard := none }) (v := ?v15) rfl (by kernel_rfl) (by kernel_rfl) (by kernel_rfl) (fun _ _ _ h => h) (Or.inl ⟨by rfl, ?hy15⟩) (by assumption) ?_
  case hy15 => intro w hSw; (try dsimp only at hSw); go_simp; (try with_reducible rfl)
  try simp only [Act.put, List.setIfInBounds_toArray, List.set_cons_zero, List.set_cons_succ]
  refine wpAnyH_take (i := 6) (oi := { dst := some 11, op := Op.nilCheck (Operand.tmp 10), type := 0, pos := "ref.go:18", after := #[{ on := 5, ground := Ground.data }], guard := none }) (v := ?v16) rfl (by kernel_rfl) (by kernel_rfl) (by kernel_rfl) (fun _ _ _ h => h) (Or.inl ⟨by rfl, ?hy16⟩) (by assumption) ?_
  case hy16 => intro w hSw; (try dsimp only at hSw); go_simp; (try with_reducible rfl)
  try simp only [Act.put, List.setIfInBounds_toArray, List.set_cons_zero, List.set_cons_succ]
  refine wpAnyH_take (i := 7) (oi := { dst := some 12, op := Op.fieldAddr 35 (Operand.tmp 11) 1, type := 0, pos := "ref.go:18", after := #[{ on := 6, ground := Ground.data }], guard := none }) (v := ?v17) rfl (by kernel_rfl) (by kernel_rfl) (by kernel_rfl) (fun _ _ _ h => h) (Or.inl ⟨by rfl, ?hy17⟩) (by assumption) ?_
  case hy17 => intro w hSw; (try dsimp only at hSw); go_simp; (try with_reducible rfl)
  try simp only [Act.put, List.setIfInBounds_toArray, List.set_cons_zero, List.set_cons_succ]
  refine wpAnyH_take (i := 8) (oi := { dst := some 13, op := Op.load 3 (Operand.tmp 12), type := 3, pos := "ref.go:18", after := #[{ on := 7, ground := Ground.data }], guard := none }) (v := ?v18) rfl (by kernel_rfl) (by kernel_rfl) (by kernel_rfl) (fun _ _ _ h => h) (Or.inl ⟨by rfl, ?hy18⟩) (by assumption) ?_
  case hy18 => intro w hSw; (try dsimp only at hSw); go_simp; (try with_reducible rfl)
  try simp only [Act.put, List.setIfInBounds_toArray, List.set_cons_zero, List.set_cons_succ]
  refine wpAnyH_ready (rs := [4]) (by kernel_rfl) (by simp) ?_
  refine AllReadyH.cons (o := { dst := some 9, op := Op.call { callee := Callee.builtin Builtin.len, args := #[Operand.tmp 8], argTypes := #[33] }, type := 3, pos := "ref.go:18", after := #[{ on := 3, ground := Ground.data }], guard := none }) rfl (fun K hK => ?_) AllReadyH.nil
  go_simp
  refine hK.out _ _ ?_ (fun hH1 => ?_)
  · (try dsimp only); (first | assumption)
  clear hK K
  clear hH0
  try simp only [Act.put, List.setIfInBounds_toArray, List.set_cons_zero, List.set_cons_succ]
  refine wpAnyH_take (i := 9) (oi := { dst := some 14, op := Op.binOp BinOp.geq 3 (Operand.tmp 9) (Operand.tmp 13) 3, type := 4, pos := "ref.go:18", after := #[{ on := 4, ground := Ground.data }, { on := 8, ground := Ground.data }], guard := none }) (v := ?v20) rfl (by kernel_rfl) (by kernel_rfl) (by kernel_rfl) (fun _ _ _ h => h) (Or.inl ⟨by rfl, ?hy20⟩) (by assumption) ?_
  case hy20 => intro w hSw; (try dsimp only at hSw); go_simp; (try with_reducible rfl)
  try simp only [Act.put, List.setIfInBounds_toArray, List.set_cons_zero, List.set_cons_succ]
  refine wpAnyH_done (by kernel_rfl) ?_ _
  go_wp2_with (at_builtin; refine wpList_append_own _ rfl _ _ 33 rfl (r + 1) 3 i0 (.int .i64 0) 1 8 Try.underlying33 hi hz0 hz1 hz2 rfl (by decide) _ _ _ rfl (hown.alloc _) ⟨w.heap.size, 0, none⟩ 1 1 [.int .i64 v] rfl rfl ?c1 ?c2 ?c3 ?c4 ?c5 ?_)
  case c1 => exact World.news_of_block (heap_alloc_new w _)
  case c2 => intro u hu; simp at hu; subst hu; rfl
  case c3 => unfold maxLen; omega
  case c4 => omega
  case c5 => simp; omega
  intro v' w1 hown' hgrow _
  obtain ⟨g1, cap', rfl, hg1, hg2⟩ := own_form hown' (by omega)
  have hne : some r ≠ (Value.slice a l.length cap).ownBlock := fun e => by have := (hown.lt r e.symm).1; omega
  have k0 : w1.cell? ⟨r, 0, none⟩ = some (.slice a l.length cap) := by rw [hgrow.cell_far ⟨r, 0, none⟩ (by simp; omega) hne]; simpa using keep_alloc _ c0
  have k1 : w1.frozen? ⟨r, 0, none⟩ = false := by
    rw [hgrow.frozen_far ⟨r, 0, none⟩ (by simp; omega) hne]
    have : ((w.alloc (.cells #[.int .i64 v] 3))).frozen? ⟨r, 0, none⟩ = w.frozen? ⟨r, 0, none⟩ := World.frozen?_of_block (by show (w.alloc _).heap[r]? = w.heap[r]?; exact heap_alloc_old _ _ hr)
    exact this.trans f0
  have kb : w1.heap[r]? = some (.cells #[.slice a l.length cap, .int .i64 most, .bool over] 35 (0, 0)) := by
    rw [hgrow.block r (by simp; omega) hne]
    show (w.alloc _).heap[r]? = _
    rw [heap_alloc_old _ _ hr]; exact HB.out
  have bel : Below r w w1 := Below.grown (Below.drew (Below.alloc (Below.refl _ _) (by omega) _)) hgrow (by simp; omega) (fun k hk => by have := (hown.lt k hk).1; omega)
  have KB := Lib.hid kb; clear kb
  have oth : Oth r g w w1 := ⟨by have := hgrow.size; simp at this; omega, fun k hk hkr hkg => by
    rw [hgrow.block k (by simp; omega) (fun e => hkg (by rw [← hag]; cases a <;> simp_all [Value.ownBlock]))]
    exact heap_alloc_old _ _ hk⟩
  have HO := Lib.hid hown'; have BEL := Lib.hid bel; have OTH := Lib.hid oth; clear oth
  clear hown' hown bel hgrow
  go_wp2_with fail
  go_ret
  have hlen : (l ++ [v]).length = l.length + 1 := by simp
  refine ⟨rfl, ⟨some g1, Ref.mk (some ⟨g1, 0, none⟩) cap' rfl ?_ ?_ hg2 (by have := HL.out; omega) h5 h6⟩, Below.setCell BEL.out (Nat.le_refl r) _, Oth.set OTH.out _ _⟩
  · rw [hlen]; exact heap_setCell_same w1 r 0 _ _ _ KB.out
  · rw [hlen]
    have e : ints (l ++ [v]) = ints l ++ [.int .i64 v] := by simp [ints]
    rw [e]
    exact owns_of HO.out fun k hk _ => heap_setCell_other w1 _ k _ (by simp; omega)
theorem rf_pop_none (w : World) (r : Nat) (g : Option Nat) (most : Nat) (over : Bool) (h : Ref w r g [] most over) :
    Calls Try.prog 12 #[.pointer (some ⟨r, 0, none⟩)] w fun e w' => e = .returned (.tuple #[.int .i64 0, .bool false]) ∧ w = w' := by
  obtain ⟨a, cap, hag, c0, c1, c2, fz, hb, hown, hcap, h4, h5, h6⟩ := h.cell
  rw [List.length_nil] at c0
  clear fz hb hown
  go_enter Try.func12, Try.ntmps12
  go_wp2_with fail
  go_ret2
  exact ⟨rfl, rfl⟩
theorem rf_pop (w : World) (r : Nat) (g : Option Nat) (l : List Int) (v : Int) (most : Nat) (over : Bool) (h : Ref w r g (l ++ [v]) most over) :
    Calls Try.prog 12 #[.pointer (some ⟨r, 0, none⟩)] w fun e w' => e = .returned (.tuple #[.int .i64 v, .bool true]) ∧ Ref w' r g l most over ∧ Below r w w' ∧ Oth r g w w' := by
  have hr := h.lt
  obtain ⟨a, cap, hag, c0, c1, c2, fz, hb, hown, hcap, h4, h5, h6⟩ := h.cell
  have f0 := fz 0
  have hlen : (l ++ [v]).length = l.length + 1 := by simp
  rw [hlen] at c0 hb hown h4
  obtain ⟨g1, cap', hv, hg1, hg2⟩ := own_form hown (by omega)
  obtain ⟨rfl, rfl⟩ : a = some ⟨g1, 0, none⟩ ∧ cap = cap' := by simpa using hv
  have hcell := hown.cells (g := g1) rfl l.length (.int .i64 v) (by simp [ints])
  have hcell' : w.cell? ⟨g1, l.length, none⟩ = some (.int .i64 v) := by
    by_cases e : l = []
    · subst e; simpa [Addr.add] using hcell
    · simpa [Addr.add, e] using hcell
  have hle : l.length + 1 ≤ cap := by
    obtain ⟨_, h2 | ⟨g2, cap2, cur, h3, h4', h5', h6', _⟩⟩ := hown
    · omega
    · have : cap = cap2 := by simpa using (Value.slice.inj h3).2.2
      omega
  have hown2 : w.ownsRow (r + 1) 3 1 (.slice (some ⟨g1, 0, none⟩) l.length cap) l.length (ints l) := by
    obtain ⟨q1, h2 | ⟨g2, cap2, cur, h3, h4', h5', h6', h7', h8', h9'⟩⟩ := hown
    · omega
    · obtain ⟨e1, e2, e3⟩ := Value.slice.inj h3
      refine ⟨by simp [ints], .inr ⟨g2, cap2, cur, by rw [e1, e3], h4', h5', by omega, h7', h8', ?_⟩⟩
      have := congrArg (List.take l.length) h9'
      rw [List.take_take] at this
      simp [ints, Nat.min_eq_left (show l.length ≤ l.length + 1 by omega)] at this
      simpa [ints] using this
  have HB := Lib.hid hb; have HO := Lib.hid hown2
  have hl100 : l.length + 1 ≤ 100 := by omega
  have i0 : (l.length : Int) < (l.length : Int) + 1 := by omega
  have i1 : (0 : Int) ≤ (l.length : Int) := by omega
  have i2 : (l.length : Int) ≤ (cap : Int) := by omega
  have hpos : ((l.length : Int) + 1 == 0) = false := by simp; omega
  clear fz hb hown hown2 hv hcell hlen
  go_enter Try.func12, Try.ntmps12
  go_wp2_with fail
  go_ret2
  refine ⟨rfl, Ref.mk (some ⟨g1, 0, none⟩) cap hag (heap_setCell_same w r 0 _ _ _ HB.out) (owns_of HO.out fun k hk _ => heap_setCell_other w _ k _ (by simp; omega)) hcap (by omega) h5 h6, Below.setCell (Below.refl _ _) (Nat.le_refl r) _, Oth.set (Oth.refl _ _ _) _ _⟩
theorem Ref.own_lt {w : World} {r : Nat} {g : Option Nat} {l : List Int} {most : Nat} {over : Bool} (h : Ref w r g l most over) : ∀ k, g = some k → r < k ∧ k < w.heap.size := by
  obtain ⟨a, cap, hg, h1, h2, h3⟩ := h
  intro k hk
  have := h2.lt k (by rw [hk] at hg; cases a <;> simp_all [Value.ownBlock])
  omega
theorem Ref.setOver {w : World} {r : Nat} {g : Option Nat} {l : List Int} {most : Nat} {over : Bool} (h : Ref w r g l most over) (x : Bool) : Ref (w.setCell ⟨r, 2, none⟩ (.bool x)) r g l most x := by
  obtain ⟨a, cap, hg, h1, h2, h3, h4⟩ := h
  exact Ref.mk a cap hg (heap_setCell_same w r 2 _ _ _ h1) (owns_of h2 fun k hk _ => heap_setCell_other w _ k _ (by simp; omega)) h3 h4.1 h4.2.1 h4.2.2
theorem Chg.cellAt {b : Nat} {w w' : World} (h : Chg b w w') {k i : Nat} {v : Value} (hk : k ≠ b) (hc : w.cell? ⟨k, i, none⟩ = some v) : w'.cell? ⟨k, i, none⟩ = some v := by
  rw [World.cell?_of_block (h.2.1 k (World.block_lt_of_cell? _ _ hc) hk)]; exact hc
end Go.Proofs.Ytlancbacdjiciaa.Rf
