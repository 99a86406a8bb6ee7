/- Instructions as bytes. -/
import Derived.Test.YtpeniffnghkdcaaL13
import Derived.Test.YtpeniffnghkdcaaRec
import Derived.Laws.BytesArg
import Derived.Deep.AppendLies
import Derived.Deep.RegionHeld3
import Derived.Deep.DeepCutAuto
namespace Go.Proofs.Ytpeniffnghkdcaa.Cp
open Go.Proofs.Ytpeniffnghkdcaa.Gen Go.Proofs.Ytpeniffnghkdcaa.Base Go.Proofs.Ytpeniffnghkdcaa.Cd Go.ChangeShapes Go.WideShapes Go.ChangeAt Go.RowKit
set_option linter.unusedVariables false
/-- The bytes of the first k instructions. -/
def bl (z : Nat → Nat → Int) : Nat → List Int
  | 0 => []
  | k + 1 => bl z k ++ [z k 0 % 256, z k 1 % 256, z k 2 % 256]
theorem bl_len (z : Nat → Nat → Int) : ∀ k, (bl z k).length = 3 * k
  | 0 => rfl
  | k + 1 => by simp [bl, bl_len z k]; omega
def vs (l : List Int) : List Value := l.map (Value.int .u8)
def Rows3 (w : World) (b o len : Nat) (z : Nat → Nat → Int) : Prop := ∀ i, i < len → ∀ j, j < 3 → w.cell? ⟨b, o + (i * 3 + j), none⟩ = some (.int .i64 (z i j))
theorem Rows3.at {w : World} {b o len : Nat} {z : Nat → Nat → Int} (h : Rows3 w b o len z) {i : Nat} (hi : i < len) : w.cell? ⟨b, o + i * 3, none⟩ = some (.int .i64 (z i 0)) ∧ w.cell? ⟨b, o + i * 3 + 1, none⟩ = some (.int .i64 (z i 1)) ∧ w.cell? ⟨b, o + i * 3 + 2, none⟩ = some (.int .i64 (z i 2)) := by
  refine ⟨?_, ?_, ?_⟩
  · have := h i hi 0 (by decide); simpa using this
  · have := h i hi 1 (by decide); simpa [Nat.add_assoc] using this
  · have := h i hi 2 (by decide); simpa [Nat.add_assoc] using this
theorem Rows3.below {w w' : World} {b o len : Nat} {z : Nat → Nat → Int} (h : Rows3 w b o len z) {B : Nat} (hb : b < B) (k : Below B w w') : Rows3 w' b o len z := fun i hi j hj => by
  rw [k.cell (p := ⟨b, o + (i * 3 + j), none⟩) hb]; exact h i hi j hj
theorem infoB : (Try.prog.info? 5).map (fun i => (i.zero, i.size, i.bytes)) = some (some (.int .u8 0), 1, 1) := by kernel_rfl
theorem cd_Put_0 (a : Option Addr) (cap : Nat) (w : World) :
    Calls Try.prog 10 #[.slice a 0 cap] w fun e w' => e = .returned (.string ⟨#[]⟩) ∧ w = w' := by
  have hc := run_convert_bytes_nil (P := Try.prog) w 41 5 Try.underlying41 Try.underlying5 0 0 9 Try.underlying9
  go_enter Try.func10, Try.ntmps10
  go_wp2_with fail
  refine wp_loop_rounds 1 ?_
  rw [rounds_succ]
  go_wp2_with fail
  go_ret
  exact ⟨rfl, rfl⟩
theorem rf_Put_0 (a : Option Addr) (cap : Nat) (w : World) :
    Calls Try.prog 11 #[.slice a 0 cap] w fun e w' => e = .returned (.string ⟨#[]⟩) ∧ w = w' := by
  have hc := run_convert_bytes_nil (P := Try.prog) w 41 5 Try.underlying41 Try.underlying5 0 0 9 Try.underlying9
  go_enter Try.func11, Try.ntmps11
  go_wp2_with fail
  refine wp_loop_rounds 1 ?_
  rw [rounds_succ]
  go_wp2_with fail
  go_ret
  exact ⟨rfl, rfl⟩
theorem owns_da {w : World} {base : Nat} {e : TypeId} {size : Nat} {v : Value} {n : Nat} {xs : List Value} (h : w.ownsRow base e size v n xs) (o : Obj) : (w.alloc o).drew.ownsRow base e size v n xs := h.alloc o
theorem own_form {w : World} {base : Nat} {e : TypeId} {v : Value} {n : Nat} {xs : List Value} (h : w.ownsRow base e 1 v n xs) (hn : 0 < n) : ∃ g cap, v = .slice (some ⟨g, 0, none⟩) n cap ∧ base ≤ g ∧ n ≤ cap ∧ cap ≤ 9223372036854775807 ∧ g < w.heap.size ∧ (∀ j u, j < n → xs[j]? = some u → w.cell? ⟨g, j, none⟩ = some u) := by
  obtain ⟨hx, h2 | ⟨g, cap, cur, h3, h4, h5, h6, h7, h8, h9⟩⟩ := h
  · omega
  · refine ⟨g, cap, h3, h4, h6, by unfold maxLen at h7; omega, (Array.getElem?_eq_some_iff.1 h5).1, fun j u hj hu => ?_⟩
    rw [cell_of_row w g j _ _ _ h5]
    rw [← h9, List.getElem?_take] at hu
    simpa [hj] using hu
theorem conv_own {w : World} {base : Nat} {v : Value} {xs : List Int} (h : w.ownsRow base 5 1 v xs.length (vs xs)) (hn : 0 < xs.length) : (convert 41 9 v).run Try.prog w = .ok (.string (strOfNums xs)) w := by
  obtain ⟨g, cap, rfl, _, _, _, _, hc⟩ := own_form h hn
  refine run_convert_bytes_arg w _ 5 Try.underlying41 Try.underlying5 g 0 _ cap xs rfl (fun i hi => ?_) _ Try.underlying9
  have := hc i (.int .u8 (xs.getD i 0)) hi (by simp [vs, List.getElem?_eq_getElem hi])
  simpa using this
set_option maxHeartbeats 2000000 in
theorem cd_Put (b o len cap : Nat) (z : Nat → Nat → Int) (w : World) (hR : Rows3 w b o len z) (hb : b < w.heap.size) (h0 : 0 < len) (h1 : len ≤ 200) (hcap : len ≤ cap) (hcap2 : cap ≤ 9223372036854775807) :
    Calls Try.prog 10 #[.slice (some ⟨b, o, none⟩) len cap] w fun e w' => e = .returned (.string (strOfNums (bl z len))) ∧ Below w.heap.size w w' := by
  obtain ⟨i0, hi, hz0, hz1, hz2⟩ := info_parts infoB
  have HR := Lib.hid hR
  clear hR
  go_enter Try.func10, Try.ntmps10
  go_wp2_with fail
  go_loopw [3, 8] (fun v3 v8 wr => ∃ k : Nat, k ≤ len ∧ v8 = .int .i64 k ∧ wr.ownsRow w.heap.size 5 1 v3 (bl z k).length (vs (bl z k)) ∧ Below w.heap.size w wr) (fun _ v8 wr => len - (intOf v8).toNat)
  case atStart => exact ⟨0, by omega, rfl, World.ownsRow_nil _ _ _ _, Below.refl _ _⟩
  case round =>
    obtain ⟨k, kl, rfl, hown, bel⟩ := hrel
    by_cases hk : k < len
    · obtain ⟨c0, c1, c2⟩ := (HR.out.below hb bel).at hk
      have s0 : (0 : Int) ≤ (k : Int) := by omega
      have s1 : (k : Int) < (len : Int) := by omega
      have hbl := Lib.hid (bl_len z k)
      go_wp2_with (at_builtin; refine wpList_append_own _ rfl _ _ 41 rfl w.heap.size 5 i0 (.int .u8 0) 1 1 Try.underlying41 hi hz0 hz1 hz2 rfl (by decide) _ _ _ rfl ((hown.alloc _).alloc _) ⟨wr.heap.size + 1, 0, none⟩ 3 3 [.int .u8 (z k 0 % 256), .int .u8 (z k 1 % 256), .int .u8 (z k 2 % 256)] rfl rfl ?c1 ?c2 ?c3 ?c4 ?c5 ?_)
      case c1 => exact World.news_of_block (heap_alloc2_new wr _ _)
      case c2 => intro u hu; simp at hu; rcases hu with rfl | rfl | rfl <;> rfl
      case c3 => rw [hbl.out]; unfold maxLen; omega
      case c4 => rw [hbl.out]; omega
      case c5 => simp; have := bel.size; omega
      intro v' w1 hown' hgrow _
      have bel1 : Below w.heap.size w w1 := Below.grown (Below.alloc (Below.alloc bel bel.size _) (by simp; have := bel.size; omega) _) hgrow (by simp; have := bel.size; omega) (fun q hq => (hown.lt q hq).1)
      have e1 : (bl z (k + 1)).length = (bl z k).length + 3 := by rw [bl_len, bl_len]; omega
      have e2 : vs (bl z (k + 1)) = vs (bl z k) ++ [.int .u8 (z k 0 % 256), .int .u8 (z k 1 % 256), .int .u8 (z k 2 % 256)] := by simp [bl, vs]
      have HO := Lib.hid (show w1.ownsRow w.heap.size 5 1 v' (bl z (k + 1)).length (vs (bl z (k + 1))) by rw [e1, e2]; exact hown')
      clear hown' hgrow hown bel e1 e2
      go_wp2_with fail
      go_roundw
      case rel => exact ⟨k + 1, by omega, by go_num, HO.out, bel1⟩
      case measure => simp [intOf]; omega
    · obtain rfl : k = len := by omega
      have hc := conv_own hown (by rw [bl_len]; omega)
      go_wp2_with fail
      go_ret
      exact ⟨rfl, bel⟩
set_option maxHeartbeats 4000000 in
theorem rf_Put (b o len cap : Nat) (z : Nat → Nat → Int) (w : World) (hR : Rows3 w b o len z) (hb : b < w.heap.size) (h0 : 0 < len) (h1 : len ≤ 200) (hcap : len ≤ cap) (hcap2 : cap ≤ 9223372036854775807) :
    Calls Try.prog 11 #[.slice (some ⟨b, o, none⟩) len cap] w fun e w' => e = .returned (.string (strOfNums (bl z len))) ∧ Below w.heap.size w w' := by
  obtain ⟨i0, hi, hz0, hz1, hz2⟩ := info_parts infoB
  have HR := Lib.hid hR
  clear hR
  go_enter Try.func11, Try.ntmps11
  go_wp2_with fail
  go_loopw [3, 4] (fun v3 v4 wr => ∃ k : Nat, k ≤ len ∧ v4 = .int .i64 k ∧ wr.ownsRow w.heap.size 5 1 v3 (bl z k).length (vs (bl z k)) ∧ Below w.heap.size w wr) (fun _ v4 wr => len - (intOf v4).toNat)
  case atStart => exact ⟨0, by omega, rfl, World.ownsRow_nil _ _ _ _, Below.refl _ _⟩
  case round =>
    obtain ⟨k, kl, rfl, hown, bel⟩ := hrel
    by_cases hk : k < len
    · obtain ⟨c0, c1, c2⟩ := (HR.out.below hb bel).at hk
      have s0 : (0 : Int) ≤ (k : Int) := by omega
      have s1 : (k : Int) < (len : Int) := by omega
      have hbl := Lib.hid (bl_len z k)
      go_upto_region 5 with fail
      refine wp_region_held_drew (S := (fun w' => w'.cell? ⟨b, o + k * 3, none⟩ = some (.int .i64 (z k 0)) ∧ w'.cell? ⟨b, o + k * 3 + 1, none⟩ = some (.int .i64 (z k 1)) ∧ w'.cell? ⟨b, o + k * 3 + 2, none⟩ = some (.int .i64 (z k 2)))) (by kernel_rfl) ?_ (fun hH0 => ?_)
      · (try dsimp only); exact ⟨c0, c1, c2⟩
      refine wpAnyH_take (i := 0) (oi := { dst := some 11, op := Op.move (Operand.tmp 3), type := 41, pos := "ref.go:22", after := #[], guard := none }) (v := ?v1) rfl (by kernel_rfl) (by kernel_rfl) (by kernel_rfl) (fun _ _ _ h => h) (Or.inl ⟨by rfl, ?hy1⟩) (by assumption) ?_
      case hy1 => intro w hSw; (try dsimp only at hSw); go_simp; (try with_reducible rfl)
      try simp only [Act.put, List.setIfInBounds_toArray, List.set_cons_zero, List.set_cons_succ]
      refine wpAnyH_take (i := 1) (oi := { dst := some 12, op := Op.move (Operand.tmp 0), type := 22, pos := "ref.go:22", after := #[], guard := none }) (v := ?v2) rfl (by kernel_rfl) (by kernel_rfl) (by kernel_rfl) (fun _ _ _ h => h) (Or.inl ⟨by rfl, ?hy2⟩) (by assumption) ?_
      case hy2 => intro w hSw; (try dsimp only at hSw); go_simp; (try with_reducible rfl)
      try simp only [Act.put, List.setIfInBounds_toArray, List.set_cons_zero, List.set_cons_succ]
      refine wpAnyH_take (i := 2) (oi := { dst := some 13, op := Op.move (Operand.tmp 4), type := 3, pos := "ref.go:22", after := #[], guard := none }) (v := ?v3) rfl (by kernel_rfl) (by kernel_rfl) (by kernel_rfl) (fun _ _ _ h => h) (Or.inl ⟨by rfl, ?hy3⟩) (by assumption) ?_
      case hy3 => intro w hSw; (try dsimp only at hSw); go_simp; (try with_reducible rfl)
      try simp only [Act.put, List.setIfInBounds_toArray, List.set_cons_zero, List.set_cons_succ]
      refine wpAnyH_take (i := 3) (oi := { dst := some 14, op := Op.indexAddr 22 (Operand.tmp 12) (Operand.tmp 13), type := 0, pos := "ref.go:22", after := #[{ on := 1, ground := Ground.data }, { on := 2, ground := Ground.data }], guard := none }) (v := ?v4) rfl (by kernel_rfl) (by kernel_rfl) (by kernel_rfl) (fun _ _ _ h => h) (Or.inl ⟨by rfl, ?hy4⟩) (by assumption) ?_
      case hy4 => intro w hSw; (try dsimp only at hSw); go_simp; (try with_reducible rfl)
      try simp only [Act.put, List.setIfInBounds_toArray, List.set_cons_zero, List.set_cons_succ]
      refine wpAnyH_take (i := 4) (oi := { dst := some 15, op := Op.fieldAddr 28 (Operand.tmp 14) 0, type := 0, pos := "ref.go:22", after := #[{ on := 3, ground := Ground.data }], guard := none }) (v := ?v5) rfl (by kernel_rfl) (by kernel_rfl) (by kernel_rfl) (fun _ _ _ h => h) (Or.inl ⟨by rfl, ?hy5⟩) (by assumption) ?_
      case hy5 => intro w hSw; (try dsimp only at hSw); go_simp; (try with_reducible rfl)
      try simp only [Act.put, List.setIfInBounds_toArray, List.set_cons_zero, List.set_cons_succ]
      refine wpAnyH_take (i := 5) (oi := { dst := some 16, op := Op.load 3 (Operand.tmp 15), type := 3, pos := "ref.go:22", after := #[{ on := 4, ground := Ground.data }], guard := none }) (v := ?v6) rfl (by kernel_rfl) (by kernel_rfl) (by kernel_rfl) (fun _ _ _ h => h) (Or.inl ⟨by rfl, ?hy6⟩) (by assumption) ?_
      case hy6 => intro w hSw; (try dsimp only at hSw); go_simp; (try with_reducible rfl)
      try simp only [Act.put, List.setIfInBounds_toArray, List.set_cons_zero, List.set_cons_succ]
      refine wpAnyH_take (i := 6) (oi := { dst := some 17, op := Op.convert 3 5 (Operand.tmp 16), type := 5, pos := "ref.go:22", after := #[{ on := 5, ground := Ground.data }], guard := none }) (v := ?v7) rfl (by kernel_rfl) (by kernel_rfl) (by kernel_rfl) (fun _ _ _ h => h) (Or.inl ⟨by rfl, ?hy7⟩) (by assumption) ?_
      case hy7 => intro w hSw; (try dsimp only at hSw); go_simp; (try with_reducible rfl)
      try simp only [Act.put, List.setIfInBounds_toArray, List.set_cons_zero, List.set_cons_succ]
      refine wpAnyH_take (i := 7) (oi := { dst := some 18, op := Op.move (Operand.tmp 0), type := 22, pos := "ref.go:22", after := #[], guard := none }) (v := ?v8) rfl (by kernel_rfl) (by kernel_rfl) (by kernel_rfl) (fun _ _ _ h => h) (Or.inl ⟨by rfl, ?hy8⟩) (by assumption) ?_
      case hy8 => intro w hSw; (try dsimp only at hSw); go_simp; (try with_reducible rfl)
      try simp only [Act.put, List.setIfInBounds_toArray, List.set_cons_zero, List.set_cons_succ]
      refine wpAnyH_take (i := 8) (oi := { dst := some 19, op := Op.move (Operand.tmp 4), type := 3, pos := "ref.go:22", after := #[], guard := none }) (v := ?v9) rfl (by kernel_rfl) (by kernel_rfl) (by kernel_rfl) (fun _ _ _ h => h) (Or.inl ⟨by rfl, ?hy9⟩) (by assumption) ?_
      case hy9 => intro w hSw; (try dsimp only at hSw); go_simp; (try with_reducible rfl)
      try simp only [Act.put, List.setIfInBounds_toArray, List.set_cons_zero, List.set_cons_succ]
      refine wpAnyH_take (i := 9) (oi := { dst := some 20, op := Op.indexAddr 22 (Operand.tmp 18) (Operand.tmp 19), type := 0, pos := "ref.go:22", after := #[{ on := 7, ground := Ground.data }, { on := 8, ground := Ground.data }], guard := none }) (v := ?v10) rfl (by kernel_rfl) (by kernel_rfl) (by kernel_rfl) (fun _ _ _ h => h) (Or.inl ⟨by rfl, ?hy10⟩) (by assumption) ?_
      case hy10 => intro w hSw; (try dsimp only at hSw); go_simp; (try with_reducible rfl)
      try simp only [Act.put, List.setIfInBounds_toArray, List.set_cons_zero, List.set_cons_succ]
      refine wpAnyH_take (i := 10) (oi := { dst := some 21, op := Op.fieldAddr 28 (Operand.tmp 20) 1, type := 0, pos := "ref.go:22", after := #[{ on := 9, ground := Ground.data }], guard := none }) (v := ?v11) rfl (by kernel_rfl) (by kernel_rfl) (by kernel_rfl) (fun _ _ _ h => h) (Or.inl ⟨by rfl, ?hy11⟩) (by assumption) ?_
      case hy11 => intro w hSw; (try dsimp only at hSw); go_simp; (try with_reducible rfl)
      try simp only [Act.put, List.setIfInBounds_toArray, List.set_cons_zero, List.set_cons_succ]
      refine wpAnyH_take (i := 11) (oi := { dst := some 22, op := Op.load 3 (Operand.tmp 21), type := 3, pos := "ref.go:22", after := #[{ on := 10, ground := Ground.data }], guard := none }) (v := ?v12) rfl (by kernel_rfl) (by kernel_rfl) (by kernel_rfl) (fun _ _ _ h => h) (Or.inl ⟨by rfl, ?hy12⟩) (by assumption) ?_
      case hy12 => intro w hSw; (try dsimp only at hSw); go_simp; (try with_reducible rfl)
      try simp only [Act.put, List.setIfInBounds_toArray, List.set_cons_zero, List.set_cons_succ]
      refine wpAnyH_take (i := 12) (oi := { dst := some 23, op := Op.convert 3 5 (Operand.tmp 22), type := 5, pos := "ref.go:22", after := #[{ on := 11, ground := Ground.data }], guard := none }) (v := ?v13) rfl (by kernel_rfl) (by kernel_rfl) (by kernel_rfl) (fun _ _ _ h => h) (Or.inl ⟨by rfl, ?hy13⟩) (by assumption) ?_
      case hy13 => intro w hSw; (try dsimp only at hSw); go_simp; (try with_reducible rfl)
      try simp only [Act.put, List.setIfInBounds_toArray, List.set_cons_zero, List.set_cons_succ]
      refine wpAnyH_take (i := 13) (oi := { dst := some 24, op := Op.move (Operand.tmp 0), type := 22, pos := "ref.go:22", after := #[], guard := none }) (v := ?v14) rfl (by kernel_rfl) (by kernel_rfl) (by kernel_rfl) (fun _ _ _ h => h) (Or.inl ⟨by rfl, ?hy14⟩) (by assumption) ?_
      case hy14 => intro w hSw; (try dsimp only at hSw); go_simp; (try with_reducible rfl)
      try simp only [Act.put, List.setIfInBounds_toArray, List.set_cons_zero, List.set_cons_succ]
      refine wpAnyH_take (i := 14) (oi := { dst := some 25, op := Op.move (Operand.tmp 4), type := 3, pos := "ref.go:22", after := #[], guard := none }) (v := ?v15) rfl (by kernel_rfl) (by kernel_rfl) (by kernel_rfl) (fun _ _ _ h => h) (Or.inl ⟨by rfl, ?hy15⟩) (by assumption) ?_
      case hy15 => intro w hSw; (try dsimp only at hSw); go_simp; (try with_reducible rfl)
      try simp only [Act.put, List.setIfInBounds_toArray, List.set_cons_zero, List.set_cons_succ]
      refine wpAnyH_take (i := 15) (oi := { dst := some 26, op := Op.indexAddr 22 (Operand.tmp 24) (Operand.tmp 25), type := 0, pos := "ref.go:22", after := #[{ on := 13, ground := Ground.data }, { on := 14, ground := Ground.data }], guard := none }) (v := ?v16) rfl (by kernel_rfl) (by kernel_rfl) (by kernel_rfl) (fun _ _ _ h => h) (Or.inl ⟨by rfl, ?hy16⟩) (by assumption) ?_
      case hy16 => intro w hSw; (try dsimp only at hSw); go_simp; (try with_reducible rfl)
      try simp only [Act.put, List.setIfInBounds_toArray, List.set_cons_zero, List.set_cons_succ]
      refine wpAnyH_take (i := 16) (oi := { dst := some 27, op := Op.fieldAddr 28 (Operand.tmp 26) 2, type := 0, pos := "ref.go:22", after := #[{ on := 15, ground := Ground.data }], guard := none }) (v := ?v17) rfl (by kernel_rfl) (by kernel_rfl) (by kernel_rfl) (fun _ _ _ h => h) (Or.inl ⟨by rfl, ?hy17⟩) (by assumption) ?_
      case hy17 => intro w hSw; (try dsimp only at hSw); go_simp; (try with_reducible rfl)
      try simp only [Act.put, List.setIfInBounds_toArray, List.set_cons_zero, List.set_cons_succ]
      refine wpAnyH_take (i := 17) (oi := { dst := some 28, op := Op.load 3 (Operand.tmp 27), type := 3, pos := "ref.go:22", after := #[{ on := 16, ground := Ground.data }], guard := none }) (v := ?v18) rfl (by kernel_rfl) (by kernel_rfl) (by kernel_rfl) (fun _ _ _ h => h) (Or.inl ⟨by rfl, ?hy18⟩) (by assumption) ?_
      case hy18 => intro w hSw; (try dsimp only at hSw); go_simp; (try with_reducible rfl)
      try simp only [Act.put, List.setIfInBounds_toArray, List.set_cons_zero, List.set_cons_succ]
      refine wpAnyH_take (i := 18) (oi := { dst := some 29, op := Op.convert 3 5 (Operand.tmp 28), type := 5, pos := "ref.go:22", after := #[{ on := 17, ground := Ground.data }], guard := none }) (v := ?v19) rfl (by kernel_rfl) (by kernel_rfl) (by kernel_rfl) (fun _ _ _ h => h) (Or.inl ⟨by rfl, ?hy19⟩) (by assumption) ?_
      case hy19 => intro w hSw; (try dsimp only at hSw); go_simp; (try with_reducible rfl)
      try simp only [Act.put, List.setIfInBounds_toArray, List.set_cons_zero, List.set_cons_succ]
      refine wpAnyH_ready (rs := [19]) (by kernel_rfl) (by simp) ?_
      refine AllReadyH.cons (o := { dst := some 30, op := Op.buildSlice 41 3 #[(0, Operand.tmp 17), (1, Operand.tmp 23), (2, Operand.tmp 29)], type := 41, pos := "ref.go:22", after := #[{ on := 6, ground := Ground.data }, { on := 12, ground := Ground.data }, { on := 18, ground := Ground.data }], guard := none }) rfl (fun K hK => ?_) AllReadyH.nil
      go_simp
      refine hK.out _ _ ?_ (fun hH1 => ?_)
      · (try dsimp only); (first | exact ⟨d0, d1, d2⟩ | exact ⟨keep_alloc _ c0, keep_alloc _ c1, keep_alloc _ c2⟩)
      clear hK K
      clear hH0
      try simp only [Act.put, List.setIfInBounds_toArray, List.set_cons_zero, List.set_cons_succ]
      refine wpAnyH_ready (rs := [20]) (by kernel_rfl) (by simp) ?_
      refine AllReadyH.cons (o := { dst := some 31, op := Op.call { callee := Callee.builtin Builtin.append, args := #[Operand.tmp 11, Operand.tmp 30], argTypes := #[41, 41] }, type := 41, pos := "ref.go:22", after := #[{ on := 0, ground := Ground.data }, { on := 19, ground := Ground.data }], guard := none }) rfl (fun K hK => ?_) AllReadyH.nil
      rw [if_pos (by rfl)]; refine wp_append_own _ (.tmp 11) (.tmp 30) 41 (by rfl) w.heap.size 5 i0 (.int .u8 0) 1 1 Try.underlying41 hi hz0 hz1 hz2 rfl (by decide) u3 (bl z k).length (vs (bl z k)) (by rfl) (owns_da hown _) ⟨wr.heap.size, 0, none⟩ 3 3 [.int .u8 (z k 0 % 256), .int .u8 (z k 1 % 256), .int .u8 (z k 2 % 256)] (by rfl) rfl (World.news_of_block (heap_alloc_new wr _)) (by intro u hu; simp at hu; rcases hu with rfl | rfl | rfl <;> rfl) (by rw [hbl.out]; unfold maxLen; omega) (by rw [hbl.out]; omega) (by simp; have := bel.size; omega) ?_
      intro v' w1 hown' hgrow _
      have bel1 : Below w.heap.size w w1 := Below.grown (Below.drew (Below.alloc bel bel.size _)) hgrow (by simp; have := bel.size; omega) (fun q hq => (hown.lt q hq).1)
      have e1 : (bl z (k + 1)).length = (bl z k).length + 3 := by rw [bl_len, bl_len]; omega
      have e2 : vs (bl z (k + 1)) = vs (bl z k) ++ [.int .u8 (z k 0 % 256), .int .u8 (z k 1 % 256), .int .u8 (z k 2 % 256)] := by simp [bl, vs]
      have HO := Lib.hid (show w1.ownsRow w.heap.size 5 1 v' (bl z (k + 1)).length (vs (bl z (k + 1))) by rw [e1, e2]; exact hown')
      obtain ⟨d0, d1, d2⟩ := (HR.out.below hb bel1).at hk
      refine hK.out _ _ ?_ (fun hH2 => ?_)
      · (try dsimp only); (first | exact ⟨d0, d1, d2⟩ | exact ⟨keep_alloc _ c0, keep_alloc _ c1, keep_alloc _ c2⟩)
      clear hK K
      clear hH1
      try simp only [Act.put, List.setIfInBounds_toArray, List.set_cons_zero, List.set_cons_succ]
      refine wpAnyH_take (i := 21) (oi := { dst := some 3, op := Op.assign (Operand.tmp 31), type := 41, pos := "ref.go:22", after := #[{ on := 20, ground := Ground.data }, { on := 20, ground := Ground.chain }, { on := 0, ground := Ground.phase }, { on := 1, ground := Ground.phase }, { on := 2, ground := Ground.phase }, { on := 3, ground := Ground.phase }, { on := 4, ground := Ground.phase }, { on := 5, ground := Ground.phase }, { on := 6, ground := Ground.phase }, { on := 7, ground := Ground.phase }, { on := 8, ground := Ground.phase }, { on := 9, ground := Ground.phase }, { on := 10, ground := Ground.phase }, { on := 11, ground := Ground.phase }, { on := 12, ground := Ground.phase }, { on := 13, ground := Ground.phase }, { on := 14, ground := Ground.phase }, { on := 15, ground := Ground.phase }, { on := 16, ground := Ground.phase }, { on := 17, ground := Ground.phase }, { on := 18, ground := Ground.phase }, { on := 19, ground := Ground.phase }, { on := 20, ground := Ground.phase }], guard := none }) (v := ?v22) rfl (by kernel_rfl) (by kernel_rfl) (by kernel_rfl) (fun _ _ _ h => h) (Or.inl ⟨by rfl, ?hy22⟩) (by assumption) ?_
      case hy22 => intro w hSw; (try dsimp only at hSw); go_simp; (try with_reducible rfl)
      try simp only [Act.put, List.setIfInBounds_toArray, List.set_cons_zero, List.set_cons_succ]
      refine wpAnyH_done (by kernel_rfl) ?_ _
      go_wp2_with fail
      go_roundw
      case rel => exact ⟨k + 1, by omega, by go_num, HO.out, bel1⟩
      case measure => simp [intOf]; omega
    · obtain rfl : k = len := by omega
      have hc := conv_own hown (by rw [bl_len]; omega)
      go_wp2_with fail
      go_ret
      exact ⟨rfl, bel⟩
end Go.Proofs.Ytpeniffnghkdcaa.Cp
