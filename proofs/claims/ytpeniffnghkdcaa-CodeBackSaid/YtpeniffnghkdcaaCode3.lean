/- Instructions in bytes. -/
import Derived.Test.YtpeniffnghkdcaaCode2
import Derived.RegionTactic
import Derived.Lib.Strings
import Derived.Deep.RegionHeld3
import Derived.Deep.DrawnRows
namespace Go.Proofs.Ytpeniffnghkdcaa.Cd
open Go.Proofs.Ytpeniffnghkdcaa.Gen Go.Proofs.Ytpeniffnghkdcaa.Base Go.ChangeShapes Go.WideShapes Go.ChangeAt Go.RowKit
set_option linter.unusedVariables false
theorem cd_Len (s : ByteArray) (w : World) (hs : s.size ≤ 9223372036854775807) :
    Calls Try.prog 12 #[.string s] w fun e w' => e = .returned (.int .i64 ((s.size / 3 : Nat) : Int)) ∧ w = w' := by
  go_enter Try.func12, Try.ntmps12
  go_wp2
  go_ret
  exact ⟨ret_i64 (by omega), rfl⟩
theorem cd_Get_no (s : ByteArray) (pc : Int) (w : World) (hs : s.size ≤ 9223372036854775807) (h : pc < 0 ∨ ((s.size / 3 : Nat) : Int) ≤ pc) :
    Calls Try.prog 8 #[.string s, .int .i64 pc] w fun e w' => e = .returned (.tuple #[.agg #[.int .i64 0, .int .i64 0, .int .i64 0], .bool false]) ∧ Gr w w' := by
  by_cases h1 : pc < 0
  · go_enter Try.func8, Try.ntmps8
    go_wp2_with fail
    exact bodyPost_ret (v := .tuple #[.agg #[.int .i64 0, .int .i64 0, .int .i64 0], .bool false]) (by simp [results, Try.results8, go_sem]) rfl ⟨rfl, Gr.alloc (Gr.refl _) _ _⟩
  · have h2 : ((s.size / 3 : Nat) : Int) ≤ pc := by omega
    generalize hn : (s.size / 3 : Nat) = n at *
    have HN := Lib.hid hn; clear hn
    go_enter Try.func8, Try.ntmps8
    go_wp2_with fail
    refine (cd_Len s _ hs).mono ?_; rintro e u1 ⟨rfl, rfl⟩
    rw [HN.out]
    go_wp2_with fail
    exact bodyPost_ret (v := .tuple #[.agg #[.int .i64 0, .int .i64 0, .int .i64 0], .bool false]) (by simp [results, Try.results8, go_sem]) rfl ⟨rfl, Gr.alloc (Gr.refl _) _ _⟩
def byt (s : ByteArray) (i : Nat) : Int := ((s.data.toList[i]?.getD 0).toNat : Int)
theorem byt_bd (s : ByteArray) (i : Nat) : 0 ≤ byt s i ∧ byt s i < 256 := by
  unfold byt; have := (s.data.toList[i]?.getD 0).toNat_lt; omega
theorem byt_get (s : ByteArray) (i : Nat) (h : i < s.size) : ((s[i]'h).toNat : Int) = byt s i := by
  have h1 : i < s.data.size := h
  have e : s[i]'h = s.data[i]'h1 := rfl
  unfold byt; rw [e, Array.getElem?_toList, Array.getElem?_eq_getElem h1]; rfl
theorem byt_ext (s : ByteArray) (a i : Nat) (h : a + i < s.size) : byt (s.extract a s.size) i = byt s (a + i) := by
  unfold byt; rw [Go.Lib.extract_data, List.getElem?_take_of_lt (by omega), List.getElem?_drop]
theorem cd_Get (s : ByteArray) (k : Nat) (w : World) (hs : s.size ≤ 9223372036854775807) (h : 3 * k + 3 ≤ s.size) :
    Calls Try.prog 8 #[.string s, .int .i64 k] w fun e w' => e = .returned (.tuple #[.agg #[.int .i64 (byt s (3 * k)), .int .i64 (byt s (3 * k + 1)), .int .i64 (byt s (3 * k + 2))], .bool true]) ∧ Gr w w' := by
  obtain ⟨n, hn⟩ : ∃ n : Nat, (s.size / 3 : Nat) = n := ⟨_, rfl⟩
  have h2 : k < n := by omega
  have HN := Lib.hid hn; clear hn
  have h3 : (k : Int) * 3 ≤ s.size := by omega
  have k0 : (0 : Int) ≤ (k : Int) := by omega
  go_enter Try.func8, Try.ntmps8
  go_wp2_with fail
  refine (cd_Len s _ hs).mono ?_; rintro e u1 ⟨rfl, rfl⟩
  rw [HN.out]
  go_wp2_with fail
  have hx : (s.extract (k * 3) s.size).size = s.size - k * 3 := by simp
  have z0 : 0 < (s.extract (k * 3) s.size).size := by omega
  have z1 : 1 < (s.extract (k * 3) s.size).size := by omega
  have z2 : 2 < (s.extract (k * 3) s.size).size := by omega
  have e0 : ∀ h, (((s.extract (k * 3) s.size)[0]'h).toNat : Int) = byt s (3 * k) := fun h => by rw [byt_get, byt_ext s _ _ (by omega)]; congr 1; omega
  have e1 : ∀ h, (((s.extract (k * 3) s.size)[1]'h).toNat : Int) = byt s (3 * k + 1) := fun h => by rw [byt_get, byt_ext s _ _ (by omega)]; congr 1; omega
  have e2 : ∀ h, (((s.extract (k * 3) s.size)[2]'h).toNat : Int) = byt s (3 * k + 2) := fun h => by rw [byt_get, byt_ext s _ _ (by omega)]; congr 1; omega
  have b0 := byt_bd s (3 * k); have b1 := byt_bd s (3 * k + 1); have b2 := byt_bd s (3 * k + 2)
  obtain ⟨B0, hB0⟩ : ∃ B, byt s (3 * k) = B := ⟨_, rfl⟩
  rw [hB0] at b0; have HB0 := Lib.hid hB0; simp only [hB0] at e0; clear hB0
  have W0 : IntKind.i64.wrap B0 = B0 := IntWalk.i64_in _ ⟨by omega, by omega⟩
  obtain ⟨B1, hB1⟩ : ∃ B, byt s (3 * k + 1) = B := ⟨_, rfl⟩
  rw [hB1] at b1; have HB1 := Lib.hid hB1; simp only [hB1] at e1; clear hB1
  have W1 : IntKind.i64.wrap B1 = B1 := IntWalk.i64_in _ ⟨by omega, by omega⟩
  obtain ⟨B2, hB2⟩ : ∃ B, byt s (3 * k + 2) = B := ⟨_, rfl⟩
  rw [hB2] at b2; have HB2 := Lib.hid hB2; simp only [hB2] at e2; clear hB2
  have W2 : IntKind.i64.wrap B2 = B2 := IntWalk.i64_in _ ⟨by omega, by omega⟩
  have Z1 : (1 : Int) < ((s.extract (k * 3) s.size).size : Int) := by omega
  have Z2 : (2 : Int) < ((s.extract (k * 3) s.size).size : Int) := by omega
  clear hx
  generalize s.extract (k * 3) s.size = x at *
  refine wp_region_held_drew (S := (fun w' => True)) (by kernel_rfl) ?_ (fun hH0 => ?_)
  · (try dsimp only); (first | done | trivial)
  refine wpAnyH_take (i := 0) (oi := { dst := some 20, op := Op.move (Operand.tmp 6), type := 9, pos := "code.go:51", after := #[], guard := none }) (v := ?v1) rfl (by kernel_rfl) (by kernel_rfl) (by kernel_rfl) (fun _ _ _ h => h) (Or.inl ⟨by rfl, ?hy1⟩) (by assumption) ?_
  case hy1 => intro w hSw; (try dsimp only at hSw); go_simp; (try with_reducible rfl)
  try simp only [Act.put, List.setIfInBounds_toArray, List.set_cons_zero, List.set_cons_succ]
  refine wpAnyH_take (i := 1) (oi := { dst := some 21, op := Op.index 9 (Operand.tmp 20) (Operand.const (Value.int IntKind.i64 0)), type := 5, pos := "code.go:51", after := #[{ on := 0, ground := Ground.data }], guard := none }) (v := ?v2) rfl (by kernel_rfl) (by kernel_rfl) (by kernel_rfl) (fun _ _ _ h => h) (Or.inl ⟨by rfl, ?hy2⟩) (by assumption) ?_
  case hy2 => intro w hSw; (try dsimp only at hSw); go_simp; (try with_reducible rfl)
  try simp only [Act.put, List.setIfInBounds_toArray, List.set_cons_zero, List.set_cons_succ]
  refine wpAnyH_take (i := 2) (oi := { dst := some 22, op := Op.convert 5 3 (Operand.tmp 21), type := 3, pos := "code.go:51", after := #[{ on := 1, ground := Ground.data }], guard := none }) (v := ?v3) rfl (by kernel_rfl) (by kernel_rfl) (by kernel_rfl) (fun _ _ _ h => h) (Or.inl ⟨by rfl, ?hy3⟩) (by assumption) ?_
  case hy3 => intro w hSw; (try dsimp only at hSw); go_simp; (try with_reducible rfl)
  try simp only [Act.put, List.setIfInBounds_toArray, List.set_cons_zero, List.set_cons_succ]
  refine wpAnyH_take (i := 3) (oi := { dst := some 23, op := Op.move (Operand.tmp 6), type := 9, pos := "code.go:51", after := #[], guard := none }) (v := ?v4) rfl (by kernel_rfl) (by kernel_rfl) (by kernel_rfl) (fun _ _ _ h => h) (Or.inl ⟨by rfl, ?hy4⟩) (by assumption) ?_
  case hy4 => intro w hSw; (try dsimp only at hSw); go_simp; (try with_reducible rfl)
  try simp only [Act.put, List.setIfInBounds_toArray, List.set_cons_zero, List.set_cons_succ]
  refine wpAnyH_take (i := 4) (oi := { dst := some 24, op := Op.index 9 (Operand.tmp 23) (Operand.const (Value.int IntKind.i64 1)), type := 5, pos := "code.go:51", after := #[{ on := 3, ground := Ground.data }], guard := none }) (v := ?v5) rfl (by kernel_rfl) (by kernel_rfl) (by kernel_rfl) (fun _ _ _ h => h) (Or.inl ⟨by rfl, ?hy5⟩) (by assumption) ?_
  case hy5 => intro w hSw; (try dsimp only at hSw); go_simp; (try with_reducible rfl)
  try simp only [Act.put, List.setIfInBounds_toArray, List.set_cons_zero, List.set_cons_succ]
  refine wpAnyH_take (i := 5) (oi := { dst := some 25, op := Op.convert 5 3 (Operand.tmp 24), type := 3, pos := "code.go:51", after := #[{ on := 4, ground := Ground.data }], guard := none }) (v := ?v6) rfl (by kernel_rfl) (by kernel_rfl) (by kernel_rfl) (fun _ _ _ h => h) (Or.inl ⟨by rfl, ?hy6⟩) (by assumption) ?_
  case hy6 => intro w hSw; (try dsimp only at hSw); go_simp; (try with_reducible rfl)
  try simp only [Act.put, List.setIfInBounds_toArray, List.set_cons_zero, List.set_cons_succ]
  refine wpAnyH_take (i := 6) (oi := { dst := some 26, op := Op.move (Operand.tmp 6), type := 9, pos := "code.go:51", after := #[], guard := none }) (v := ?v7) rfl (by kernel_rfl) (by kernel_rfl) (by kernel_rfl) (fun _ _ _ h => h) (Or.inl ⟨by rfl, ?hy7⟩) (by assumption) ?_
  case hy7 => intro w hSw; (try dsimp only at hSw); go_simp; (try with_reducible rfl)
  try simp only [Act.put, List.setIfInBounds_toArray, List.set_cons_zero, List.set_cons_succ]
  refine wpAnyH_take (i := 7) (oi := { dst := some 27, op := Op.index 9 (Operand.tmp 26) (Operand.const (Value.int IntKind.i64 2)), type := 5, pos := "code.go:51", after := #[{ on := 6, ground := Ground.data }], guard := none }) (v := ?v8) rfl (by kernel_rfl) (by kernel_rfl) (by kernel_rfl) (fun _ _ _ h => h) (Or.inl ⟨by rfl, ?hy8⟩) (by assumption) ?_
  case hy8 => intro w hSw; (try dsimp only at hSw); go_simp; (try with_reducible rfl)
  try simp only [Act.put, List.setIfInBounds_toArray, List.set_cons_zero, List.set_cons_succ]
  refine wpAnyH_take (i := 8) (oi := { dst := some 28, op := Op.convert 5 3 (Operand.tmp 27), type := 3, pos := "code.go:51", after := #[{ on := 7, ground := Ground.data }], guard := none }) (v := ?v9) rfl (by kernel_rfl) (by kernel_rfl) (by kernel_rfl) (fun _ _ _ h => h) (Or.inl ⟨by rfl, ?hy9⟩) (by assumption) ?_
  case hy9 => intro w hSw; (try dsimp only at hSw); go_simp; (try with_reducible rfl)
  try simp only [Act.put, List.setIfInBounds_toArray, List.set_cons_zero, List.set_cons_succ]
  refine wpAnyH_take (i := 9) (oi := { dst := some 29, op := Op.build 25 #[(0, Operand.tmp 22), (1, Operand.tmp 25), (2, Operand.tmp 28)], type := 25, pos := "code.go:51", after := #[{ on := 2, ground := Ground.data }, { on := 5, ground := Ground.data }, { on := 8, ground := Ground.data }], guard := none }) (v := ?v10) rfl (by kernel_rfl) (by kernel_rfl) (by kernel_rfl) (fun _ _ _ h => h) (Or.inl ⟨by rfl, ?hy10⟩) (by assumption) ?_
  case hy10 => intro w hSw; (try dsimp only at hSw); go_simp; (try with_reducible rfl)
  try simp only [Act.put, List.setIfInBounds_toArray, List.set_cons_zero, List.set_cons_succ]
  refine wpAnyH_ready (rs := [10]) (by kernel_rfl) (by simp) ?_
  refine AllReadyH.cons (o := { dst := none, op := Op.store 25 (Operand.tmp 4) (Operand.tmp 29), type := 0, pos := "code.go:51", after := #[{ on := 9, ground := Ground.data }, { on := 0, ground := Ground.phase }, { on := 1, ground := Ground.phase }, { on := 2, ground := Ground.phase }, { on := 3, ground := Ground.phase }, { on := 4, ground := Ground.phase }, { on := 5, ground := Ground.phase }, { on := 6, ground := Ground.phase }, { on := 7, ground := Ground.phase }, { on := 8, ground := Ground.phase }, { on := 9, ground := Ground.phase }], guard := none }) rfl (fun K hK => ?_) AllReadyH.nil
  go_simp
  refine hK.out _ _ ?_ (fun hH1 => ?_)
  · (try dsimp only); (first | done | trivial)
  clear hK K
  clear hH0
  try simp only [Act.put, List.setIfInBounds_toArray, List.set_cons_zero, List.set_cons_succ]
  refine wpAnyH_take (i := 11) (oi := { dst := some 5, op := Op.assign (Operand.const (Value.bool true)), type := 4, pos := "code.go:51", after := #[{ on := 10, ground := Ground.chain }, { on := 0, ground := Ground.phase }, { on := 1, ground := Ground.phase }, { on := 2, ground := Ground.phase }, { on := 3, ground := Ground.phase }, { on := 4, ground := Ground.phase }, { on := 5, ground := Ground.phase }, { on := 6, ground := Ground.phase }, { on := 7, ground := Ground.phase }, { on := 8, ground := Ground.phase }, { on := 9, ground := Ground.phase }, { on := 10, ground := Ground.phase }], guard := none }) (v := ?v12) rfl (by kernel_rfl) (by kernel_rfl) (by kernel_rfl) (fun _ _ _ h => h) (Or.inl ⟨by rfl, ?hy12⟩) (by assumption) ?_
  case hy12 => intro w hSw; (try dsimp only at hSw); go_simp; (try with_reducible rfl)
  try simp only [Act.put, List.setIfInBounds_toArray, List.set_cons_zero, List.set_cons_succ]
  refine wpAnyH_done (by kernel_rfl) ?_ _
  go_wp2_with fail
  rw [HB0.out, HB1.out, HB2.out]
  exact bodyPost_ret (v := .tuple #[.agg #[.int .i64 B0, .int .i64 B1, .int .i64 B2], .bool true]) (by simp [results, Try.results8, go_sem]) rfl ⟨rfl, Gr.drew (Gr.alloc (Gr.refl _) _ _)⟩
theorem rf_Get_no (s : ByteArray) (pc : Int) (w : World) (hs : s.size ≤ 9223372036854775807) (h : pc < 0 ∨ ((s.size / 3 : Nat) : Int) ≤ pc) :
    Calls Try.prog 9 #[.string s, .int .i64 pc] w fun e w' => e = .returned (.tuple #[.agg #[.int .i64 0, .int .i64 0, .int .i64 0], .bool false]) ∧ Gr w w' := by
  by_cases h1 : pc < 0
  · go_enter Try.func9, Try.ntmps9
    go_wp2_with fail
    exact bodyPost_ret (v := .tuple #[.agg #[.int .i64 0, .int .i64 0, .int .i64 0], .bool false]) (by simp [results, Try.results9, go_sem]) rfl ⟨rfl, Gr.alloc (Gr.refl _) _ _⟩
  · have h2 : (s.size : Int) / 3 ≤ pc := by omega
    go_enter Try.func9, Try.ntmps9
    go_wp2_with fail
    exact bodyPost_ret (v := .tuple #[.agg #[.int .i64 0, .int .i64 0, .int .i64 0], .bool false]) (by simp [results, Try.results9, go_sem]) rfl ⟨rfl, Gr.alloc (Gr.refl _) _ _⟩
end Go.Proofs.Ytpeniffnghkdcaa.Cd
