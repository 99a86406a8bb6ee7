/- The law HeapKeeps returns true at every input, and leaves its arguments as they were. No condition. -/
import Derived.Test.YtljgnmbjidkjnaaRows
import Derived.WalkKit
import Derived.ProofKit
import Derived.OpenShut
import Derived.Test.YtljgnmbjidkjnaaTwoH
import Derived.Deep.RegionWith
import Derived.Deep.DeepCutAuto
import Derived.ShutString
import Derived.ChangeOld
import Derived.Below
namespace Go.Proofs.Ytljgnmbjidkjnaa.heapKeeps
open Go.ChangeShapes Go.WideShapes Go.ChangeAt Go.RowKit
open Go.ChangeMaps (open_string shut_string)
open Go.Proofs.Ytljgnmbjidkjnaa.Gen Go.Proofs.Ytljgnmbjidkjnaa.Base Go.Proofs.Ytljgnmbjidkjnaa.Fr Go.Proofs.Ytljgnmbjidkjnaa.Hp
set_option linter.unusedVariables false

theorem own : ownKnob Try.prog.godebug = none := by kernel_rfl
theorem laidOut : laidOutB Try.prog = true := by kernel_rfl

/-- WHAT THE WALK IS TOLD OF A SLICE OF INTEGERS THAT CAME IN: it is nil; or it leads to a row of 'cap' cells, the numbers 'zs' (the first 'len' are its elements, the rest its spare room), each fitting its kind. -/
def IsRow (k : IntKind) (w : World) (a : Option Addr) (len cap : Nat) (zs : List Int) : Prop :=
  (a = none ∧ len = 0 ∧ cap = 0 ∧ zs = []) ∨
  ∃ x, a = some x ∧ len ≤ cap ∧ cap ≤ maxLen ∧ zs.length = cap ∧ (∀ i, i < zs.length → w.cell? (x.add i) = some (.int k (zs.getD i 0))) ∧ ∀ n ∈ zs, (Lit.int k n).wf = true

theorem row_at {w : World} {a : Option Addr} {len cap : Nat} {zs : List Int} (h : IsRow .i64 w a len cap zs) :
    (len : Int) ≤ 9223372036854775807 ∧ ∀ i, i < len → ∃ xb xo, a = some ⟨xb, xo, none⟩ ∧ xb < w.heap.size ∧ w.cell? ⟨xb, xo + i, none⟩ = some (.int .i64 (zs[i]?.getD 0)) ∧ (Lit.int .i64 (zs[i]?.getD 0)).wf = true := by
  rcases h with ⟨rfl, rfl, rfl, rfl⟩ | ⟨x, rfl, hl, hm, hz, hcell, hwz⟩
  · exact ⟨by omega, fun i hi => by omega⟩
  · refine ⟨by unfold maxLen at hm; omega, fun i hi => ?_⟩
    obtain ⟨xb, xo, spot⟩ := x
    have hspot : spot = none := by simpa [Addr.add] using World.cell?_spot (hcell 0 (by omega))
    subst hspot
    have hc : w.cell? ⟨xb, xo + i, none⟩ = some (.int .i64 (zs[i]?.getD 0)) := by
      have h := hcell i (by omega)
      by_cases e : i = 0
      · subst e; simpa [Addr.add] using h
      · simpa [Addr.add, e] using h
    exact ⟨xb, xo, rfl, World.block_lt_of_cell? _ _ hc, hc, hwz _ (by simp [show i < zs.length by omega])⟩
theorem nextN_none (n f k : Nat) : nextN (List.replicate n false) f k = 0 := by
  induction f generalizing k with
  | zero => rfl
  | succ f ih =>
    have : o (List.replicate n false) k = false := by rw [o_rep]; split <;> rfl
    rw [nextN, this]; exact ih _
theorem next_none (n : Nat) (x : Int) : ((nextB (List.replicate n false) x : Nat) : Int) = 0 := by unfold nextB; rw [nextN_none]; rfl

/-! ### STEP 1: THE WALK: the Go text returns true, AND WRITES NOTHING THAT WAS THERE: 'Below w.heap.size w w'' (Derived/Below.lean: '.refl', '.alloc', '.drew', '.setCell' at a new block, '.trans'). Open each 'IsRow' by 'rcases' AHEAD of 'go_enter'; part every test ahead of the walk. -/
set_option maxRecDepth 100000 in
set_option maxHeartbeats 16000000 in
theorem walk (a0 : Option Addr) (len0 cap0 : Nat) (z0 : List Int) (w : World) (w0 : IsRow .i64 w a0 len0 cap0 z0) :
    Calls Try.prog 4 #[.slice a0 len0 cap0] w fun e w' => e = .returned (.bool true) ∧ Below w.heap.size w w' := by
  obtain ⟨hl0, hcell⟩ := row_at w0
  have HCELL := Lib.hid hcell; clear hcell w0
  have hn : Calls Try.prog 9 #[.int .i64 600] w fun e w' => ∃ X, e = .returned (.pointer (some ⟨X.h, 0, none⟩)) ∧ HpAt w' X (List.replicate 600 0) (List.replicate 600 true) (List.replicate 600 false) ∧ HOwn w w' X := hp_New 600 (by omega) w
  go_enter Try.func4, Try.ntmps4
  go_wp2_with (go_at_call 9; refine hn.mono ?_; rintro e u1 ⟨X1, rfl, hA1, hO1⟩; dsimp only)
  have HT1 := Lib.hid (show TwoH w.heap.size u1 X1 (List.replicate 600 0) (List.replicate 600 true) (List.replicate 600 false) (.slice none 0 0) (atL []) (.slice none 0 0) (haL []) from ⟨hA1, BesH.nil _ _ _, BesH.nil _ _ _, Ap.nil _⟩)
  have HO1 := Lib.hid hO1
  have HK1 := Lib.hid Kp.zero
  clear hA1 hO1 hn
  generalize hr : X1.h = r at *
  have HR1 := Lib.hid hr; clear hr
  generalize List.replicate 600 (0 : Int) = ws1 at *
  generalize List.replicate 600 true = l1 at *
  generalize List.replicate 600 false = bg1 at *
  go_loopw [4, 5, 6] (fun v4 v5 v6 wr => ∃ (i : Nat) (X : HB) (ws : List Int) (l bg : List Bool) (T : List (Nat × Nat × Nat)), i ≤ min len0 40 ∧ v6 = .int .i64 i ∧ X.h = r ∧ Kp i ws l bg T ∧ T.length ≤ i ∧ TwoH w.heap.size wr X ws l bg v4 (atL T) v5 (haL T) ∧ HOwn w wr X) (fun _ _ v6 wr => 40 - (intOf v6).toNat)
  case atStart => exact ⟨0, X1, ws1, l1, bg1, [], by omega, rfl, HR1.out, HK1.out, Nat.zero_le _, HT1.out, HO1.out⟩
  case round =>
    clear HT1 HO1 HR1 HK1
    obtain ⟨i, X, ws, l, bg, T, i1, rfl, hXr, hK, hTl, hT, hO⟩ := hrel
    obtain ⟨aa, capa, hva, hca1, hca2, hfa⟩ := hT.a.form
    obtain ⟨ab, capb, hvb, hcb1, hcb2, hfb⟩ := hT.b.form
    rw [atL_len] at hva hca1 hfa
    rw [haL_len] at hvb hcb1 hfb
    obtain ⟨n, hn⟩ : ∃ n, n = T.length := ⟨_, rfl⟩
    rw [← hn] at hva hca1 hfa hvb hcb1 hfb hTl
    subst hva hvb
    have HXR := Lib.hid hXr; have HK := Lib.hid hK; have HFA := Lib.hid hfa; have HFB := Lib.hid hfb; have HN := Lib.hid hn
    clear hXr hK hfa hfb hn
    by_cases hlt : i < min len0 40
    · obtain ⟨xb, xo, rfl, hxb, hxc, hxw⟩ := HCELL.out i (by omega)
      have hx : wr.cell? ⟨xb, xo + i, none⟩ = some (.int .i64 (z0[i]?.getD 0)) := by rw [hO.below.cell (p := ⟨xb, xo + i, none⟩) hxb]; exact hxc
      have t1 : decide ((i : Int) < (len0 : Int)) = true := by simp; omega
      have t1' : (i : Int) < (len0 : Int) := by omega
      have t2 : (i : Int) < 40 := by omega
      have t0 : (0 : Int) ≤ (i : Int) := by omega
      have i40 : i < 40 := by omega
      generalize z0[i]?.getD 0 = Z at *
      have HT := Lib.hid hT; have HO := Lib.hid hO
      clear hT hO hxc hlt
      go_wp2_with fail
      refine (place_gen Z 1048576 (by omega) (by omega) hxw _).mono ?_
      rintro e w' ⟨v, v0, v1, rfl, rfl⟩
      dsimp only
      by_cases h4 : v % 4 = 0 ∧ 0 < n
      · obtain ⟨h4, hn0⟩ := h4
        obtain ⟨k, hk, hk2⟩ : ∃ k : Nat, v / 4 % (n : Int) = (k : Int) ∧ k < n := by
          have e1 := Int.emod_nonneg (v / 4) (show (n : Int) ≠ 0 by omega)
          have e2 := Int.emod_lt_of_pos (v / 4) (show (0 : Int) < n by omega)
          exact ⟨(v / 4 % (n : Int)).toNat, by omega, by omega⟩
        have q0 : (0 : Int) < (n : Int) := by omega
        have q1 : ¬ (n : Int) = 0 := by omega
        have q2 : (k : Int) < (n : Int) := by omega
        have q3 : (0 : Int) ≤ (k : Int) := by omega
        have n40 : (n : Int) ≤ 40 := by omega
        have dv4 : 0 ≤ v / 4 ∧ v / 4 ≤ 262144 := by omega
        obtain ⟨p, hTk⟩ : ∃ p, T[k]? = some p := ⟨_, List.getElem?_eq_getElem (by have := HN.out; omega)⟩
        obtain ⟨a, s, h⟩ := p
        have hF := HK.out.fit k a s h hTk
        have hFl := HK.out.fld hTk
        obtain ⟨ga, rfl, cxa⟩ := HFA.out k hk2
        obtain ⟨gb, rfl, cxb⟩ := HFB.out k hk2
        rw [atL_at hTk] at cxa
        rw [haL_at hTk] at cxb
        have hTd : TwoH w.heap.size wr.drew X ws l bg (.slice (some ⟨ga, 0, none⟩) n capa) (atL T) (.slice (some ⟨gb, 0, none⟩) n capb) (haL T) := HT.out.drewN 1
        have hOd : HOwn w wr.drew X := HO.out.nx (HNx.drewN X wr 1)
        have hlb := HK.out.lb
        have hc1 := hp_Hash hTd.hp a ((a : Int) + 1) rfl hFl.has (by omega)
        rw [HK.out.hash k a s h hTk, Wd.iof_wi (by omega) (by omega), HXR.out] at hc1
        have hc2 := hp_Drop hTd.hp a s ((a : Int) + 1) rfl hFl.has hFl.siz (by omega) (fun x x1 x2 => (HK.out.cov x (by omega)).2 ⟨k, a, s, h, hTk, x1, by omega⟩)
        rw [HXR.out] at hc2
        have hno : ∀ (u : World) (X' : HB), HpAt u X' ws (setR l a (3 + s) true) (bg.set a false) → X'.h = r → Calls Try.prog 26 #[.pointer (some ⟨r, 0, none⟩), .int .i64 ((a : Int) + 1)] u fun e w' => e = .returned (.bool false) ∧ u = w' := fun u X' hA' hr => by
          have := has_any hA' ((a : Int) + 1) (i64_wf (by omega) (by omega))
          rw [hasB_nat _ a (by simp; omega), o_setl (by omega), if_pos rfl, hr] at this
          exact this
        have hcell2 : ∀ (u : World) (X' : HB), HNx X wr.drew X' u → u.cell? ⟨ga, k, none⟩ = some (.int .i64 ((a : Int) + 1)) ∧ u.cell? ⟨gb, k, none⟩ = some (.int .i64 (h : Int)) := fun u X' hN => by
          have e1 := (hTd.a.nx hN).cells (i := k) (by rw [atL_len, ← HN.out]; exact hk2)
          have e2 := (hTd.b.nx hN).cells (i := k) (by rw [haL_len, ← HN.out]; exact hk2)
          rw [atL_at hTk] at e1
          rw [haL_at hTk] at e2
          exact ⟨e1, e2⟩
        have hle := atL_le (T := T) (k := k) (by have := HN.out; omega)
        have hle2 := atL_le (T := T) (k := k + 1) (by have := HN.out; omega)
        have HLA := Lib.hid (show ((atL T).take k).length = k ∧ ((haL T).take k).length = k from ⟨hle.1, hle.2.2.1⟩)
        obtain ⟨k1, hk1⟩ : ∃ k1, k1 = k + 1 := ⟨_, rfl⟩
        rw [← hk1] at hle2
        have HLB := Lib.hid (show ((atL T).drop k1).length = n - k1 ∧ ((haL T).drop k1).length = n - k1 by rw [HN.out]; exact ⟨hle2.2.1, hle2.2.2.2⟩)
        have hskw : IntKind.i64.wrap ((k : Int) + 1) = (k1 : Int) := by rw [IntWalk.i64_in _ ⟨by omega, by omega⟩]; omega
        have hsk1 : 0 ≤ (k1 : Int) ∧ (k1 : Int) ≤ (n : Int) := by omega
        have k40 : k1 ≤ 40 := by omega
        have HK1 := Lib.hid hk1
        clear hk1
        have hKn := Lib.hid (HK.out.drop hTk).more
        have HTD := Lib.hid hTd; have HOD := Lib.hid hOd; have HNO := Lib.hid hno; have HC2 := Lib.hid hcell2
        have cc0 : ¬ capa = 0 := by omega
        have cc1 : ¬ capb = 0 := by omega
        have ck0 : k ≤ capa ∧ k ≤ capb := by omega
        clear hTd hOd hno hcell2 hle hle2 hF hFl hlb HT HO
        go_upto_region 11 with fail
        refine wp_region_held_drew (S := (fun w' => w'.cell? ⟨ga, k, none⟩ = some (.int .i64 ((a : Int) + 1)) ∧ w'.cell? ⟨gb, k, none⟩ = some (.int .i64 (h : Int)))) (by kernel_rfl) ?_ (fun hH0 => ?_)
        · (try dsimp only); exact ⟨by simpa using cxa, by simpa using cxb⟩
        refine wpAnyH_take (i := 0) (oi := { dst := some 47, op := Op.move (Operand.tmp 3), type := 24, pos := "law.go:102", after := #[], guard := none }) (v := ?v1) rfl (by kernel_rfl) (by kernel_rfl) (by kernel_rfl) (fun _ _ _ h => h) (Or.inl ⟨by rfl, ?hy1⟩) (by assumption) ?_
        case hy1 => intro w hSw; (try dsimp only at hSw); go_simp; (try with_reducible rfl)
        try simp only [Act.put, List.setIfInBounds_toArray, List.set_cons_zero, List.set_cons_succ]
        refine wpAnyH_take (i := 1) (oi := { dst := some 48, op := Op.move (Operand.tmp 4), type := 49, pos := "law.go:102", after := #[], guard := none }) (v := ?v2) rfl (by kernel_rfl) (by kernel_rfl) (by kernel_rfl) (fun _ _ _ h => h) (Or.inl ⟨by rfl, ?hy2⟩) (by assumption) ?_
        case hy2 => intro w hSw; (try dsimp only at hSw); go_simp; (try with_reducible rfl)
        try simp only [Act.put, List.setIfInBounds_toArray, List.set_cons_zero, List.set_cons_succ]
        refine wpAnyH_take (i := 2) (oi := { dst := some 49, op := Op.move (Operand.tmp 8), type := 3, pos := "law.go:102", after := #[], guard := none }) (v := ?v3) rfl (by kernel_rfl) (by kernel_rfl) (by kernel_rfl) (fun _ _ _ h => h) (Or.inl ⟨by rfl, ?hy3⟩) (by assumption) ?_
        case hy3 => intro w hSw; (try dsimp only at hSw); go_simp; (try with_reducible rfl)
        try simp only [Act.put, List.setIfInBounds_toArray, List.set_cons_zero, List.set_cons_succ]
        refine wpAnyH_take (i := 3) (oi := { dst := some 50, op := Op.indexAddr 49 (Operand.tmp 48) (Operand.tmp 49), type := 0, pos := "law.go:102", after := #[{ on := 1, ground := Ground.data }, { on := 2, ground := Ground.data }], guard := none }) (v := ?v4) rfl (by kernel_rfl) (by kernel_rfl) (by kernel_rfl) (fun _ _ _ h => h) (Or.inl ⟨by rfl, ?hy4⟩) (by assumption) ?_
        case hy4 => intro w hSw; (try dsimp only at hSw); go_simp; (try with_reducible rfl)
        try simp only [Act.put, List.setIfInBounds_toArray, List.set_cons_zero, List.set_cons_succ]
        refine wpAnyH_take (i := 4) (oi := { dst := some 51, op := Op.load 3 (Operand.tmp 50), type := 3, pos := "law.go:102", after := #[{ on := 3, ground := Ground.data }], guard := none }) (v := ?v5) rfl (by kernel_rfl) (by kernel_rfl) (by kernel_rfl) (fun _ _ _ h => h) (Or.inl ⟨by rfl, ?hy5⟩) (by assumption) ?_
        case hy5 => intro w hSw; (try dsimp only at hSw); go_simp; (try with_reducible rfl)
        try simp only [Act.put, List.setIfInBounds_toArray, List.set_cons_zero, List.set_cons_succ]
        refine wpAnyH_take (i := 6) (oi := { dst := some 53, op := Op.move (Operand.tmp 5), type := 49, pos := "law.go:102", after := #[], guard := none }) (v := ?v6) rfl (by kernel_rfl) (by kernel_rfl) (by kernel_rfl) (fun _ _ _ h => h) (Or.inl ⟨by rfl, ?hy6⟩) (by assumption) ?_
        case hy6 => intro w hSw; (try dsimp only at hSw); go_simp; (try with_reducible rfl)
        try simp only [Act.put, List.setIfInBounds_toArray, List.set_cons_zero, List.set_cons_succ]
        refine wpAnyH_take (i := 7) (oi := { dst := some 54, op := Op.move (Operand.tmp 8), type := 3, pos := "law.go:102", after := #[], guard := none }) (v := ?v7) rfl (by kernel_rfl) (by kernel_rfl) (by kernel_rfl) (fun _ _ _ h => h) (Or.inl ⟨by rfl, ?hy7⟩) (by assumption) ?_
        case hy7 => intro w hSw; (try dsimp only at hSw); go_simp; (try with_reducible rfl)
        try simp only [Act.put, List.setIfInBounds_toArray, List.set_cons_zero, List.set_cons_succ]
        refine wpAnyH_take (i := 8) (oi := { dst := some 55, op := Op.indexAddr 49 (Operand.tmp 53) (Operand.tmp 54), type := 0, pos := "law.go:102", after := #[{ on := 6, ground := Ground.data }, { on := 7, ground := Ground.data }], guard := none }) (v := ?v8) rfl (by kernel_rfl) (by kernel_rfl) (by kernel_rfl) (fun _ _ _ h => h) (Or.inl ⟨by rfl, ?hy8⟩) (by assumption) ?_
        case hy8 => intro w hSw; (try dsimp only at hSw); go_simp; (try with_reducible rfl)
        try simp only [Act.put, List.setIfInBounds_toArray, List.set_cons_zero, List.set_cons_succ]
        refine wpAnyH_take (i := 9) (oi := { dst := some 56, op := Op.load 3 (Operand.tmp 55), type := 3, pos := "law.go:102", after := #[{ on := 8, ground := Ground.data }], guard := none }) (v := ?v9) rfl (by kernel_rfl) (by kernel_rfl) (by kernel_rfl) (fun _ _ _ h => h) (Or.inl ⟨by rfl, ?hy9⟩) (by assumption) ?_
        case hy9 => intro w hSw; (try dsimp only at hSw); go_simp; (try with_reducible rfl)
        try simp only [Act.put, List.setIfInBounds_toArray, List.set_cons_zero, List.set_cons_succ]
        refine wpAnyH_ready (rs := [5]) (by kernel_rfl) (by simp) ?_
        refine AllReadyH.cons (o := { dst := some 52, op := Op.call { callee := Callee.value (Operand.func 25), args := #[Operand.tmp 47, Operand.tmp 51], argTypes := #[24, 3] }, type := 3, pos := "law.go:102", after := #[{ on := 0, ground := Ground.data }, { on := 4, ground := Ground.data }], guard := none }) rfl (fun K hK => ?_) AllReadyH.nil
        go_simp; go_at_call 25; with_reducible refine hc1.mono ?_; rintro e w4 ⟨rfl, e4⟩; subst w4; dsimp only
        refine hK.out _ _ ?_ (fun hH1 => ?_)
        · (try dsimp only); (first | exact cx4 | assumption | exact ⟨by simpa using cxa, by simpa using cxb⟩)
        clear hK K
        clear hH0
        try simp only [Act.put, List.setIfInBounds_toArray, List.set_cons_zero, List.set_cons_succ]
        refine wpAnyH_take (i := 10) (oi := { dst := some 57, op := Op.binOp BinOp.neq 3 (Operand.tmp 52) (Operand.tmp 56) 3, type := 4, pos := "law.go:102", after := #[{ on := 5, ground := Ground.data }, { on := 9, ground := Ground.data }], guard := none }) (v := ?v11) rfl (by kernel_rfl) (by kernel_rfl) (by kernel_rfl) (fun _ _ _ h => h) (Or.inl ⟨by rfl, ?hy11⟩) (by assumption) ?_
        case hy11 => intro w hSw; (try dsimp only at hSw); go_simp; (try with_reducible rfl)
        try simp only [Act.put, List.setIfInBounds_toArray, List.set_cons_zero, List.set_cons_succ]
        refine wpAnyH_take (i := 11) (oi := { dst := some 58, op := Op.move (Operand.tmp 57), type := 4, pos := "law.go:102", after := #[{ on := 10, ground := Ground.data }, { on := 5, ground := Ground.chain }], guard := none }) (v := ?v12) rfl (by kernel_rfl) (by kernel_rfl) (by kernel_rfl) (fun _ _ _ h => h) (Or.inl ⟨by rfl, ?hy12⟩) (by assumption) ?_
        case hy12 => intro w hSw; (try dsimp only at hSw); go_simp; (try with_reducible rfl)
        try simp only [Act.put, List.setIfInBounds_toArray, List.set_cons_zero, List.set_cons_succ]
        refine wpAnyH_take (i := 12) (oi := { dst := some 59, op := Op.move (Operand.tmp 3), type := 24, pos := "law.go:102", after := #[{ on := 11, ground := Ground.guard }], guard := some (11, false) }) (v := ?v13) rfl (by kernel_rfl) (by kernel_rfl) (by kernel_rfl) (fun _ _ _ h => h) (Or.inl ⟨by rfl, ?hy13⟩) (by assumption) ?_
        case hy13 => intro w hSw; (try dsimp only at hSw); go_simp; (try with_reducible rfl)
        try simp only [Act.put, List.setIfInBounds_toArray, List.set_cons_zero, List.set_cons_succ]
        refine wpAnyH_take (i := 13) (oi := { dst := some 60, op := Op.move (Operand.tmp 4), type := 49, pos := "law.go:102", after := #[{ on := 11, ground := Ground.guard }], guard := some (11, false) }) (v := ?v14) rfl (by kernel_rfl) (by kernel_rfl) (by kernel_rfl) (fun _ _ _ h => h) (Or.inl ⟨by rfl, ?hy14⟩) (by assumption) ?_
        case hy14 => intro w hSw; (try dsimp only at hSw); go_simp; (try with_reducible rfl)
        try simp only [Act.put, List.setIfInBounds_toArray, List.set_cons_zero, List.set_cons_succ]
        refine wpAnyH_take (i := 14) (oi := { dst := some 61, op := Op.move (Operand.tmp 8), type := 3, pos := "law.go:102", after := #[{ on := 11, ground := Ground.guard }], guard := some (11, false) }) (v := ?v15) rfl (by kernel_rfl) (by kernel_rfl) (by kernel_rfl) (fun _ _ _ h => h) (Or.inl ⟨by rfl, ?hy15⟩) (by assumption) ?_
        case hy15 => intro w hSw; (try dsimp only at hSw); go_simp; (try with_reducible rfl)
        try simp only [Act.put, List.setIfInBounds_toArray, List.set_cons_zero, List.set_cons_succ]
        refine wpAnyH_take (i := 15) (oi := { dst := some 62, op := Op.indexAddr 49 (Operand.tmp 60) (Operand.tmp 61), type := 0, pos := "law.go:102", after := #[{ on := 13, ground := Ground.data }, { on := 14, ground := Ground.data }, { on := 11, ground := Ground.guard }], guard := some (11, false) }) (v := ?v16) rfl (by kernel_rfl) (by kernel_rfl) (by kernel_rfl) (fun _ _ _ h => h) (Or.inl ⟨by rfl, ?hy16⟩) (by assumption) ?_
        case hy16 => intro w hSw; (try dsimp only at hSw); go_simp; (try with_reducible rfl)
        try simp only [Act.put, List.setIfInBounds_toArray, List.set_cons_zero, List.set_cons_succ]
        refine wpAnyH_take (i := 16) (oi := { dst := some 63, op := Op.load 3 (Operand.tmp 62), type := 3, pos := "law.go:102", after := #[{ on := 15, ground := Ground.data }, { on := 11, ground := Ground.guard }], guard := some (11, false) }) (v := ?v17) rfl (by kernel_rfl) (by kernel_rfl) (by kernel_rfl) (fun _ _ _ h => h) (Or.inl ⟨by rfl, ?hy17⟩) (by assumption) ?_
        case hy17 => intro w hSw; (try dsimp only at hSw); go_simp; (try with_reducible rfl)
        try simp only [Act.put, List.setIfInBounds_toArray, List.set_cons_zero, List.set_cons_succ]
        refine wpAnyH_ready (rs := [17]) (by kernel_rfl) (by simp) ?_
        refine AllReadyH.cons (o := { dst := some 64, op := Op.call { callee := Callee.value (Operand.func 15), args := #[Operand.tmp 59, Operand.tmp 63], argTypes := #[24, 3] }, type := 4, pos := "law.go:102", after := #[{ on := 12, ground := Ground.data }, { on := 16, ground := Ground.data }, { on := 11, ground := Ground.chain }, { on := 11, ground := Ground.guard }], guard := some (11, false) }) rfl (fun K hK => ?_) AllReadyH.nil
        go_simp; go_at_call 15; with_reducible refine hc2.mono ?_; rintro e w4 ⟨rfl, X5, hA5, hN5⟩; have cx4 := HC2.out w4 X5 hN5; have hc3 := HNO.out w4 X5 hA5 (hN5.h.trans HXR.out); dsimp only
        refine hK.out _ _ ?_ (fun hH2 => ?_)
        · (try dsimp only); (first | exact cx4 | assumption | exact ⟨by simpa using cxa, by simpa using cxb⟩)
        clear hK K
        clear hH1
        try simp only [Act.put, List.setIfInBounds_toArray, List.set_cons_zero, List.set_cons_succ]
        refine wpAnyH_take (i := 18) (oi := { dst := some 65, op := Op.unOp UnOp.not 4 (Operand.tmp 64), type := 4, pos := "law.go:102", after := #[{ on := 17, ground := Ground.data }, { on := 11, ground := Ground.guard }], guard := some (11, false) }) (v := ?v19) rfl (by kernel_rfl) (by kernel_rfl) (by kernel_rfl) (fun _ _ _ h => h) (Or.inl ⟨by rfl, ?hy19⟩) (by assumption) ?_
        case hy19 => intro w hSw; (try dsimp only at hSw); go_simp; (try with_reducible rfl)
        try simp only [Act.put, List.setIfInBounds_toArray, List.set_cons_zero, List.set_cons_succ]
        refine wpAnyH_take (i := 19) (oi := { dst := some 66, op := Op.pick (Operand.tmp 58) (Operand.const (Value.bool true)) (Operand.tmp 65), type := 4, pos := "law.go:102", after := #[{ on := 11, ground := Ground.data }, { on := 18, ground := Ground.data }], guard := none }) (v := ?v20) rfl (by kernel_rfl) (by kernel_rfl) (by kernel_rfl) (fun _ _ _ h => h) (Or.inl ⟨by rfl, ?hy20⟩) (by assumption) ?_
        case hy20 => intro w hSw; (try dsimp only at hSw); go_simp; (try with_reducible rfl)
        try simp only [Act.put, List.setIfInBounds_toArray, List.set_cons_zero, List.set_cons_succ]
        refine wpAnyH_take (i := 20) (oi := { dst := some 67, op := Op.move (Operand.tmp 66), type := 4, pos := "law.go:102", after := #[{ on := 19, ground := Ground.data }, { on := 17, ground := Ground.chain }], guard := none }) (v := ?v21) rfl (by kernel_rfl) (by kernel_rfl) (by kernel_rfl) (fun _ _ _ h => h) (Or.inl ⟨by rfl, ?hy21⟩) (by assumption) ?_
        case hy21 => intro w hSw; (try dsimp only at hSw); go_simp; (try with_reducible rfl)
        try simp only [Act.put, List.setIfInBounds_toArray, List.set_cons_zero, List.set_cons_succ]
        refine wpAnyH_take (i := 21) (oi := { dst := some 68, op := Op.move (Operand.tmp 3), type := 24, pos := "law.go:102", after := #[{ on := 20, ground := Ground.guard }], guard := some (20, false) }) (v := ?v22) rfl (by kernel_rfl) (by kernel_rfl) (by kernel_rfl) (fun _ _ _ h => h) (Or.inl ⟨by rfl, ?hy22⟩) (by assumption) ?_
        case hy22 => intro w hSw; (try dsimp only at hSw); go_simp; (try with_reducible rfl)
        try simp only [Act.put, List.setIfInBounds_toArray, List.set_cons_zero, List.set_cons_succ]
        refine wpAnyH_take (i := 22) (oi := { dst := some 69, op := Op.move (Operand.tmp 4), type := 49, pos := "law.go:102", after := #[{ on := 20, ground := Ground.guard }], guard := some (20, false) }) (v := ?v23) rfl (by kernel_rfl) (by kernel_rfl) (by kernel_rfl) (fun _ _ _ h => h) (Or.inl ⟨by rfl, ?hy23⟩) (by assumption) ?_
        case hy23 => intro w hSw; (try dsimp only at hSw); go_simp; (try with_reducible rfl)
        try simp only [Act.put, List.setIfInBounds_toArray, List.set_cons_zero, List.set_cons_succ]
        refine wpAnyH_take (i := 23) (oi := { dst := some 70, op := Op.move (Operand.tmp 8), type := 3, pos := "law.go:102", after := #[{ on := 20, ground := Ground.guard }], guard := some (20, false) }) (v := ?v24) rfl (by kernel_rfl) (by kernel_rfl) (by kernel_rfl) (fun _ _ _ h => h) (Or.inl ⟨by rfl, ?hy24⟩) (by assumption) ?_
        case hy24 => intro w hSw; (try dsimp only at hSw); go_simp; (try with_reducible rfl)
        try simp only [Act.put, List.setIfInBounds_toArray, List.set_cons_zero, List.set_cons_succ]
        refine wpAnyH_take (i := 24) (oi := { dst := some 71, op := Op.indexAddr 49 (Operand.tmp 69) (Operand.tmp 70), type := 0, pos := "law.go:102", after := #[{ on := 22, ground := Ground.data }, { on := 23, ground := Ground.data }, { on := 20, ground := Ground.guard }], guard := some (20, false) }) (v := ?v25) rfl (by kernel_rfl) (by kernel_rfl) (by kernel_rfl) (fun _ _ _ h => h) (Or.inl ⟨by rfl, ?hy25⟩) (by assumption) ?_
        case hy25 => intro w hSw; (try dsimp only at hSw); go_simp; (try with_reducible rfl)
        try simp only [Act.put, List.setIfInBounds_toArray, List.set_cons_zero, List.set_cons_succ]
        refine wpAnyH_take (i := 25) (oi := { dst := some 72, op := Op.load 3 (Operand.tmp 71), type := 3, pos := "law.go:102", after := #[{ on := 24, ground := Ground.data }, { on := 20, ground := Ground.guard }], guard := some (20, false) }) (v := ?v26) rfl (by kernel_rfl) (by kernel_rfl) (by kernel_rfl) (fun _ _ _ h => h) (Or.inl ⟨by rfl, ?hy26⟩) (by assumption) ?_
        case hy26 => intro w hSw; (try dsimp only at hSw); go_simp; (try with_reducible rfl)
        try simp only [Act.put, List.setIfInBounds_toArray, List.set_cons_zero, List.set_cons_succ]
        refine wpAnyH_ready (rs := [26]) (by kernel_rfl) (by simp) ?_
        refine AllReadyH.cons (o := { dst := some 73, op := Op.call { callee := Callee.value (Operand.func 26), args := #[Operand.tmp 68, Operand.tmp 72], argTypes := #[24, 3] }, type := 4, pos := "law.go:102", after := #[{ on := 21, ground := Ground.data }, { on := 25, ground := Ground.data }, { on := 20, ground := Ground.chain }, { on := 20, ground := Ground.guard }], guard := some (20, false) }) rfl (fun K hK => ?_) AllReadyH.nil
        go_simp; go_at_call 26; with_reducible refine hc3.mono ?_; rintro e w5 ⟨rfl, e5⟩; subst w5; dsimp only
        refine hK.out _ _ ?_ (fun hH3 => ?_)
        · (try dsimp only); (first | exact cx4 | assumption | exact ⟨by simpa using cxa, by simpa using cxb⟩)
        clear hK K
        clear hH2
        try simp only [Act.put, List.setIfInBounds_toArray, List.set_cons_zero, List.set_cons_succ]
        refine wpAnyH_take (i := 27) (oi := { dst := some 74, op := Op.pick (Operand.tmp 67) (Operand.const (Value.bool true)) (Operand.tmp 73), type := 4, pos := "law.go:102", after := #[{ on := 20, ground := Ground.data }, { on := 26, ground := Ground.data }], guard := none }) (v := ?v28) rfl (by kernel_rfl) (by kernel_rfl) (by kernel_rfl) (fun _ _ _ h => h) (Or.inl ⟨by rfl, ?hy28⟩) (by assumption) ?_
        case hy28 => intro w hSw; (try dsimp only at hSw); go_simp; (try with_reducible rfl)
        try simp only [Act.put, List.setIfInBounds_toArray, List.set_cons_zero, List.set_cons_succ]
        refine wpAnyH_done (by kernel_rfl) ?_ _
        have HT5 := Lib.hid ((HTD.out.nx hA5 hN5).drewN 1)
        have HO5 := Lib.hid ((HOD.out.nx hN5).nx (HNx.drewN X5 _ 1))
        have HX5 := Lib.hid (hN5.h.trans HXR.out)
        clear hA5 hN5 cx4 hc1 hc2 hc3 HTD HOD HNO HC2 cxa cxb
        go_upto_region 13 with fail
        refine wp_region_held_drew (S := (fun w' => True)) (by kernel_rfl) ?_ (fun hH0 => ?_)
        · (try dsimp only); (first | done | trivial)
        refine wpAnyH_take (i := 0) (oi := { dst := some 75, op := Op.move (Operand.tmp 4), type := 49, pos := "law.go:105", after := #[], guard := none }) (v := ?v29) rfl (by kernel_rfl) (by kernel_rfl) (by kernel_rfl) (fun _ _ _ h => h) (Or.inl ⟨by rfl, ?hy29⟩) (by assumption) ?_
        case hy29 => intro w hSw; (try dsimp only at hSw); go_simp; (try simp only [hskw, if_pos hsk1, Int.toNat_natCast]); (try with_reducible rfl)
        try simp only [Act.put, List.setIfInBounds_toArray, List.set_cons_zero, List.set_cons_succ]
        refine wpAnyH_take (i := 1) (oi := { dst := some 76, op := Op.move (Operand.tmp 8), type := 3, pos := "law.go:105", after := #[], guard := none }) (v := ?v30) rfl (by kernel_rfl) (by kernel_rfl) (by kernel_rfl) (fun _ _ _ h => h) (Or.inl ⟨by rfl, ?hy30⟩) (by assumption) ?_
        case hy30 => intro w hSw; (try dsimp only at hSw); go_simp; (try simp only [hskw, if_pos hsk1, Int.toNat_natCast]); (try with_reducible rfl)
        try simp only [Act.put, List.setIfInBounds_toArray, List.set_cons_zero, List.set_cons_succ]
        refine wpAnyH_take (i := 2) (oi := { dst := some 77, op := Op.slice 49 (Operand.tmp 75) none (some (Operand.tmp 76)) none, type := 49, pos := "law.go:105", after := #[{ on := 0, ground := Ground.data }, { on := 1, ground := Ground.data }], guard := none }) (v := ?v31) rfl (by kernel_rfl) (by kernel_rfl) (by kernel_rfl) (fun _ _ _ h => h) (Or.inl ⟨by rfl, ?hy31⟩) (by assumption) ?_
        case hy31 => intro w hSw; (try dsimp only at hSw); go_simp; (try simp only [hskw, if_pos hsk1, Int.toNat_natCast]); (try with_reducible rfl)
        try simp only [Act.put, List.setIfInBounds_toArray, List.set_cons_zero, List.set_cons_succ]
        refine wpAnyH_take (i := 4) (oi := { dst := some 79, op := Op.move (Operand.tmp 4), type := 49, pos := "law.go:105", after := #[], guard := none }) (v := ?v32) rfl (by kernel_rfl) (by kernel_rfl) (by kernel_rfl) (fun _ _ _ h => h) (Or.inl ⟨by rfl, ?hy32⟩) (by assumption) ?_
        case hy32 => intro w hSw; (try dsimp only at hSw); go_simp; (try simp only [hskw, if_pos hsk1, Int.toNat_natCast]); (try with_reducible rfl)
        try simp only [Act.put, List.setIfInBounds_toArray, List.set_cons_zero, List.set_cons_succ]
        refine wpAnyH_take (i := 5) (oi := { dst := some 80, op := Op.move (Operand.tmp 8), type := 3, pos := "law.go:105", after := #[], guard := none }) (v := ?v33) rfl (by kernel_rfl) (by kernel_rfl) (by kernel_rfl) (fun _ _ _ h => h) (Or.inl ⟨by rfl, ?hy33⟩) (by assumption) ?_
        case hy33 => intro w hSw; (try dsimp only at hSw); go_simp; (try simp only [hskw, if_pos hsk1, Int.toNat_natCast]); (try with_reducible rfl)
        try simp only [Act.put, List.setIfInBounds_toArray, List.set_cons_zero, List.set_cons_succ]
        refine wpAnyH_take (i := 6) (oi := { dst := some 81, op := Op.binOp BinOp.add 3 (Operand.tmp 80) (Operand.const (Value.int IntKind.i64 1)) 3, type := 3, pos := "law.go:105", after := #[{ on := 5, ground := Ground.data }], guard := none }) (v := ?v34) rfl (by kernel_rfl) (by kernel_rfl) (by kernel_rfl) (fun _ _ _ h => h) (Or.inl ⟨by rfl, ?hy34⟩) (by assumption) ?_
        case hy34 => intro w hSw; (try dsimp only at hSw); go_simp; (try simp only [hskw, if_pos hsk1, Int.toNat_natCast]); (try with_reducible rfl)
        try simp only [Act.put, List.setIfInBounds_toArray, List.set_cons_zero, List.set_cons_succ]
        refine wpAnyH_take (i := 7) (oi := { dst := some 82, op := Op.slice 49 (Operand.tmp 79) (some (Operand.tmp 81)) none none, type := 49, pos := "law.go:105", after := #[{ on := 4, ground := Ground.data }, { on := 6, ground := Ground.data }], guard := none }) (v := ?v35) rfl (by kernel_rfl) (by kernel_rfl) (by kernel_rfl) (fun _ _ _ h => h) (Or.inl ⟨by rfl, ?hy35⟩) (by assumption) ?_
        case hy35 => intro w hSw; (try dsimp only at hSw); go_simp; (try simp only [hskw, if_pos hsk1, Int.toNat_natCast]); (try with_reducible rfl)
        try simp only [Act.put, List.setIfInBounds_toArray, List.set_cons_zero, List.set_cons_succ]
        refine wpAnyH_take (i := 9) (oi := { dst := some 84, op := Op.move (Operand.tmp 5), type := 49, pos := "law.go:105", after := #[], guard := none }) (v := ?v36) rfl (by kernel_rfl) (by kernel_rfl) (by kernel_rfl) (fun _ _ _ h => h) (Or.inl ⟨by rfl, ?hy36⟩) (by assumption) ?_
        case hy36 => intro w hSw; (try dsimp only at hSw); go_simp; (try simp only [hskw, if_pos hsk1, Int.toNat_natCast]); (try with_reducible rfl)
        try simp only [Act.put, List.setIfInBounds_toArray, List.set_cons_zero, List.set_cons_succ]
        refine wpAnyH_take (i := 10) (oi := { dst := some 85, op := Op.move (Operand.tmp 8), type := 3, pos := "law.go:105", after := #[], guard := none }) (v := ?v37) rfl (by kernel_rfl) (by kernel_rfl) (by kernel_rfl) (fun _ _ _ h => h) (Or.inl ⟨by rfl, ?hy37⟩) (by assumption) ?_
        case hy37 => intro w hSw; (try dsimp only at hSw); go_simp; (try simp only [hskw, if_pos hsk1, Int.toNat_natCast]); (try with_reducible rfl)
        try simp only [Act.put, List.setIfInBounds_toArray, List.set_cons_zero, List.set_cons_succ]
        refine wpAnyH_take (i := 11) (oi := { dst := some 86, op := Op.slice 49 (Operand.tmp 84) none (some (Operand.tmp 85)) none, type := 49, pos := "law.go:105", after := #[{ on := 9, ground := Ground.data }, { on := 10, ground := Ground.data }], guard := none }) (v := ?v38) rfl (by kernel_rfl) (by kernel_rfl) (by kernel_rfl) (fun _ _ _ h => h) (Or.inl ⟨by rfl, ?hy38⟩) (by assumption) ?_
        case hy38 => intro w hSw; (try dsimp only at hSw); go_simp; (try simp only [hskw, if_pos hsk1, Int.toNat_natCast]); (try with_reducible rfl)
        try simp only [Act.put, List.setIfInBounds_toArray, List.set_cons_zero, List.set_cons_succ]
        refine wpAnyH_take (i := 13) (oi := { dst := some 88, op := Op.move (Operand.tmp 5), type := 49, pos := "law.go:105", after := #[], guard := none }) (v := ?v39) rfl (by kernel_rfl) (by kernel_rfl) (by kernel_rfl) (fun _ _ _ h => h) (Or.inl ⟨by rfl, ?hy39⟩) (by assumption) ?_
        case hy39 => intro w hSw; (try dsimp only at hSw); go_simp; (try simp only [hskw, if_pos hsk1, Int.toNat_natCast]); (try with_reducible rfl)
        try simp only [Act.put, List.setIfInBounds_toArray, List.set_cons_zero, List.set_cons_succ]
        refine wpAnyH_take (i := 14) (oi := { dst := some 89, op := Op.move (Operand.tmp 8), type := 3, pos := "law.go:105", after := #[], guard := none }) (v := ?v40) rfl (by kernel_rfl) (by kernel_rfl) (by kernel_rfl) (fun _ _ _ h => h) (Or.inl ⟨by rfl, ?hy40⟩) (by assumption) ?_
        case hy40 => intro w hSw; (try dsimp only at hSw); go_simp; (try simp only [hskw, if_pos hsk1, Int.toNat_natCast]); (try with_reducible rfl)
        try simp only [Act.put, List.setIfInBounds_toArray, List.set_cons_zero, List.set_cons_succ]
        refine wpAnyH_take (i := 15) (oi := { dst := some 90, op := Op.binOp BinOp.add 3 (Operand.tmp 89) (Operand.const (Value.int IntKind.i64 1)) 3, type := 3, pos := "law.go:105", after := #[{ on := 14, ground := Ground.data }], guard := none }) (v := ?v41) rfl (by kernel_rfl) (by kernel_rfl) (by kernel_rfl) (fun _ _ _ h => h) (Or.inl ⟨by rfl, ?hy41⟩) (by assumption) ?_
        case hy41 => intro w hSw; (try dsimp only at hSw); go_simp; (try simp only [hskw, if_pos hsk1, Int.toNat_natCast]); (try with_reducible rfl)
        try simp only [Act.put, List.setIfInBounds_toArray, List.set_cons_zero, List.set_cons_succ]
        refine wpAnyH_take (i := 16) (oi := { dst := some 91, op := Op.slice 49 (Operand.tmp 88) (some (Operand.tmp 90)) none none, type := 49, pos := "law.go:105", after := #[{ on := 13, ground := Ground.data }, { on := 15, ground := Ground.data }], guard := none }) (v := ?v42) rfl (by kernel_rfl) (by kernel_rfl) (by kernel_rfl) (fun _ _ _ h => h) (Or.inl ⟨by rfl, ?hy42⟩) (by assumption) ?_
        case hy42 => intro w hSw; (try dsimp only at hSw); go_simp; (try simp only [hskw, if_pos hsk1, Int.toNat_natCast]); (try with_reducible rfl)
        try simp only [Act.put, List.setIfInBounds_toArray, List.set_cons_zero, List.set_cons_succ]
        refine wpAnyH_ready (rs := [3]) (by kernel_rfl) (by simp) ?_
        refine AllReadyH.cons (o := { dst := some 78, op := Op.call { callee := Callee.builtin Builtin.append, args := #[Operand.const (Value.slice none 0 0), Operand.tmp 77], argTypes := #[49, 49] }, type := 49, pos := "law.go:105", after := #[{ on := 2, ground := Ground.data }], guard := none }) rfl (fun K hK => ?_) AllReadyH.nil
        rw [if_pos (by rfl)]; refine wp_appM (.const (.slice none 0 0)) (.tmp 77) (by rfl) _ 0 ([]) (by rfl) (BesH.nil w.heap.size _ X5).row ((atL T).take k) _ _ _ (by rfl) (HLA.out.1) (cut_to HT5.out.a k (by rw [atL_len, ← HN.out]; omega)) (by rw [HLA.out.1]; omega) ?_
        intro v1 u1 own1 g1 e1
        have HC1 := Lib.hid (cut_1 HT5.out HO5.out ((atL T).take k) own1 g1 e1)
        clear own1 g1 e1
        refine hK.out _ _ ?_ (fun hH1 => ?_)
        · (try dsimp only); (first | done | trivial)
        clear hK K
        clear hH0
        try simp only [Act.put, List.setIfInBounds_toArray, List.set_cons_zero, List.set_cons_succ]
        refine wpAnyH_ready (rs := [8]) (by kernel_rfl) (by simp) ?_
        refine AllReadyH.cons (o := { dst := some 83, op := Op.call { callee := Callee.builtin Builtin.append, args := #[Operand.tmp 78, Operand.tmp 82], argTypes := #[49, 49] }, type := 49, pos := "law.go:105", after := #[{ on := 3, ground := Ground.data }, { on := 7, ground := Ground.data }, { on := 3, ground := Ground.chain }], guard := none }) rfl (fun K hK => ?_) AllReadyH.nil
        rw [if_pos (by rfl)]; refine wp_appM (.tmp 78) (.tmp 82) (by rfl) _ _ (_) (by rfl) HC1.out.c.row ((atL T).drop k1) _ _ _ (by rfl) (HLB.out.1) (cut_from HC1.out.a k1 (fun e => by simp [e]) (fun e => by simp [e]) (by (first | rw [atL_len] | rw [haL_len]); rw [← HN.out]; omega)) (by rw [HLA.out.1, HLB.out.1]; omega) ?_
        intro v2 u2 own2 g2 e2
        obtain ⟨hT6, hO6⟩ := cut_2 HC1.out ((atL T).drop k1) own2 g2 e2
        rw [HK1.out, atL_cut] at hT6
        have HT6 := Lib.hid hT6; have HO6 := Lib.hid hO6
        clear own2 g2 e2 hT6 hO6 HC1
        refine hK.out _ _ ?_ (fun hH2 => ?_)
        · (try dsimp only); (first | done | trivial)
        clear hK K
        clear hH1
        try simp only [Act.put, List.setIfInBounds_toArray, List.set_cons_zero, List.set_cons_succ]
        refine wpAnyH_ready (rs := [12]) (by kernel_rfl) (by simp) ?_
        refine AllReadyH.cons (o := { dst := some 87, op := Op.call { callee := Callee.builtin Builtin.append, args := #[Operand.const (Value.slice none 0 0), Operand.tmp 86], argTypes := #[49, 49] }, type := 49, pos := "law.go:105", after := #[{ on := 11, ground := Ground.data }, { on := 8, ground := Ground.chain }], guard := none }) rfl (fun K hK => ?_) AllReadyH.nil
        rw [if_pos (by rfl)]; refine wp_appM (.const (.slice none 0 0)) (.tmp 86) (by rfl) _ 0 ([]) (by rfl) (BesH.nil w.heap.size _ X5).row ((haL T).take k) _ _ _ (by rfl) (HLA.out.2) (cut_to HT6.out.b k (by rw [haL_len, ← HN.out]; omega)) (by rw [HLA.out.2]; omega) ?_
        intro v3 u3 own3 g3 e3
        have HC3 := Lib.hid (cut_1 HT6.out HO6.out ((haL T).take k) own3 g3 e3).swap
        clear own3 g3 e3 HT6 HO6
        refine hK.out _ _ ?_ (fun hH3 => ?_)
        · (try dsimp only); (first | done | trivial)
        clear hK K
        clear hH2
        try simp only [Act.put, List.setIfInBounds_toArray, List.set_cons_zero, List.set_cons_succ]
        refine wpAnyH_ready (rs := [17]) (by kernel_rfl) (by simp) ?_
        refine AllReadyH.cons (o := { dst := some 92, op := Op.call { callee := Callee.builtin Builtin.append, args := #[Operand.tmp 87, Operand.tmp 91], argTypes := #[49, 49] }, type := 49, pos := "law.go:105", after := #[{ on := 12, ground := Ground.data }, { on := 16, ground := Ground.data }, { on := 12, ground := Ground.chain }], guard := none }) rfl (fun K hK => ?_) AllReadyH.nil
        rw [if_pos (by rfl)]; refine wp_appM (.tmp 87) (.tmp 91) (by rfl) _ _ (_) (by rfl) HC3.out.c.row ((haL T).drop k1) _ _ _ (by rfl) (HLB.out.2) (cut_from HC3.out.a k1 (fun e => by simp [e]) (fun e => by simp [e]) (by (first | rw [atL_len] | rw [haL_len]); rw [← HN.out]; omega)) (by rw [HLA.out.2, HLB.out.2]; omega) ?_
        intro v4 u4 own4 g4 e4
        obtain ⟨hT7, hO7⟩ := cut_2 HC3.out ((haL T).drop k1) own4 g4 e4
        rw [HK1.out, haL_cut] at hT7
        have HT7 := Lib.hid hT7.swap; have HO7 := Lib.hid hO7
        clear own4 g4 e4 hT7 hO7 HC3
        refine hK.out _ _ ?_ (fun hH4 => ?_)
        · (try dsimp only); (first | done | trivial)
        clear hK K
        clear hH3
        try simp only [Act.put, List.setIfInBounds_toArray, List.set_cons_zero, List.set_cons_succ]
        refine wpAnyH_take (i := 18) (oi := { dst := some 4, op := Op.assign (Operand.tmp 83), type := 49, pos := "law.go:105", after := #[{ on := 8, ground := Ground.data }, { on := 17, ground := Ground.chain }, { on := 0, ground := Ground.phase }, { on := 1, ground := Ground.phase }, { on := 2, ground := Ground.phase }, { on := 3, ground := Ground.phase }, { on := 4, ground := Ground.phase }, { on := 5, ground := Ground.phase }, { on := 6, ground := Ground.phase }, { on := 7, ground := Ground.phase }, { on := 8, ground := Ground.phase }, { on := 9, ground := Ground.textOnly Departure.lateStores }, { on := 10, ground := Ground.textOnly Departure.lateStores }, { on := 11, ground := Ground.textOnly Departure.lateStoresUnsure }, { on := 12, ground := Ground.textOnly Departure.lateStoresUnsure }, { on := 13, ground := Ground.textOnly Departure.lateStores }, { on := 14, ground := Ground.textOnly Departure.lateStores }, { on := 15, ground := Ground.textOnly Departure.lateStores }, { on := 16, ground := Ground.textOnly Departure.lateStoresUnsure }, { on := 17, ground := Ground.textOnly Departure.lateStoresUnsure }], guard := none }) (v := ?v47) rfl (by kernel_rfl) (by kernel_rfl) (by kernel_rfl) (fun _ _ _ h => h) (Or.inl ⟨by rfl, ?hy47⟩) (by assumption) ?_
        case hy47 => intro w hSw; (try dsimp only at hSw); go_simp; (try simp only [hskw, if_pos hsk1, Int.toNat_natCast]); (try with_reducible rfl)
        try simp only [Act.put, List.setIfInBounds_toArray, List.set_cons_zero, List.set_cons_succ]
        refine wpAnyH_take (i := 19) (oi := { dst := some 5, op := Op.assign (Operand.tmp 92), type := 49, pos := "law.go:105", after := #[{ on := 17, ground := Ground.data }, { on := 18, ground := Ground.chain }, { on := 0, ground := Ground.phase }, { on := 1, ground := Ground.phase }, { on := 2, ground := Ground.phase }, { on := 3, ground := Ground.phase }, { on := 4, ground := Ground.phase }, { on := 5, ground := Ground.phase }, { on := 6, ground := Ground.phase }, { on := 7, ground := Ground.phase }, { on := 8, ground := Ground.phase }, { on := 9, ground := Ground.phase }, { on := 10, ground := Ground.phase }, { on := 11, ground := Ground.phase }, { on := 12, ground := Ground.phase }, { on := 13, ground := Ground.phase }, { on := 14, ground := Ground.phase }, { on := 15, ground := Ground.phase }, { on := 16, ground := Ground.phase }, { on := 17, ground := Ground.phase }, { on := 18, ground := Ground.phase }], guard := none }) (v := ?v48) rfl (by kernel_rfl) (by kernel_rfl) (by kernel_rfl) (fun _ _ _ h => h) (Or.inl ⟨by rfl, ?hy48⟩) (by assumption) ?_
        case hy48 => intro w hSw; (try dsimp only at hSw); go_simp; (try simp only [hskw, if_pos hsk1, Int.toNat_natCast]); (try with_reducible rfl)
        try simp only [Act.put, List.setIfInBounds_toArray, List.set_cons_zero, List.set_cons_succ]
        refine wpAnyH_done (by kernel_rfl) ?_ _
        go_wp2_with fail
        refine ⟨⟨i + 1, X5, ws, _, _, _, by omega, by simp, HX5.out, hKn.out, by rw [List.length_eraseIdx]; have := HN.out; split <;> omega, HT7.out, HO7.out⟩, by simp only [intOf]; omega⟩
      · have h4' : (decide (v % 4 = 0) = false ∧ ¬ v % 4 = 0) ∨ (v % 4 = 0 ∧ (n : Int) = 0) := by
          by_cases c : v % 4 = 0
          · exact .inr ⟨c, by omega⟩
          · exact .inl ⟨by simpa using c, c⟩
        clear h4
        go_upto_region 9 with fail
        go_cut [41] (fun s41 wx => s41 = .bool false ∧ wr = wx)
        case first =>
          rcases h4' with ⟨t3, t4⟩ | ⟨t3, t4⟩
          all_goals
            go_wp2_with fail
            go_meet
            exact ⟨by first | rfl | (congr 1; simp; omega), rfl⟩
        case rest =>
          obtain ⟨rfl, rfl⟩ := hcut
          clear h4'
          obtain ⟨s, hs, hs2⟩ : ∃ s : Nat, v / 4 % 9 = (s : Int) ∧ s ≤ 8 := ⟨(v / 4 % 9).toNat, by omega, by omega⟩
          obtain ⟨a, m, hb, ha⟩ := HK.out.room i40 HT.out.hp.free s hs2
          have hmk : Calls Try.prog 12 #[.pointer (some ⟨X.h, 0, none⟩), .int .i64 1, .int .i64 s, .int .i64 0, .int .i64 i] wr fun e w' => e = .returned (.tuple #[.int .i64 ((a : Int) + 1), .bool true]) ∧ ∃ X', HpAt w' X' (mkW ws a s (Hd.hput s 1 0 0 false true) (Wd.wr 0) (Wd.wi i) 1) (setR l a (3 + s) false) (bg.set a true) ∧ HNx X wr X' w' :=
            hp_Make_ok HT.out.hp 1 s s 0 1 (.inl ⟨.inl rfl, by omega, rfl, rfl, rfl⟩) 0 i (by omega) (by omega) a m hb
          rw [HXR.out] at hmk
          have hKn := mk_done HK.out i40 hb ha hs2 (Wd.wr 0) 1
          have hFn := fun j hj => mk_fld HK.out hb hs2 (Wd.wr 0) 1 (Wd.wi i) i j hj
          have hab : a + 3 + s ≤ 600 := by have := hb.run.le; have := hb.fits; have := HK.out.ll; omega
          generalize mkW ws a s (Hd.hput s 1 0 0 false true) (Wd.wr 0) (Wd.wi i) 1 = ws0 at *
          generalize setR l a (3 + s) false = l2 at *
          generalize bg.set a true = bg2 at *
          have HKN := Lib.hid hKn; have HFN := Lib.hid hFn
          clear hKn hFn hb HK
          go_wp2_with (go_at_call 12; (with_reducible refine hmk.mono ?_); rintro e w3 ⟨rfl, X3, hA3, hN3⟩; dsimp only)
          have HT3 := Lib.hid (HT.out.nx hA3 hN3)
          have HO3 := Lib.hid (HO.out.nx hN3)
          have HX3 := Lib.hid (hN3.h.trans HXR.out)
          clear hmk hA3 hN3 HT HO HXR
          go_loopw [11] (fun v11 wr' => ∃ (j : Nat) (X' : HB), j ≤ s ∧ v11 = .int .i64 j ∧ X'.h = r ∧ TwoH w.heap.size wr' X' (fldW ws0 a i j) l2 bg2 (.slice aa n capa) (atL T) (.slice ab n capb) (haL T) ∧ HOwn w wr' X') (fun v11 wr' => s - (intOf v11).toNat)
          case atStart => exact ⟨0, X3, Nat.zero_le _, rfl, HX3.out, HT3.out, HO3.out⟩
          case round =>
            clear HT3 HO3 HX3
            obtain ⟨j, X4, j1, rfl, hX4, hT4, hO4⟩ := hrel
            have hc1 := hp_SizeF hT4.hp a s (HFN.out j j1)
            rw [hX4] at hc1
            by_cases hj : j < s
            · have tj : (j : Int) < (s : Int) := by omega
              have tj0 : (0 : Int) ≤ (j : Int) := by omega
              have tv : 0 ≤ 100 * (i : Int) + (j : Int) ∧ 100 * (i : Int) + (j : Int) ≤ 4294967295 := by omega
              have hc2 := hp_SetField hT4.hp a s j (HFN.out j j1) ((a : Int) + 1) (j : Int) (100 * (i : Int) + (j : Int)) rfl rfl hj tv.1 tv.2
              rw [hX4] at hc2
              have HT4 := Lib.hid hT4; have HO4 := Lib.hid hO4; have HX4 := Lib.hid hX4
              clear hT4 hO4 hX4
              go_wp2_with (first
                | (go_at_call 27; (with_reducible refine hc1.mono ?_); rintro e w5 ⟨rfl, rfl⟩; dsimp only)
                | (go_at_call 17; (with_reducible refine hc2.mono ?_); rintro e w5 ⟨rfl, hA5, hN5⟩; have HT5 := Lib.hid (HT4.out.nx hA5 hN5); have HO5 := Lib.hid (HO4.out.nx hN5); clear hA5 hN5; dsimp only))
              refine ⟨⟨j + 1, X4, by omega, by simp, HX4.out, HT5.out, HO5.out⟩, by simp only [intOf]; omega⟩
            · obtain rfl : j = s := by omega
              have HT4 := Lib.hid hT4; have HO4 := Lib.hid hO4; have HX4 := Lib.hid hX4
              have hlen : (atL T).length = n ∧ (haL T).length = n := ⟨by rw [atL_len, HN.out], by rw [haL_len, HN.out]⟩
              have HLEN := Lib.hid hlen
              clear hT4 hO4 hX4 hlen
              go_upto_region 22 with (go_at_call 27; (with_reducible refine hc1.mono ?_); rintro e w5 ⟨rfl, rfl⟩; dsimp only)
              have hW4 := HO4.out.below.size
              go_wp2_with (at_builtin; refine wpl_app1 rfl (.tmp 121) (.tmp 123) (by rfl) _ _ _ (by rfl) (owns_keep HT4.out.a.row fun k hk => heap_alloc_old _ _ (HT4.out.a.lt hk)) _ 1 ((a : Int) + 1) (by rfl) (new_cell _ _ _ rfl) (by rw [HLEN.out.1]; omega) ?_)
              intro v' w6 own6 g6 e6
              have G6 : Grew w.heap.size _ _ w6 v' := Grew.ofAlloc hW4 (fun k hk => (HT4.out.a.apart k hk).1) g6 (by simpa using e6)
              have HT6 := HT4.out.app (zs := [(a : Int) + 1]) G6 hW4 own6
              rw [atL_snoc a j i] at HT6
              have HO6 : HOwn w w6 X4 := ⟨HO4.out.below.trans G6.below, HO4.out.own⟩
              have hW6 := HO6.below.size
              have HT6 := Lib.hid HT6.swap; have HO6 := Lib.hid HO6
              clear own6 g6 e6 G6 HT4 HO4
              go_wp2_with (at_builtin; refine wpl_app1 rfl (.tmp 125) (.tmp 127) (by rfl) _ _ _ (by rfl) (owns_keep HT6.out.a.row fun k hk => heap_alloc_old _ _ (HT6.out.a.lt hk)) _ 1 (i : Int) (by rfl) (new_cell _ _ _ rfl) (by rw [HLEN.out.2]; omega) ?_)
              intro v'' w7 own7 g7 e7
              have G7 : Grew w.heap.size _ _ w7 v'' := Grew.ofAlloc hW6 (fun k hk => (HT6.out.a.apart k hk).1) g7 (by simpa using e7)
              have HT7 := HT6.out.app (zs := [(i : Int)]) G7 hW6 own7
              rw [haL_snoc a j i] at HT7
              have HO7 : HOwn w w7 X4 := ⟨HO6.out.below.trans G7.below, HO6.out.own⟩
              have HT7 := Lib.hid HT7.swap; have HO7 := Lib.hid HO7
              clear own7 g7 e7 G7 HT6 HO6
              go_wp2_with fail
              refine ⟨⟨i + 1, X4, _, _, _, _, by omega, by simp, HX4.out, HKN.out, by simp; have := HN.out; omega, HT7.out, HO7.out⟩, by simp only [intOf]; omega⟩
    · have t3 : (decide ((i : Int) < (len0 : Int)) = true ∧ (i : Int) < (len0 : Int) ∧ 40 ≤ (i : Int)) ∨ (decide ((i : Int) < (len0 : Int)) = false ∧ ¬ (i : Int) < (len0 : Int)) := by
        by_cases c : i < len0
        · exact .inl ⟨by simp; omega, by omega, by omega⟩
        · exact .inr ⟨by simp; omega, by omega⟩
      have i40 : i ≤ 40 := by omega
      have HT := Lib.hid hT; have HO := Lib.hid hO
      have HKZ : Hid (Kp i ws l bg (T.drop 0)) := Lib.hid HK.out
      clear hT hO hlt i1 HK
      go_upto_region 6 with fail
      go_cut [26] (fun s26 wx => s26 = .bool false ∧ wr = wx)
      case first =>
        rcases t3 with ⟨t3, t4, t5⟩ | ⟨t3, t4⟩
        all_goals
          go_wp2_with fail
          go_meet
          exact ⟨by first | rfl | (congr 1; simp; omega), rfl⟩
      case rest =>
        obtain ⟨rfl, rfl⟩ := hcut
        clear t3
        go_wp2_with fail
        go_loopw [12] (fun v12 wr => ∃ (q : Nat) (X' : HB) (l' bg' : List Bool), q ≤ n ∧ v12 = .int .i64 q ∧ X'.h = r ∧ Kp i ws l' bg' (T.drop q) ∧ TwoH w.heap.size wr X' ws l' bg' (.slice aa n capa) (atL T) (.slice ab n capb) (haL T) ∧ HOwn w wr X') (fun v12 wr => n - (intOf v12).toNat)
        case atStart => exact ⟨0, X, l, bg, Nat.zero_le _, rfl, HXR.out, HKZ.out, HT.out, HO.out⟩
        case round =>
          clear HT HO HKZ HXR
          obtain ⟨q, X4, l4, bg4, q1, rfl, hX4, hK4, hT4, hO4⟩ := hrel
          by_cases hq : q < n
          · have tq : (q : Int) < (n : Int) := by omega
            have tq0 : (0 : Int) ≤ (q : Int) := by omega
            obtain ⟨p, hTq⟩ : ∃ p, T[q]? = some p := ⟨_, List.getElem?_eq_getElem (by have := HN.out; omega)⟩
            obtain ⟨a, s, h⟩ := p
            have hT0 : (T.drop q)[0]? = some (a, s, h) := by rw [List.getElem?_drop]; exact hTq
            have hF := hK4.fit 0 a s h hT0
            have hFl := hK4.fld hT0
            have hlb := hK4.lb
            obtain ⟨ga, rfl, _⟩ := HFA.out q hq
            obtain ⟨gb, rfl, _⟩ := HFB.out q hq
            have hTd : TwoH w.heap.size wr.drew X4 ws l4 bg4 (.slice (some ⟨ga, 0, none⟩) n capa) (atL T) (.slice (some ⟨gb, 0, none⟩) n capb) (haL T) := hT4.drewN 1
            have hOd : HOwn w wr.drew X4 := hO4.nx (HNx.drewN X4 wr 1)
            have hcells : ∀ (u : World), TwoH w.heap.size u X4 ws l4 bg4 (.slice (some ⟨ga, 0, none⟩) n capa) (atL T) (.slice (some ⟨gb, 0, none⟩) n capb) (haL T) → u.cell? ⟨ga, q, none⟩ = some (.int .i64 ((a : Int) + 1)) ∧ u.cell? ⟨gb, q, none⟩ = some (.int .i64 (h : Int)) := fun u hU => by
              have e1 := hU.a.cells (i := q) (by rw [atL_len, ← HN.out]; exact hq)
              have e2 := hU.b.cells (i := q) (by rw [haL_len, ← HN.out]; exact hq)
              rw [atL_at hTq] at e1
              rw [haL_at hTq] at e2
              exact ⟨e1, e2⟩
            obtain ⟨cxa, cxb⟩ := hcells _ hT4
            have hc1 := hp_Hash hTd.hp a ((a : Int) + 1) rfl hFl.has (by omega)
            rw [hK4.hash 0 a s h hT0, Wd.iof_wi (by omega) (by omega), hX4] at hc1
            have hc2 := has_any hTd.hp ((a : Int) + 1) (i64_wf (by omega) (by omega))
            rw [hFl.has, hX4] at hc2
            have HTD := Lib.hid hTd; have HOD := Lib.hid hOd; have HCS := Lib.hid hcells; have HX4 := Lib.hid hX4; have HK4 := Lib.hid hK4; have HFL := Lib.hid hFl
            have HT0 := Lib.hid hT0; have HTQ := Lib.hid hTq
            clear hTd hOd hcells hX4 hK4 hFl hT0 hTq hT4 hO4
            go_upto_region 26 with fail
            refine wp_region_held_drew (S := (fun w' => w'.cell? ⟨ga, q, none⟩ = some (.int .i64 ((a : Int) + 1)) ∧ w'.cell? ⟨gb, q, none⟩ = some (.int .i64 (h : Int)))) (by kernel_rfl) ?_ (fun hH0 => ?_)
            · (try dsimp only); exact ⟨by simpa using cxa, by simpa using cxb⟩
            refine wpAnyH_take (i := 0) (oi := { dst := some 135, op := Op.move (Operand.tmp 3), type := 24, pos := "law.go:120", after := #[], guard := none }) (v := ?v49) rfl (by kernel_rfl) (by kernel_rfl) (by kernel_rfl) (fun _ _ _ h => h) (Or.inl ⟨by rfl, ?hy49⟩) (by assumption) ?_
            case hy49 => intro w hSw; (try dsimp only at hSw); go_simp; (try with_reducible rfl)
            try simp only [Act.put, List.setIfInBounds_toArray, List.set_cons_zero, List.set_cons_succ]
            refine wpAnyH_take (i := 1) (oi := { dst := some 136, op := Op.move (Operand.tmp 4), type := 49, pos := "law.go:120", after := #[], guard := none }) (v := ?v50) rfl (by kernel_rfl) (by kernel_rfl) (by kernel_rfl) (fun _ _ _ h => h) (Or.inl ⟨by rfl, ?hy50⟩) (by assumption) ?_
            case hy50 => intro w hSw; (try dsimp only at hSw); go_simp; (try with_reducible rfl)
            try simp only [Act.put, List.setIfInBounds_toArray, List.set_cons_zero, List.set_cons_succ]
            refine wpAnyH_take (i := 2) (oi := { dst := some 137, op := Op.move (Operand.tmp 12), type := 3, pos := "law.go:120", after := #[], guard := none }) (v := ?v51) rfl (by kernel_rfl) (by kernel_rfl) (by kernel_rfl) (fun _ _ _ h => h) (Or.inl ⟨by rfl, ?hy51⟩) (by assumption) ?_
            case hy51 => intro w hSw; (try dsimp only at hSw); go_simp; (try with_reducible rfl)
            try simp only [Act.put, List.setIfInBounds_toArray, List.set_cons_zero, List.set_cons_succ]
            refine wpAnyH_take (i := 3) (oi := { dst := some 138, op := Op.indexAddr 49 (Operand.tmp 136) (Operand.tmp 137), type := 0, pos := "law.go:120", after := #[{ on := 1, ground := Ground.data }, { on := 2, ground := Ground.data }], guard := none }) (v := ?v52) rfl (by kernel_rfl) (by kernel_rfl) (by kernel_rfl) (fun _ _ _ h => h) (Or.inl ⟨by rfl, ?hy52⟩) (by assumption) ?_
            case hy52 => intro w hSw; (try dsimp only at hSw); go_simp; (try with_reducible rfl)
            try simp only [Act.put, List.setIfInBounds_toArray, List.set_cons_zero, List.set_cons_succ]
            refine wpAnyH_take (i := 4) (oi := { dst := some 139, op := Op.load 3 (Operand.tmp 138), type := 3, pos := "law.go:120", after := #[{ on := 3, ground := Ground.data }], guard := none }) (v := ?v53) rfl (by kernel_rfl) (by kernel_rfl) (by kernel_rfl) (fun _ _ _ h => h) (Or.inl ⟨by rfl, ?hy53⟩) (by assumption) ?_
            case hy53 => intro w hSw; (try dsimp only at hSw); go_simp; (try with_reducible rfl)
            try simp only [Act.put, List.setIfInBounds_toArray, List.set_cons_zero, List.set_cons_succ]
            refine wpAnyH_take (i := 6) (oi := { dst := some 141, op := Op.move (Operand.tmp 5), type := 49, pos := "law.go:120", after := #[], guard := none }) (v := ?v54) rfl (by kernel_rfl) (by kernel_rfl) (by kernel_rfl) (fun _ _ _ h => h) (Or.inl ⟨by rfl, ?hy54⟩) (by assumption) ?_
            case hy54 => intro w hSw; (try dsimp only at hSw); go_simp; (try with_reducible rfl)
            try simp only [Act.put, List.setIfInBounds_toArray, List.set_cons_zero, List.set_cons_succ]
            refine wpAnyH_take (i := 7) (oi := { dst := some 142, op := Op.move (Operand.tmp 12), type := 3, pos := "law.go:120", after := #[], guard := none }) (v := ?v55) rfl (by kernel_rfl) (by kernel_rfl) (by kernel_rfl) (fun _ _ _ h => h) (Or.inl ⟨by rfl, ?hy55⟩) (by assumption) ?_
            case hy55 => intro w hSw; (try dsimp only at hSw); go_simp; (try with_reducible rfl)
            try simp only [Act.put, List.setIfInBounds_toArray, List.set_cons_zero, List.set_cons_succ]
            refine wpAnyH_take (i := 8) (oi := { dst := some 143, op := Op.indexAddr 49 (Operand.tmp 141) (Operand.tmp 142), type := 0, pos := "law.go:120", after := #[{ on := 6, ground := Ground.data }, { on := 7, ground := Ground.data }], guard := none }) (v := ?v56) rfl (by kernel_rfl) (by kernel_rfl) (by kernel_rfl) (fun _ _ _ h => h) (Or.inl ⟨by rfl, ?hy56⟩) (by assumption) ?_
            case hy56 => intro w hSw; (try dsimp only at hSw); go_simp; (try with_reducible rfl)
            try simp only [Act.put, List.setIfInBounds_toArray, List.set_cons_zero, List.set_cons_succ]
            refine wpAnyH_take (i := 9) (oi := { dst := some 144, op := Op.load 3 (Operand.tmp 143), type := 3, pos := "law.go:120", after := #[{ on := 8, ground := Ground.data }], guard := none }) (v := ?v57) rfl (by kernel_rfl) (by kernel_rfl) (by kernel_rfl) (fun _ _ _ h => h) (Or.inl ⟨by rfl, ?hy57⟩) (by assumption) ?_
            case hy57 => intro w hSw; (try dsimp only at hSw); go_simp; (try with_reducible rfl)
            try simp only [Act.put, List.setIfInBounds_toArray, List.set_cons_zero, List.set_cons_succ]
            refine wpAnyH_ready (rs := [5]) (by kernel_rfl) (by simp) ?_
            refine AllReadyH.cons (o := { dst := some 140, op := Op.call { callee := Callee.value (Operand.func 25), args := #[Operand.tmp 135, Operand.tmp 139], argTypes := #[24, 3] }, type := 3, pos := "law.go:120", after := #[{ on := 0, ground := Ground.data }, { on := 4, ground := Ground.data }], guard := none }) rfl (fun K hK => ?_) AllReadyH.nil
            go_simp; go_at_call 25; with_reducible refine hc1.mono ?_; rintro e w4 ⟨rfl, e4⟩; subst w4; dsimp only
            refine hK.out _ _ ?_ (fun hH1 => ?_)
            · (try dsimp only); (first | assumption | exact ⟨by simpa using cxa, by simpa using cxb⟩)
            clear hK K
            clear hH0
            try simp only [Act.put, List.setIfInBounds_toArray, List.set_cons_zero, List.set_cons_succ]
            refine wpAnyH_take (i := 10) (oi := { dst := some 145, op := Op.binOp BinOp.neq 3 (Operand.tmp 140) (Operand.tmp 144) 3, type := 4, pos := "law.go:120", after := #[{ on := 5, ground := Ground.data }, { on := 9, ground := Ground.data }], guard := none }) (v := ?v59) rfl (by kernel_rfl) (by kernel_rfl) (by kernel_rfl) (fun _ _ _ h => h) (Or.inl ⟨by rfl, ?hy59⟩) (by assumption) ?_
            case hy59 => intro w hSw; (try dsimp only at hSw); go_simp; (try with_reducible rfl)
            try simp only [Act.put, List.setIfInBounds_toArray, List.set_cons_zero, List.set_cons_succ]
            refine wpAnyH_take (i := 11) (oi := { dst := some 146, op := Op.move (Operand.tmp 145), type := 4, pos := "law.go:120", after := #[{ on := 10, ground := Ground.data }, { on := 5, ground := Ground.chain }], guard := none }) (v := ?v60) rfl (by kernel_rfl) (by kernel_rfl) (by kernel_rfl) (fun _ _ _ h => h) (Or.inl ⟨by rfl, ?hy60⟩) (by assumption) ?_
            case hy60 => intro w hSw; (try dsimp only at hSw); go_simp; (try with_reducible rfl)
            try simp only [Act.put, List.setIfInBounds_toArray, List.set_cons_zero, List.set_cons_succ]
            refine wpAnyH_take (i := 12) (oi := { dst := some 147, op := Op.move (Operand.tmp 3), type := 24, pos := "law.go:120", after := #[{ on := 11, ground := Ground.guard }], guard := some (11, false) }) (v := ?v61) rfl (by kernel_rfl) (by kernel_rfl) (by kernel_rfl) (fun _ _ _ h => h) (Or.inl ⟨by rfl, ?hy61⟩) (by assumption) ?_
            case hy61 => intro w hSw; (try dsimp only at hSw); go_simp; (try with_reducible rfl)
            try simp only [Act.put, List.setIfInBounds_toArray, List.set_cons_zero, List.set_cons_succ]
            refine wpAnyH_take (i := 13) (oi := { dst := some 148, op := Op.move (Operand.tmp 4), type := 49, pos := "law.go:120", after := #[{ on := 11, ground := Ground.guard }], guard := some (11, false) }) (v := ?v62) rfl (by kernel_rfl) (by kernel_rfl) (by kernel_rfl) (fun _ _ _ h => h) (Or.inl ⟨by rfl, ?hy62⟩) (by assumption) ?_
            case hy62 => intro w hSw; (try dsimp only at hSw); go_simp; (try with_reducible rfl)
            try simp only [Act.put, List.setIfInBounds_toArray, List.set_cons_zero, List.set_cons_succ]
            refine wpAnyH_take (i := 14) (oi := { dst := some 149, op := Op.move (Operand.tmp 12), type := 3, pos := "law.go:120", after := #[{ on := 11, ground := Ground.guard }], guard := some (11, false) }) (v := ?v63) rfl (by kernel_rfl) (by kernel_rfl) (by kernel_rfl) (fun _ _ _ h => h) (Or.inl ⟨by rfl, ?hy63⟩) (by assumption) ?_
            case hy63 => intro w hSw; (try dsimp only at hSw); go_simp; (try with_reducible rfl)
            try simp only [Act.put, List.setIfInBounds_toArray, List.set_cons_zero, List.set_cons_succ]
            refine wpAnyH_take (i := 15) (oi := { dst := some 150, op := Op.indexAddr 49 (Operand.tmp 148) (Operand.tmp 149), type := 0, pos := "law.go:120", after := #[{ on := 13, ground := Ground.data }, { on := 14, ground := Ground.data }, { on := 11, ground := Ground.guard }], guard := some (11, false) }) (v := ?v64) rfl (by kernel_rfl) (by kernel_rfl) (by kernel_rfl) (fun _ _ _ h => h) (Or.inl ⟨by rfl, ?hy64⟩) (by assumption) ?_
            case hy64 => intro w hSw; (try dsimp only at hSw); go_simp; (try with_reducible rfl)
            try simp only [Act.put, List.setIfInBounds_toArray, List.set_cons_zero, List.set_cons_succ]
            refine wpAnyH_take (i := 16) (oi := { dst := some 151, op := Op.load 3 (Operand.tmp 150), type := 3, pos := "law.go:120", after := #[{ on := 15, ground := Ground.data }, { on := 11, ground := Ground.guard }], guard := some (11, false) }) (v := ?v65) rfl (by kernel_rfl) (by kernel_rfl) (by kernel_rfl) (fun _ _ _ h => h) (Or.inl ⟨by rfl, ?hy65⟩) (by assumption) ?_
            case hy65 => intro w hSw; (try dsimp only at hSw); go_simp; (try with_reducible rfl)
            try simp only [Act.put, List.setIfInBounds_toArray, List.set_cons_zero, List.set_cons_succ]
            refine wpAnyH_ready (rs := [17]) (by kernel_rfl) (by simp) ?_
            refine AllReadyH.cons (o := { dst := some 152, op := Op.call { callee := Callee.value (Operand.func 26), args := #[Operand.tmp 147, Operand.tmp 151], argTypes := #[24, 3] }, type := 4, pos := "law.go:120", after := #[{ on := 12, ground := Ground.data }, { on := 16, ground := Ground.data }, { on := 11, ground := Ground.chain }, { on := 11, ground := Ground.guard }], guard := some (11, false) }) rfl (fun K hK => ?_) AllReadyH.nil
            go_simp; go_at_call 26; with_reducible refine hc2.mono ?_; rintro e w5 ⟨rfl, e5⟩; subst w5; dsimp only
            refine hK.out _ _ ?_ (fun hH2 => ?_)
            · (try dsimp only); (first | assumption | exact ⟨by simpa using cxa, by simpa using cxb⟩)
            clear hK K
            clear hH1
            try simp only [Act.put, List.setIfInBounds_toArray, List.set_cons_zero, List.set_cons_succ]
            refine wpAnyH_take (i := 18) (oi := { dst := some 153, op := Op.unOp UnOp.not 4 (Operand.tmp 152), type := 4, pos := "law.go:120", after := #[{ on := 17, ground := Ground.data }, { on := 11, ground := Ground.guard }], guard := some (11, false) }) (v := ?v67) rfl (by kernel_rfl) (by kernel_rfl) (by kernel_rfl) (fun _ _ _ h => h) (Or.inl ⟨by rfl, ?hy67⟩) (by assumption) ?_
            case hy67 => intro w hSw; (try dsimp only at hSw); go_simp; (try with_reducible rfl)
            try simp only [Act.put, List.setIfInBounds_toArray, List.set_cons_zero, List.set_cons_succ]
            refine wpAnyH_take (i := 19) (oi := { dst := some 154, op := Op.pick (Operand.tmp 146) (Operand.const (Value.bool true)) (Operand.tmp 153), type := 4, pos := "law.go:120", after := #[{ on := 11, ground := Ground.data }, { on := 18, ground := Ground.data }], guard := none }) (v := ?v68) rfl (by kernel_rfl) (by kernel_rfl) (by kernel_rfl) (fun _ _ _ h => h) (Or.inl ⟨by rfl, ?hy68⟩) (by assumption) ?_
            case hy68 => intro w hSw; (try dsimp only at hSw); go_simp; (try with_reducible rfl)
            try simp only [Act.put, List.setIfInBounds_toArray, List.set_cons_zero, List.set_cons_succ]
            refine wpAnyH_done (by kernel_rfl) ?_ _
            clear hc1 hc2 cxa cxb
            go_wp2_with fail
            go_loopw [13] (fun v13 wr3 => ∃ j : Nat, j ≤ s ∧ v13 = .int .i64 j ∧ TwoH w.heap.size wr3 X4 ws l4 bg4 (.slice (some ⟨ga, 0, none⟩) n capa) (atL T) (.slice (some ⟨gb, 0, none⟩) n capb) (haL T) ∧ HOwn w wr3 X4) (fun v13 wr3 => s - (intOf v13).toNat)
            case atStart => exact ⟨0, Nat.zero_le _, rfl, HTD.out, HOD.out⟩
            case round =>
              clear HTD HOD
              obtain ⟨j, j1, rfl, hT5, hO5⟩ := hrel
              obtain ⟨cya, cyb⟩ := HCS.out _ hT5
              have hs1 := hp_SizeF hT5.hp a s HFL.out
              rw [HX4.out] at hs1
              by_cases hj : j < s
              · have tj : (j : Int) < (s : Int) := by omega
                have tj0 : (0 : Int) ≤ (j : Int) := by omega
                have tv : 0 ≤ 100 * (h : Int) + (j : Int) ∧ 100 * (h : Int) + (j : Int) ≤ 4294967295 := by omega
                have hc := fun c => hp_Field (hT5.drewN c).hp a s j HFL.out ((a : Int) + 1) (j : Int) rfl rfl hj
                rw [HK4.out.field 0 a s h HT0.out j hj, HX4.out] at hc
                have HT5 := Lib.hid hT5; have HO5 := Lib.hid hO5
                clear hT5 hO5
                go_upto_region 31 with (go_at_call 27; (with_reducible refine hs1.mono ?_); rintro e w5 ⟨rfl, rfl⟩; dsimp only)
                go_quiet ((go_at_call 28; first | exact same_quiet (hc _) | exact Calls.quiet_of_same (hc 0)))
                go_wp2_with fail
                refine ⟨⟨j + 1, by omega, by simp, HT5.out.drewN _, HO5.out.nx (HNx.drewN _ _ _)⟩, by simp only [intOf]; omega⟩
              · obtain rfl : j = s := by omega
                have hcd := hp_Drop hT5.hp a j ((a : Int) + 1) rfl HFL.out.has HFL.out.siz (by omega) (fun x x1 x2 => (HK4.out.cov x (by omega)).2 ⟨0, a, j, h, HT0.out, x1, by omega⟩)
                rw [HX4.out] at hcd
                have HT5 := Lib.hid hT5; have HO5 := Lib.hid hO5
                clear hT5 hO5
                go_wp2_with (first
                  | (go_at_call 27; (with_reducible refine hs1.mono ?_); rintro e w5 ⟨rfl, rfl⟩; dsimp only)
                  | (go_at_call 15; (with_reducible refine hcd.mono ?_); rintro e w6 ⟨rfl, X6, hA6, hN6⟩; have HT6 := Lib.hid (HT5.out.nx hA6 hN6); have HO6 := Lib.hid (HO5.out.nx hN6); have HX6 := Lib.hid (hN6.h.trans HX4.out); clear hA6 hN6; dsimp only))
                refine ⟨⟨q + 1, X6, _, _, by omega, by simp, HX6.out, HK4.out.next HTQ.out, HT6.out, HO6.out⟩, by simp only [intOf]; omega⟩
          · obtain rfl : q = n := by omega
            have hnil : T.drop q = [] := by rw [HN.out]; exact List.drop_length
            rw [hnil] at hK4
            obtain ⟨e1, e2⟩ := hK4.nil
            have hcw : Calls Try.prog 29 #[.pointer (some ⟨r, 0, none⟩)] wr fun e w' => e = .returned (.tuple #[.int .i64 0, .int .i64 600]) ∧ ∃ c, w' = wr.drewN c := by
              have h := hp_Words hT4.hp
              rw [e1, e2, cnt_rep, List.length_replicate, hX4] at h
              exact h
            have hcn : ∀ c, Calls Try.prog 30 #[.pointer (some ⟨r, 0, none⟩), .int .i64 0] (wr.drewN c) fun e w' => e = .returned (.int .i64 0) ∧ wr.drewN c = w' := fun c => by
              have h := hp_Next (hT4.drewN c).hp 0 (by decide)
              rw [e2, next_none, hX4] at h
              exact h
            have HOW := Lib.hid (fun c => hO4.nx (HNx.drewN X4 wr c))
            clear hK4 hT4 hO4 e1 e2 hnil
            go_wp2_with (first
              | (go_at_call 29; (with_reducible refine hcw.mono ?_); rintro e w5 ⟨rfl, cw, rfl⟩; dsimp only)
              | (go_at_call 30; (with_reducible refine (hcn _).mono ?_); rintro e w6 ⟨rfl, rfl⟩; dsimp only)
              | (go_at_call 8; refine (awake_any _).mono ?_; rintro e w6 ⟨rfl, hb6⟩; dsimp only))
            go_ret
            exact ⟨rfl, (HOW.out cw).below.trans (hb6.mono (HOW.out cw).below.size)⟩

/-! ### THE ROW's STEP: WRITTEN OUT: LEAVE IT -/
set_option maxRecDepth 100000 in
theorem lifted (os : Os) (started : os.Started) (H : Type) (enc : TypeId × Value → H) :
    ReturnsInHanded {} Try.checked os 4 .any (Rows.heapKeepsSpec.pre6 enc Try.prog Try.f4 Rows.heapKeepsRow.domain false) (Rows.heapKeepsSpec.post enc Try.prog Try.f4 false true false false) := by
  refine returnsInHanded_of_change (C := Try.checked) own started (by kernel_rfl) Try.func4
    (ChangeSpec.witness6 (enc := enc) (C := Try.checked) false ⟨#[], #[.slice none 0 0], []⟩ 8 (by kernel_rfl) (by kernel_rfl) (by kernel_rfl) (by kernel_rfl)) ?_
  intro W base args ds gs before hval0 hW hcnd _
  have hval : ∀ (j : Nat) t v, Try.f4.params[j]? = some t → args[j]? = some v → Value.okWide Try.prog W .any base t v := hval0
  have hW' := hW
  obtain ⟨p, q, hA0, hV, rfl, hfz, hnd⟩ := hW
  have hA : DataW.TrodAll enc Try.prog W 0 (fun _ => true) true Try.f4.params.toList args.toList ds p := hA0
  rw [Try.params4] at hA hval
  obtain ⟨v0, vs0, d0, ds0, p0, q0, hargs, rfl, rfl, h0, r0⟩ := trodAll_cons hA
  obtain ⟨rfl, rfl, rfl⟩ := trodAll_nil r0
  obtain rfl : args = #[v0] := by cases args; simp_all
  obtain ⟨rfl, rfl⟩ := trodVars_none hV
  obtain ⟨a0, len0, cap0, rfl⟩ := okWide_slice Try.underlying49 (hval 0 49 v0 rfl rfl)
  have k0 := h0
  have lt0 : ∀ x ∈ p0, x.block < W.heap.size := by obtain ⟨m, hm⟩ := k0; exact DataW.trod_lt m _ _ _ hm
  obtain ⟨z0, w0⟩ : ∃ zs, IsRow .i64 W a0 len0 cap0 zs := by
    obtain ⟨fuel, hf⟩ := h0
    rcases open_ints Try.underlying49 Try.underlying3 (by kernel_rfl) hf with ⟨hcs, _⟩ | ⟨x, l, c, zs, hcs, _, hl, hm, hz, _, hcell, hwz⟩
    · simp [Value.cells] at hcs
      obtain ⟨rfl, rfl, rfl⟩ := hcs
      exact ⟨[], .inl ⟨rfl, rfl, rfl, rfl⟩⟩
    · simp [Value.cells] at hcs
      obtain ⟨rfl, rfl, rfl⟩ := hcs
      exact ⟨zs, .inr ⟨_, rfl, hl, hm, by simpa using hz, hcell, hwz⟩⟩
  clear hA0 hval0
  refine (walk a0 len0 cap0 z0 W w0).mono fun e W' ⟨he, bel⟩ => ?_
  subst he
  exact ⟨_, rfl, _, _, _, [], _, [], hW', trodAll_mk1 (shut_bool Try.underlying4 _), (trodAll_cons_mk (Below.trod laidOut (by kernel_rfl) (of_decide_eq_true (by kernel_rfl)) k0 bel lt0) trodAll_mk0), rfl, bel.frame _, fun h => by cases h⟩

theorem over : Rows.heapKeepsRow.holds Try.pinned (OpenSpec.ofChange Rows.heapKeepsSpec) :=
  OpenClaim.holds_of_wide 4 Try.f4 rfl rfl rfl rfl rfl rfl rfl ⟨rfl, rfl, rfl, rfl, rfl⟩ rfl rfl rfl rfl rfl (by kernel_rfl) Try.func4 (by kernel_rfl)
    (of_decide_eq_true (by kernel_rfl)) (by unfold Func.isWrapper; first | (rw [if_pos (by decide +kernel)]; kernel_rfl) | (rw [if_neg (by decide +kernel)]; exact ⟨rfl, rfl⟩))
    (fun os started H enc _ => lifted os started H enc)

/-- THE STATEMENT -/
theorem proved : Rows.HeapKeepsSaid := over
#print axioms proved
end Go.Proofs.Ytljgnmbjidkjnaa.heapKeeps
