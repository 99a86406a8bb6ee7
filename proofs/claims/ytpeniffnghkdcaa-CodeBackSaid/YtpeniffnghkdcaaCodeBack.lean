/- The law CodeBack returns true at every input, and leaves its arguments as they were. No condition. -/
import Derived.Test.YtpeniffnghkdcaaRows
import Derived.WalkKit
import Derived.ProofKit
import Derived.OpenShut
import Derived.Test.YtpeniffnghkdcaaPut
import Derived.Deep.DeepCutAuto
import Derived.ShutString
import Derived.ChangeOld
import Derived.Below
namespace Go.Proofs.Ytpeniffnghkdcaa.codeBack
open Go.ChangeShapes Go.WideShapes Go.ChangeAt Go.RowKit
open Go.ChangeMaps (open_string shut_string)
open Go.Proofs.Ytpeniffnghkdcaa.Gen
open Go.Proofs.Ytpeniffnghkdcaa.Base
open Go.Proofs.Ytpeniffnghkdcaa.Cd
open Go.Proofs.Ytpeniffnghkdcaa.Cp
set_option linter.unusedVariables false

theorem own : ownKnob Try.prog.godebug = none := by kernel_rfl
theorem laidOut : laidOutB Try.prog = true := by kernel_rfl

/-- WHAT THE WALK IS TOLD OF A SLICE OF INTEGERS THAT CAME IN: it is nil; or it leads to a row of 'cap' cells, the numbers 'zs' (the first 'len' are its elements, the rest its spare room), each fitting its kind. -/
def IsRow (k : IntKind) (w : World) (a : Option Addr) (len cap : Nat) (zs : List Int) : Prop :=
  (a = none ∧ len = 0 ∧ cap = 0 ∧ zs = []) ∨
  ∃ x, a = some x ∧ len ≤ cap ∧ cap ≤ maxLen ∧ zs.length = cap ∧ (∀ i, i < zs.length → w.cell? (x.add i) = some (.int k (zs.getD i 0))) ∧ ∀ n ∈ zs, (Lit.int k n).wf = true

theorem alloc3 {u u' : World} {x0 x1 x2 : Value} {t : TypeId} (g : Gr (u.alloc (.cells #[x0, x1, x2] t)) u') : u.heap.size < u'.heap.size ∧ u'.cell? ⟨u.heap.size, 0, none⟩ = some x0 ∧ u'.cell? ⟨u.heap.size, 1, none⟩ = some x1 ∧ u'.cell? ⟨u.heap.size, 2, none⟩ = some x2 := by
  have z : u.heap.size < u'.heap.size := by have := g.size; simp at this; omega
  exact ⟨z, g.keep (by simp), g.keep (by simp), g.keep (by simp)⟩
def Got (w : World) (p q : Nat) (A B C : Int) : Prop := (p < w.heap.size ∧ q < w.heap.size) ∧ (w.cell? ⟨p, 0, none⟩ = some (.int .i64 A) ∧ w.cell? ⟨p, 1, none⟩ = some (.int .i64 B) ∧ w.cell? ⟨p, 2, none⟩ = some (.int .i64 C)) ∧ (w.cell? ⟨q, 0, none⟩ = some (.int .i64 A) ∧ w.cell? ⟨q, 1, none⟩ = some (.int .i64 B) ∧ w.cell? ⟨q, 2, none⟩ = some (.int .i64 C))
theorem Got.below {w w' : World} {p q : Nat} {A B C : Int} {D : Nat} (h : Got w p q A B C) (k : Below D w w') (hp : p < D) (hq : q < D) : Got w' p q A B C := by
  obtain ⟨⟨a, b⟩, ⟨c0, c1, c2⟩, d0, d1, d2⟩ := h
  have e : ∀ x i, x < D → w'.cell? ⟨x, i, none⟩ = w.cell? ⟨x, i, none⟩ := fun x i hx => k.cell (p := ⟨x, i, none⟩) hx
  have := k.size
  exact ⟨⟨by omega, by omega⟩, ⟨by rw [e _ _ hp]; exact c0, by rw [e _ _ hp]; exact c1, by rw [e _ _ hp]; exact c2⟩, by rw [e _ _ hq]; exact d0, by rw [e _ _ hq]; exact d1, by rw [e _ _ hq]; exact d2⟩
def rv (z : Nat → Nat → Int) : Nat → List Value
  | 0 => []
  | k + 1 => rv z k ++ [.int .i64 (z k 0), .int .i64 (z k 1), .int .i64 (z k 2)]
theorem rv_len (z : Nat → Nat → Int) : ∀ k, (rv z k).length = k * 3
  | 0 => rfl
  | k + 1 => by simp [rv, rv_len z k]; omega
theorem rv_at (z : Nat → Nat → Int) (j : Nat) (hj : j < 3) : ∀ n i, i < n → (rv z n)[i * 3 + j]? = some (.int .i64 (z i j))
  | 0, i, hi => by omega
  | n + 1, i, hi => by
    have hl := rv_len z n
    unfold rv
    by_cases e : i = n
    · subst e
      rw [List.getElem?_append_right (by omega), hl, show i * 3 + j - i * 3 = j by omega]
      have : j = 0 ∨ j = 1 ∨ j = 2 := by omega
      rcases this with rfl | rfl | rfl <;> rfl
    · rw [List.getElem?_append_left (by omega)]; exact rv_at z j hj n i (by omega)
theorem own3 {w : World} {base : Nat} {e : TypeId} {v : Value} {n : Nat} {z : Nat → Nat → Int} (h : w.ownsRow base e 3 v n (rv z n)) (hn : 0 < n) : ∃ g cap, v = .slice (some ⟨g, 0, none⟩) n cap ∧ base ≤ g ∧ n ≤ cap ∧ cap ≤ 9223372036854775807 ∧ g < w.heap.size ∧ Rows3 w g 0 n z := by
  obtain ⟨hx, h2 | ⟨g, cap, cur, h3, h4, h5, h6, h7, h8, h9⟩⟩ := h
  · omega
  · refine ⟨g, cap, h3, h4, h6, by unfold maxLen at h7; omega, (Array.getElem?_eq_some_iff.1 h5).1, fun i hi j hj => ?_⟩
    have hu := rv_at z j hj n i hi
    rw [← h9, List.getElem?_take] at hu
    rw [cell_of_row w g _ _ _ _ h5]
    simp only [show i * 3 + j < n * 3 by omega, if_true] at hu
    simpa using hu
theorem infoIns : (Try.prog.info? 25).map (fun i => (i.zero, i.size, i.bytes)) = some (some (.agg #[.int .i64 0, .int .i64 0, .int .i64 0]), 3, 24) := by kernel_rfl
/-- The numbers of the instructions. -/
def zz (l : List Int) (i j : Nat) : Int := (l[i * 3 + j]?.getD 0) % 256
theorem zz_bd (l : List Int) (i j : Nat) : 0 ≤ zz l i j ∧ zz l i j < 256 := by unfold zz; omega
theorem bl_at (z : Nat → Nat → Int) (j : Nat) (hj : j < 3) : ∀ n i, i < n → (bl z n)[3 * i + j]? = some (z i j % 256)
  | 0, i, hi => by omega
  | n + 1, i, hi => by
    have hl := bl_len z n
    unfold bl
    by_cases e : i = n
    · subst e
      rw [List.getElem?_append_right (by omega), hl, show 3 * i + j - 3 * i = j by omega]
      have : j = 0 ∨ j = 1 ∨ j = 2 := by omega
      rcases this with rfl | rfl | rfl <;> rfl
    · rw [List.getElem?_append_left (by omega)]; exact bl_at z j hj n i (by omega)
theorem byt_str (xs : List Int) (y : ByteArray) (m : Nat) (v : Int) (h : xs[m]? = some v) (hv : 0 ≤ v ∧ v < 256) : byt (strOfNums xs ++ y) m = v := by
  have hm : m < xs.length := (List.getElem?_eq_some_iff.1 h).1
  unfold byt
  have e : (strOfNums xs ++ y).data.toList = (strOfNums xs).data.toList ++ y.data.toList := ByteArray.toList_data_append
  have hl : (strOfNums xs).data.toList.length = xs.length := by rw [strOfNums_data]; simp
  rw [e, List.getElem?_append_left (by omega), strOfNums_data, List.getElem?_map, h]
  simp only [Option.map_some, Option.getD_some]
  obtain ⟨n, rfl⟩ := Int.eq_ofNat_of_zero_le hv.1
  have : n < 256 := by omega
  simp [UInt8.toNat_ofNat]; omega
theorem frz3 {u u' : World} {c : Array Value} {t : TypeId} (g : Gr (u.alloc (.cells c t)) u') : u.heap.size < u'.heap.size := by have := g.size; simp at this; omega
/-! ### STEP 1: THE WALK: the Go text returns true, AND WRITES NOTHING THAT WAS THERE: 'Below w.heap.size w w'' (Derived/Below.lean: '.refl', '.alloc', '.drew', '.setCell' at a new block, '.trans'). Open each 'IsRow' by 'rcases' AHEAD of 'go_enter'; part every test ahead of the walk. -/
set_option maxRecDepth 100000 in
set_option maxHeartbeats 16000000 in
theorem walk (a0 : Option Addr) (len0 cap0 : Nat) (z0 : List Int) (a1 : ByteArray) (w : World) (w0 : IsRow .i64 w a0 len0 cap0 z0) (w1 : a1.size ≤ maxLen) :
    Calls Try.prog 4 #[.slice a0 len0 cap0, .string a1] w fun e w' => e = .returned (.bool true) ∧ Below w.heap.size w w' := by
  unfold maxLen at w1
  by_cases h1 : 90 < len0
  · have h1' : (90 : Int) < (len0 : Int) := by omega
    go_enter Try.func4, Try.ntmps4
    go_wp2_with fail
    refine (awake_any _).mono ?_; rintro e u1 ⟨rfl, g1⟩
    go_wp2_with fail
    go_ret
    exact ⟨rfl, g1.2⟩
  by_cases h2 : 2 < a1.size
  · have h2' : (2 : Int) < (a1.size : Int) := by omega
    have h1' : (len0 : Int) ≤ 90 := by omega
    go_enter Try.func4, Try.ntmps4
    go_wp2_with fail
    refine (awake_any _).mono ?_; rintro e u1 ⟨rfl, g1⟩
    go_wp2_with fail
    go_ret
    exact ⟨rfl, g1.2⟩
  have h1' : (len0 : Int) ≤ 90 := by omega
  have h2' : (a1.size : Int) ≤ 2 := by omega
  obtain ⟨n, hn⟩ : ∃ n, len0 / 3 = n := ⟨_, rfl⟩
  have n1 : 3 * n ≤ len0 ∧ len0 < 3 * n + 3 := by omega
  have hnH := Lib.hid hn; clear hn
  by_cases hn0 : n = 0
  · subst hn0
    go_enter Try.func4, Try.ntmps4
    go_wp2_with fail
    refine wp_loop_rounds 1 ?_
    rw [rounds_succ]
    go_wp2_with fail
    refine (cd_Put_0 none 0 _).mono ?_; rintro e u3 ⟨rfl, rfl⟩
    have SZ : a1.size ≤ 2 := by omega
    have SS : a1.size ≤ 9223372036854775807 := by omega
    have SN := Lib.hid (show a1.size / 3 = 0 by omega)
    go_wp2_with fail
    refine (cd_Len a1 _ SS).mono ?_; rintro e u4 ⟨rfl, rfl⟩
    rw [SN.out]
    go_wp2_with fail
    refine wp_loop_rounds 1 ?_
    rw [rounds_succ]
    have belw := Below.refl w.heap.size w
    go_wp2_with fail
    refine (cd_Get_no a1 _ _ SS (Or.inr (by rw [SN.out]; first | omega | simp))).mono ?_; rintro e u6 ⟨rfl, g6⟩
    go_wp2_with fail
    refine (cd_Get_no a1 (-1) _ SS (Or.inl (by decide))).mono ?_; rintro e u7 ⟨rfl, g7⟩
    go_wp2_with fail
    refine (awake_any _).mono ?_; rintro e u8 ⟨rfl, g8⟩
    go_wp2_with fail
    go_ret
    have q6 := frz3 g7
    have q8 := g8.size
    exact ⟨rfl, belw.trans ((g6.2).mono (belw.size) |>.trans (Below.alloc (Below.refl _ _) (by have := g6.size; have := belw.size; omega) _ |>.trans ((g7.2).mono (by simp; have := g6.size; have := belw.size; omega)) |>.trans (Below.alloc (Below.refl _ _) (by have := g6.size; have := belw.size; omega) _) |>.trans ((g8.2).mono (by simp; have := g6.size; have := belw.size; omega))))⟩
  · rcases w0 with ⟨_, hz, _, _⟩ | ⟨x, rfl, hl, hm, hzl, hcell, hwz⟩
    · omega
    obtain ⟨xb, xo, spot⟩ := x
    have hspot : spot = none := by simpa [Addr.add] using World.cell?_spot (hcell 0 (by omega))
    subst hspot
    have hcell' : ∀ i, i < z0.length → w.cell? ⟨xb, xo + i, none⟩ = some (.int .i64 (z0[i]?.getD 0)) := fun i hi => by
      have h := hcell i hi
      by_cases e : i = 0
      · subst e; simpa [Addr.add] using h
      · simpa [Addr.add, e] using h
    have hwf : ∀ i, i < z0.length → (Lit.int .i64 (z0[i]?.getD 0)).wf = true := fun i hi => by
      rw [List.getElem?_eq_getElem hi]; exact hwz _ (List.getElem_mem hi)
    have hxb : xb < w.heap.size := World.block_lt_of_cell? _ _ (hcell' 0 (by omega))
    have HC := Lib.hid hcell'; have HW := Lib.hid hwf
    unfold maxLen at hm
    clear hcell hcell' hwz hwf
    obtain ⟨i0, hi, hz0', hz1', hz2'⟩ := info_parts infoIns
    go_enter Try.func4, Try.ntmps4
    go_wp2_with fail
    go_loopw [5, 6] (fun v5 v6 wr => ∃ k : Nat, k ≤ n ∧ v6 = .int .i64 (3 * (k : Int)) ∧ wr.ownsRow w.heap.size 25 3 v5 k (rv (zz z0) k) ∧ Below w.heap.size w wr) (fun _ v6 wr => 90 - (intOf v6).toNat)
    case atStart => exact ⟨0, by omega, rfl, World.ownsRow_nil _ _ _ _, Below.refl _ _⟩
    case round =>
      obtain ⟨k, kl, rfl, hown, bel⟩ := hrel
      by_cases hk : k < n
      · have cc : ∀ m, wr.cell? ⟨xb, m, none⟩ = w.cell? ⟨xb, m, none⟩ := fun m => bel.cell (p := ⟨xb, m, none⟩) hxb
        have C0 := Lib.hid (HC.out (3 * k) (by omega)); have C1 := Lib.hid (HC.out (3 * k + 1) (by omega)); have C2 := Lib.hid (HC.out (3 * k + 2) (by omega))
        have c0 : wr.cell? ⟨xb, xo + 3 * k, none⟩ = some (.int .i64 (z0[3 * k]?.getD 0)) := by rw [cc]; exact C0.out
        have c1 : wr.cell? ⟨xb, xo + (3 * k + 1), none⟩ = some (.int .i64 (z0[3 * k + 1]?.getD 0)) := by rw [cc]; exact C1.out
        have c2 : wr.cell? ⟨xb, xo + (3 * k + 2), none⟩ = some (.int .i64 (z0[3 * k + 2]?.getD 0)) := by rw [cc]; exact C2.out
        have wf0 := HW.out (3 * k) (by omega); have wf1 := HW.out (3 * k + 1) (by omega); have wf2 := HW.out (3 * k + 2) (by omega)
        have hz0 := Lib.hid (show (z0[3 * k]?.getD 0) % 256 = zz z0 k 0 by unfold zz; rw [show k * 3 + 0 = 3 * k by omega])
        have hz1 := Lib.hid (show (z0[3 * k + 1]?.getD 0) % 256 = zz z0 k 1 by unfold zz; rw [show k * 3 + 1 = 3 * k + 1 by omega])
        have hz2 := Lib.hid (show (z0[3 * k + 2]?.getD 0) % 256 = zz z0 k 2 by unfold zz; rw [show k * 3 + 2 = 3 * k + 2 by omega])
        generalize z0[3 * k]?.getD 0 = L0 at *
        generalize z0[3 * k + 1]?.getD 0 = L1 at *
        generalize z0[3 * k + 2]?.getD 0 = L2 at *
        have s0 : (0 : Int) ≤ (3 * (k : Int)) := by omega
        have s1 : (3 * (k : Int)) + 2 < (len0 : Int) := by omega
        have s2 : (3 * (k : Int)) + 1 < (len0 : Int) := by omega
        have s3 : (3 * (k : Int)) < (len0 : Int) := by omega
        have s4 : (0 : Int) ≤ (3 * (k : Int)) + 1 := by omega
        have s5 : (0 : Int) ≤ (3 * (k : Int)) + 2 := by omega
        have v1 : IntKind.i64.wrap ((3 * (k : Int)) + 1) = (3 * (k : Int)) + 1 := IntWalk.i64_in _ ⟨by omega, by omega⟩
        have v2 : IntKind.i64.wrap ((3 * (k : Int)) + 2) = (3 * (k : Int)) + 2 := IntWalk.i64_in _ ⟨by omega, by omega⟩
        have t0 : (3 * (k : Int)).toNat = 3 * k := by omega
        have t1 : (3 * (k : Int) + 1).toNat = 3 * k + 1 := by omega
        have t2 : (3 * (k : Int) + 2).toNat = 3 * k + 2 := by omega
        clear cc
        · go_upto_region 7 with fail
          refine wp_region_held_drew (S := (fun w' => w'.cell? ⟨xb, xo + 3 * k, none⟩ = some (.int .i64 L0) ∧ w'.cell? ⟨xb, xo + (3 * k + 1), none⟩ = some (.int .i64 L1) ∧ w'.cell? ⟨xb, xo + (3 * k + 2), none⟩ = some (.int .i64 L2))) (by kernel_rfl) ?_ (fun hH0 => ?_)
          · (try dsimp only); exact ⟨c0, c1, c2⟩
          refine wpAnyH_take (i := 0) (oi := { dst := some 31, op := Op.move (Operand.tmp 5), type := 31, pos := "law.go:37", after := #[], guard := none }) (v := ?v1) rfl (by kernel_rfl) (by kernel_rfl) (by kernel_rfl) (fun _ _ _ h => h) (Or.inl ⟨by rfl, ?hy1⟩) (by assumption) ?_
          case hy1 => intro w hSw; (try dsimp only at hSw); go_simp; (try with_reducible rfl)
          try simp only [Act.put, List.setIfInBounds_toArray, List.set_cons_zero, List.set_cons_succ]
          refine wpAnyH_take (i := 1) (oi := { dst := some 32, op := Op.move (Operand.tmp 0), type := 37, pos := "law.go:37", after := #[], guard := none }) (v := ?v2) rfl (by kernel_rfl) (by kernel_rfl) (by kernel_rfl) (fun _ _ _ h => h) (Or.inl ⟨by rfl, ?hy2⟩) (by assumption) ?_
          case hy2 => intro w hSw; (try dsimp only at hSw); go_simp; (try with_reducible rfl)
          try simp only [Act.put, List.setIfInBounds_toArray, List.set_cons_zero, List.set_cons_succ]
          refine wpAnyH_take (i := 2) (oi := { dst := some 33, op := Op.move (Operand.tmp 6), type := 3, pos := "law.go:37", after := #[], guard := none }) (v := ?v3) rfl (by kernel_rfl) (by kernel_rfl) (by kernel_rfl) (fun _ _ _ h => h) (Or.inl ⟨by rfl, ?hy3⟩) (by assumption) ?_
          case hy3 => intro w hSw; (try dsimp only at hSw); go_simp; (try with_reducible rfl)
          try simp only [Act.put, List.setIfInBounds_toArray, List.set_cons_zero, List.set_cons_succ]
          refine wpAnyH_take (i := 3) (oi := { dst := some 34, op := Op.indexAddr 37 (Operand.tmp 32) (Operand.tmp 33), type := 0, pos := "law.go:37", after := #[{ on := 1, ground := Ground.data }, { on := 2, ground := Ground.data }], guard := none }) (v := ?v4) rfl (by kernel_rfl) (by kernel_rfl) (by kernel_rfl) (fun _ _ _ h => h) (Or.inl ⟨by rfl, ?hy4⟩) (by assumption) ?_
          case hy4 => intro w hSw; (try dsimp only at hSw); go_simp; (try with_reducible rfl)
          try simp only [Act.put, List.setIfInBounds_toArray, List.set_cons_zero, List.set_cons_succ]
          refine wpAnyH_take (i := 4) (oi := { dst := some 35, op := Op.load 3 (Operand.tmp 34), type := 3, pos := "law.go:37", after := #[{ on := 3, ground := Ground.data }], guard := none }) (v := ?v5) rfl (by kernel_rfl) (by kernel_rfl) (by kernel_rfl) (fun _ _ _ h => h) (Or.inl ⟨by rfl, ?hy5⟩) (by assumption) ?_
          case hy5 => intro w hSw; (try dsimp only at hSw); go_simp; (try with_reducible rfl)
          try simp only [Act.put, List.setIfInBounds_toArray, List.set_cons_zero, List.set_cons_succ]
          refine wpAnyH_take (i := 6) (oi := { dst := some 37, op := Op.move (Operand.tmp 0), type := 37, pos := "law.go:37", after := #[], guard := none }) (v := ?v6) rfl (by kernel_rfl) (by kernel_rfl) (by kernel_rfl) (fun _ _ _ h => h) (Or.inl ⟨by rfl, ?hy6⟩) (by assumption) ?_
          case hy6 => intro w hSw; (try dsimp only at hSw); go_simp; (try with_reducible rfl)
          try simp only [Act.put, List.setIfInBounds_toArray, List.set_cons_zero, List.set_cons_succ]
          refine wpAnyH_take (i := 7) (oi := { dst := some 38, op := Op.move (Operand.tmp 6), type := 3, pos := "law.go:37", after := #[], guard := none }) (v := ?v7) rfl (by kernel_rfl) (by kernel_rfl) (by kernel_rfl) (fun _ _ _ h => h) (Or.inl ⟨by rfl, ?hy7⟩) (by assumption) ?_
          case hy7 => intro w hSw; (try dsimp only at hSw); go_simp; (try with_reducible rfl)
          try simp only [Act.put, List.setIfInBounds_toArray, List.set_cons_zero, List.set_cons_succ]
          refine wpAnyH_take (i := 8) (oi := { dst := some 39, op := Op.binOp BinOp.add 3 (Operand.tmp 38) (Operand.const (Value.int IntKind.i64 1)) 3, type := 3, pos := "law.go:37", after := #[{ on := 7, ground := Ground.data }], guard := none }) (v := ?v8) rfl (by kernel_rfl) (by kernel_rfl) (by kernel_rfl) (fun _ _ _ h => h) (Or.inl ⟨by rfl, ?hy8⟩) (by assumption) ?_
          case hy8 => intro w hSw; (try dsimp only at hSw); go_simp; (try with_reducible rfl)
          try simp only [Act.put, List.setIfInBounds_toArray, List.set_cons_zero, List.set_cons_succ]
          refine wpAnyH_take (i := 9) (oi := { dst := some 40, op := Op.indexAddr 37 (Operand.tmp 37) (Operand.tmp 39), type := 0, pos := "law.go:37", after := #[{ on := 6, ground := Ground.data }, { on := 8, ground := Ground.data }], guard := none }) (v := ?v9) rfl (by kernel_rfl) (by kernel_rfl) (by kernel_rfl) (fun _ _ _ h => h) (Or.inl ⟨by rfl, ?hy9⟩) (by assumption) ?_
          case hy9 => intro w hSw; (try dsimp only at hSw); go_simp; (try with_reducible rfl)
          try simp only [Act.put, List.setIfInBounds_toArray, List.set_cons_zero, List.set_cons_succ]
          refine wpAnyH_take (i := 10) (oi := { dst := some 41, op := Op.load 3 (Operand.tmp 40), type := 3, pos := "law.go:37", after := #[{ on := 9, ground := Ground.data }], guard := none }) (v := ?v10) rfl (by kernel_rfl) (by kernel_rfl) (by kernel_rfl) (fun _ _ _ h => h) (Or.inl ⟨by rfl, ?hy10⟩) (by assumption) ?_
          case hy10 => intro w hSw; (try dsimp only at hSw); go_simp; (try with_reducible rfl)
          try simp only [Act.put, List.setIfInBounds_toArray, List.set_cons_zero, List.set_cons_succ]
          refine wpAnyH_take (i := 12) (oi := { dst := some 43, op := Op.move (Operand.tmp 0), type := 37, pos := "law.go:37", after := #[], guard := none }) (v := ?v11) rfl (by kernel_rfl) (by kernel_rfl) (by kernel_rfl) (fun _ _ _ h => h) (Or.inl ⟨by rfl, ?hy11⟩) (by assumption) ?_
          case hy11 => intro w hSw; (try dsimp only at hSw); go_simp; (try with_reducible rfl)
          try simp only [Act.put, List.setIfInBounds_toArray, List.set_cons_zero, List.set_cons_succ]
          refine wpAnyH_take (i := 13) (oi := { dst := some 44, op := Op.move (Operand.tmp 6), type := 3, pos := "law.go:37", after := #[], guard := none }) (v := ?v12) rfl (by kernel_rfl) (by kernel_rfl) (by kernel_rfl) (fun _ _ _ h => h) (Or.inl ⟨by rfl, ?hy12⟩) (by assumption) ?_
          case hy12 => intro w hSw; (try dsimp only at hSw); go_simp; (try with_reducible rfl)
          try simp only [Act.put, List.setIfInBounds_toArray, List.set_cons_zero, List.set_cons_succ]
          refine wpAnyH_take (i := 14) (oi := { dst := some 45, op := Op.binOp BinOp.add 3 (Operand.tmp 44) (Operand.const (Value.int IntKind.i64 2)) 3, type := 3, pos := "law.go:37", after := #[{ on := 13, ground := Ground.data }], guard := none }) (v := ?v13) rfl (by kernel_rfl) (by kernel_rfl) (by kernel_rfl) (fun _ _ _ h => h) (Or.inl ⟨by rfl, ?hy13⟩) (by assumption) ?_
          case hy13 => intro w hSw; (try dsimp only at hSw); go_simp; (try with_reducible rfl)
          try simp only [Act.put, List.setIfInBounds_toArray, List.set_cons_zero, List.set_cons_succ]
          refine wpAnyH_take (i := 15) (oi := { dst := some 46, op := Op.indexAddr 37 (Operand.tmp 43) (Operand.tmp 45), type := 0, pos := "law.go:37", after := #[{ on := 12, ground := Ground.data }, { on := 14, ground := Ground.data }], guard := none }) (v := ?v14) rfl (by kernel_rfl) (by kernel_rfl) (by kernel_rfl) (fun _ _ _ h => h) (Or.inl ⟨by rfl, ?hy14⟩) (by assumption) ?_
          case hy14 => intro w hSw; (try dsimp only at hSw); go_simp; (try with_reducible rfl)
          try simp only [Act.put, List.setIfInBounds_toArray, List.set_cons_zero, List.set_cons_succ]
          refine wpAnyH_take (i := 16) (oi := { dst := some 47, op := Op.load 3 (Operand.tmp 46), type := 3, pos := "law.go:37", after := #[{ on := 15, ground := Ground.data }], guard := none }) (v := ?v15) rfl (by kernel_rfl) (by kernel_rfl) (by kernel_rfl) (fun _ _ _ h => h) (Or.inl ⟨by rfl, ?hy15⟩) (by assumption) ?_
          case hy15 => intro w hSw; (try dsimp only at hSw); go_simp; (try with_reducible rfl)
          try simp only [Act.put, List.setIfInBounds_toArray, List.set_cons_zero, List.set_cons_succ]
          refine wpAnyH_ready (rs := [5]) (by kernel_rfl) (by simp) ?_
          refine AllReadyH.cons (o := { dst := some 36, op := Op.call { callee := Callee.value (Operand.func 17), args := #[Operand.tmp 35, Operand.const (Value.int IntKind.i64 256)], argTypes := #[3, 3] }, type := 3, pos := "law.go:37", after := #[{ on := 4, ground := Ground.data }], guard := none }) rfl (fun K hK => ?_) AllReadyH.nil
          go_simp; go_at_call 17; with_reducible refine (place_any _ 256 (by decide) (by decide) wf0 _).mono ?_; rintro e w' ⟨rfl, rfl⟩; rw [hz0.out]; dsimp only
          refine hK.out _ _ ?_ (fun hH1 => ?_)
          · (try dsimp only); (first | assumption | exact ⟨keep_alloc _ c0, keep_alloc _ c1, keep_alloc _ c2⟩ | exact ⟨by rw [dd]; exact C0.out, by rw [dd]; exact C1.out, by rw [dd]; exact C2.out⟩)
          clear hK K
          clear hH0
          try simp only [Act.put, List.setIfInBounds_toArray, List.set_cons_zero, List.set_cons_succ]
          refine wpAnyH_ready (rs := [11]) (by kernel_rfl) (by simp) ?_
          refine AllReadyH.cons (o := { dst := some 42, op := Op.call { callee := Callee.value (Operand.func 17), args := #[Operand.tmp 41, Operand.const (Value.int IntKind.i64 256)], argTypes := #[3, 3] }, type := 3, pos := "law.go:37", after := #[{ on := 10, ground := Ground.data }, { on := 5, ground := Ground.chain }], guard := none }) rfl (fun K hK => ?_) AllReadyH.nil
          go_simp; go_at_call 17; with_reducible refine (place_any _ 256 (by decide) (by decide) wf1 _).mono ?_; rintro e w' ⟨rfl, rfl⟩; rw [hz1.out]; dsimp only
          refine hK.out _ _ ?_ (fun hH2 => ?_)
          · (try dsimp only); (first | assumption | exact ⟨keep_alloc _ c0, keep_alloc _ c1, keep_alloc _ c2⟩ | exact ⟨by rw [dd]; exact C0.out, by rw [dd]; exact C1.out, by rw [dd]; exact C2.out⟩)
          clear hK K
          clear hH1
          try simp only [Act.put, List.setIfInBounds_toArray, List.set_cons_zero, List.set_cons_succ]
          refine wpAnyH_ready (rs := [17]) (by kernel_rfl) (by simp) ?_
          refine AllReadyH.cons (o := { dst := some 48, op := Op.call { callee := Callee.value (Operand.func 17), args := #[Operand.tmp 47, Operand.const (Value.int IntKind.i64 256)], argTypes := #[3, 3] }, type := 3, pos := "law.go:37", after := #[{ on := 16, ground := Ground.data }, { on := 11, ground := Ground.chain }], guard := none }) rfl (fun K hK => ?_) AllReadyH.nil
          go_simp; go_at_call 17; with_reducible refine (place_any _ 256 (by decide) (by decide) wf2 _).mono ?_; rintro e w' ⟨rfl, rfl⟩; rw [hz2.out]; dsimp only
          refine hK.out _ _ ?_ (fun hH3 => ?_)
          · (try dsimp only); (first | assumption | exact ⟨keep_alloc _ c0, keep_alloc _ c1, keep_alloc _ c2⟩ | exact ⟨by rw [dd]; exact C0.out, by rw [dd]; exact C1.out, by rw [dd]; exact C2.out⟩)
          clear hK K
          clear hH2
          try simp only [Act.put, List.setIfInBounds_toArray, List.set_cons_zero, List.set_cons_succ]
          refine wpAnyH_take (i := 18) (oi := { dst := some 49, op := Op.build 25 #[(0, Operand.tmp 36), (1, Operand.tmp 42), (2, Operand.tmp 48)], type := 25, pos := "law.go:37", after := #[{ on := 5, ground := Ground.data }, { on := 11, ground := Ground.data }, { on := 17, ground := Ground.data }], guard := none }) (v := ?v19) rfl (by kernel_rfl) (by kernel_rfl) (by kernel_rfl) (fun _ _ _ h => h) (Or.inl ⟨by rfl, ?hy19⟩) (by assumption) ?_
          case hy19 => intro w hSw; (try dsimp only at hSw); go_simp; (try with_reducible rfl)
          try simp only [Act.put, List.setIfInBounds_toArray, List.set_cons_zero, List.set_cons_succ]
          refine wpAnyH_ready (rs := [19]) (by kernel_rfl) (by simp) ?_
          refine AllReadyH.cons (o := { dst := some 50, op := Op.buildSlice 31 1 #[(0, Operand.tmp 49)], type := 31, pos := "law.go:37", after := #[{ on := 18, ground := Ground.data }], guard := none }) rfl (fun K hK => ?_) AllReadyH.nil
          go_simp
          refine hK.out _ _ ?_ (fun hH4 => ?_)
          · (try dsimp only); (first | assumption | exact ⟨keep_alloc _ c0, keep_alloc _ c1, keep_alloc _ c2⟩ | exact ⟨by rw [dd]; exact C0.out, by rw [dd]; exact C1.out, by rw [dd]; exact C2.out⟩)
          clear hK K
          clear hH3
          try simp only [Act.put, List.setIfInBounds_toArray, List.set_cons_zero, List.set_cons_succ]
          refine wpAnyH_ready (rs := [20]) (by kernel_rfl) (by simp) ?_
          refine AllReadyH.cons (o := { dst := some 51, op := Op.call { callee := Callee.builtin Builtin.append, args := #[Operand.tmp 31, Operand.tmp 50], argTypes := #[31, 31] }, type := 31, pos := "law.go:37", after := #[{ on := 0, ground := Ground.data }, { on := 19, ground := Ground.data }, { on := 17, ground := Ground.chain }], guard := none }) rfl (fun K hK => ?_) AllReadyH.nil
          rw [if_pos (by rfl)]; refine wp_append_own _ (.tmp 31) (.tmp 50) 31 (by rfl) w.heap.size 25 i0 (.agg #[.int .i64 0, .int .i64 0, .int .i64 0]) 3 24 Try.underlying31 hi hz0' hz1' hz2' rfl (by decide) u5 k (rv (zz z0) k) (by rfl) (owns_da hown _) ⟨wr.heap.size, 0, none⟩ 1 1 [.int .i64 (zz z0 k 0), .int .i64 (zz z0 k 1), .int .i64 (zz z0 k 2)] (by rfl) rfl (World.news_of_block (heap_alloc_new wr _)) (by intro u hu; simp at hu; rcases hu with rfl | rfl | rfl <;> rfl) (by unfold maxLen; omega) (by omega) (by simp; have := bel.size; omega) ?_
          intro v' w1 hown' hgrow _
          have bel1 : Below w.heap.size w w1 := Below.grown (Below.drew (Below.alloc bel bel.size _)) hgrow (by simp; have := bel.size; omega) (fun q hq => (hown.lt q hq).1)
          have HO := Lib.hid (show w1.ownsRow w.heap.size 25 3 v' (k + 1) (rv (zz z0) (k + 1)) from hown')
          have dd : ∀ m, w1.cell? ⟨xb, m, none⟩ = w.cell? ⟨xb, m, none⟩ := fun m => bel1.cell (p := ⟨xb, m, none⟩) hxb
          refine hK.out _ _ ?_ (fun hH5 => ?_)
          · (try dsimp only); (first | assumption | exact ⟨keep_alloc _ c0, keep_alloc _ c1, keep_alloc _ c2⟩ | exact ⟨by rw [dd]; exact C0.out, by rw [dd]; exact C1.out, by rw [dd]; exact C2.out⟩)
          clear hK K
          clear hH4
          try simp only [Act.put, List.setIfInBounds_toArray, List.set_cons_zero, List.set_cons_succ]
          refine wpAnyH_take (i := 21) (oi := { dst := some 5, op := Op.assign (Operand.tmp 51), type := 31, pos := "law.go:37", after := #[{ on := 20, ground := Ground.data }, { on := 20, ground := Ground.chain }, { on := 0, ground := Ground.phase }, { on := 1, ground := Ground.phase }, { on := 2, ground := Ground.phase }, { on := 3, ground := Ground.phase }, { on := 4, ground := Ground.phase }, { on := 5, ground := Ground.phase }, { on := 6, ground := Ground.phase }, { on := 7, ground := Ground.phase }, { on := 8, ground := Ground.phase }, { on := 9, ground := Ground.phase }, { on := 10, ground := Ground.phase }, { on := 11, ground := Ground.phase }, { on := 12, ground := Ground.phase }, { on := 13, ground := Ground.phase }, { on := 14, ground := Ground.phase }, { on := 15, ground := Ground.phase }, { on := 16, ground := Ground.phase }, { on := 17, ground := Ground.phase }, { on := 18, ground := Ground.phase }, { on := 19, ground := Ground.phase }, { on := 20, ground := Ground.phase }], guard := none }) (v := ?v22) rfl (by kernel_rfl) (by kernel_rfl) (by kernel_rfl) (fun _ _ _ h => h) (Or.inl ⟨by rfl, ?hy22⟩) (by assumption) ?_
          case hy22 => intro w hSw; (try dsimp only at hSw); go_simp; (try with_reducible rfl)
          try simp only [Act.put, List.setIfInBounds_toArray, List.set_cons_zero, List.set_cons_succ]
          refine wpAnyH_done (by kernel_rfl) ?_ _
          go_wp2_with fail
          go_roundw
          case rel => exact ⟨k + 1, by omega, congrArg (Value.int .i64) (by omega), HO.out, bel1⟩
          case measure => simp [intOf]; omega
      · obtain rfl : k = n := by omega
        obtain ⟨g, cap, rfl, hgb, hcap1, hcapm, hglt, hrowm⟩ := own3 hown (by omega)
        have HM := Lib.hid hrowm
        clear hown hrowm
        have bsz := bel.size
        have nlen : ¬ ((3 * (k : Int)) + 2 < (len0 : Int)) := by omega
        go_wp2_with fail
        refine (cd_Put g 0 k cap (zz z0) _ HM.out hglt (by omega) (by omega) hcap1 hcapm).mono ?_; rintro e u3 ⟨rfl, b3⟩
        have belw : Below w.heap.size w u3 := bel.trans (b3.mono bel.size)
        have HM3 := Lib.hid (HM.out.below hglt b3)
        obtain ⟨S, hS⟩ : ∃ S : ByteArray, strOfNums (bl (zz z0) k) ++ a1 = S := ⟨_, rfl⟩
        have SZ : S.size = 3 * k + a1.size := by rw [← hS]; simp [strOfNums_size, bl_len]
        have SS : S.size ≤ 9223372036854775807 := by omega
        have SN := Lib.hid (show S.size / 3 = k by omega)
        have SB : ∀ i, i < k → ∀ j, j < 3 → byt S (3 * i + j) = zz z0 i j := fun i hi j hj => by
          rw [← hS]
          have b := zz_bd z0 i j
          have e := bl_at (zz z0) j hj k i hi
          rw [Int.emod_eq_of_lt b.1 b.2] at e
          exact byt_str _ _ _ _ e b
        have SBH := Lib.hid SB; clear SB
        have SZ' := Lib.hid SZ; clear SZ
        have nsz : ¬ 9223372036854775807 < (strOfNums (bl (zz z0) k)).size + a1.size := by rw [strOfNums_size, bl_len]; omega
        go_upto_region 9 with fail
        clear hS nsz
        go_wp2_with fail
        refine (cd_Len S _ SS).mono ?_; rintro e u4 ⟨rfl, rfl⟩
        rw [SN.out]
        go_wp2_with fail
        have hg3 : g < u3.heap.size := by have := b3.size; omega
        go_loopw [8] (fun v8 wr => ∃ i : Nat, i ≤ k ∧ v8 = .int .i64 i ∧ Below u3.heap.size u3 wr) (fun v8 wr => k - (intOf v8).toNat)
        case atStart => exact ⟨0, by omega, rfl, Below.refl _ _⟩
        case round =>
          obtain ⟨i, il, rfl, b5⟩ := hrel
          by_cases hi' : i < k
          · have hm3 := (HM3.out.below hg3 b5).at hi'
            simp only [Nat.zero_add] at hm3
            obtain ⟨m0, m1, m2⟩ := hm3
            have s0 : (0 : Int) ≤ (i : Int) := by omega
            have s1 : (i : Int) < (k : Int) := by omega
            have e0 := SBH.out i hi' 0 (by decide); have e1 := SBH.out i hi' 1 (by decide); have e2 := SBH.out i hi' 2 (by decide)
            rw [Nat.add_zero] at e0
            have E0 := Lib.hid e0; have E1 := Lib.hid e1; have E2 := Lib.hid e2
            clear e0 e1 e2
            go_wp2_with fail
            refine (cd_Get S i _ SS (by have := SZ'.out; omega)).mono ?_; rintro e u5 ⟨rfl, g5⟩
            rw [E0.out, E1.out, E2.out]
            have px0 : (u5.alloc (.cells #[.int .i64 (zz z0 i 0), .int .i64 (zz z0 i 1), .int .i64 (zz z0 i 2)] 25)).cell? ⟨u5.heap.size, 0, none⟩ = some (.int .i64 (zz z0 i 0)) := by simp
            have px1 : (u5.alloc (.cells #[.int .i64 (zz z0 i 0), .int .i64 (zz z0 i 1), .int .i64 (zz z0 i 2)] 25)).cell? ⟨u5.heap.size, 1, none⟩ = some (.int .i64 (zz z0 i 1)) := by simp
            have px2 : (u5.alloc (.cells #[.int .i64 (zz z0 i 0), .int .i64 (zz z0 i 1), .int .i64 (zz z0 i 2)] 25)).cell? ⟨u5.heap.size, 2, none⟩ = some (.int .i64 (zz z0 i 2)) := by simp
            have pm0 := keep_alloc (.cells #[.int .i64 (zz z0 i 0), .int .i64 (zz z0 i 1), .int .i64 (zz z0 i 2)] 25) (g5.keep m0)
            have pm1 := keep_alloc (.cells #[.int .i64 (zz z0 i 0), .int .i64 (zz z0 i 1), .int .i64 (zz z0 i 2)] 25) (g5.keep m1)
            have pm2 := keep_alloc (.cells #[.int .i64 (zz z0 i 0), .int .i64 (zz z0 i 1), .int .i64 (zz z0 i 2)] 25) (g5.keep m2)
            have bA : Below u3.heap.size u3 (u5.alloc (.cells #[.int .i64 (zz z0 i 0), .int .i64 (zz z0 i 1), .int .i64 (zz z0 i 2)] 25)) := Below.alloc (b5.trans (g5.2.mono b5.size)) (by have := b5.size; have := g5.size; omega) _
            clear m0 m1 m2
            go_upto_region 15 with fail
            generalize (u5.alloc (.cells #[.int .i64 (zz z0 i 0), .int .i64 (zz z0 i 1), .int .i64 (zz z0 i 2)] 25)) = wA at px0 px1 px2 pm0 pm1 pm2 bA ⊢
            generalize u5.heap.size = pb at *
            refine wp_region_held_drew (S := (fun w' => (w'.cell? ⟨pb, 0, none⟩ = some (.int .i64 (zz z0 i 0)) ∧ w'.cell? ⟨pb, 1, none⟩ = some (.int .i64 (zz z0 i 1)) ∧ w'.cell? ⟨pb, 2, none⟩ = some (.int .i64 (zz z0 i 2))) ∧ (w'.cell? ⟨g, i * 3, none⟩ = some (.int .i64 (zz z0 i 0)) ∧ w'.cell? ⟨g, i * 3 + 1, none⟩ = some (.int .i64 (zz z0 i 1)) ∧ w'.cell? ⟨g, i * 3 + 2, none⟩ = some (.int .i64 (zz z0 i 2))))) (by kernel_rfl) ?_ (fun hH0 => ?_)
            · (try dsimp only); exact ⟨⟨px0, px1, px2⟩, pm0, pm1, pm2⟩
            refine wpAnyH_take (i := 0) (oi := { dst := some 73, op := Op.move (Operand.tmp 10), type := 4, pos := "law.go:45", after := #[], guard := none }) (v := ?v23) rfl (by kernel_rfl) (by kernel_rfl) (by kernel_rfl) (fun _ _ _ h => h) (Or.inl ⟨by rfl, ?hy23⟩) (by assumption) ?_
            case hy23 => intro w hSw; (try dsimp only at hSw); go_simp; (try with_reducible rfl)
            try simp only [Act.put, List.setIfInBounds_toArray, List.set_cons_zero, List.set_cons_succ]
            refine wpAnyH_take (i := 1) (oi := { dst := some 74, op := Op.unOp UnOp.not 4 (Operand.tmp 73), type := 4, pos := "law.go:45", after := #[{ on := 0, ground := Ground.data }], guard := none }) (v := ?v24) rfl (by kernel_rfl) (by kernel_rfl) (by kernel_rfl) (fun _ _ _ h => h) (Or.inl ⟨by rfl, ?hy24⟩) (by assumption) ?_
            case hy24 => intro w hSw; (try dsimp only at hSw); go_simp; (try with_reducible rfl)
            try simp only [Act.put, List.setIfInBounds_toArray, List.set_cons_zero, List.set_cons_succ]
            refine wpAnyH_take (i := 2) (oi := { dst := some 75, op := Op.move (Operand.tmp 74), type := 4, pos := "law.go:45", after := #[{ on := 1, ground := Ground.data }], guard := none }) (v := ?v25) rfl (by kernel_rfl) (by kernel_rfl) (by kernel_rfl) (fun _ _ _ h => h) (Or.inl ⟨by rfl, ?hy25⟩) (by assumption) ?_
            case hy25 => intro w hSw; (try dsimp only at hSw); go_simp; (try with_reducible rfl)
            try simp only [Act.put, List.setIfInBounds_toArray, List.set_cons_zero, List.set_cons_succ]
            refine wpAnyH_take (i := 3) (oi := { dst := some 76, op := Op.fieldAddr 25 (Operand.tmp 9) 0, type := 0, pos := "law.go:45", after := #[{ on := 2, ground := Ground.guard }], guard := some (2, false) }) (v := ?v26) rfl (by kernel_rfl) (by kernel_rfl) (by kernel_rfl) (fun _ _ _ h => h) (Or.inl ⟨by rfl, ?hy26⟩) (by assumption) ?_
            case hy26 => intro w hSw; (try dsimp only at hSw); go_simp; (try with_reducible rfl)
            try simp only [Act.put, List.setIfInBounds_toArray, List.set_cons_zero, List.set_cons_succ]
            refine wpAnyH_take (i := 4) (oi := { dst := some 77, op := Op.load 3 (Operand.tmp 76), type := 3, pos := "law.go:45", after := #[{ on := 3, ground := Ground.data }, { on := 2, ground := Ground.guard }], guard := some (2, false) }) (v := ?v27) rfl (by kernel_rfl) (by kernel_rfl) (by kernel_rfl) (fun _ _ _ h => h) (Or.inl ⟨by rfl, ?hy27⟩) (by assumption) ?_
            case hy27 => intro w hSw; (try dsimp only at hSw); go_simp; (try with_reducible rfl)
            try simp only [Act.put, List.setIfInBounds_toArray, List.set_cons_zero, List.set_cons_succ]
            refine wpAnyH_take (i := 5) (oi := { dst := some 78, op := Op.move (Operand.tmp 5), type := 31, pos := "law.go:45", after := #[{ on := 2, ground := Ground.guard }], guard := some (2, false) }) (v := ?v28) rfl (by kernel_rfl) (by kernel_rfl) (by kernel_rfl) (fun _ _ _ h => h) (Or.inl ⟨by rfl, ?hy28⟩) (by assumption) ?_
            case hy28 => intro w hSw; (try dsimp only at hSw); go_simp; (try with_reducible rfl)
            try simp only [Act.put, List.setIfInBounds_toArray, List.set_cons_zero, List.set_cons_succ]
            refine wpAnyH_take (i := 6) (oi := { dst := some 79, op := Op.move (Operand.tmp 8), type := 3, pos := "law.go:45", after := #[{ on := 2, ground := Ground.guard }], guard := some (2, false) }) (v := ?v29) rfl (by kernel_rfl) (by kernel_rfl) (by kernel_rfl) (fun _ _ _ h => h) (Or.inl ⟨by rfl, ?hy29⟩) (by assumption) ?_
            case hy29 => intro w hSw; (try dsimp only at hSw); go_simp; (try with_reducible rfl)
            try simp only [Act.put, List.setIfInBounds_toArray, List.set_cons_zero, List.set_cons_succ]
            refine wpAnyH_take (i := 7) (oi := { dst := some 80, op := Op.indexAddr 31 (Operand.tmp 78) (Operand.tmp 79), type := 0, pos := "law.go:45", after := #[{ on := 5, ground := Ground.data }, { on := 6, ground := Ground.data }, { on := 2, ground := Ground.guard }], guard := some (2, false) }) (v := ?v30) rfl (by kernel_rfl) (by kernel_rfl) (by kernel_rfl) (fun _ _ _ h => h) (Or.inl ⟨by rfl, ?hy30⟩) (by assumption) ?_
            case hy30 => intro w hSw; (try dsimp only at hSw); go_simp; (try with_reducible rfl)
            try simp only [Act.put, List.setIfInBounds_toArray, List.set_cons_zero, List.set_cons_succ]
            refine wpAnyH_take (i := 8) (oi := { dst := some 81, op := Op.fieldAddr 25 (Operand.tmp 80) 0, type := 0, pos := "law.go:45", after := #[{ on := 7, ground := Ground.data }, { on := 2, ground := Ground.guard }], guard := some (2, false) }) (v := ?v31) rfl (by kernel_rfl) (by kernel_rfl) (by kernel_rfl) (fun _ _ _ h => h) (Or.inl ⟨by rfl, ?hy31⟩) (by assumption) ?_
            case hy31 => intro w hSw; (try dsimp only at hSw); go_simp; (try with_reducible rfl)
            try simp only [Act.put, List.setIfInBounds_toArray, List.set_cons_zero, List.set_cons_succ]
            refine wpAnyH_take (i := 9) (oi := { dst := some 82, op := Op.load 3 (Operand.tmp 81), type := 3, pos := "law.go:45", after := #[{ on := 8, ground := Ground.data }, { on := 2, ground := Ground.guard }], guard := some (2, false) }) (v := ?v32) rfl (by kernel_rfl) (by kernel_rfl) (by kernel_rfl) (fun _ _ _ h => h) (Or.inl ⟨by rfl, ?hy32⟩) (by assumption) ?_
            case hy32 => intro w hSw; (try dsimp only at hSw); go_simp; (try with_reducible rfl)
            try simp only [Act.put, List.setIfInBounds_toArray, List.set_cons_zero, List.set_cons_succ]
            refine wpAnyH_take (i := 10) (oi := { dst := some 83, op := Op.binOp BinOp.neq 3 (Operand.tmp 77) (Operand.tmp 82) 3, type := 4, pos := "law.go:45", after := #[{ on := 4, ground := Ground.data }, { on := 9, ground := Ground.data }, { on := 2, ground := Ground.guard }], guard := some (2, false) }) (v := ?v33) rfl (by kernel_rfl) (by kernel_rfl) (by kernel_rfl) (fun _ _ _ h => h) (Or.inl ⟨by rfl, ?hy33⟩) (by assumption) ?_
            case hy33 => intro w hSw; (try dsimp only at hSw); go_simp; (try with_reducible rfl)
            try simp only [Act.put, List.setIfInBounds_toArray, List.set_cons_zero, List.set_cons_succ]
            refine wpAnyH_take (i := 11) (oi := { dst := some 84, op := Op.pick (Operand.tmp 75) (Operand.const (Value.bool true)) (Operand.tmp 83), type := 4, pos := "law.go:45", after := #[{ on := 2, ground := Ground.data }, { on := 10, ground := Ground.data }], guard := none }) (v := ?v34) rfl (by kernel_rfl) (by kernel_rfl) (by kernel_rfl) (fun _ _ _ h => h) (Or.inl ⟨by rfl, ?hy34⟩) (by assumption) ?_
            case hy34 => intro w hSw; (try dsimp only at hSw); go_simp; (try with_reducible rfl)
            try simp only [Act.put, List.setIfInBounds_toArray, List.set_cons_zero, List.set_cons_succ]
            refine wpAnyH_take (i := 12) (oi := { dst := some 85, op := Op.move (Operand.tmp 84), type := 4, pos := "law.go:45", after := #[{ on := 11, ground := Ground.data }, { on := 2, ground := Ground.chain }], guard := none }) (v := ?v35) rfl (by kernel_rfl) (by kernel_rfl) (by kernel_rfl) (fun _ _ _ h => h) (Or.inl ⟨by rfl, ?hy35⟩) (by assumption) ?_
            case hy35 => intro w hSw; (try dsimp only at hSw); go_simp; (try with_reducible rfl)
            try simp only [Act.put, List.setIfInBounds_toArray, List.set_cons_zero, List.set_cons_succ]
            refine wpAnyH_take (i := 13) (oi := { dst := some 86, op := Op.fieldAddr 25 (Operand.tmp 9) 1, type := 0, pos := "law.go:45", after := #[{ on := 12, ground := Ground.guard }], guard := some (12, false) }) (v := ?v36) rfl (by kernel_rfl) (by kernel_rfl) (by kernel_rfl) (fun _ _ _ h => h) (Or.inl ⟨by rfl, ?hy36⟩) (by assumption) ?_
            case hy36 => intro w hSw; (try dsimp only at hSw); go_simp; (try with_reducible rfl)
            try simp only [Act.put, List.setIfInBounds_toArray, List.set_cons_zero, List.set_cons_succ]
            refine wpAnyH_take (i := 14) (oi := { dst := some 87, op := Op.load 3 (Operand.tmp 86), type := 3, pos := "law.go:45", after := #[{ on := 13, ground := Ground.data }, { on := 12, ground := Ground.guard }], guard := some (12, false) }) (v := ?v37) rfl (by kernel_rfl) (by kernel_rfl) (by kernel_rfl) (fun _ _ _ h => h) (Or.inl ⟨by rfl, ?hy37⟩) (by assumption) ?_
            case hy37 => intro w hSw; (try dsimp only at hSw); go_simp; (try with_reducible rfl)
            try simp only [Act.put, List.setIfInBounds_toArray, List.set_cons_zero, List.set_cons_succ]
            refine wpAnyH_take (i := 15) (oi := { dst := some 88, op := Op.move (Operand.tmp 5), type := 31, pos := "law.go:45", after := #[{ on := 12, ground := Ground.guard }], guard := some (12, false) }) (v := ?v38) rfl (by kernel_rfl) (by kernel_rfl) (by kernel_rfl) (fun _ _ _ h => h) (Or.inl ⟨by rfl, ?hy38⟩) (by assumption) ?_
            case hy38 => intro w hSw; (try dsimp only at hSw); go_simp; (try with_reducible rfl)
            try simp only [Act.put, List.setIfInBounds_toArray, List.set_cons_zero, List.set_cons_succ]
            refine wpAnyH_take (i := 16) (oi := { dst := some 89, op := Op.move (Operand.tmp 8), type := 3, pos := "law.go:45", after := #[{ on := 12, ground := Ground.guard }], guard := some (12, false) }) (v := ?v39) rfl (by kernel_rfl) (by kernel_rfl) (by kernel_rfl) (fun _ _ _ h => h) (Or.inl ⟨by rfl, ?hy39⟩) (by assumption) ?_
            case hy39 => intro w hSw; (try dsimp only at hSw); go_simp; (try with_reducible rfl)
            try simp only [Act.put, List.setIfInBounds_toArray, List.set_cons_zero, List.set_cons_succ]
            refine wpAnyH_take (i := 17) (oi := { dst := some 90, op := Op.indexAddr 31 (Operand.tmp 88) (Operand.tmp 89), type := 0, pos := "law.go:45", after := #[{ on := 15, ground := Ground.data }, { on := 16, ground := Ground.data }, { on := 12, ground := Ground.guard }], guard := some (12, false) }) (v := ?v40) rfl (by kernel_rfl) (by kernel_rfl) (by kernel_rfl) (fun _ _ _ h => h) (Or.inl ⟨by rfl, ?hy40⟩) (by assumption) ?_
            case hy40 => intro w hSw; (try dsimp only at hSw); go_simp; (try with_reducible rfl)
            try simp only [Act.put, List.setIfInBounds_toArray, List.set_cons_zero, List.set_cons_succ]
            refine wpAnyH_take (i := 18) (oi := { dst := some 91, op := Op.fieldAddr 25 (Operand.tmp 90) 1, type := 0, pos := "law.go:45", after := #[{ on := 17, ground := Ground.data }, { on := 12, ground := Ground.guard }], guard := some (12, false) }) (v := ?v41) rfl (by kernel_rfl) (by kernel_rfl) (by kernel_rfl) (fun _ _ _ h => h) (Or.inl ⟨by rfl, ?hy41⟩) (by assumption) ?_
            case hy41 => intro w hSw; (try dsimp only at hSw); go_simp; (try with_reducible rfl)
            try simp only [Act.put, List.setIfInBounds_toArray, List.set_cons_zero, List.set_cons_succ]
            refine wpAnyH_take (i := 19) (oi := { dst := some 92, op := Op.load 3 (Operand.tmp 91), type := 3, pos := "law.go:45", after := #[{ on := 18, ground := Ground.data }, { on := 12, ground := Ground.guard }], guard := some (12, false) }) (v := ?v42) rfl (by kernel_rfl) (by kernel_rfl) (by kernel_rfl) (fun _ _ _ h => h) (Or.inl ⟨by rfl, ?hy42⟩) (by assumption) ?_
            case hy42 => intro w hSw; (try dsimp only at hSw); go_simp; (try with_reducible rfl)
            try simp only [Act.put, List.setIfInBounds_toArray, List.set_cons_zero, List.set_cons_succ]
            refine wpAnyH_take (i := 20) (oi := { dst := some 93, op := Op.binOp BinOp.neq 3 (Operand.tmp 87) (Operand.tmp 92) 3, type := 4, pos := "law.go:45", after := #[{ on := 14, ground := Ground.data }, { on := 19, ground := Ground.data }, { on := 12, ground := Ground.guard }], guard := some (12, false) }) (v := ?v43) rfl (by kernel_rfl) (by kernel_rfl) (by kernel_rfl) (fun _ _ _ h => h) (Or.inl ⟨by rfl, ?hy43⟩) (by assumption) ?_
            case hy43 => intro w hSw; (try dsimp only at hSw); go_simp; (try with_reducible rfl)
            try simp only [Act.put, List.setIfInBounds_toArray, List.set_cons_zero, List.set_cons_succ]
            refine wpAnyH_take (i := 21) (oi := { dst := some 94, op := Op.pick (Operand.tmp 85) (Operand.const (Value.bool true)) (Operand.tmp 93), type := 4, pos := "law.go:45", after := #[{ on := 12, ground := Ground.data }, { on := 20, ground := Ground.data }], guard := none }) (v := ?v44) rfl (by kernel_rfl) (by kernel_rfl) (by kernel_rfl) (fun _ _ _ h => h) (Or.inl ⟨by rfl, ?hy44⟩) (by assumption) ?_
            case hy44 => intro w hSw; (try dsimp only at hSw); go_simp; (try with_reducible rfl)
            try simp only [Act.put, List.setIfInBounds_toArray, List.set_cons_zero, List.set_cons_succ]
            refine wpAnyH_take (i := 22) (oi := { dst := some 95, op := Op.move (Operand.tmp 94), type := 4, pos := "law.go:45", after := #[{ on := 21, ground := Ground.data }, { on := 12, ground := Ground.chain }], guard := none }) (v := ?v45) rfl (by kernel_rfl) (by kernel_rfl) (by kernel_rfl) (fun _ _ _ h => h) (Or.inl ⟨by rfl, ?hy45⟩) (by assumption) ?_
            case hy45 => intro w hSw; (try dsimp only at hSw); go_simp; (try with_reducible rfl)
            try simp only [Act.put, List.setIfInBounds_toArray, List.set_cons_zero, List.set_cons_succ]
            refine wpAnyH_take (i := 23) (oi := { dst := some 96, op := Op.fieldAddr 25 (Operand.tmp 9) 2, type := 0, pos := "law.go:45", after := #[{ on := 22, ground := Ground.guard }], guard := some (22, false) }) (v := ?v46) rfl (by kernel_rfl) (by kernel_rfl) (by kernel_rfl) (fun _ _ _ h => h) (Or.inl ⟨by rfl, ?hy46⟩) (by assumption) ?_
            case hy46 => intro w hSw; (try dsimp only at hSw); go_simp; (try with_reducible rfl)
            try simp only [Act.put, List.setIfInBounds_toArray, List.set_cons_zero, List.set_cons_succ]
            refine wpAnyH_take (i := 24) (oi := { dst := some 97, op := Op.load 3 (Operand.tmp 96), type := 3, pos := "law.go:45", after := #[{ on := 23, ground := Ground.data }, { on := 22, ground := Ground.guard }], guard := some (22, false) }) (v := ?v47) rfl (by kernel_rfl) (by kernel_rfl) (by kernel_rfl) (fun _ _ _ h => h) (Or.inl ⟨by rfl, ?hy47⟩) (by assumption) ?_
            case hy47 => intro w hSw; (try dsimp only at hSw); go_simp; (try with_reducible rfl)
            try simp only [Act.put, List.setIfInBounds_toArray, List.set_cons_zero, List.set_cons_succ]
            refine wpAnyH_take (i := 25) (oi := { dst := some 98, op := Op.move (Operand.tmp 5), type := 31, pos := "law.go:45", after := #[{ on := 22, ground := Ground.guard }], guard := some (22, false) }) (v := ?v48) rfl (by kernel_rfl) (by kernel_rfl) (by kernel_rfl) (fun _ _ _ h => h) (Or.inl ⟨by rfl, ?hy48⟩) (by assumption) ?_
            case hy48 => intro w hSw; (try dsimp only at hSw); go_simp; (try with_reducible rfl)
            try simp only [Act.put, List.setIfInBounds_toArray, List.set_cons_zero, List.set_cons_succ]
            refine wpAnyH_take (i := 26) (oi := { dst := some 99, op := Op.move (Operand.tmp 8), type := 3, pos := "law.go:45", after := #[{ on := 22, ground := Ground.guard }], guard := some (22, false) }) (v := ?v49) rfl (by kernel_rfl) (by kernel_rfl) (by kernel_rfl) (fun _ _ _ h => h) (Or.inl ⟨by rfl, ?hy49⟩) (by assumption) ?_
            case hy49 => intro w hSw; (try dsimp only at hSw); go_simp; (try with_reducible rfl)
            try simp only [Act.put, List.setIfInBounds_toArray, List.set_cons_zero, List.set_cons_succ]
            refine wpAnyH_take (i := 27) (oi := { dst := some 100, op := Op.indexAddr 31 (Operand.tmp 98) (Operand.tmp 99), type := 0, pos := "law.go:45", after := #[{ on := 25, ground := Ground.data }, { on := 26, ground := Ground.data }, { on := 22, ground := Ground.guard }], guard := some (22, false) }) (v := ?v50) rfl (by kernel_rfl) (by kernel_rfl) (by kernel_rfl) (fun _ _ _ h => h) (Or.inl ⟨by rfl, ?hy50⟩) (by assumption) ?_
            case hy50 => intro w hSw; (try dsimp only at hSw); go_simp; (try with_reducible rfl)
            try simp only [Act.put, List.setIfInBounds_toArray, List.set_cons_zero, List.set_cons_succ]
            refine wpAnyH_take (i := 28) (oi := { dst := some 101, op := Op.fieldAddr 25 (Operand.tmp 100) 2, type := 0, pos := "law.go:45", after := #[{ on := 27, ground := Ground.data }, { on := 22, ground := Ground.guard }], guard := some (22, false) }) (v := ?v51) rfl (by kernel_rfl) (by kernel_rfl) (by kernel_rfl) (fun _ _ _ h => h) (Or.inl ⟨by rfl, ?hy51⟩) (by assumption) ?_
            case hy51 => intro w hSw; (try dsimp only at hSw); go_simp; (try with_reducible rfl)
            try simp only [Act.put, List.setIfInBounds_toArray, List.set_cons_zero, List.set_cons_succ]
            refine wpAnyH_take (i := 29) (oi := { dst := some 102, op := Op.load 3 (Operand.tmp 101), type := 3, pos := "law.go:45", after := #[{ on := 28, ground := Ground.data }, { on := 22, ground := Ground.guard }], guard := some (22, false) }) (v := ?v52) rfl (by kernel_rfl) (by kernel_rfl) (by kernel_rfl) (fun _ _ _ h => h) (Or.inl ⟨by rfl, ?hy52⟩) (by assumption) ?_
            case hy52 => intro w hSw; (try dsimp only at hSw); go_simp; (try with_reducible rfl)
            try simp only [Act.put, List.setIfInBounds_toArray, List.set_cons_zero, List.set_cons_succ]
            refine wpAnyH_take (i := 30) (oi := { dst := some 103, op := Op.binOp BinOp.neq 3 (Operand.tmp 97) (Operand.tmp 102) 3, type := 4, pos := "law.go:45", after := #[{ on := 24, ground := Ground.data }, { on := 29, ground := Ground.data }, { on := 22, ground := Ground.guard }], guard := some (22, false) }) (v := ?v53) rfl (by kernel_rfl) (by kernel_rfl) (by kernel_rfl) (fun _ _ _ h => h) (Or.inl ⟨by rfl, ?hy53⟩) (by assumption) ?_
            case hy53 => intro w hSw; (try dsimp only at hSw); go_simp; (try with_reducible rfl)
            try simp only [Act.put, List.setIfInBounds_toArray, List.set_cons_zero, List.set_cons_succ]
            refine wpAnyH_take (i := 31) (oi := { dst := some 104, op := Op.pick (Operand.tmp 95) (Operand.const (Value.bool true)) (Operand.tmp 103), type := 4, pos := "law.go:45", after := #[{ on := 22, ground := Ground.data }, { on := 30, ground := Ground.data }], guard := none }) (v := ?v54) rfl (by kernel_rfl) (by kernel_rfl) (by kernel_rfl) (fun _ _ _ h => h) (Or.inl ⟨by rfl, ?hy54⟩) (by assumption) ?_
            case hy54 => intro w hSw; (try dsimp only at hSw); go_simp; (try with_reducible rfl)
            try simp only [Act.put, List.setIfInBounds_toArray, List.set_cons_zero, List.set_cons_succ]
            refine wpAnyH_done (by kernel_rfl) ?_ _
            go_wp2_with fail
            go_roundw
            case rel => exact ⟨i + 1, by omega, by go_num, Below.drew bA⟩
            case measure => simp [intOf]; omega
          · obtain rfl : i = k := by omega
            have belE : Below w.heap.size w wr := belw.trans (b5.mono belw.size)
            go_wp2_with fail
            refine (cd_Get_no S _ _ SS (Or.inr (by rw [SN.out]; first | omega | simp))).mono ?_; rintro e u6 ⟨rfl, g6⟩
            go_wp2_with fail
            refine (cd_Get_no S (-1) _ SS (Or.inl (by decide))).mono ?_; rintro e u7 ⟨rfl, g7⟩
            go_wp2_with fail
            refine (awake_any _).mono ?_; rintro e u8 ⟨rfl, g8⟩
            go_wp2_with fail
            go_ret
            have q6 := frz3 g7
            have q8 := g8.size
            exact ⟨rfl, belE.trans ((g6.2).mono (belE.size) |>.trans (Below.alloc (Below.refl _ _) (by have := g6.size; have := belE.size; omega) _ |>.trans ((g7.2).mono (by simp; have := g6.size; have := belE.size; omega)) |>.trans (Below.alloc (Below.refl _ _) (by have := g6.size; have := belE.size; omega) _) |>.trans ((g8.2).mono (by simp; have := g6.size; have := belE.size; omega))))⟩

/-! ### THE ROW's STEP: WRITTEN OUT: LEAVE IT -/
set_option maxRecDepth 100000 in
theorem lifted (os : Os) (started : os.Started) (H : Type) (enc : TypeId × Value → H) :
    ReturnsInHanded {} Try.checked os 4 .any (Rows.codeBackSpec.pre6 enc Try.prog Try.f4 Rows.codeBackRow.domain false) (Rows.codeBackSpec.post enc Try.prog Try.f4 false true false false) := by
  refine returnsInHanded_of_change (C := Try.checked) own started (by kernel_rfl) Try.func4
    (ChangeSpec.witness6 (enc := enc) (C := Try.checked) false ⟨#[], #[.slice none 0 0, .string ByteArray.empty], []⟩ 8 (by kernel_rfl) (by kernel_rfl) (by kernel_rfl) (by kernel_rfl)) ?_
  intro W base args ds gs before hval0 hW hcnd _
  have hval : ∀ (j : Nat) t v, Try.f4.params[j]? = some t → args[j]? = some v → Value.okWide Try.prog W .any base t v := hval0
  have hW' := hW
  obtain ⟨p, q, hA0, hV, rfl, hfz, hnd⟩ := hW
  have hA : DataW.TrodAll enc Try.prog W 0 (fun _ => true) true Try.f4.params.toList args.toList ds p := hA0
  rw [Try.params4] at hA hval
  obtain ⟨v0, vs0, d0, ds0, p0, q0, hargs, rfl, rfl, h0, r0⟩ := trodAll_cons hA
  obtain ⟨v1, vs1, d1, ds1, p1, q1, rfl, rfl, rfl, h1, r1⟩ := trodAll_cons r0
  obtain ⟨rfl, rfl, rfl⟩ := trodAll_nil r1
  obtain rfl : args = #[v0, v1] := by cases args; simp_all
  obtain ⟨rfl, rfl⟩ := trodVars_none hV
  obtain ⟨a0, len0, cap0, rfl⟩ := okWide_slice Try.underlying37 (hval 0 37 v0 rfl rfl)
  have k0 := h0
  have lt0 : ∀ x ∈ p0, x.block < W.heap.size := by obtain ⟨m, hm⟩ := k0; exact DataW.trod_lt m _ _ _ hm
  obtain ⟨z0, w0⟩ : ∃ zs, IsRow .i64 W a0 len0 cap0 zs := by
    obtain ⟨fuel, hf⟩ := h0
    rcases open_ints Try.underlying37 Try.underlying3 (by kernel_rfl) hf with ⟨hcs, _⟩ | ⟨x, l, c, zs, hcs, _, hl, hm, hz, _, hcell, hwz⟩
    · simp [Value.cells] at hcs
      obtain ⟨rfl, rfl, rfl⟩ := hcs
      exact ⟨[], .inl ⟨rfl, rfl, rfl, rfl⟩⟩
    · simp [Value.cells] at hcs
      obtain ⟨rfl, rfl, rfl⟩ := hcs
      exact ⟨zs, .inr ⟨_, rfl, hl, hm, by simpa using hz, hcell, hwz⟩⟩
  obtain ⟨a1, rfl, rfl, rfl, w1⟩ := open_string Try.underlying9 (hval 1 9 v1 rfl rfl) h1
  clear hA0 hval0
  refine (walk a0 len0 cap0 z0 a1 W w0 w1).mono fun e W' ⟨he, bel⟩ => ?_
  subst he
  exact ⟨_, rfl, _, _, _, [], _, [], hW', trodAll_mk1 (shut_bool Try.underlying4 _), (trodAll_cons_mk (Below.trod laidOut (by kernel_rfl) (of_decide_eq_true (by kernel_rfl)) k0 bel lt0) (trodAll_cons_mk (shut_string Try.underlying9 w1) trodAll_mk0)), rfl, bel.frame _, fun h => by cases h⟩

theorem over : Rows.codeBackRow.holds Try.pinned (OpenSpec.ofChange Rows.codeBackSpec) :=
  OpenClaim.holds_of_wide 4 Try.f4 rfl rfl rfl rfl rfl rfl rfl ⟨rfl, rfl, rfl, rfl, rfl⟩ rfl rfl rfl rfl rfl (by kernel_rfl) Try.func4 (by kernel_rfl)
    (of_decide_eq_true (by kernel_rfl)) (by unfold Func.isWrapper; first | (rw [if_pos (by decide +kernel)]; kernel_rfl) | (rw [if_neg (by decide +kernel)]; exact ⟨rfl, rfl⟩))
    (fun os started H enc _ => lifted os started H enc)

/-- THE STATEMENT -/
theorem proved : Rows.CodeBackSaid := over
#print axioms proved
end Go.Proofs.Ytpeniffnghkdcaa.codeBack
