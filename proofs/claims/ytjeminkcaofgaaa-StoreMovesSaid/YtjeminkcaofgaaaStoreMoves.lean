/- The law StoreMoves returns true at every input, and leaves its arguments as they were. No condition. -/
import Derived.Test.YtjeminkcaofgaaaRows
import Derived.WalkKit
import Derived.ProofKit
import Derived.OpenShut
import Derived.Test.YtjeminkcaofgaaaL03
import Derived.ShutString
import Derived.ChangeOld
import Derived.Below
namespace Go.Proofs.Ytjeminkcaofgaaa.storeMoves
open Go.ChangeShapes Go.WideShapes Go.ChangeAt Go.RowKit
open Go.ChangeMaps (open_string shut_string)
open Go.Proofs.Ytjeminkcaofgaaa.Gen
open Go.Proofs.Ytjeminkcaofgaaa.Base
open Go.Proofs.Ytjeminkcaofgaaa.Sr
open Go.Proofs.Ytjeminkcaofgaaa.L03
set_option linter.unusedVariables false

theorem own : ownKnob Try.prog.godebug = none := by kernel_rfl
theorem laidOut : laidOutB Try.prog = true := by kernel_rfl

/-- WHAT THE WALK IS TOLD OF A SLICE OF INTEGERS THAT CAME IN: it is nil; or it leads to a row of 'cap' cells, the numbers 'zs' (the first 'len' are its elements, the rest its spare room), each fitting its kind. -/
def IsRow (k : IntKind) (w : World) (a : Option Addr) (len cap : Nat) (zs : List Int) : Prop :=
  (a = none ∧ len = 0 ∧ cap = 0 ∧ zs = []) ∨
  ∃ x, a = some x ∧ len ≤ cap ∧ cap ≤ maxLen ∧ zs.length = cap ∧ (∀ i, i < zs.length → w.cell? (x.add i) = some (.int k (zs.getD i 0))) ∧ ∀ n ∈ zs, (Lit.int k n).wf = true

theorem put_in (w : World) (b g : Nat) (l : List Int) (j : Nat) (v : Int) (h : Sto w b g l) (hj : j < l.length) :
    Calls Try.prog 10 #[.pointer (some ⟨b, 0, none⟩), .int .i64 j, .int .u32 v] w fun e w' => e = .returned (.bool true) ∧ Sto w' b g (l.set j v) ∧ Chg g w w' := by
  have c := put_any w b g l j v h
  rw [show decide (0 ≤ (j : Int) ∧ (j : Int) < l.length) = true by simp; omega, show putS l j v = l.set j v by unfold putS; rw [if_pos (by omega)]; simp] at c
  exact c
def part (z : List Int) (k i : Nat) : List Int := z.take i ++ List.replicate (k - i) 0
theorem part_len {z : List Int} {k i : Nat} (hi : i ≤ k) (hk : k ≤ z.length) : (part z k i).length = k := by simp [part]; omega
theorem part_set {z : List Int} {k i : Nat} (hi : i < k) (hk : k ≤ z.length) : (part z k i).set i (z[i]?.getD 0) = part z k (i + 1) := by
  unfold part
  have e : k - i = (k - (i + 1)) + 1 := by omega
  rw [List.set_append_right _ _ (by simp; omega), e, List.replicate_succ]
  simp [show min i z.length = i by omega, show i < z.length by omega]
  rw [List.take_succ_eq_append_getElem (show i < z.length by omega), List.append_assoc]; rfl
theorem part_full (z : List Int) (k : Nat) : part z k k = z.take k := by simp [part]
theorem move_nat (w : World) (b g : Nat) (l : List Int) (f t n : Nat) (hS : Sto w b g l) (hf : f + n ≤ l.length) (ht : t + n ≤ l.length) :
    Calls Try.prog 12 #[.pointer (some ⟨b, 0, none⟩), .int .i64 f, .int .i64 t, .int .i64 n] w fun e w' => e = .returned (.bool true) ∧ Sto w' b g (movS l f t n) ∧ Chg g w w' := by
  rcases Nat.eq_zero_or_pos n with rfl | hn
  · rw [movS_0]; exact move_zero w b g l f t hS (by omega) (by omega)
  · exact move_ok w b g l f t n hS hf ht hn
theorem moved {z : List Int} {k a b c i : Nat} (hk : k ≤ z.length) (ha : a + c ≤ k) (hb : b + c ≤ k) (hi : i < k) :
    getS (movS (z.take k) a b c) (i : Int) = if b ≤ i ∧ i < b + c then z[a + i - b]?.getD 0 else z[i]?.getD 0 := by
  have hl : (movS (z.take k) a b c).length = k := by rw [movS_len (by simp; omega) (by simp; omega)]; simp; omega
  unfold getS; rw [if_pos (by rw [hl]; omega), Int.toNat_natCast]
  unfold movS
  by_cases h1 : i < b
  · rw [if_neg (by omega), List.getElem?_append_left (by simp; omega)]
    simp [h1, hi]
  · rw [List.getElem?_append_right (by simp; omega)]
    by_cases h2 : i < b + c
    · rw [if_pos ⟨by omega, h2⟩, List.getElem?_append_left (by simp; omega)]
      simp [show min b (min k z.length) = b by omega, show i - b < c by omega, show a + (i - b) < k by omega]
      rw [show a + (i - b) = a + i - b by omega]
    · rw [if_neg (by omega), List.getElem?_append_right (by simp; omega)]
      simp [show min b (min k z.length) = b by omega, show min c (min k z.length - a) = c by omega, show b + c + (i - b - c) = i by omega, hi]
theorem no1 (k a b : Nat) : lieB k (a : Int) ((k : Int) + 1) = false := by
  rw [Bool.eq_false_iff]; intro hh; have := lie_iff.1 hh; omega
theorem no2 (k a : Nat) : lieB k (a : Int) (-1) = false := by
  rw [Bool.eq_false_iff]; intro hh; have := lie_iff.1 hh; omega
/-! ### STEP 1: THE WALK: the Go text returns true, AND WRITES NOTHING THAT WAS THERE: 'Below w.heap.size w w'' (Derived/Below.lean: '.refl', '.alloc', '.drew', '.setCell' at a new block, '.trans'). Open each 'IsRow' by 'rcases' AHEAD of 'go_enter'; part every test ahead of the walk. -/
set_option maxRecDepth 100000 in
set_option maxHeartbeats 2000000 in
theorem walk (a0 : Option Addr) (len0 cap0 : Nat) (z0 : List Int) (a1 : Int) (a2 : Int) (a3 : Int) (w : World) (w0 : IsRow .u32 w a0 len0 cap0 z0) (w1 : (Lit.int .i64 a1).wf = true) (w2 : (Lit.int .i64 a2).wf = true) (w3 : (Lit.int .i64 a3).wf = true) :
    Calls Try.prog 4 #[.slice a0 len0 cap0, .int .i64 a1, .int .i64 a2, .int .i64 a3] w fun e w' => e = .returned (.bool true) ∧ Below w.heap.size w w' := by
  by_cases hlen : len0 = 0
  · subst hlen
    go_enter Try.func4, Try.ntmps4
    go_wp2_with fail
    refine (new_any _ _).mono ?_; rintro e u1 ⟨rfl, hS, g1, hb⟩
    go_wp2_with (go_at_call 16; refine (awake_any _).mono ?_; rintro e u7 ⟨rfl, b7⟩)
    go_ret
    exact ⟨rfl, g1.2.trans (b7.mono g1.size)⟩
  · rcases w0 with ⟨rfl, rfl, rfl, rfl⟩ | ⟨x, rfl, hl, hm, hz, hcell, hwz⟩
    · exact absurd rfl hlen
    obtain ⟨xb, xo, spot⟩ := x
    have hspot : spot = none := by simpa [Addr.add] using World.cell?_spot (hcell 0 (by omega))
    subst hspot
    have hcell' : ∀ i, i < z0.length → w.cell? ⟨xb, xo + i, none⟩ = some (.int .u32 (z0[i]?.getD 0)) := fun i hi => by
      have h := hcell i hi
      by_cases e : i = 0
      · subst e; simpa [Addr.add] using h
      · simpa [Addr.add, e] using h
    have hxb : xb < w.heap.size := World.block_lt_of_cell? _ _ (hcell' 0 (by omega))
    have HC := Lib.hid hcell'
    unfold maxLen at hm
    clear hcell hcell' hwz
    go_enter Try.func4, Try.ntmps4
    go_upto_region 1 with fail
    go_cut [9] (fun s9 wx => s9 = .int .i64 ((min len0 100 : Nat) : Int) ∧ w = wx)
    case first =>
      go_wp2_with fail
      all_goals
        go_meet
        exact ⟨congrArg (Value.int .i64) (by omega), rfl⟩
    case rest =>
      obtain ⟨rfl, rfl⟩ := hcut
      have k1 : 1 ≤ min len0 100 := by omega
      have k2 : min len0 100 ≤ 100 := by omega
      have k3 : min len0 100 ≤ len0 := by omega
      have k4 : min len0 100 ≤ z0.length := by omega
      generalize min len0 100 = k at *
      go_wp2_with fail
      refine (new_any _ _).mono ?_; rintro e u1 ⟨rfl, hS, g1, hb⟩
      have hd : w.heap.size + 2 ≤ u1.heap.size := by omega
      clear hb
      have hK : lenOf (k : Int) = k := by unfold lenOf; omega
      have hS1 : Sto u1 (w.heap.size + 1) w.heap.size (part z0 k 0) := by rw [hK] at hS; simpa [part] using hS
      clear hK hS
      have hk0 : ((k : Int) == 0) = false := by simp; omega
      go_wp2_with fail
      go_loopw [11] (fun v11 wr => ∃ i : Nat, i ≤ k ∧ v11 = .int .i64 i ∧ Sto wr (w.heap.size + 1) w.heap.size (part z0 k i) ∧ Below w.heap.size w wr) (fun v11 wr => k - (intOf v11).toNat)
      case atStart => exact ⟨0, by omega, rfl, hS1, g1.2⟩
      case round =>
        obtain ⟨i, i0, rfl, hs, bel⟩ := hrel
        by_cases hi : i < k
        · have hx : wr.cell? ⟨xb, xo + i, none⟩ = some (.int .u32 (z0[i]?.getD 0)) := by rw [bel.cell (p := ⟨xb, xo + i, none⟩) hxb]; exact HC.out i (by omega)
          have i1 : (0 : Int) ≤ (i : Int) := by omega
          have i2 : (i : Int) < (len0 : Int) := by omega
          have HL := Lib.hid (part_len i0 k4)
          have HP := Lib.hid (part_set hi k4)
          go_wp2_with fail
          refine (put_in _ _ _ _ _ _ hs (by rw [HL.out]; exact hi)).mono ?_; rintro e u2 ⟨rfl, hs2, c2⟩
          rw [HP.out] at hs2
          go_wp2_with fail
          go_roundw
          case rel => exact ⟨i + 1, by omega, by go_num, hs2, bel.trans (c2.below (Nat.le_refl _) bel.size)⟩
          case measure => simp [intOf]; omega
        · obtain rfl : i = k := by omega
          rw [part_full] at hs
          have HL := Lib.hid (show (z0.take i).length = i by simp; omega)
          obtain ⟨wo, rfl⟩ : ∃ wo : World, wo = wr := ⟨_, rfl⟩
          go_wp2_with fail
          refine (place_gen _ _ (by omega) (by omega) w1 _).mono ?_; rintro e w' ⟨a, a0, a1', rfl, rfl⟩
          go_wp2_with fail
          refine (place_gen _ _ (by omega) (by omega) w2 _).mono ?_; rintro e w' ⟨b, b0, b1, rfl, rfl⟩
          obtain ⟨a, rfl⟩ := Int.eq_ofNat_of_zero_le a0
          obtain ⟨b, rfl⟩ := Int.eq_ofNat_of_zero_le b0
          go_wp2_with fail
          all_goals
            refine (place_gen _ _ (by omega) (by omega) w3 _).mono ?_; rintro e w' ⟨c, c0, c1, rfl, rfl⟩
            obtain ⟨c, rfl⟩ := Int.eq_ofNat_of_zero_le c0
            have hac : a + c ≤ i := by omega
            have hbc : b + c ≤ i := by omega
            go_wp2_with fail
            refine (move_nat _ _ _ _ a b c hs (by rw [HL.out]; exact hac) (by rw [HL.out]; exact hbc)).mono ?_; rintro e u2 ⟨rfl, hs2, c2⟩
            have HL2 := Lib.hid (show (movS (z0.take i) a b c).length = i by rw [movS_len (by rw [HL.out]; exact hac) (by rw [HL.out]; exact hbc)]; exact HL.out)
            have bel2 : Below w.heap.size w u2 := bel.trans (c2.below (Nat.le_refl _) bel.size)
            go_wp2_with fail
            refine (move_no _ _ _ _ (a : Int) (b : Int) _ hs2 (.inl (by rw [HL2.out]; exact no1 i a b))).mono ?_; rintro e u3 ⟨rfl, rfl⟩
            go_wp2_with fail
            refine (move_no _ _ _ _ (a : Int) (b : Int) _ hs2 (.inl (by rw [HL2.out]; exact no2 i a))).mono ?_; rintro e u3 ⟨rfl, rfl⟩
            have HM := Lib.hid (fun q (hq : q < i) => moved (z := z0) k4 hac hbc hq)
            go_wp2_with fail
            go_loopw [15] (fun v15 wr => ∃ q : Nat, q ≤ i ∧ v15 = .int .i64 q ∧ u2 = wr) (fun v15 wr => i - (intOf v15).toNat)
            case atStart => exact ⟨0, by omega, rfl, rfl⟩
            case round =>
              obtain ⟨q, q0, rfl, rfl⟩ := hrel
              by_cases hq : q < i
              · have hx : u2.cell? ⟨xb, xo + q, none⟩ = some (.int .u32 (z0[q]?.getD 0)) := by rw [bel2.cell (p := ⟨xb, xo + q, none⟩) hxb]; exact HC.out q (by omega)
                have i1 : (0 : Int) ≤ (q : Int) := by omega
                have i2 : (q : Int) < (len0 : Int) := by omega
                have hmq := HM.out q hq
                by_cases h1 : b ≤ q
                · by_cases h2 : q < b + c
                  · have hy : u2.cell? ⟨xb, xo + (a + q - b), none⟩ = some (.int .u32 (z0[a + q - b]?.getD 0)) := by rw [bel2.cell (p := ⟨xb, xo + (a + q - b), none⟩) hxb]; exact HC.out (a + q - b) (by omega)
                    rw [if_pos ⟨h1, h2⟩] at hmq
                    have HMQ := Lib.hid hmq; clear hmq
                    have ei : ((a : Int) + (q : Int) - (b : Int)) = ((a + q - b : Nat) : Int) := by omega
                    have y1 : (0 : Int) ≤ (a : Int) + (q : Int) - (b : Int) := by omega
                    have y2 : (a : Int) + (q : Int) - (b : Int) < (len0 : Int) := by omega
                    have d1 : decide (b ≤ q) = true := by simp [h1]
                    have d2 : decide ((q : Int) < (b : Int) + (c : Int)) = true := by simp; omega
                    have y3 : ((a : Int) + (q : Int) - (b : Int)).toNat = a + q - b := by omega
                    clear ei
                    go_wp2_with fail
                    refine (get_any _ _ _ _ _ hs2).mono ?_; rintro e u3 ⟨rfl, rfl⟩; rw [HMQ.out]
                    go_wp2_with fail
                    go_roundw
                    case rel => exact ⟨q + 1, by omega, by go_num, by first | rfl | trivial⟩
                    case measure => simp [intOf]; omega
                  · rw [if_neg (by omega)] at hmq
                    have HMQ := Lib.hid hmq; clear hmq
                    have d1 : decide (b ≤ q) = true := by simp [h1]
                    have d2 : decide ((q : Int) < (b : Int) + (c : Int)) = false := by simp; omega
                    go_wp2_with fail
                    refine (get_any _ _ _ _ _ hs2).mono ?_; rintro e u3 ⟨rfl, rfl⟩; rw [HMQ.out]
                    go_wp2_with fail
                    go_roundw
                    case rel => exact ⟨q + 1, by omega, by go_num, by first | rfl | trivial⟩
                    case measure => simp [intOf]; omega
                · rw [if_neg (by omega)] at hmq
                  have HMQ := Lib.hid hmq; clear hmq
                  have d1 : decide (b ≤ q) = false := by simp; omega
                  go_wp2_with fail
                  refine (get_any _ _ _ _ _ hs2).mono ?_; rintro e u3 ⟨rfl, rfl⟩; rw [HMQ.out]
                  go_wp2_with fail
                  go_roundw
                  case rel => exact ⟨q + 1, by omega, by go_num, by first | rfl | trivial⟩
                  case measure => simp [intOf]; omega
              · go_wp2_with fail
                refine (len_any _ _ _ _ hs2).mono ?_; rintro e u3 ⟨rfl, rfl⟩; rw [HL2.out]
                go_wp2_with (go_at_call 16; refine (awake_any _).mono ?_; rintro e u7 ⟨rfl, b7⟩)
                go_ret
                exact ⟨rfl, bel2.trans (b7.mono bel2.size)⟩

/-! ### THE ROW's STEP: WRITTEN OUT: LEAVE IT -/
set_option maxRecDepth 100000 in
theorem lifted (os : Os) (started : os.Started) (H : Type) (enc : TypeId × Value → H) :
    ReturnsInHanded {} Try.checked os 4 .any (Rows.storeMovesSpec.pre6 enc Try.prog Try.f4 Rows.storeMovesRow.domain false) (Rows.storeMovesSpec.post enc Try.prog Try.f4 false true false false) := by
  refine returnsInHanded_of_change (C := Try.checked) own started (by kernel_rfl) Try.func4
    (ChangeSpec.witness6 (enc := enc) (C := Try.checked) false ⟨#[], #[.slice none 0 0, .int .i64 0, .int .i64 0, .int .i64 0], []⟩ 8 (by kernel_rfl) (by kernel_rfl) (by kernel_rfl) (by kernel_rfl)) ?_
  intro W base args ds gs before hval0 hW hcnd _
  have hval : ∀ (j : Nat) t v, Try.f4.params[j]? = some t → args[j]? = some v → Value.okWide Try.prog W .any base t v := hval0
  have hW' := hW
  obtain ⟨p, q, hA0, hV, rfl, hfz, hnd⟩ := hW
  have hA : DataW.TrodAll enc Try.prog W 0 (fun _ => true) true Try.f4.params.toList args.toList ds p := hA0
  rw [Try.params4] at hA hval
  obtain ⟨v0, vs0, d0, ds0, p0, q0, hargs, rfl, rfl, h0, r0⟩ := trodAll_cons hA
  obtain ⟨v1, vs1, d1, ds1, p1, q1, rfl, rfl, rfl, h1, r1⟩ := trodAll_cons r0
  obtain ⟨v2, vs2, d2, ds2, p2, q2, rfl, rfl, rfl, h2, r2⟩ := trodAll_cons r1
  obtain ⟨v3, vs3, d3, ds3, p3, q3, rfl, rfl, rfl, h3, r3⟩ := trodAll_cons r2
  obtain ⟨rfl, rfl, rfl⟩ := trodAll_nil r3
  obtain rfl : args = #[v0, v1, v2, v3] := by cases args; simp_all
  obtain ⟨rfl, rfl⟩ := trodVars_none hV
  obtain ⟨a0, len0, cap0, rfl⟩ := okWide_slice Try.underlying28 (hval 0 28 v0 rfl rfl)
  have k0 := h0
  have lt0 : ∀ x ∈ p0, x.block < W.heap.size := by obtain ⟨m, hm⟩ := k0; exact DataW.trod_lt m _ _ _ hm
  obtain ⟨z0, w0⟩ : ∃ zs, IsRow .u32 W a0 len0 cap0 zs := by
    obtain ⟨fuel, hf⟩ := h0
    rcases open_ints Try.underlying28 Try.underlying31 (by kernel_rfl) hf with ⟨hcs, _⟩ | ⟨x, l, c, zs, hcs, _, hl, hm, hz, _, hcell, hwz⟩
    · simp [Value.cells] at hcs
      obtain ⟨rfl, rfl, rfl⟩ := hcs
      exact ⟨[], .inl ⟨rfl, rfl, rfl, rfl⟩⟩
    · simp [Value.cells] at hcs
      obtain ⟨rfl, rfl, rfl⟩ := hcs
      exact ⟨zs, .inr ⟨_, rfl, hl, hm, by simpa using hz, hcell, hwz⟩⟩
  obtain ⟨a1, rfl, rfl, rfl, w1⟩ := open_int Try.underlying3 (hval 1 3 v1 rfl rfl) h1
  obtain ⟨a2, rfl, rfl, rfl, w2⟩ := open_int Try.underlying3 (hval 2 3 v2 rfl rfl) h2
  obtain ⟨a3, rfl, rfl, rfl, w3⟩ := open_int Try.underlying3 (hval 3 3 v3 rfl rfl) h3
  clear hA0 hval0
  refine (walk a0 len0 cap0 z0 a1 a2 a3 W w0 w1 w2 w3).mono fun e W' ⟨he, bel⟩ => ?_
  subst he
  exact ⟨_, rfl, _, _, _, [], _, [], hW', trodAll_mk1 (shut_bool Try.underlying4 _), (trodAll_cons_mk (Below.trod laidOut (by kernel_rfl) (of_decide_eq_true (by kernel_rfl)) k0 bel lt0) (trodAll_cons_mk (shut_int Try.underlying3 w1) (trodAll_cons_mk (shut_int Try.underlying3 w2) (trodAll_cons_mk (shut_int Try.underlying3 w3) trodAll_mk0)))), rfl, bel.frame _, fun h => by cases h⟩

theorem over : Rows.storeMovesRow.holds Try.pinned (OpenSpec.ofChange Rows.storeMovesSpec) :=
  OpenClaim.holds_of_wide 4 Try.f4 rfl rfl rfl rfl rfl rfl rfl ⟨rfl, rfl, rfl, rfl, rfl⟩ rfl rfl rfl rfl rfl (by kernel_rfl) Try.func4 (by kernel_rfl)
    (of_decide_eq_true (by kernel_rfl)) (by unfold Func.isWrapper; first | (rw [if_pos (by decide +kernel)]; kernel_rfl) | (rw [if_neg (by decide +kernel)]; exact ⟨rfl, rfl⟩))
    (fun os started H enc _ => lifted os started H enc)

/-- THE STATEMENT -/
theorem proved : Rows.StoreMovesSaid := over
#print axioms proved
end Go.Proofs.Ytjeminkcaofgaaa.storeMoves
