/- The reference's own answer of chapter 5: Make. -/
import Derived.Test.YtljgnmbjidkjnaaRefU
import Derived.Deep.RegionHeld3
namespace Go.Proofs.Ytljgnmbjidkjnaa.Rf5
open Go.Proofs.Ytljgnmbjidkjnaa.Gen Go.Proofs.Ytljgnmbjidkjnaa.Base Go.Proofs.Ytljgnmbjidkjnaa.Fr Go.Proofs.Ytljgnmbjidkjnaa.Hp Go.Proofs.Ytljgnmbjidkjnaa.Rf4 Go.ChangeShapes Go.WideShapes Go.ChangeAt Go.RowKit
set_option linter.unusedVariables false
section
variable {w w' u1 u : World} {h r g : Nat} {lv : Value} {obs : List Ob} {l : List Bool} {ob : Nat} {p : Ob}
set_option maxHeartbeats 8000000 in
set_option maxRecDepth 100000 in
theorem r5_Make_ok3 (hR : R5 w h r g lv obs l) (f n S O : Nat) (E : Int) (hk : Kind f n S O E) (h3 : f = 3) (c hs : Nat) (hc : c ≤ 65536) (hh : hs ≤ 3000) (A m : Nat) (hB : Best (Run l) (3 + S) A m) (A1 : Nat) (hA1 : A1 = A + 1) (hnew : ∀ o ∈ obs, o.pos ≠ A1) (hfew1 : obs.length < 65536) :
    Calls Try.prog 13 #[.pointer (some ⟨h, 0, none⟩), .int .i64 f, .int .i64 n, .int .i64 c, .int .i64 hs] w fun e w' => e = .returned (.tuple #[.int .i64 (A1 : Nat), .bool true]) ∧ ∃ (k : Nat) (fv lv' : Value), k ≤ obs.length ∧ R5 w' h r g lv' (obs.take k ++ mkOb A1 (3 + S) f c hs (.slice none 0 0) [] fv (List.replicate n 0) :: obs.drop k) (setR l A (3 + S) false) ∧ Nx5 (own5 h r g lv obs) w (own5 h r g lv' (obs.take k ++ mkOb A1 (3 + S) f c hs (.slice none 0 0) [] fv (List.replicate n 0) :: obs.drop k)) w' := by
  obtain ⟨E0, E1, S1, O1, f1, f2, n2⟩ := u32E hk
  obtain ⟨T, hT, hT2⟩ : ∃ T : Nat, 3 + (S : Int) = (T : Int) ∧ T = 3 + S := ⟨3 + S, by push_cast; rfl, rfl⟩
  have htk := r4_Take hR.fr T A m (by omega) (by rw [hT2]; exact hB)
  have hAl : A + 3 + S ≤ l.length := by have := hB.run.le; have := hB.fits; omega
  have hll := hR.fr.len
  obtain ⟨-, k1⟩ := hR.c0
  have d3 : ((f : Int) == 3) = true := by simp; omega
  have d4 : ((f : Int) != 3) = false := by simp; omega
  have q1 : ((n : Int) + 3) / 4 = (S : Int) := by unfold Kind at hk; omega
  have n3 : (n : Int) ≤ 200 := by omega
  have hmk := mk_y n (by omega)
  have b1 : ¬ (f : Int) < 1 := by omega
  have b2 : ¬ 3 < (f : Int) := by omega
  have b3 : ¬ (n : Int) < 0 := by omega
  have b4 : ¬ 200 < (n : Int) := by omega
  have b5 : ¬ (c : Int) < 0 := by omega
  have b6 : ¬ 65536 < (c : Int) := by omega
  have b7 : ¬ (hs : Int) < 0 := by omega
  have b8 : ¬ 3000 < (hs : Int) := by omega
  have b9 : 0 ≤ (n : Int) := by omega
  have hA2 : (A : Int) + 1 = (A1 : Int) := by omega
  have hz : ∀ u, Sem.run Try.prog (zeroValue 47) u = .ok (.agg #[.int .i64 0, .int .i64 0, .int .i64 0, .int .i64 0, .int .i64 0, .slice none 0 0, .slice none 0 0, .int .i64 0, .bool false]) u := z9_run
  have HR := Lib.hid hR; have HT2 := Lib.hid hT2; have HNEW := Lib.hid hnew; have HA1 := Lib.hid hA1
  clear hR hB hk h3 hT2 hnew hA1
  go_enter Try.func13, Try.ntmps13
  go_wp2_with fail
  refine htk.mono ?_
  rintro e u1 ⟨rfl, hF, hG⟩
  have HR1 : Hid (R5 u1 h r g lv obs (setR l A T false)) := Lib.hid (R5.newF HR.out hG hF)
  have HNG : Hid (Nx5 (own5 h r g lv obs) w (own5 h r g lv obs) u1) := Lib.hid (Nx5.ofG4 (.inr (.inr (.inl rfl))) (fun _ hk => hk) hG)
  clear htk hF hG HR k1
  dsimp only
  have hfs0 := Fresh.start u1 A1 T f c hs
  have hfb := hfs0.bytes n (by omega)
  have c6a : ∀ x, ((u1.alloc (.cells #[.int .i64 (A1 : Nat), .int .i64 (T : Nat), .int .i64 (f : Nat), .int .i64 (c : Nat), .int .i64 (hs : Nat), .slice none 0 0, .slice none 0 0, .int .i64 0, .bool false] 47)).alloc x).cell? ⟨u1.heap.size, 6, none⟩ = some (.slice none 0 0) := fun x => (World.cell?_alloc_lt _ x _ hfs0.lt).trans (hfs0.cell (j := 6) rfl)
  have fz6a : ∀ x, ((u1.alloc (.cells #[.int .i64 (A1 : Nat), .int .i64 (T : Nat), .int .i64 (f : Nat), .int .i64 (c : Nat), .int .i64 (hs : Nat), .slice none 0 0, .slice none 0 0, .int .i64 0, .bool false] 47)).alloc x).frozen? ⟨u1.heap.size, 6, none⟩ = false := fun x => frozen_of_row _ u1.heap.size 6 _ _ ((heap_alloc_old _ _ hfs0.lt).trans hfs0.row)
  rw [show (u1.alloc (.cells (mkOb A1 T f c hs (.slice none 0 0) [] (.slice none 0 0) []).cells.toArray 47)).heap.size = u1.heap.size + 1 by simp] at hfb
  rw [World.setCell_alloc_past _ _ _ _ hfs0.lt, World.setCell_alloc_at _ _ _ _ _ rfl] at hfb
  have HFR0 := Lib.hid hfb
  clear hfs0 hfb
  have hlh : h < u1.heap.size := HR1.out.lt (.inl rfl)
  go_wp2_with (refine wpList_store_row rfl 47 (Operand.tmp 16) (Operand.tmp 83) rfl u1.heap.size #[.int .i64 (A1 : Nat), .int .i64 (T : Nat), .int .i64 (f : Nat), .int .i64 (c : Nat), .int .i64 (hs : Nat), .slice none 0 0, .slice none 0 0, .int .i64 0, .bool false] rfl rfl _ _ (heap_alloc_new u1 _) info9 rfl rfl ?_; rw [World.setRow_alloc_new])
  go_loopw [17] (fun v17 wr => v17 = .int .i64 0 ∧ Fresh u1 wr u1.heap.size (mkOb A1 T f c hs (.slice none 0 0) [] (.slice (some ⟨u1.heap.size + 1, 0, none⟩) n n) (List.replicate n 0))) (fun v17 wr => 0)
  case atStart => exact ⟨rfl, HFR0.out⟩
  case round =>
    obtain ⟨rfl, hFr⟩ := hrel
    have HBL : Hid (∀ wq, Fresh u1 wq u1.heap.size (mkOb A1 T f c hs (.slice none 0 0) [] (.slice (some ⟨u1.heap.size + 1, 0, none⟩) n n) (List.replicate n 0)) → R5 wq h r g lv obs (setR l A T false)) := Lib.hid fun wq hq => HR1.out.keep fun j hj => hq.below.block j (HR1.out.lt hj)
    have HFR := Lib.hid hFr
    clear hFr HFR0
    go_upto_region 15 with fail
    go_cut [95] (fun s95 wx => s95 = .bool false ∧ wr = wx)
    case first =>
      by_cases c1 : 0 < n
      · have t1 : (0 : Int) < (n : Int) := by omega
        go_wp2_with fail
        go_meet
        exact ⟨rfl, rfl⟩
      · have t1 : ¬ (0 : Int) < (n : Int) := by omega
        go_wp2_with fail
        go_meet
        exact ⟨by first | rfl | (congr 1; simp; omega), rfl⟩
    case rest =>
      obtain ⟨rfl, rfl⟩ := hcut
      go_wp2_with fail
      go_loopw [18] (fun v18 wq => ∃ k2 : Nat, k2 ≤ obs.length ∧ v18 = .int .i64 k2 ∧ (∀ (q : Nat) o, q < k2 → obs[q]? = some o → o.pos < A1) ∧ Fresh u1 wq u1.heap.size (mkOb A1 T f c hs (.slice none 0 0) [] (.slice (some ⟨u1.heap.size + 1, 0, none⟩) n n) (List.replicate n 0))) (fun v18 wq => obs.length - (intOf v18).toNat)
      case atStart => exact ⟨0, Nat.zero_le _, rfl, fun q o hq => by omega, HFR.out⟩
      case round =>
        obtain ⟨k2, hk2, rfl, hlo, hFq⟩ := hrel
        have hRq := HBL.out wr hFq
        obtain ⟨c0, -⟩ := hRq.c0
        obtain ⟨la, cap, hlv, hcap, hc⟩ := own_obs hRq.ls
        subst hlv
        have hfew := hRq.few
        have oc0 := hFq.cell (j := 0) rfl
        have HLO := Lib.hid hlo; have HFQ := Lib.hid hFq; have HRQ := Lib.hid hRq; have HC := Lib.hid hc
        clear hlo hFq hRq hc
        by_cases hlt : k2 < obs.length
        · have t1 : (k2 : Int) < (obs.length : Int) := by omega
          have t0 : (0 : Int) ≤ (k2 : Int) := by omega
          obtain ⟨o, ho⟩ : ∃ o, obs[k2]? = some o := ⟨_, List.getElem?_eq_getElem hlt⟩
          obtain ⟨g', rfl, hcell⟩ := HC.out k2 o ho
          have c1 := hcell 0 _ (by omega) rfl
          rw [Nat.add_zero] at c1
          have HOB := Lib.hid ho
          clear hcell ho
          by_cases hp : o.pos < A1
          · have t2 : (o.pos : Int) < (A1 : Int) := by omega
            go_upto_region 19 with fail
            refine wp_region_held_drew (S := (fun w' => w'.cell? ⟨h, 0, none⟩ = some (.slice (some ⟨g', 0, none⟩) obs.length cap) ∧ w'.cell? ⟨g', k2 * 9, none⟩ = some (.int .i64 (o.pos : Nat)) ∧ w'.cell? ⟨u1.heap.size, 0, none⟩ = some (.int .i64 (A1 : Nat)))) (by kernel_rfl) ?_ (fun hH0 => ?_)
            · (try dsimp only); exact ⟨c0, c1, oc0⟩
            refine wpAnyH_take (i := 0) (oi := { dst := some 104, op := Op.move (Operand.tmp 18), type := 3, pos := "ref.go:64", after := #[], guard := none }) (v := ?v43) rfl (by kernel_rfl) (by kernel_rfl) (by kernel_rfl) (fun _ _ _ h => h) (Or.inl ⟨by rfl, ?hy43⟩) (by assumption) ?_
            case hy43 => intro w hSw; (try dsimp only at hSw); go_simp; (try with_reducible rfl)
            try simp only [Act.put, List.setIfInBounds_toArray, List.set_cons_zero, List.set_cons_succ]
            refine wpAnyH_take (i := 1) (oi := { dst := some 105, op := Op.move (Operand.tmp 0), type := 26, pos := "ref.go:64", after := #[], guard := none }) (v := ?v44) rfl (by kernel_rfl) (by kernel_rfl) (by kernel_rfl) (fun _ _ _ h => h) (Or.inl ⟨by rfl, ?hy44⟩) (by assumption) ?_
            case hy44 => intro w hSw; (try dsimp only at hSw); go_simp; (try with_reducible rfl)
            try simp only [Act.put, List.setIfInBounds_toArray, List.set_cons_zero, List.set_cons_succ]
            refine wpAnyH_take (i := 2) (oi := { dst := some 106, op := Op.nilCheck (Operand.tmp 105), type := 0, pos := "ref.go:64", after := #[{ on := 1, ground := Ground.data }], guard := none }) (v := ?v45) rfl (by kernel_rfl) (by kernel_rfl) (by kernel_rfl) (fun _ _ _ h => h) (Or.inl ⟨by rfl, ?hy45⟩) (by assumption) ?_
            case hy45 => intro w hSw; (try dsimp only at hSw); go_simp; (try with_reducible rfl)
            try simp only [Act.put, List.setIfInBounds_toArray, List.set_cons_zero, List.set_cons_succ]
            refine wpAnyH_take (i := 3) (oi := { dst := some 107, op := Op.fieldAddr 43 (Operand.tmp 106) 0, type := 0, pos := "ref.go:64", after := #[{ on := 2, ground := Ground.data }], guard := none }) (v := ?v46) rfl (by kernel_rfl) (by kernel_rfl) (by kernel_rfl) (fun _ _ _ h => h) (Or.inl ⟨by rfl, ?hy46⟩) (by assumption) ?_
            case hy46 => intro w hSw; (try dsimp only at hSw); go_simp; (try with_reducible rfl)
            try simp only [Act.put, List.setIfInBounds_toArray, List.set_cons_zero, List.set_cons_succ]
            refine wpAnyH_take (i := 4) (oi := { dst := some 108, op := Op.load 40 (Operand.tmp 107), type := 40, pos := "ref.go:64", after := #[{ on := 3, ground := Ground.data }], guard := none }) (v := ?v47) rfl (by kernel_rfl) (by kernel_rfl) (by kernel_rfl) (fun _ _ _ h => h) (Or.inl ⟨by rfl, ?hy47⟩) (by assumption) ?_
            case hy47 => intro w hSw; (try dsimp only at hSw); go_simp; (try with_reducible rfl)
            try simp only [Act.put, List.setIfInBounds_toArray, List.set_cons_zero, List.set_cons_succ]
            refine wpAnyH_take (i := 5) (oi := { dst := some 109, op := Op.call { callee := Callee.builtin Builtin.len, args := #[Operand.tmp 108], argTypes := #[40] }, type := 3, pos := "ref.go:64", after := #[{ on := 4, ground := Ground.data }], guard := none }) (v := ?v48) rfl (by kernel_rfl) (by kernel_rfl) (by kernel_rfl) (fun _ _ _ h => h) (Or.inl ⟨by rfl, ?hy48⟩) (by assumption) ?_
            case hy48 => intro w hSw; (try dsimp only at hSw); go_simp; (try with_reducible rfl)
            try simp only [Act.put, List.setIfInBounds_toArray, List.set_cons_zero, List.set_cons_succ]
            refine wpAnyH_take (i := 6) (oi := { dst := some 110, op := Op.binOp BinOp.lss 3 (Operand.tmp 104) (Operand.tmp 109) 3, type := 4, pos := "ref.go:64", after := #[{ on := 0, ground := Ground.data }, { on := 5, ground := Ground.data }], guard := none }) (v := ?v49) rfl (by kernel_rfl) (by kernel_rfl) (by kernel_rfl) (fun _ _ _ h => h) (Or.inl ⟨by rfl, ?hy49⟩) (by assumption) ?_
            case hy49 => intro w hSw; (try dsimp only at hSw); go_simp; (try with_reducible rfl)
            try simp only [Act.put, List.setIfInBounds_toArray, List.set_cons_zero, List.set_cons_succ]
            refine wpAnyH_take (i := 7) (oi := { dst := some 111, op := Op.move (Operand.tmp 110), type := 4, pos := "ref.go:64", after := #[{ on := 6, ground := Ground.data }], guard := none }) (v := ?v50) rfl (by kernel_rfl) (by kernel_rfl) (by kernel_rfl) (fun _ _ _ h => h) (Or.inl ⟨by rfl, ?hy50⟩) (by assumption) ?_
            case hy50 => intro w hSw; (try dsimp only at hSw); go_simp; (try with_reducible rfl)
            try simp only [Act.put, List.setIfInBounds_toArray, List.set_cons_zero, List.set_cons_succ]
            refine wpAnyH_take (i := 8) (oi := { dst := some 112, op := Op.move (Operand.tmp 0), type := 26, pos := "ref.go:64", after := #[{ on := 7, ground := Ground.guard }], guard := some (7, true) }) (v := ?v51) rfl (by kernel_rfl) (by kernel_rfl) (by kernel_rfl) (fun _ _ _ h => h) (Or.inl ⟨by rfl, ?hy51⟩) (by assumption) ?_
            case hy51 => intro w hSw; (try dsimp only at hSw); go_simp; (try with_reducible rfl)
            try simp only [Act.put, List.setIfInBounds_toArray, List.set_cons_zero, List.set_cons_succ]
            refine wpAnyH_take (i := 9) (oi := { dst := some 113, op := Op.nilCheck (Operand.tmp 112), type := 0, pos := "ref.go:64", after := #[{ on := 8, ground := Ground.data }, { on := 7, ground := Ground.guard }], guard := some (7, true) }) (v := ?v52) rfl (by kernel_rfl) (by kernel_rfl) (by kernel_rfl) (fun _ _ _ h => h) (Or.inl ⟨by rfl, ?hy52⟩) (by assumption) ?_
            case hy52 => intro w hSw; (try dsimp only at hSw); go_simp; (try with_reducible rfl)
            try simp only [Act.put, List.setIfInBounds_toArray, List.set_cons_zero, List.set_cons_succ]
            refine wpAnyH_take (i := 10) (oi := { dst := some 114, op := Op.fieldAddr 43 (Operand.tmp 113) 0, type := 0, pos := "ref.go:64", after := #[{ on := 9, ground := Ground.data }, { on := 7, ground := Ground.guard }], guard := some (7, true) }) (v := ?v53) rfl (by kernel_rfl) (by kernel_rfl) (by kernel_rfl) (fun _ _ _ h => h) (Or.inl ⟨by rfl, ?hy53⟩) (by assumption) ?_
            case hy53 => intro w hSw; (try dsimp only at hSw); go_simp; (try with_reducible rfl)
            try simp only [Act.put, List.setIfInBounds_toArray, List.set_cons_zero, List.set_cons_succ]
            refine wpAnyH_take (i := 11) (oi := { dst := some 115, op := Op.load 40 (Operand.tmp 114), type := 40, pos := "ref.go:64", after := #[{ on := 10, ground := Ground.data }, { on := 7, ground := Ground.guard }], guard := some (7, true) }) (v := ?v54) rfl (by kernel_rfl) (by kernel_rfl) (by kernel_rfl) (fun _ _ _ h => h) (Or.inl ⟨by rfl, ?hy54⟩) (by assumption) ?_
            case hy54 => intro w hSw; (try dsimp only at hSw); go_simp; (try with_reducible rfl)
            try simp only [Act.put, List.setIfInBounds_toArray, List.set_cons_zero, List.set_cons_succ]
            refine wpAnyH_take (i := 12) (oi := { dst := some 116, op := Op.move (Operand.tmp 18), type := 3, pos := "ref.go:64", after := #[{ on := 7, ground := Ground.guard }], guard := some (7, true) }) (v := ?v55) rfl (by kernel_rfl) (by kernel_rfl) (by kernel_rfl) (fun _ _ _ h => h) (Or.inl ⟨by rfl, ?hy55⟩) (by assumption) ?_
            case hy55 => intro w hSw; (try dsimp only at hSw); go_simp; (try with_reducible rfl)
            try simp only [Act.put, List.setIfInBounds_toArray, List.set_cons_zero, List.set_cons_succ]
            refine wpAnyH_take (i := 13) (oi := { dst := some 117, op := Op.indexAddr 40 (Operand.tmp 115) (Operand.tmp 116), type := 0, pos := "ref.go:64", after := #[{ on := 11, ground := Ground.data }, { on := 12, ground := Ground.data }, { on := 7, ground := Ground.guard }], guard := some (7, true) }) (v := ?v56) rfl (by kernel_rfl) (by kernel_rfl) (by kernel_rfl) (fun _ _ _ h => h) (Or.inl ⟨by rfl, ?hy56⟩) (by assumption) ?_
            case hy56 => intro w hSw; (try dsimp only at hSw); go_simp; (try with_reducible rfl)
            try simp only [Act.put, List.setIfInBounds_toArray, List.set_cons_zero, List.set_cons_succ]
            refine wpAnyH_take (i := 14) (oi := { dst := some 118, op := Op.fieldAddr 47 (Operand.tmp 117) 0, type := 0, pos := "ref.go:64", after := #[{ on := 13, ground := Ground.data }, { on := 7, ground := Ground.guard }], guard := some (7, true) }) (v := ?v57) rfl (by kernel_rfl) (by kernel_rfl) (by kernel_rfl) (fun _ _ _ h => h) (Or.inl ⟨by rfl, ?hy57⟩) (by assumption) ?_
            case hy57 => intro w hSw; (try dsimp only at hSw); go_simp; (try with_reducible rfl)
            try simp only [Act.put, List.setIfInBounds_toArray, List.set_cons_zero, List.set_cons_succ]
            refine wpAnyH_take (i := 15) (oi := { dst := some 119, op := Op.load 3 (Operand.tmp 118), type := 3, pos := "ref.go:64", after := #[{ on := 14, ground := Ground.data }, { on := 7, ground := Ground.guard }], guard := some (7, true) }) (v := ?v58) rfl (by kernel_rfl) (by kernel_rfl) (by kernel_rfl) (fun _ _ _ h => h) (Or.inl ⟨by rfl, ?hy58⟩) (by assumption) ?_
            case hy58 => intro w hSw; (try dsimp only at hSw); go_simp; (try with_reducible rfl)
            try simp only [Act.put, List.setIfInBounds_toArray, List.set_cons_zero, List.set_cons_succ]
            refine wpAnyH_take (i := 16) (oi := { dst := some 120, op := Op.fieldAddr 47 (Operand.tmp 16) 0, type := 0, pos := "ref.go:64", after := #[{ on := 7, ground := Ground.guard }], guard := some (7, true) }) (v := ?v59) rfl (by kernel_rfl) (by kernel_rfl) (by kernel_rfl) (fun _ _ _ h => h) (Or.inl ⟨by rfl, ?hy59⟩) (by assumption) ?_
            case hy59 => intro w hSw; (try dsimp only at hSw); go_simp; (try with_reducible rfl)
            try simp only [Act.put, List.setIfInBounds_toArray, List.set_cons_zero, List.set_cons_succ]
            refine wpAnyH_take (i := 17) (oi := { dst := some 121, op := Op.load 3 (Operand.tmp 120), type := 3, pos := "ref.go:64", after := #[{ on := 16, ground := Ground.data }, { on := 7, ground := Ground.guard }], guard := some (7, true) }) (v := ?v60) rfl (by kernel_rfl) (by kernel_rfl) (by kernel_rfl) (fun _ _ _ h => h) (Or.inl ⟨by rfl, ?hy60⟩) (by assumption) ?_
            case hy60 => intro w hSw; (try dsimp only at hSw); go_simp; (try with_reducible rfl)
            try simp only [Act.put, List.setIfInBounds_toArray, List.set_cons_zero, List.set_cons_succ]
            refine wpAnyH_take (i := 18) (oi := { dst := some 122, op := Op.binOp BinOp.lss 3 (Operand.tmp 119) (Operand.tmp 121) 3, type := 4, pos := "ref.go:64", after := #[{ on := 15, ground := Ground.data }, { on := 17, ground := Ground.data }, { on := 7, ground := Ground.guard }], guard := some (7, true) }) (v := ?v61) rfl (by kernel_rfl) (by kernel_rfl) (by kernel_rfl) (fun _ _ _ h => h) (Or.inl ⟨by rfl, ?hy61⟩) (by assumption) ?_
            case hy61 => intro w hSw; (try dsimp only at hSw); go_simp; (try with_reducible rfl)
            try simp only [Act.put, List.setIfInBounds_toArray, List.set_cons_zero, List.set_cons_succ]
            refine wpAnyH_take (i := 19) (oi := { dst := some 123, op := Op.pick (Operand.tmp 111) (Operand.tmp 122) (Operand.const (Value.bool false)), type := 4, pos := "ref.go:64", after := #[{ on := 7, ground := Ground.data }, { on := 18, ground := Ground.data }], guard := none }) (v := ?v62) rfl (by kernel_rfl) (by kernel_rfl) (by kernel_rfl) (fun _ _ _ h => h) (Or.inl ⟨by rfl, ?hy62⟩) (by assumption) ?_
            case hy62 => intro w hSw; (try dsimp only at hSw); go_simp; (try with_reducible rfl)
            try simp only [Act.put, List.setIfInBounds_toArray, List.set_cons_zero, List.set_cons_succ]
            refine wpAnyH_done (by kernel_rfl) ?_ _
            go_wp2_with fail
            refine ⟨⟨k2 + 1, by omega, by simp, fun q o' hq ho' => ?_, HFQ.out.keep ⟨rfl, rfl, rfl, Nat.le_refl _, fun _ _ => rfl⟩⟩, by simp only [intOf]; omega⟩
            by_cases e : q = k2
            · subst e; rw [HOB.out] at ho'; cases ho'; exact hp
            · exact HLO.out q o' (by omega) ho'
          · have t2 : ¬ (o.pos : Int) < (A1 : Int) := by omega
            have HF6 := Lib.hid (lo_take (A := A1) HLO.out)
            have HF7 := Lib.hid (hi_drop (A := A1) HRQ.out.srt HOB.out (by have := HNEW.out o (List.mem_of_getElem? HOB.out); omega))
            have hk2' : k2 ≤ cap := by omega
            go_upto_region 19 with fail
            refine wp_region_held_drew (S := (fun w' => w'.cell? ⟨h, 0, none⟩ = some (.slice (some ⟨g', 0, none⟩) obs.length cap) ∧ w'.cell? ⟨g', k2 * 9, none⟩ = some (.int .i64 (o.pos : Nat)) ∧ w'.cell? ⟨u1.heap.size, 0, none⟩ = some (.int .i64 (A1 : Nat)))) (by kernel_rfl) ?_ (fun hH0 => ?_)
            · (try dsimp only); exact ⟨c0, c1, oc0⟩
            refine wpAnyH_take (i := 0) (oi := { dst := some 104, op := Op.move (Operand.tmp 18), type := 3, pos := "ref.go:64", after := #[], guard := none }) (v := ?v5) rfl (by kernel_rfl) (by kernel_rfl) (by kernel_rfl) (fun _ _ _ h => h) (Or.inl ⟨by rfl, ?hy5⟩) (by assumption) ?_
            case hy5 => intro w hSw; (try dsimp only at hSw); go_simp; (try with_reducible rfl)
            try simp only [Act.put, List.setIfInBounds_toArray, List.set_cons_zero, List.set_cons_succ]
            refine wpAnyH_take (i := 1) (oi := { dst := some 105, op := Op.move (Operand.tmp 0), type := 26, pos := "ref.go:64", after := #[], guard := none }) (v := ?v6) rfl (by kernel_rfl) (by kernel_rfl) (by kernel_rfl) (fun _ _ _ h => h) (Or.inl ⟨by rfl, ?hy6⟩) (by assumption) ?_
            case hy6 => intro w hSw; (try dsimp only at hSw); go_simp; (try with_reducible rfl)
            try simp only [Act.put, List.setIfInBounds_toArray, List.set_cons_zero, List.set_cons_succ]
            refine wpAnyH_take (i := 2) (oi := { dst := some 106, op := Op.nilCheck (Operand.tmp 105), type := 0, pos := "ref.go:64", after := #[{ on := 1, ground := Ground.data }], guard := none }) (v := ?v7) rfl (by kernel_rfl) (by kernel_rfl) (by kernel_rfl) (fun _ _ _ h => h) (Or.inl ⟨by rfl, ?hy7⟩) (by assumption) ?_
            case hy7 => intro w hSw; (try dsimp only at hSw); go_simp; (try with_reducible rfl)
            try simp only [Act.put, List.setIfInBounds_toArray, List.set_cons_zero, List.set_cons_succ]
            refine wpAnyH_take (i := 3) (oi := { dst := some 107, op := Op.fieldAddr 43 (Operand.tmp 106) 0, type := 0, pos := "ref.go:64", after := #[{ on := 2, ground := Ground.data }], guard := none }) (v := ?v8) rfl (by kernel_rfl) (by kernel_rfl) (by kernel_rfl) (fun _ _ _ h => h) (Or.inl ⟨by rfl, ?hy8⟩) (by assumption) ?_
            case hy8 => intro w hSw; (try dsimp only at hSw); go_simp; (try with_reducible rfl)
            try simp only [Act.put, List.setIfInBounds_toArray, List.set_cons_zero, List.set_cons_succ]
            refine wpAnyH_take (i := 4) (oi := { dst := some 108, op := Op.load 40 (Operand.tmp 107), type := 40, pos := "ref.go:64", after := #[{ on := 3, ground := Ground.data }], guard := none }) (v := ?v9) rfl (by kernel_rfl) (by kernel_rfl) (by kernel_rfl) (fun _ _ _ h => h) (Or.inl ⟨by rfl, ?hy9⟩) (by assumption) ?_
            case hy9 => intro w hSw; (try dsimp only at hSw); go_simp; (try with_reducible rfl)
            try simp only [Act.put, List.setIfInBounds_toArray, List.set_cons_zero, List.set_cons_succ]
            refine wpAnyH_take (i := 5) (oi := { dst := some 109, op := Op.call { callee := Callee.builtin Builtin.len, args := #[Operand.tmp 108], argTypes := #[40] }, type := 3, pos := "ref.go:64", after := #[{ on := 4, ground := Ground.data }], guard := none }) (v := ?v10) rfl (by kernel_rfl) (by kernel_rfl) (by kernel_rfl) (fun _ _ _ h => h) (Or.inl ⟨by rfl, ?hy10⟩) (by assumption) ?_
            case hy10 => intro w hSw; (try dsimp only at hSw); go_simp; (try with_reducible rfl)
            try simp only [Act.put, List.setIfInBounds_toArray, List.set_cons_zero, List.set_cons_succ]
            refine wpAnyH_take (i := 6) (oi := { dst := some 110, op := Op.binOp BinOp.lss 3 (Operand.tmp 104) (Operand.tmp 109) 3, type := 4, pos := "ref.go:64", after := #[{ on := 0, ground := Ground.data }, { on := 5, ground := Ground.data }], guard := none }) (v := ?v11) rfl (by kernel_rfl) (by kernel_rfl) (by kernel_rfl) (fun _ _ _ h => h) (Or.inl ⟨by rfl, ?hy11⟩) (by assumption) ?_
            case hy11 => intro w hSw; (try dsimp only at hSw); go_simp; (try with_reducible rfl)
            try simp only [Act.put, List.setIfInBounds_toArray, List.set_cons_zero, List.set_cons_succ]
            refine wpAnyH_take (i := 7) (oi := { dst := some 111, op := Op.move (Operand.tmp 110), type := 4, pos := "ref.go:64", after := #[{ on := 6, ground := Ground.data }], guard := none }) (v := ?v12) rfl (by kernel_rfl) (by kernel_rfl) (by kernel_rfl) (fun _ _ _ h => h) (Or.inl ⟨by rfl, ?hy12⟩) (by assumption) ?_
            case hy12 => intro w hSw; (try dsimp only at hSw); go_simp; (try with_reducible rfl)
            try simp only [Act.put, List.setIfInBounds_toArray, List.set_cons_zero, List.set_cons_succ]
            refine wpAnyH_take (i := 8) (oi := { dst := some 112, op := Op.move (Operand.tmp 0), type := 26, pos := "ref.go:64", after := #[{ on := 7, ground := Ground.guard }], guard := some (7, true) }) (v := ?v13) rfl (by kernel_rfl) (by kernel_rfl) (by kernel_rfl) (fun _ _ _ h => h) (Or.inl ⟨by rfl, ?hy13⟩) (by assumption) ?_
            case hy13 => intro w hSw; (try dsimp only at hSw); go_simp; (try with_reducible rfl)
            try simp only [Act.put, List.setIfInBounds_toArray, List.set_cons_zero, List.set_cons_succ]
            refine wpAnyH_take (i := 9) (oi := { dst := some 113, op := Op.nilCheck (Operand.tmp 112), type := 0, pos := "ref.go:64", after := #[{ on := 8, ground := Ground.data }, { on := 7, ground := Ground.guard }], guard := some (7, true) }) (v := ?v14) rfl (by kernel_rfl) (by kernel_rfl) (by kernel_rfl) (fun _ _ _ h => h) (Or.inl ⟨by rfl, ?hy14⟩) (by assumption) ?_
            case hy14 => intro w hSw; (try dsimp only at hSw); go_simp; (try with_reducible rfl)
            try simp only [Act.put, List.setIfInBounds_toArray, List.set_cons_zero, List.set_cons_succ]
            refine wpAnyH_take (i := 10) (oi := { dst := some 114, op := Op.fieldAddr 43 (Operand.tmp 113) 0, type := 0, pos := "ref.go:64", after := #[{ on := 9, ground := Ground.data }, { on := 7, ground := Ground.guard }], guard := some (7, true) }) (v := ?v15) rfl (by kernel_rfl) (by kernel_rfl) (by kernel_rfl) (fun _ _ _ h => h) (Or.inl ⟨by rfl, ?hy15⟩) (by assumption) ?_
            case hy15 => intro w hSw; (try dsimp only at hSw); go_simp; (try with_reducible rfl)
            try simp only [Act.put, List.setIfInBounds_toArray, List.set_cons_zero, List.set_cons_succ]
            refine wpAnyH_take (i := 11) (oi := { dst := some 115, op := Op.load 40 (Operand.tmp 114), type := 40, pos := "ref.go:64", after := #[{ on := 10, ground := Ground.data }, { on := 7, ground := Ground.guard }], guard := some (7, true) }) (v := ?v16) rfl (by kernel_rfl) (by kernel_rfl) (by kernel_rfl) (fun _ _ _ h => h) (Or.inl ⟨by rfl, ?hy16⟩) (by assumption) ?_
            case hy16 => intro w hSw; (try dsimp only at hSw); go_simp; (try with_reducible rfl)
            try simp only [Act.put, List.setIfInBounds_toArray, List.set_cons_zero, List.set_cons_succ]
            refine wpAnyH_take (i := 12) (oi := { dst := some 116, op := Op.move (Operand.tmp 18), type := 3, pos := "ref.go:64", after := #[{ on := 7, ground := Ground.guard }], guard := some (7, true) }) (v := ?v17) rfl (by kernel_rfl) (by kernel_rfl) (by kernel_rfl) (fun _ _ _ h => h) (Or.inl ⟨by rfl, ?hy17⟩) (by assumption) ?_
            case hy17 => intro w hSw; (try dsimp only at hSw); go_simp; (try with_reducible rfl)
            try simp only [Act.put, List.setIfInBounds_toArray, List.set_cons_zero, List.set_cons_succ]
            refine wpAnyH_take (i := 13) (oi := { dst := some 117, op := Op.indexAddr 40 (Operand.tmp 115) (Operand.tmp 116), type := 0, pos := "ref.go:64", after := #[{ on := 11, ground := Ground.data }, { on := 12, ground := Ground.data }, { on := 7, ground := Ground.guard }], guard := some (7, true) }) (v := ?v18) rfl (by kernel_rfl) (by kernel_rfl) (by kernel_rfl) (fun _ _ _ h => h) (Or.inl ⟨by rfl, ?hy18⟩) (by assumption) ?_
            case hy18 => intro w hSw; (try dsimp only at hSw); go_simp; (try with_reducible rfl)
            try simp only [Act.put, List.setIfInBounds_toArray, List.set_cons_zero, List.set_cons_succ]
            refine wpAnyH_take (i := 14) (oi := { dst := some 118, op := Op.fieldAddr 47 (Operand.tmp 117) 0, type := 0, pos := "ref.go:64", after := #[{ on := 13, ground := Ground.data }, { on := 7, ground := Ground.guard }], guard := some (7, true) }) (v := ?v19) rfl (by kernel_rfl) (by kernel_rfl) (by kernel_rfl) (fun _ _ _ h => h) (Or.inl ⟨by rfl, ?hy19⟩) (by assumption) ?_
            case hy19 => intro w hSw; (try dsimp only at hSw); go_simp; (try with_reducible rfl)
            try simp only [Act.put, List.setIfInBounds_toArray, List.set_cons_zero, List.set_cons_succ]
            refine wpAnyH_take (i := 15) (oi := { dst := some 119, op := Op.load 3 (Operand.tmp 118), type := 3, pos := "ref.go:64", after := #[{ on := 14, ground := Ground.data }, { on := 7, ground := Ground.guard }], guard := some (7, true) }) (v := ?v20) rfl (by kernel_rfl) (by kernel_rfl) (by kernel_rfl) (fun _ _ _ h => h) (Or.inl ⟨by rfl, ?hy20⟩) (by assumption) ?_
            case hy20 => intro w hSw; (try dsimp only at hSw); go_simp; (try with_reducible rfl)
            try simp only [Act.put, List.setIfInBounds_toArray, List.set_cons_zero, List.set_cons_succ]
            refine wpAnyH_take (i := 16) (oi := { dst := some 120, op := Op.fieldAddr 47 (Operand.tmp 16) 0, type := 0, pos := "ref.go:64", after := #[{ on := 7, ground := Ground.guard }], guard := some (7, true) }) (v := ?v21) rfl (by kernel_rfl) (by kernel_rfl) (by kernel_rfl) (fun _ _ _ h => h) (Or.inl ⟨by rfl, ?hy21⟩) (by assumption) ?_
            case hy21 => intro w hSw; (try dsimp only at hSw); go_simp; (try with_reducible rfl)
            try simp only [Act.put, List.setIfInBounds_toArray, List.set_cons_zero, List.set_cons_succ]
            refine wpAnyH_take (i := 17) (oi := { dst := some 121, op := Op.load 3 (Operand.tmp 120), type := 3, pos := "ref.go:64", after := #[{ on := 16, ground := Ground.data }, { on := 7, ground := Ground.guard }], guard := some (7, true) }) (v := ?v22) rfl (by kernel_rfl) (by kernel_rfl) (by kernel_rfl) (fun _ _ _ h => h) (Or.inl ⟨by rfl, ?hy22⟩) (by assumption) ?_
            case hy22 => intro w hSw; (try dsimp only at hSw); go_simp; (try with_reducible rfl)
            try simp only [Act.put, List.setIfInBounds_toArray, List.set_cons_zero, List.set_cons_succ]
            refine wpAnyH_take (i := 18) (oi := { dst := some 122, op := Op.binOp BinOp.lss 3 (Operand.tmp 119) (Operand.tmp 121) 3, type := 4, pos := "ref.go:64", after := #[{ on := 15, ground := Ground.data }, { on := 17, ground := Ground.data }, { on := 7, ground := Ground.guard }], guard := some (7, true) }) (v := ?v23) rfl (by kernel_rfl) (by kernel_rfl) (by kernel_rfl) (fun _ _ _ h => h) (Or.inl ⟨by rfl, ?hy23⟩) (by assumption) ?_
            case hy23 => intro w hSw; (try dsimp only at hSw); go_simp; (try with_reducible rfl)
            try simp only [Act.put, List.setIfInBounds_toArray, List.set_cons_zero, List.set_cons_succ]
            refine wpAnyH_take (i := 19) (oi := { dst := some 123, op := Op.pick (Operand.tmp 111) (Operand.tmp 122) (Operand.const (Value.bool false)), type := 4, pos := "ref.go:64", after := #[{ on := 7, ground := Ground.data }, { on := 18, ground := Ground.data }], guard := none }) (v := ?v24) rfl (by kernel_rfl) (by kernel_rfl) (by kernel_rfl) (fun _ _ _ h => h) (Or.inl ⟨by rfl, ?hy24⟩) (by assumption) ?_
            case hy24 => intro w hSw; (try dsimp only at hSw); go_simp; (try with_reducible rfl)
            try simp only [Act.put, List.setIfInBounds_toArray, List.set_cons_zero, List.set_cons_succ]
            refine wpAnyH_done (by kernel_rfl) ?_ _
            have HSRC : Hid (∀ u, Below wr.heap.size wr u → SrcO u (some ⟨g', 0, none⟩) obs.length (cellsL obs)) := Lib.hid fun u hb => SrcO.of_own (HRQ.out.keep (w' := u) fun k hk => hb.block k (HRQ.out.lt hk)).ls
            have HONE : Hid (∀ u ∈ cellsL obs, u.oneCell' = true) := Lib.hid HRQ.out.one
            have hlhq : h < wr.heap.size := HRQ.out.lt (.inl rfl)
            have hkc : k2 ≤ cap := by omega
            have hkc3 : k2 ≤ obs.length := by omega
            have hkc2 : 0 ≤ (k2 : Int) ∧ (k2 : Int) ≤ (obs.length : Int) := by omega
            have HPONE : Hid (∀ u ∈ ([.int .i64 (A1 : Nat), .int .i64 (T : Nat), .int .i64 (f : Nat), .int .i64 (c : Nat), .int .i64 (hs : Nat), .slice none 0 0, .slice (some ⟨u1.heap.size + 1, 0, none⟩) n n, .int .i64 0, .bool false] : List Value), u.oneCell' = true) := Lib.hid fun u hu => by
              simp only [List.mem_cons, List.not_mem_nil, or_false] at hu
              rcases hu with rfl | rfl | rfl | rfl | rfl | rfl | rfl | rfl | rfl <;> rfl
            have HFIN := Lib.hid (made_fin HR1.out HNG.out HFQ.out k2 (by omega) HF6.out HF7.out (by simp only [mkOb]; omega) hfew1)
            obtain ⟨AO, hAO⟩ : ∃ AO : Option Addr, (if cap = k2 then some ⟨g', 0, none⟩ else some ⟨g', k2 * 9, none⟩) = AO := ⟨_, rfl⟩
            have HAO := Lib.hid hAO
            go_wp2_with (at_builtin; refine wpl_appO rfl (.const (.slice none 0 0)) (.tmp 131) (by rfl) _ _ _ (by rfl) (World.ownsRow_nil _ _ _ _) _ _ _ (by rfl) (cellsL (obs.take k2)) ((HSRC.out _ (Fre.start1 wr).below).to (by omega) rfl) (fun u hu => HONE.out u (cellsL_take _ _ u hu)) (by omega) ?_)
            intro v1 u2 own1 g1 e1
            (try simp only [Nat.zero_add] at own1)
            obtain ⟨av1, cv1, rfl⟩ := own_slice own1
            have HF1 := Lib.hid ((Fre.start1 wr).app g1 e1); have HO1 := Lib.hid own1
            have k2c := (HF1.out.below.cell (p := ⟨h, 0, none⟩) (by exact hlhq)).trans c0
            have k2a : ∀ x, (u2.alloc x).cell? ⟨h, 0, none⟩ = some (.slice (some ⟨g', 0, none⟩) obs.length cap) := fun x => (World.cell?_alloc_lt u2 x _ (Nat.lt_of_lt_of_le hlhq HF1.out.below.size)).trans k2c
            have HRG : Hid (u2.rangeAt u1.heap.size 0 [.int .i64 (A1 : Nat), .int .i64 (T : Nat), .int .i64 (f : Nat), .int .i64 (c : Nat), .int .i64 (hs : Nat), .slice none 0 0, .slice (some ⟨u1.heap.size + 1, 0, none⟩) n n, .int .i64 0, .bool false]) := Lib.hid fun j u hu => by rw [Nat.zero_add]; exact (HFQ.out.keep HF1.out.below).cell hu
            clear own1 g1 e1
            go_upto_region 22 with fail
            refine wp_region_held_drew (S := (fun w' => True)) (by kernel_rfl) ?_ (fun hH0 => ?_)
            · (try dsimp only); (first | done | trivial)
            refine wpAnyH_take (i := 0) (oi := { dst := some 133, op := Op.move (Operand.tmp 0), type := 26, pos := "ref.go:68", after := #[], guard := none }) (v := ?v25) rfl (by kernel_rfl) (by kernel_rfl) (by kernel_rfl) (fun _ _ _ h => h) (Or.inl ⟨by rfl, ?hy25⟩) (by assumption) ?_
            case hy25 => intro w hSw; (try dsimp only at hSw); go_simp; (try simp only [if_pos hkc, if_pos hkc3, if_pos hkc2, Int.toNat_natCast, hAO]); (try with_reducible rfl)
            try simp only [Act.put, List.setIfInBounds_toArray, List.set_cons_zero, List.set_cons_succ]
            refine wpAnyH_take (i := 1) (oi := { dst := some 134, op := Op.move (Operand.tmp 19), type := 40, pos := "ref.go:68", after := #[], guard := none }) (v := ?v26) rfl (by kernel_rfl) (by kernel_rfl) (by kernel_rfl) (fun _ _ _ h => h) (Or.inl ⟨by rfl, ?hy26⟩) (by assumption) ?_
            case hy26 => intro w hSw; (try dsimp only at hSw); go_simp; (try simp only [if_pos hkc, if_pos hkc3, if_pos hkc2, Int.toNat_natCast, hAO]); (try with_reducible rfl)
            try simp only [Act.put, List.setIfInBounds_toArray, List.set_cons_zero, List.set_cons_succ]
            refine wpAnyH_take (i := 5) (oi := { dst := some 138, op := Op.move (Operand.tmp 0), type := 26, pos := "ref.go:68", after := #[], guard := none }) (v := ?v27) rfl (by kernel_rfl) (by kernel_rfl) (by kernel_rfl) (fun _ _ _ h => h) (Or.inl ⟨by rfl, ?hy27⟩) (by assumption) ?_
            case hy27 => intro w hSw; (try dsimp only at hSw); go_simp; (try simp only [if_pos hkc, if_pos hkc3, if_pos hkc2, Int.toNat_natCast, hAO]); (try with_reducible rfl)
            try simp only [Act.put, List.setIfInBounds_toArray, List.set_cons_zero, List.set_cons_succ]
            refine wpAnyH_take (i := 6) (oi := { dst := some 139, op := Op.nilCheck (Operand.tmp 138), type := 0, pos := "ref.go:68", after := #[{ on := 5, ground := Ground.data }], guard := none }) (v := ?v28) rfl (by kernel_rfl) (by kernel_rfl) (by kernel_rfl) (fun _ _ _ h => h) (Or.inl ⟨by rfl, ?hy28⟩) (by assumption) ?_
            case hy28 => intro w hSw; (try dsimp only at hSw); go_simp; (try simp only [if_pos hkc, if_pos hkc3, if_pos hkc2, Int.toNat_natCast, hAO]); (try with_reducible rfl)
            try simp only [Act.put, List.setIfInBounds_toArray, List.set_cons_zero, List.set_cons_succ]
            refine wpAnyH_take (i := 7) (oi := { dst := some 140, op := Op.fieldAddr 43 (Operand.tmp 139) 0, type := 0, pos := "ref.go:68", after := #[{ on := 6, ground := Ground.data }], guard := none }) (v := ?v29) rfl (by kernel_rfl) (by kernel_rfl) (by kernel_rfl) (fun _ _ _ h => h) (Or.inl ⟨by rfl, ?hy29⟩) (by assumption) ?_
            case hy29 => intro w hSw; (try dsimp only at hSw); go_simp; (try simp only [if_pos hkc, if_pos hkc3, if_pos hkc2, Int.toNat_natCast, hAO]); (try with_reducible rfl)
            try simp only [Act.put, List.setIfInBounds_toArray, List.set_cons_zero, List.set_cons_succ]
            refine wpAnyH_take (i := 9) (oi := { dst := some 142, op := Op.move (Operand.tmp 18), type := 3, pos := "ref.go:68", after := #[], guard := none }) (v := ?v30) rfl (by kernel_rfl) (by kernel_rfl) (by kernel_rfl) (fun _ _ _ h => h) (Or.inl ⟨by rfl, ?hy30⟩) (by assumption) ?_
            case hy30 => intro w hSw; (try dsimp only at hSw); go_simp; (try simp only [if_pos hkc, if_pos hkc3, if_pos hkc2, Int.toNat_natCast, hAO]); (try with_reducible rfl)
            try simp only [Act.put, List.setIfInBounds_toArray, List.set_cons_zero, List.set_cons_succ]
            refine wpAnyH_ready (rs := [2, 8]) (by kernel_rfl) (by simp) ?_
            refine (AllReadyH.cons (o := { dst := some 135, op := Op.load 47 (Operand.tmp 16), type := 47, pos := "ref.go:68", after := #[], guard := none }) rfl (fun K hK => ?_) (AllReadyH.cons (o := { dst := some 141, op := Op.load 40 (Operand.tmp 140), type := 40, pos := "ref.go:68", after := #[{ on := 7, ground := Ground.data }], guard := none }) rfl (fun K hK => ?_) AllReadyH.nil))
            · rw [if_pos (by rfl)]; refine wp_load_mid 47 (.tmp 16) (by rfl) u1.heap.size 0 (by rfl) [.int .i64 (A1 : Nat), .int .i64 (T : Nat), .int .i64 (f : Nat), .int .i64 (c : Nat), .int .i64 (hs : Nat), .slice none 0 0, .slice (some ⟨u1.heap.size + 1, 0, none⟩) n n, .int .i64 0, .bool false] _ HRG.out Try.underlying47 rfl info9 ?_
              refine hK.out _ _ ?_ (fun hH1 => ?_)
              · (try dsimp only); (first | done | trivial)
              clear hK K
              clear hH0
              try simp only [Act.put, List.setIfInBounds_toArray, List.set_cons_zero, List.set_cons_succ]
              refine wpAnyH_ready (rs := [3, 8]) (by kernel_rfl) (by simp) ?_
              refine (AllReadyH.cons (o := { dst := some 136, op := Op.buildSlice 40 1 #[(0, Operand.tmp 135)], type := 40, pos := "ref.go:68", after := #[{ on := 2, ground := Ground.data }], guard := none }) rfl (fun K hK => ?_) (AllReadyH.cons (o := { dst := some 141, op := Op.load 40 (Operand.tmp 140), type := 40, pos := "ref.go:68", after := #[{ on := 7, ground := Ground.data }], guard := none }) rfl (fun K hK => ?_) AllReadyH.nil))
              · go_simp
                refine hK.out _ _ ?_ (fun hH2 => ?_)
                · (try dsimp only); (first | done | trivial)
                clear hK K
                clear hH1
                try simp only [Act.put, List.setIfInBounds_toArray, List.set_cons_zero, List.set_cons_succ]
                refine wpAnyH_ready (rs := [4, 8]) (by kernel_rfl) (by simp) ?_
                refine (AllReadyH.cons (o := { dst := some 137, op := Op.call { callee := Callee.builtin Builtin.append, args := #[Operand.tmp 134, Operand.tmp 136], argTypes := #[40, 40] }, type := 40, pos := "ref.go:68", after := #[{ on := 1, ground := Ground.data }, { on := 3, ground := Ground.data }], guard := none }) rfl (fun K hK => ?_) (AllReadyH.cons (o := { dst := some 141, op := Op.load 40 (Operand.tmp 140), type := 40, pos := "ref.go:68", after := #[{ on := 7, ground := Ground.data }], guard := none }) rfl (fun K hK => ?_) AllReadyH.nil))
                · rw [if_pos (by rfl)]; refine wp_appO (.tmp 134) (.tmp 136) (by rfl) _ _ _ (by rfl) (World.ownsRow.alloc (w := u2.drew) HO1.out _) _ _ _ (by rfl) ([.int .i64 (A1 : Nat), .int .i64 (T : Nat), .int .i64 (f : Nat), .int .i64 (c : Nat), .int .i64 (hs : Nat), .slice none 0 0, .slice (some ⟨u1.heap.size + 1, 0, none⟩) n n, .int .i64 0, .bool false]) (⟨rfl, fun _ => ⟨⟨u2.heap.size, 0, none⟩, rfl, fun j u hu => by rw [Addr.add_lit, Nat.zero_add]; exact new_cell u2.drew _ _ (by simpa using hu)⟩⟩) (HPONE.out) (by omega) ?_
                  intro v2 u3 own2 g2 e2
                  obtain ⟨av2, cv2, rfl⟩ := own_slice own2
                  have HF2 := Lib.hid ((HF1.out.more (u'' := u2.drew.alloc (.cells #[.int .i64 (A1 : Nat), .int .i64 (T : Nat), .int .i64 (f : Nat), .int .i64 (c : Nat), .int .i64 (hs : Nat), .slice none 0 0, .slice (some ⟨u1.heap.size + 1, 0, none⟩) n n, .int .i64 0, .bool false] 47)) ((show Below u2.heap.size u2 u2.drew from ⟨rfl, rfl, rfl, Nat.le_refl _, fun _ _ => rfl⟩).alloc (Nat.le_refl _) _)).app g2 e2); have HO2 := Lib.hid own2
                  have k3 := (HF2.out.below.cell (p := ⟨h, 0, none⟩) (by exact hlhq)).trans c0
                  clear own2 g2 e2
                  refine hK.out _ _ ?_ (fun hH3 => ?_)
                  · (try dsimp only); (first | done | trivial)
                  clear hK K
                  clear hH2
                  try simp only [Act.put, List.setIfInBounds_toArray, List.set_cons_zero, List.set_cons_succ]
                  refine wpAnyH_ready (rs := [8]) (by kernel_rfl) (by simp) ?_
                  refine (AllReadyH.cons (o := { dst := some 141, op := Op.load 40 (Operand.tmp 140), type := 40, pos := "ref.go:68", after := #[{ on := 7, ground := Ground.data }], guard := none }) rfl (fun K hK => ?_) AllReadyH.nil)
                  go_simp
                  refine hK.out _ _ ?_ (fun hH4 => ?_)
                  · (try dsimp only); (first | done | trivial)
                  clear hK K
                  clear hH3
                  try simp only [Act.put, List.setIfInBounds_toArray, List.set_cons_zero, List.set_cons_succ]
                  refine wpAnyH_take (i := 10) (oi := { dst := some 143, op := Op.slice 40 (Operand.tmp 141) (some (Operand.tmp 142)) none none, type := 40, pos := "ref.go:68", after := #[{ on := 8, ground := Ground.data }, { on := 9, ground := Ground.data }], guard := none }) (v := ?v31) rfl (by kernel_rfl) (by kernel_rfl) (by kernel_rfl) (fun _ _ _ h => h) (Or.inl ⟨by rfl, ?hy31⟩) (by assumption) ?_
                  case hy31 => intro w hSw; (try dsimp only at hSw); go_simp; (try simp only [if_pos hkc, if_pos hkc3, if_pos hkc2, Int.toNat_natCast, hAO]); (try with_reducible rfl)
                  try simp only [Act.put, List.setIfInBounds_toArray, List.set_cons_zero, List.set_cons_succ]
                  refine wpAnyH_ready (rs := [11]) (by kernel_rfl) (by simp) ?_
                  refine (AllReadyH.cons (o := { dst := some 144, op := Op.call { callee := Callee.builtin Builtin.append, args := #[Operand.tmp 137, Operand.tmp 143], argTypes := #[40, 40] }, type := 40, pos := "ref.go:68", after := #[{ on := 4, ground := Ground.data }, { on := 10, ground := Ground.data }, { on := 4, ground := Ground.chain }], guard := none }) rfl (fun K hK => ?_) AllReadyH.nil)
                  rw [if_pos (by rfl)]; refine wp_appO (.tmp 137) (.tmp 143) (by rfl) _ _ _ (by rfl) HO2.out _ _ _ (by rfl) (cellsL (obs.drop k2)) ((HSRC.out _ HF2.out.below).from (k := k2) (by omega) (by omega) rfl (by rfl) (fun e => HAO.out.symm.trans (if_neg e))) (fun u hu => HONE.out u (cellsL_drop _ _ u hu)) (by omega) ?_
                  intro v3 u4 own3 g3 e3
                  obtain ⟨av3, cv3, rfl⟩ := own_slice own3
                  have HF3 := Lib.hid (HF2.out.app g3 e3); have HO3 := Lib.hid own3
                  have k4 := (HF3.out.below.cell (p := ⟨h, 0, none⟩) (by exact hlhq)).trans c0
                  have fz4 := frozen_of_row u4 h 0 _ _ (HRQ.out.keep (w' := u4) fun k hk => HF3.out.below.block k (HRQ.out.lt hk)).row
                  have oc4 : (u4.setCell ⟨h, 0, none⟩ (.slice av3 (k2 + 1 + (obs.length - k2)) cv3)).cell? ⟨u1.heap.size, 0, none⟩ = some (.int .i64 (A1 : Nat)) := (World.cell?_setCell_other _ _ _ _ (fun e => by injection e; omega)).trans ((HF3.out.below.cell (p := ⟨u1.heap.size, 0, none⟩) (by exact HFQ.out.lt)).trans oc0)
                  clear own3 g3 e3
                  refine hK.out _ _ ?_ (fun hH5 => ?_)
                  · (try dsimp only); (first | done | trivial)
                  clear hK K
                  clear hH4
                  try simp only [Act.put, List.setIfInBounds_toArray, List.set_cons_zero, List.set_cons_succ]
                  refine wpAnyH_take (i := 12) (oi := { dst := some 145, op := Op.nilCheck (Operand.tmp 133), type := 0, pos := "ref.go:68", after := #[{ on := 0, ground := Ground.data }, { on := 0, ground := Ground.phase }, { on := 1, ground := Ground.phase }, { on := 2, ground := Ground.phase }, { on := 3, ground := Ground.phase }, { on := 4, ground := Ground.phase }, { on := 5, ground := Ground.phase }, { on := 6, ground := Ground.phase }, { on := 7, ground := Ground.phase }, { on := 8, ground := Ground.phase }, { on := 9, ground := Ground.phase }, { on := 10, ground := Ground.phase }, { on := 11, ground := Ground.phase }], guard := none }) (v := ?v32) rfl (by kernel_rfl) (by kernel_rfl) (by kernel_rfl) (fun _ _ _ h => h) (Or.inl ⟨by rfl, ?hy32⟩) (by assumption) ?_
                  case hy32 => intro w hSw; (try dsimp only at hSw); go_simp; (try simp only [if_pos hkc, if_pos hkc3, if_pos hkc2, Int.toNat_natCast, hAO]); (try with_reducible rfl)
                  try simp only [Act.put, List.setIfInBounds_toArray, List.set_cons_zero, List.set_cons_succ]
                  refine wpAnyH_take (i := 13) (oi := { dst := some 146, op := Op.fieldAddr 43 (Operand.tmp 145) 0, type := 0, pos := "ref.go:68", after := #[{ on := 12, ground := Ground.data }, { on := 0, ground := Ground.phase }, { on := 1, ground := Ground.phase }, { on := 2, ground := Ground.phase }, { on := 3, ground := Ground.phase }, { on := 4, ground := Ground.phase }, { on := 5, ground := Ground.phase }, { on := 6, ground := Ground.phase }, { on := 7, ground := Ground.phase }, { on := 8, ground := Ground.phase }, { on := 9, ground := Ground.phase }, { on := 10, ground := Ground.phase }, { on := 11, ground := Ground.phase }], guard := none }) (v := ?v33) rfl (by kernel_rfl) (by kernel_rfl) (by kernel_rfl) (fun _ _ _ h => h) (Or.inl ⟨by rfl, ?hy33⟩) (by assumption) ?_
                  case hy33 => intro w hSw; (try dsimp only at hSw); go_simp; (try simp only [if_pos hkc, if_pos hkc3, if_pos hkc2, Int.toNat_natCast, hAO]); (try with_reducible rfl)
                  try simp only [Act.put, List.setIfInBounds_toArray, List.set_cons_zero, List.set_cons_succ]
                  refine wpAnyH_ready (rs := [14]) (by kernel_rfl) (by simp) ?_
                  refine (AllReadyH.cons (o := { dst := none, op := Op.store 40 (Operand.tmp 146) (Operand.tmp 144), type := 0, pos := "ref.go:68", after := #[{ on := 13, ground := Ground.data }, { on := 11, ground := Ground.data }, { on := 11, ground := Ground.chain }, { on := 0, ground := Ground.phase }, { on := 1, ground := Ground.phase }, { on := 2, ground := Ground.phase }, { on := 3, ground := Ground.phase }, { on := 4, ground := Ground.phase }, { on := 5, ground := Ground.phase }, { on := 6, ground := Ground.phase }, { on := 7, ground := Ground.phase }, { on := 8, ground := Ground.phase }, { on := 9, ground := Ground.phase }, { on := 10, ground := Ground.phase }, { on := 11, ground := Ground.phase }], guard := none }) rfl (fun K hK => ?_) AllReadyH.nil)
                  go_simp
                  refine hK.out _ _ ?_ (fun hH6 => ?_)
                  · (try dsimp only); (first | done | trivial)
                  clear hK K
                  clear hH5
                  try simp only [Act.put, List.setIfInBounds_toArray, List.set_cons_zero, List.set_cons_succ]
                  refine wpAnyH_done (by kernel_rfl) ?_ _
                  go_wp2_with fail
                  go_ret2
                  obtain ⟨lv2, q1, q2⟩ := HFIN.out u4 _ _ (by omega) HF3.out HO3.out
                  have eT := HT2.out
                  subst eT
                  exact ⟨rfl, k2, _, lv2, by omega, q1, q2⟩
                · go_simp
                  refine hK.out _ _ ?_ (fun hH3 => ?_)
                  · (try dsimp only); (first | done | trivial)
                  clear hK K
                  clear hH2
                  try simp only [Act.put, List.setIfInBounds_toArray, List.set_cons_zero, List.set_cons_succ]
                  refine wpAnyH_take (i := 10) (oi := { dst := some 143, op := Op.slice 40 (Operand.tmp 141) (some (Operand.tmp 142)) none none, type := 40, pos := "ref.go:68", after := #[{ on := 8, ground := Ground.data }, { on := 9, ground := Ground.data }], guard := none }) (v := ?v34) rfl (by kernel_rfl) (by kernel_rfl) (by kernel_rfl) (fun _ _ _ h => h) (Or.inl ⟨by rfl, ?hy34⟩) (by assumption) ?_
                  case hy34 => intro w hSw; (try dsimp only at hSw); go_simp; (try simp only [if_pos hkc, if_pos hkc3, if_pos hkc2, Int.toNat_natCast, hAO]); (try with_reducible rfl)
                  try simp only [Act.put, List.setIfInBounds_toArray, List.set_cons_zero, List.set_cons_succ]
                  refine wpAnyH_ready (rs := [4]) (by kernel_rfl) (by simp) ?_
                  refine (AllReadyH.cons (o := { dst := some 137, op := Op.call { callee := Callee.builtin Builtin.append, args := #[Operand.tmp 134, Operand.tmp 136], argTypes := #[40, 40] }, type := 40, pos := "ref.go:68", after := #[{ on := 1, ground := Ground.data }, { on := 3, ground := Ground.data }], guard := none }) rfl (fun K hK => ?_) AllReadyH.nil)
                  rw [if_pos (by rfl)]; refine wp_appO (.tmp 134) (.tmp 136) (by rfl) _ _ _ (by rfl) (World.ownsRow.alloc (w := u2.drew) HO1.out _) _ _ _ (by rfl) ([.int .i64 (A1 : Nat), .int .i64 (T : Nat), .int .i64 (f : Nat), .int .i64 (c : Nat), .int .i64 (hs : Nat), .slice none 0 0, .slice (some ⟨u1.heap.size + 1, 0, none⟩) n n, .int .i64 0, .bool false]) (⟨rfl, fun _ => ⟨⟨u2.heap.size, 0, none⟩, rfl, fun j u hu => by rw [Addr.add_lit, Nat.zero_add]; exact new_cell u2.drew _ _ (by simpa using hu)⟩⟩) (HPONE.out) (by omega) ?_
                  intro v2 u3 own2 g2 e2
                  obtain ⟨av2, cv2, rfl⟩ := own_slice own2
                  have HF2 := Lib.hid ((HF1.out.more (u'' := u2.drew.alloc (.cells #[.int .i64 (A1 : Nat), .int .i64 (T : Nat), .int .i64 (f : Nat), .int .i64 (c : Nat), .int .i64 (hs : Nat), .slice none 0 0, .slice (some ⟨u1.heap.size + 1, 0, none⟩) n n, .int .i64 0, .bool false] 47)) ((show Below u2.heap.size u2 u2.drew from ⟨rfl, rfl, rfl, Nat.le_refl _, fun _ _ => rfl⟩).alloc (Nat.le_refl _) _)).app g2 e2); have HO2 := Lib.hid own2
                  have k3 := (HF2.out.below.cell (p := ⟨h, 0, none⟩) (by exact hlhq)).trans c0
                  clear own2 g2 e2
                  refine hK.out _ _ ?_ (fun hH4 => ?_)
                  · (try dsimp only); (first | done | trivial)
                  clear hK K
                  clear hH3
                  try simp only [Act.put, List.setIfInBounds_toArray, List.set_cons_zero, List.set_cons_succ]
                  refine wpAnyH_ready (rs := [11]) (by kernel_rfl) (by simp) ?_
                  refine (AllReadyH.cons (o := { dst := some 144, op := Op.call { callee := Callee.builtin Builtin.append, args := #[Operand.tmp 137, Operand.tmp 143], argTypes := #[40, 40] }, type := 40, pos := "ref.go:68", after := #[{ on := 4, ground := Ground.data }, { on := 10, ground := Ground.data }, { on := 4, ground := Ground.chain }], guard := none }) rfl (fun K hK => ?_) AllReadyH.nil)
                  rw [if_pos (by rfl)]; refine wp_appO (.tmp 137) (.tmp 143) (by rfl) _ _ _ (by rfl) HO2.out _ _ _ (by rfl) (cellsL (obs.drop k2)) ((HSRC.out _ HF2.out.below).from (k := k2) (by omega) (by omega) rfl (by rfl) (fun e => HAO.out.symm.trans (if_neg e))) (fun u hu => HONE.out u (cellsL_drop _ _ u hu)) (by omega) ?_
                  intro v3 u4 own3 g3 e3
                  obtain ⟨av3, cv3, rfl⟩ := own_slice own3
                  have HF3 := Lib.hid (HF2.out.app g3 e3); have HO3 := Lib.hid own3
                  have k4 := (HF3.out.below.cell (p := ⟨h, 0, none⟩) (by exact hlhq)).trans c0
                  have fz4 := frozen_of_row u4 h 0 _ _ (HRQ.out.keep (w' := u4) fun k hk => HF3.out.below.block k (HRQ.out.lt hk)).row
                  have oc4 : (u4.setCell ⟨h, 0, none⟩ (.slice av3 (k2 + 1 + (obs.length - k2)) cv3)).cell? ⟨u1.heap.size, 0, none⟩ = some (.int .i64 (A1 : Nat)) := (World.cell?_setCell_other _ _ _ _ (fun e => by injection e; omega)).trans ((HF3.out.below.cell (p := ⟨u1.heap.size, 0, none⟩) (by exact HFQ.out.lt)).trans oc0)
                  clear own3 g3 e3
                  refine hK.out _ _ ?_ (fun hH5 => ?_)
                  · (try dsimp only); (first | done | trivial)
                  clear hK K
                  clear hH4
                  try simp only [Act.put, List.setIfInBounds_toArray, List.set_cons_zero, List.set_cons_succ]
                  refine wpAnyH_take (i := 12) (oi := { dst := some 145, op := Op.nilCheck (Operand.tmp 133), type := 0, pos := "ref.go:68", after := #[{ on := 0, ground := Ground.data }, { on := 0, ground := Ground.phase }, { on := 1, ground := Ground.phase }, { on := 2, ground := Ground.phase }, { on := 3, ground := Ground.phase }, { on := 4, ground := Ground.phase }, { on := 5, ground := Ground.phase }, { on := 6, ground := Ground.phase }, { on := 7, ground := Ground.phase }, { on := 8, ground := Ground.phase }, { on := 9, ground := Ground.phase }, { on := 10, ground := Ground.phase }, { on := 11, ground := Ground.phase }], guard := none }) (v := ?v35) rfl (by kernel_rfl) (by kernel_rfl) (by kernel_rfl) (fun _ _ _ h => h) (Or.inl ⟨by rfl, ?hy35⟩) (by assumption) ?_
                  case hy35 => intro w hSw; (try dsimp only at hSw); go_simp; (try simp only [if_pos hkc, if_pos hkc3, if_pos hkc2, Int.toNat_natCast, hAO]); (try with_reducible rfl)
                  try simp only [Act.put, List.setIfInBounds_toArray, List.set_cons_zero, List.set_cons_succ]
                  refine wpAnyH_take (i := 13) (oi := { dst := some 146, op := Op.fieldAddr 43 (Operand.tmp 145) 0, type := 0, pos := "ref.go:68", after := #[{ on := 12, ground := Ground.data }, { on := 0, ground := Ground.phase }, { on := 1, ground := Ground.phase }, { on := 2, ground := Ground.phase }, { on := 3, ground := Ground.phase }, { on := 4, ground := Ground.phase }, { on := 5, ground := Ground.phase }, { on := 6, ground := Ground.phase }, { on := 7, ground := Ground.phase }, { on := 8, ground := Ground.phase }, { on := 9, ground := Ground.phase }, { on := 10, ground := Ground.phase }, { on := 11, ground := Ground.phase }], guard := none }) (v := ?v36) rfl (by kernel_rfl) (by kernel_rfl) (by kernel_rfl) (fun _ _ _ h => h) (Or.inl ⟨by rfl, ?hy36⟩) (by assumption) ?_
                  case hy36 => intro w hSw; (try dsimp only at hSw); go_simp; (try simp only [if_pos hkc, if_pos hkc3, if_pos hkc2, Int.toNat_natCast, hAO]); (try with_reducible rfl)
                  try simp only [Act.put, List.setIfInBounds_toArray, List.set_cons_zero, List.set_cons_succ]
                  refine wpAnyH_ready (rs := [14]) (by kernel_rfl) (by simp) ?_
                  refine (AllReadyH.cons (o := { dst := none, op := Op.store 40 (Operand.tmp 146) (Operand.tmp 144), type := 0, pos := "ref.go:68", after := #[{ on := 13, ground := Ground.data }, { on := 11, ground := Ground.data }, { on := 11, ground := Ground.chain }, { on := 0, ground := Ground.phase }, { on := 1, ground := Ground.phase }, { on := 2, ground := Ground.phase }, { on := 3, ground := Ground.phase }, { on := 4, ground := Ground.phase }, { on := 5, ground := Ground.phase }, { on := 6, ground := Ground.phase }, { on := 7, ground := Ground.phase }, { on := 8, ground := Ground.phase }, { on := 9, ground := Ground.phase }, { on := 10, ground := Ground.phase }, { on := 11, ground := Ground.phase }], guard := none }) rfl (fun K hK => ?_) AllReadyH.nil)
                  go_simp
                  refine hK.out _ _ ?_ (fun hH6 => ?_)
                  · (try dsimp only); (first | done | trivial)
                  clear hK K
                  clear hH5
                  try simp only [Act.put, List.setIfInBounds_toArray, List.set_cons_zero, List.set_cons_succ]
                  refine wpAnyH_done (by kernel_rfl) ?_ _
                  go_wp2_with fail
                  go_ret2
                  obtain ⟨lv2, q1, q2⟩ := HFIN.out u4 _ _ (by omega) HF3.out HO3.out
                  have eT := HT2.out
                  subst eT
                  exact ⟨rfl, k2, _, lv2, by omega, q1, q2⟩
              · go_simp
                refine hK.out _ _ ?_ (fun hH2 => ?_)
                · (try dsimp only); (first | done | trivial)
                clear hK K
                clear hH1
                try simp only [Act.put, List.setIfInBounds_toArray, List.set_cons_zero, List.set_cons_succ]
                refine wpAnyH_take (i := 10) (oi := { dst := some 143, op := Op.slice 40 (Operand.tmp 141) (some (Operand.tmp 142)) none none, type := 40, pos := "ref.go:68", after := #[{ on := 8, ground := Ground.data }, { on := 9, ground := Ground.data }], guard := none }) (v := ?v37) rfl (by kernel_rfl) (by kernel_rfl) (by kernel_rfl) (fun _ _ _ h => h) (Or.inl ⟨by rfl, ?hy37⟩) (by assumption) ?_
                case hy37 => intro w hSw; (try dsimp only at hSw); go_simp; (try simp only [if_pos hkc, if_pos hkc3, if_pos hkc2, Int.toNat_natCast, hAO]); (try with_reducible rfl)
                try simp only [Act.put, List.setIfInBounds_toArray, List.set_cons_zero, List.set_cons_succ]
                refine wpAnyH_ready (rs := [3]) (by kernel_rfl) (by simp) ?_
                refine (AllReadyH.cons (o := { dst := some 136, op := Op.buildSlice 40 1 #[(0, Operand.tmp 135)], type := 40, pos := "ref.go:68", after := #[{ on := 2, ground := Ground.data }], guard := none }) rfl (fun K hK => ?_) AllReadyH.nil)
                go_simp
                refine hK.out _ _ ?_ (fun hH3 => ?_)
                · (try dsimp only); (first | done | trivial)
                clear hK K
                clear hH2
                try simp only [Act.put, List.setIfInBounds_toArray, List.set_cons_zero, List.set_cons_succ]
                refine wpAnyH_ready (rs := [4]) (by kernel_rfl) (by simp) ?_
                refine (AllReadyH.cons (o := { dst := some 137, op := Op.call { callee := Callee.builtin Builtin.append, args := #[Operand.tmp 134, Operand.tmp 136], argTypes := #[40, 40] }, type := 40, pos := "ref.go:68", after := #[{ on := 1, ground := Ground.data }, { on := 3, ground := Ground.data }], guard := none }) rfl (fun K hK => ?_) AllReadyH.nil)
                rw [if_pos (by rfl)]; refine wp_appO (.tmp 134) (.tmp 136) (by rfl) _ _ _ (by rfl) (World.ownsRow.alloc (w := u2.drew) HO1.out _) _ _ _ (by rfl) ([.int .i64 (A1 : Nat), .int .i64 (T : Nat), .int .i64 (f : Nat), .int .i64 (c : Nat), .int .i64 (hs : Nat), .slice none 0 0, .slice (some ⟨u1.heap.size + 1, 0, none⟩) n n, .int .i64 0, .bool false]) (⟨rfl, fun _ => ⟨⟨u2.heap.size, 0, none⟩, rfl, fun j u hu => by rw [Addr.add_lit, Nat.zero_add]; exact new_cell u2.drew _ _ (by simpa using hu)⟩⟩) (HPONE.out) (by omega) ?_
                intro v2 u3 own2 g2 e2
                obtain ⟨av2, cv2, rfl⟩ := own_slice own2
                have HF2 := Lib.hid ((HF1.out.more (u'' := u2.drew.alloc (.cells #[.int .i64 (A1 : Nat), .int .i64 (T : Nat), .int .i64 (f : Nat), .int .i64 (c : Nat), .int .i64 (hs : Nat), .slice none 0 0, .slice (some ⟨u1.heap.size + 1, 0, none⟩) n n, .int .i64 0, .bool false] 47)) ((show Below u2.heap.size u2 u2.drew from ⟨rfl, rfl, rfl, Nat.le_refl _, fun _ _ => rfl⟩).alloc (Nat.le_refl _) _)).app g2 e2); have HO2 := Lib.hid own2
                have k3 := (HF2.out.below.cell (p := ⟨h, 0, none⟩) (by exact hlhq)).trans c0
                clear own2 g2 e2
                refine hK.out _ _ ?_ (fun hH4 => ?_)
                · (try dsimp only); (first | done | trivial)
                clear hK K
                clear hH3
                try simp only [Act.put, List.setIfInBounds_toArray, List.set_cons_zero, List.set_cons_succ]
                refine wpAnyH_ready (rs := [11]) (by kernel_rfl) (by simp) ?_
                refine (AllReadyH.cons (o := { dst := some 144, op := Op.call { callee := Callee.builtin Builtin.append, args := #[Operand.tmp 137, Operand.tmp 143], argTypes := #[40, 40] }, type := 40, pos := "ref.go:68", after := #[{ on := 4, ground := Ground.data }, { on := 10, ground := Ground.data }, { on := 4, ground := Ground.chain }], guard := none }) rfl (fun K hK => ?_) AllReadyH.nil)
                rw [if_pos (by rfl)]; refine wp_appO (.tmp 137) (.tmp 143) (by rfl) _ _ _ (by rfl) HO2.out _ _ _ (by rfl) (cellsL (obs.drop k2)) ((HSRC.out _ HF2.out.below).from (k := k2) (by omega) (by omega) rfl (by rfl) (fun e => HAO.out.symm.trans (if_neg e))) (fun u hu => HONE.out u (cellsL_drop _ _ u hu)) (by omega) ?_
                intro v3 u4 own3 g3 e3
                obtain ⟨av3, cv3, rfl⟩ := own_slice own3
                have HF3 := Lib.hid (HF2.out.app g3 e3); have HO3 := Lib.hid own3
                have k4 := (HF3.out.below.cell (p := ⟨h, 0, none⟩) (by exact hlhq)).trans c0
                have fz4 := frozen_of_row u4 h 0 _ _ (HRQ.out.keep (w' := u4) fun k hk => HF3.out.below.block k (HRQ.out.lt hk)).row
                have oc4 : (u4.setCell ⟨h, 0, none⟩ (.slice av3 (k2 + 1 + (obs.length - k2)) cv3)).cell? ⟨u1.heap.size, 0, none⟩ = some (.int .i64 (A1 : Nat)) := (World.cell?_setCell_other _ _ _ _ (fun e => by injection e; omega)).trans ((HF3.out.below.cell (p := ⟨u1.heap.size, 0, none⟩) (by exact HFQ.out.lt)).trans oc0)
                clear own3 g3 e3
                refine hK.out _ _ ?_ (fun hH5 => ?_)
                · (try dsimp only); (first | done | trivial)
                clear hK K
                clear hH4
                try simp only [Act.put, List.setIfInBounds_toArray, List.set_cons_zero, List.set_cons_succ]
                refine wpAnyH_take (i := 12) (oi := { dst := some 145, op := Op.nilCheck (Operand.tmp 133), type := 0, pos := "ref.go:68", after := #[{ on := 0, ground := Ground.data }, { on := 0, ground := Ground.phase }, { on := 1, ground := Ground.phase }, { on := 2, ground := Ground.phase }, { on := 3, ground := Ground.phase }, { on := 4, ground := Ground.phase }, { on := 5, ground := Ground.phase }, { on := 6, ground := Ground.phase }, { on := 7, ground := Ground.phase }, { on := 8, ground := Ground.phase }, { on := 9, ground := Ground.phase }, { on := 10, ground := Ground.phase }, { on := 11, ground := Ground.phase }], guard := none }) (v := ?v38) rfl (by kernel_rfl) (by kernel_rfl) (by kernel_rfl) (fun _ _ _ h => h) (Or.inl ⟨by rfl, ?hy38⟩) (by assumption) ?_
                case hy38 => intro w hSw; (try dsimp only at hSw); go_simp; (try simp only [if_pos hkc, if_pos hkc3, if_pos hkc2, Int.toNat_natCast, hAO]); (try with_reducible rfl)
                try simp only [Act.put, List.setIfInBounds_toArray, List.set_cons_zero, List.set_cons_succ]
                refine wpAnyH_take (i := 13) (oi := { dst := some 146, op := Op.fieldAddr 43 (Operand.tmp 145) 0, type := 0, pos := "ref.go:68", after := #[{ on := 12, ground := Ground.data }, { on := 0, ground := Ground.phase }, { on := 1, ground := Ground.phase }, { on := 2, ground := Ground.phase }, { on := 3, ground := Ground.phase }, { on := 4, ground := Ground.phase }, { on := 5, ground := Ground.phase }, { on := 6, ground := Ground.phase }, { on := 7, ground := Ground.phase }, { on := 8, ground := Ground.phase }, { on := 9, ground := Ground.phase }, { on := 10, ground := Ground.phase }, { on := 11, ground := Ground.phase }], guard := none }) (v := ?v39) rfl (by kernel_rfl) (by kernel_rfl) (by kernel_rfl) (fun _ _ _ h => h) (Or.inl ⟨by rfl, ?hy39⟩) (by assumption) ?_
                case hy39 => intro w hSw; (try dsimp only at hSw); go_simp; (try simp only [if_pos hkc, if_pos hkc3, if_pos hkc2, Int.toNat_natCast, hAO]); (try with_reducible rfl)
                try simp only [Act.put, List.setIfInBounds_toArray, List.set_cons_zero, List.set_cons_succ]
                refine wpAnyH_ready (rs := [14]) (by kernel_rfl) (by simp) ?_
                refine (AllReadyH.cons (o := { dst := none, op := Op.store 40 (Operand.tmp 146) (Operand.tmp 144), type := 0, pos := "ref.go:68", after := #[{ on := 13, ground := Ground.data }, { on := 11, ground := Ground.data }, { on := 11, ground := Ground.chain }, { on := 0, ground := Ground.phase }, { on := 1, ground := Ground.phase }, { on := 2, ground := Ground.phase }, { on := 3, ground := Ground.phase }, { on := 4, ground := Ground.phase }, { on := 5, ground := Ground.phase }, { on := 6, ground := Ground.phase }, { on := 7, ground := Ground.phase }, { on := 8, ground := Ground.phase }, { on := 9, ground := Ground.phase }, { on := 10, ground := Ground.phase }, { on := 11, ground := Ground.phase }], guard := none }) rfl (fun K hK => ?_) AllReadyH.nil)
                go_simp
                refine hK.out _ _ ?_ (fun hH6 => ?_)
                · (try dsimp only); (first | done | trivial)
                clear hK K
                clear hH5
                try simp only [Act.put, List.setIfInBounds_toArray, List.set_cons_zero, List.set_cons_succ]
                refine wpAnyH_done (by kernel_rfl) ?_ _
                go_wp2_with fail
                go_ret2
                obtain ⟨lv2, q1, q2⟩ := HFIN.out u4 _ _ (by omega) HF3.out HO3.out
                have eT := HT2.out
                subst eT
                exact ⟨rfl, k2, _, lv2, by omega, q1, q2⟩
            · go_simp
              refine hK.out _ _ ?_ (fun hH1 => ?_)
              · (try dsimp only); (first | done | trivial)
              clear hK K
              clear hH0
              try simp only [Act.put, List.setIfInBounds_toArray, List.set_cons_zero, List.set_cons_succ]
              refine wpAnyH_take (i := 10) (oi := { dst := some 143, op := Op.slice 40 (Operand.tmp 141) (some (Operand.tmp 142)) none none, type := 40, pos := "ref.go:68", after := #[{ on := 8, ground := Ground.data }, { on := 9, ground := Ground.data }], guard := none }) (v := ?v40) rfl (by kernel_rfl) (by kernel_rfl) (by kernel_rfl) (fun _ _ _ h => h) (Or.inl ⟨by rfl, ?hy40⟩) (by assumption) ?_
              case hy40 => intro w hSw; (try dsimp only at hSw); go_simp; (try simp only [if_pos hkc, if_pos hkc3, if_pos hkc2, Int.toNat_natCast, hAO]); (try with_reducible rfl)
              try simp only [Act.put, List.setIfInBounds_toArray, List.set_cons_zero, List.set_cons_succ]
              refine wpAnyH_ready (rs := [2]) (by kernel_rfl) (by simp) ?_
              refine (AllReadyH.cons (o := { dst := some 135, op := Op.load 47 (Operand.tmp 16), type := 47, pos := "ref.go:68", after := #[], guard := none }) rfl (fun K hK => ?_) AllReadyH.nil)
              rw [if_pos (by rfl)]; refine wp_load_mid 47 (.tmp 16) (by rfl) u1.heap.size 0 (by rfl) [.int .i64 (A1 : Nat), .int .i64 (T : Nat), .int .i64 (f : Nat), .int .i64 (c : Nat), .int .i64 (hs : Nat), .slice none 0 0, .slice (some ⟨u1.heap.size + 1, 0, none⟩) n n, .int .i64 0, .bool false] _ HRG.out Try.underlying47 rfl info9 ?_
              refine hK.out _ _ ?_ (fun hH2 => ?_)
              · (try dsimp only); (first | done | trivial)
              clear hK K
              clear hH1
              try simp only [Act.put, List.setIfInBounds_toArray, List.set_cons_zero, List.set_cons_succ]
              refine wpAnyH_ready (rs := [3]) (by kernel_rfl) (by simp) ?_
              refine (AllReadyH.cons (o := { dst := some 136, op := Op.buildSlice 40 1 #[(0, Operand.tmp 135)], type := 40, pos := "ref.go:68", after := #[{ on := 2, ground := Ground.data }], guard := none }) rfl (fun K hK => ?_) AllReadyH.nil)
              go_simp
              refine hK.out _ _ ?_ (fun hH3 => ?_)
              · (try dsimp only); (first | done | trivial)
              clear hK K
              clear hH2
              try simp only [Act.put, List.setIfInBounds_toArray, List.set_cons_zero, List.set_cons_succ]
              refine wpAnyH_ready (rs := [4]) (by kernel_rfl) (by simp) ?_
              refine (AllReadyH.cons (o := { dst := some 137, op := Op.call { callee := Callee.builtin Builtin.append, args := #[Operand.tmp 134, Operand.tmp 136], argTypes := #[40, 40] }, type := 40, pos := "ref.go:68", after := #[{ on := 1, ground := Ground.data }, { on := 3, ground := Ground.data }], guard := none }) rfl (fun K hK => ?_) AllReadyH.nil)
              rw [if_pos (by rfl)]; refine wp_appO (.tmp 134) (.tmp 136) (by rfl) _ _ _ (by rfl) (World.ownsRow.alloc (w := u2.drew) HO1.out _) _ _ _ (by rfl) ([.int .i64 (A1 : Nat), .int .i64 (T : Nat), .int .i64 (f : Nat), .int .i64 (c : Nat), .int .i64 (hs : Nat), .slice none 0 0, .slice (some ⟨u1.heap.size + 1, 0, none⟩) n n, .int .i64 0, .bool false]) (⟨rfl, fun _ => ⟨⟨u2.heap.size, 0, none⟩, rfl, fun j u hu => by rw [Addr.add_lit, Nat.zero_add]; exact new_cell u2.drew _ _ (by simpa using hu)⟩⟩) (HPONE.out) (by omega) ?_
              intro v2 u3 own2 g2 e2
              obtain ⟨av2, cv2, rfl⟩ := own_slice own2
              have HF2 := Lib.hid ((HF1.out.more (u'' := u2.drew.alloc (.cells #[.int .i64 (A1 : Nat), .int .i64 (T : Nat), .int .i64 (f : Nat), .int .i64 (c : Nat), .int .i64 (hs : Nat), .slice none 0 0, .slice (some ⟨u1.heap.size + 1, 0, none⟩) n n, .int .i64 0, .bool false] 47)) ((show Below u2.heap.size u2 u2.drew from ⟨rfl, rfl, rfl, Nat.le_refl _, fun _ _ => rfl⟩).alloc (Nat.le_refl _) _)).app g2 e2); have HO2 := Lib.hid own2
              have k3 := (HF2.out.below.cell (p := ⟨h, 0, none⟩) (by exact hlhq)).trans c0
              clear own2 g2 e2
              refine hK.out _ _ ?_ (fun hH4 => ?_)
              · (try dsimp only); (first | done | trivial)
              clear hK K
              clear hH3
              try simp only [Act.put, List.setIfInBounds_toArray, List.set_cons_zero, List.set_cons_succ]
              refine wpAnyH_ready (rs := [11]) (by kernel_rfl) (by simp) ?_
              refine (AllReadyH.cons (o := { dst := some 144, op := Op.call { callee := Callee.builtin Builtin.append, args := #[Operand.tmp 137, Operand.tmp 143], argTypes := #[40, 40] }, type := 40, pos := "ref.go:68", after := #[{ on := 4, ground := Ground.data }, { on := 10, ground := Ground.data }, { on := 4, ground := Ground.chain }], guard := none }) rfl (fun K hK => ?_) AllReadyH.nil)
              rw [if_pos (by rfl)]; refine wp_appO (.tmp 137) (.tmp 143) (by rfl) _ _ _ (by rfl) HO2.out _ _ _ (by rfl) (cellsL (obs.drop k2)) ((HSRC.out _ HF2.out.below).from (k := k2) (by omega) (by omega) rfl (by rfl) (fun e => HAO.out.symm.trans (if_neg e))) (fun u hu => HONE.out u (cellsL_drop _ _ u hu)) (by omega) ?_
              intro v3 u4 own3 g3 e3
              obtain ⟨av3, cv3, rfl⟩ := own_slice own3
              have HF3 := Lib.hid (HF2.out.app g3 e3); have HO3 := Lib.hid own3
              have k4 := (HF3.out.below.cell (p := ⟨h, 0, none⟩) (by exact hlhq)).trans c0
              have fz4 := frozen_of_row u4 h 0 _ _ (HRQ.out.keep (w' := u4) fun k hk => HF3.out.below.block k (HRQ.out.lt hk)).row
              have oc4 : (u4.setCell ⟨h, 0, none⟩ (.slice av3 (k2 + 1 + (obs.length - k2)) cv3)).cell? ⟨u1.heap.size, 0, none⟩ = some (.int .i64 (A1 : Nat)) := (World.cell?_setCell_other _ _ _ _ (fun e => by injection e; omega)).trans ((HF3.out.below.cell (p := ⟨u1.heap.size, 0, none⟩) (by exact HFQ.out.lt)).trans oc0)
              clear own3 g3 e3
              refine hK.out _ _ ?_ (fun hH5 => ?_)
              · (try dsimp only); (first | done | trivial)
              clear hK K
              clear hH4
              try simp only [Act.put, List.setIfInBounds_toArray, List.set_cons_zero, List.set_cons_succ]
              refine wpAnyH_take (i := 12) (oi := { dst := some 145, op := Op.nilCheck (Operand.tmp 133), type := 0, pos := "ref.go:68", after := #[{ on := 0, ground := Ground.data }, { on := 0, ground := Ground.phase }, { on := 1, ground := Ground.phase }, { on := 2, ground := Ground.phase }, { on := 3, ground := Ground.phase }, { on := 4, ground := Ground.phase }, { on := 5, ground := Ground.phase }, { on := 6, ground := Ground.phase }, { on := 7, ground := Ground.phase }, { on := 8, ground := Ground.phase }, { on := 9, ground := Ground.phase }, { on := 10, ground := Ground.phase }, { on := 11, ground := Ground.phase }], guard := none }) (v := ?v41) rfl (by kernel_rfl) (by kernel_rfl) (by kernel_rfl) (fun _ _ _ h => h) (Or.inl ⟨by rfl, ?hy41⟩) (by assumption) ?_
              case hy41 => intro w hSw; (try dsimp only at hSw); go_simp; (try simp only [if_pos hkc, if_pos hkc3, if_pos hkc2, Int.toNat_natCast, hAO]); (try with_reducible rfl)
              try simp only [Act.put, List.setIfInBounds_toArray, List.set_cons_zero, List.set_cons_succ]
              refine wpAnyH_take (i := 13) (oi := { dst := some 146, op := Op.fieldAddr 43 (Operand.tmp 145) 0, type := 0, pos := "ref.go:68", after := #[{ on := 12, ground := Ground.data }, { on := 0, ground := Ground.phase }, { on := 1, ground := Ground.phase }, { on := 2, ground := Ground.phase }, { on := 3, ground := Ground.phase }, { on := 4, ground := Ground.phase }, { on := 5, ground := Ground.phase }, { on := 6, ground := Ground.phase }, { on := 7, ground := Ground.phase }, { on := 8, ground := Ground.phase }, { on := 9, ground := Ground.phase }, { on := 10, ground := Ground.phase }, { on := 11, ground := Ground.phase }], guard := none }) (v := ?v42) rfl (by kernel_rfl) (by kernel_rfl) (by kernel_rfl) (fun _ _ _ h => h) (Or.inl ⟨by rfl, ?hy42⟩) (by assumption) ?_
              case hy42 => intro w hSw; (try dsimp only at hSw); go_simp; (try simp only [if_pos hkc, if_pos hkc3, if_pos hkc2, Int.toNat_natCast, hAO]); (try with_reducible rfl)
              try simp only [Act.put, List.setIfInBounds_toArray, List.set_cons_zero, List.set_cons_succ]
              refine wpAnyH_ready (rs := [14]) (by kernel_rfl) (by simp) ?_
              refine (AllReadyH.cons (o := { dst := none, op := Op.store 40 (Operand.tmp 146) (Operand.tmp 144), type := 0, pos := "ref.go:68", after := #[{ on := 13, ground := Ground.data }, { on := 11, ground := Ground.data }, { on := 11, ground := Ground.chain }, { on := 0, ground := Ground.phase }, { on := 1, ground := Ground.phase }, { on := 2, ground := Ground.phase }, { on := 3, ground := Ground.phase }, { on := 4, ground := Ground.phase }, { on := 5, ground := Ground.phase }, { on := 6, ground := Ground.phase }, { on := 7, ground := Ground.phase }, { on := 8, ground := Ground.phase }, { on := 9, ground := Ground.phase }, { on := 10, ground := Ground.phase }, { on := 11, ground := Ground.phase }], guard := none }) rfl (fun K hK => ?_) AllReadyH.nil)
              go_simp
              refine hK.out _ _ ?_ (fun hH6 => ?_)
              · (try dsimp only); (first | done | trivial)
              clear hK K
              clear hH5
              try simp only [Act.put, List.setIfInBounds_toArray, List.set_cons_zero, List.set_cons_succ]
              refine wpAnyH_done (by kernel_rfl) ?_ _
              go_wp2_with fail
              go_ret2
              obtain ⟨lv2, q1, q2⟩ := HFIN.out u4 _ _ (by omega) HF3.out HO3.out
              have eT := HT2.out
              subst eT
              exact ⟨rfl, k2, _, lv2, by omega, q1, q2⟩
        · have t1 : ¬ (k2 : Int) < (obs.length : Int) := by omega
          have HF6 := Lib.hid (lo_take (A := A1) HLO.out)
          have HF7 : Hid (∀ q ∈ obs.drop k2, A1 < q.pos) := Lib.hid fun q hq => by rw [List.drop_eq_nil_of_le (by omega)] at hq; cases hq
          have hk2' : k2 ≤ cap := by omega
          go_upto_region 19 with fail
          refine wp_region_held_drew (S := (fun w' => w'.cell? ⟨h, 0, none⟩ = some (.slice la obs.length cap))) (by kernel_rfl) ?_ (fun hH0 => ?_)
          · (try dsimp only); exact c0
          refine wpAnyH_take (i := 0) (oi := { dst := some 104, op := Op.move (Operand.tmp 18), type := 3, pos := "ref.go:64", after := #[], guard := none }) (v := ?v63) rfl (by kernel_rfl) (by kernel_rfl) (by kernel_rfl) (fun _ _ _ h => h) (Or.inl ⟨by rfl, ?hy63⟩) (by assumption) ?_
          case hy63 => intro w hSw; (try dsimp only at hSw); go_simp; (try with_reducible rfl)
          try simp only [Act.put, List.setIfInBounds_toArray, List.set_cons_zero, List.set_cons_succ]
          refine wpAnyH_take (i := 1) (oi := { dst := some 105, op := Op.move (Operand.tmp 0), type := 26, pos := "ref.go:64", after := #[], guard := none }) (v := ?v64) rfl (by kernel_rfl) (by kernel_rfl) (by kernel_rfl) (fun _ _ _ h => h) (Or.inl ⟨by rfl, ?hy64⟩) (by assumption) ?_
          case hy64 => intro w hSw; (try dsimp only at hSw); go_simp; (try with_reducible rfl)
          try simp only [Act.put, List.setIfInBounds_toArray, List.set_cons_zero, List.set_cons_succ]
          refine wpAnyH_take (i := 2) (oi := { dst := some 106, op := Op.nilCheck (Operand.tmp 105), type := 0, pos := "ref.go:64", after := #[{ on := 1, ground := Ground.data }], guard := none }) (v := ?v65) rfl (by kernel_rfl) (by kernel_rfl) (by kernel_rfl) (fun _ _ _ h => h) (Or.inl ⟨by rfl, ?hy65⟩) (by assumption) ?_
          case hy65 => intro w hSw; (try dsimp only at hSw); go_simp; (try with_reducible rfl)
          try simp only [Act.put, List.setIfInBounds_toArray, List.set_cons_zero, List.set_cons_succ]
          refine wpAnyH_take (i := 3) (oi := { dst := some 107, op := Op.fieldAddr 43 (Operand.tmp 106) 0, type := 0, pos := "ref.go:64", after := #[{ on := 2, ground := Ground.data }], guard := none }) (v := ?v66) rfl (by kernel_rfl) (by kernel_rfl) (by kernel_rfl) (fun _ _ _ h => h) (Or.inl ⟨by rfl, ?hy66⟩) (by assumption) ?_
          case hy66 => intro w hSw; (try dsimp only at hSw); go_simp; (try with_reducible rfl)
          try simp only [Act.put, List.setIfInBounds_toArray, List.set_cons_zero, List.set_cons_succ]
          refine wpAnyH_take (i := 4) (oi := { dst := some 108, op := Op.load 40 (Operand.tmp 107), type := 40, pos := "ref.go:64", after := #[{ on := 3, ground := Ground.data }], guard := none }) (v := ?v67) rfl (by kernel_rfl) (by kernel_rfl) (by kernel_rfl) (fun _ _ _ h => h) (Or.inl ⟨by rfl, ?hy67⟩) (by assumption) ?_
          case hy67 => intro w hSw; (try dsimp only at hSw); go_simp; (try with_reducible rfl)
          try simp only [Act.put, List.setIfInBounds_toArray, List.set_cons_zero, List.set_cons_succ]
          refine wpAnyH_take (i := 5) (oi := { dst := some 109, op := Op.call { callee := Callee.builtin Builtin.len, args := #[Operand.tmp 108], argTypes := #[40] }, type := 3, pos := "ref.go:64", after := #[{ on := 4, ground := Ground.data }], guard := none }) (v := ?v68) rfl (by kernel_rfl) (by kernel_rfl) (by kernel_rfl) (fun _ _ _ h => h) (Or.inl ⟨by rfl, ?hy68⟩) (by assumption) ?_
          case hy68 => intro w hSw; (try dsimp only at hSw); go_simp; (try with_reducible rfl)
          try simp only [Act.put, List.setIfInBounds_toArray, List.set_cons_zero, List.set_cons_succ]
          refine wpAnyH_take (i := 6) (oi := { dst := some 110, op := Op.binOp BinOp.lss 3 (Operand.tmp 104) (Operand.tmp 109) 3, type := 4, pos := "ref.go:64", after := #[{ on := 0, ground := Ground.data }, { on := 5, ground := Ground.data }], guard := none }) (v := ?v69) rfl (by kernel_rfl) (by kernel_rfl) (by kernel_rfl) (fun _ _ _ h => h) (Or.inl ⟨by rfl, ?hy69⟩) (by assumption) ?_
          case hy69 => intro w hSw; (try dsimp only at hSw); go_simp; (try with_reducible rfl)
          try simp only [Act.put, List.setIfInBounds_toArray, List.set_cons_zero, List.set_cons_succ]
          refine wpAnyH_take (i := 7) (oi := { dst := some 111, op := Op.move (Operand.tmp 110), type := 4, pos := "ref.go:64", after := #[{ on := 6, ground := Ground.data }], guard := none }) (v := ?v70) rfl (by kernel_rfl) (by kernel_rfl) (by kernel_rfl) (fun _ _ _ h => h) (Or.inl ⟨by rfl, ?hy70⟩) (by assumption) ?_
          case hy70 => intro w hSw; (try dsimp only at hSw); go_simp; (try with_reducible rfl)
          try simp only [Act.put, List.setIfInBounds_toArray, List.set_cons_zero, List.set_cons_succ]
          refine wpAnyH_take (i := 8) (oi := { dst := some 112, op := Op.move (Operand.tmp 0), type := 26, pos := "ref.go:64", after := #[{ on := 7, ground := Ground.guard }], guard := some (7, true) }) (v := undef) rfl (by kernel_rfl) (by kernel_rfl) (by kernel_rfl) (fun _ _ _ h => h) (Or.inr ⟨by rfl, rfl⟩) (by assumption) ?_
          try simp only [Act.put, List.setIfInBounds_toArray, List.set_cons_zero, List.set_cons_succ]
          refine wpAnyH_take (i := 9) (oi := { dst := some 113, op := Op.nilCheck (Operand.tmp 112), type := 0, pos := "ref.go:64", after := #[{ on := 8, ground := Ground.data }, { on := 7, ground := Ground.guard }], guard := some (7, true) }) (v := undef) rfl (by kernel_rfl) (by kernel_rfl) (by kernel_rfl) (fun _ _ _ h => h) (Or.inr ⟨by rfl, rfl⟩) (by assumption) ?_
          try simp only [Act.put, List.setIfInBounds_toArray, List.set_cons_zero, List.set_cons_succ]
          refine wpAnyH_take (i := 10) (oi := { dst := some 114, op := Op.fieldAddr 43 (Operand.tmp 113) 0, type := 0, pos := "ref.go:64", after := #[{ on := 9, ground := Ground.data }, { on := 7, ground := Ground.guard }], guard := some (7, true) }) (v := undef) rfl (by kernel_rfl) (by kernel_rfl) (by kernel_rfl) (fun _ _ _ h => h) (Or.inr ⟨by rfl, rfl⟩) (by assumption) ?_
          try simp only [Act.put, List.setIfInBounds_toArray, List.set_cons_zero, List.set_cons_succ]
          refine wpAnyH_take (i := 11) (oi := { dst := some 115, op := Op.load 40 (Operand.tmp 114), type := 40, pos := "ref.go:64", after := #[{ on := 10, ground := Ground.data }, { on := 7, ground := Ground.guard }], guard := some (7, true) }) (v := undef) rfl (by kernel_rfl) (by kernel_rfl) (by kernel_rfl) (fun _ _ _ h => h) (Or.inr ⟨by rfl, rfl⟩) (by assumption) ?_
          try simp only [Act.put, List.setIfInBounds_toArray, List.set_cons_zero, List.set_cons_succ]
          refine wpAnyH_take (i := 12) (oi := { dst := some 116, op := Op.move (Operand.tmp 18), type := 3, pos := "ref.go:64", after := #[{ on := 7, ground := Ground.guard }], guard := some (7, true) }) (v := undef) rfl (by kernel_rfl) (by kernel_rfl) (by kernel_rfl) (fun _ _ _ h => h) (Or.inr ⟨by rfl, rfl⟩) (by assumption) ?_
          try simp only [Act.put, List.setIfInBounds_toArray, List.set_cons_zero, List.set_cons_succ]
          refine wpAnyH_take (i := 13) (oi := { dst := some 117, op := Op.indexAddr 40 (Operand.tmp 115) (Operand.tmp 116), type := 0, pos := "ref.go:64", after := #[{ on := 11, ground := Ground.data }, { on := 12, ground := Ground.data }, { on := 7, ground := Ground.guard }], guard := some (7, true) }) (v := undef) rfl (by kernel_rfl) (by kernel_rfl) (by kernel_rfl) (fun _ _ _ h => h) (Or.inr ⟨by rfl, rfl⟩) (by assumption) ?_
          try simp only [Act.put, List.setIfInBounds_toArray, List.set_cons_zero, List.set_cons_succ]
          refine wpAnyH_take (i := 14) (oi := { dst := some 118, op := Op.fieldAddr 47 (Operand.tmp 117) 0, type := 0, pos := "ref.go:64", after := #[{ on := 13, ground := Ground.data }, { on := 7, ground := Ground.guard }], guard := some (7, true) }) (v := undef) rfl (by kernel_rfl) (by kernel_rfl) (by kernel_rfl) (fun _ _ _ h => h) (Or.inr ⟨by rfl, rfl⟩) (by assumption) ?_
          try simp only [Act.put, List.setIfInBounds_toArray, List.set_cons_zero, List.set_cons_succ]
          refine wpAnyH_take (i := 15) (oi := { dst := some 119, op := Op.load 3 (Operand.tmp 118), type := 3, pos := "ref.go:64", after := #[{ on := 14, ground := Ground.data }, { on := 7, ground := Ground.guard }], guard := some (7, true) }) (v := undef) rfl (by kernel_rfl) (by kernel_rfl) (by kernel_rfl) (fun _ _ _ h => h) (Or.inr ⟨by rfl, rfl⟩) (by assumption) ?_
          try simp only [Act.put, List.setIfInBounds_toArray, List.set_cons_zero, List.set_cons_succ]
          refine wpAnyH_take (i := 16) (oi := { dst := some 120, op := Op.fieldAddr 47 (Operand.tmp 16) 0, type := 0, pos := "ref.go:64", after := #[{ on := 7, ground := Ground.guard }], guard := some (7, true) }) (v := undef) rfl (by kernel_rfl) (by kernel_rfl) (by kernel_rfl) (fun _ _ _ h => h) (Or.inr ⟨by rfl, rfl⟩) (by assumption) ?_
          try simp only [Act.put, List.setIfInBounds_toArray, List.set_cons_zero, List.set_cons_succ]
          refine wpAnyH_take (i := 17) (oi := { dst := some 121, op := Op.load 3 (Operand.tmp 120), type := 3, pos := "ref.go:64", after := #[{ on := 16, ground := Ground.data }, { on := 7, ground := Ground.guard }], guard := some (7, true) }) (v := undef) rfl (by kernel_rfl) (by kernel_rfl) (by kernel_rfl) (fun _ _ _ h => h) (Or.inr ⟨by rfl, rfl⟩) (by assumption) ?_
          try simp only [Act.put, List.setIfInBounds_toArray, List.set_cons_zero, List.set_cons_succ]
          refine wpAnyH_take (i := 18) (oi := { dst := some 122, op := Op.binOp BinOp.lss 3 (Operand.tmp 119) (Operand.tmp 121) 3, type := 4, pos := "ref.go:64", after := #[{ on := 15, ground := Ground.data }, { on := 17, ground := Ground.data }, { on := 7, ground := Ground.guard }], guard := some (7, true) }) (v := undef) rfl (by kernel_rfl) (by kernel_rfl) (by kernel_rfl) (fun _ _ _ h => h) (Or.inr ⟨by rfl, rfl⟩) (by assumption) ?_
          try simp only [Act.put, List.setIfInBounds_toArray, List.set_cons_zero, List.set_cons_succ]
          refine wpAnyH_take (i := 19) (oi := { dst := some 123, op := Op.pick (Operand.tmp 111) (Operand.tmp 122) (Operand.const (Value.bool false)), type := 4, pos := "ref.go:64", after := #[{ on := 7, ground := Ground.data }, { on := 18, ground := Ground.data }], guard := none }) (v := ?v82) rfl (by kernel_rfl) (by kernel_rfl) (by kernel_rfl) (fun _ _ _ h => h) (Or.inl ⟨by rfl, ?hy82⟩) (by assumption) ?_
          case hy82 => intro w hSw; (try dsimp only at hSw); go_simp; (try with_reducible rfl)
          try simp only [Act.put, List.setIfInBounds_toArray, List.set_cons_zero, List.set_cons_succ]
          refine wpAnyH_done (by kernel_rfl) ?_ _
          have HSRC : Hid (∀ u, Below wr.heap.size wr u → SrcO u (la) obs.length (cellsL obs)) := Lib.hid fun u hb => SrcO.of_own (HRQ.out.keep (w' := u) fun k hk => hb.block k (HRQ.out.lt hk)).ls
          have HONE : Hid (∀ u ∈ cellsL obs, u.oneCell' = true) := Lib.hid HRQ.out.one
          have hlhq : h < wr.heap.size := HRQ.out.lt (.inl rfl)
          have hkc : k2 ≤ cap := by omega
          have hkc3 : k2 ≤ obs.length := by omega
          have hkc2 : 0 ≤ (k2 : Int) ∧ (k2 : Int) ≤ (obs.length : Int) := by omega
          have HPONE : Hid (∀ u ∈ ([.int .i64 (A1 : Nat), .int .i64 (T : Nat), .int .i64 (f : Nat), .int .i64 (c : Nat), .int .i64 (hs : Nat), .slice none 0 0, .slice (some ⟨u1.heap.size + 1, 0, none⟩) n n, .int .i64 0, .bool false] : List Value), u.oneCell' = true) := Lib.hid fun u hu => by
            simp only [List.mem_cons, List.not_mem_nil, or_false] at hu
            rcases hu with rfl | rfl | rfl | rfl | rfl | rfl | rfl | rfl | rfl <;> rfl
          have HFIN := Lib.hid (made_fin HR1.out HNG.out HFQ.out k2 (by omega) HF6.out HF7.out (by simp only [mkOb]; omega) hfew1)
          obtain ⟨AO, hAO⟩ : ∃ AO : Option Addr, (if cap = k2 then la else la.map (·.add (k2 * 9))) = AO := ⟨_, rfl⟩
          have HAO := Lib.hid hAO
          go_wp2_with (at_builtin; refine wpl_appO rfl (.const (.slice none 0 0)) (.tmp 131) (by rfl) _ _ _ (by rfl) (World.ownsRow_nil _ _ _ _) _ _ _ (by rfl) (cellsL (obs.take k2)) ((HSRC.out _ (Fre.start1 wr).below).to (by omega) rfl) (fun u hu => HONE.out u (cellsL_take _ _ u hu)) (by omega) ?_)
          intro v1 u2 own1 g1 e1
          (try simp only [Nat.zero_add] at own1)
          obtain ⟨av1, cv1, rfl⟩ := own_slice own1
          have HF1 := Lib.hid ((Fre.start1 wr).app g1 e1); have HO1 := Lib.hid own1
          have k2c := (HF1.out.below.cell (p := ⟨h, 0, none⟩) (by exact hlhq)).trans c0
          have k2a : ∀ x, (u2.alloc x).cell? ⟨h, 0, none⟩ = some (.slice (la) obs.length cap) := fun x => (World.cell?_alloc_lt u2 x _ (Nat.lt_of_lt_of_le hlhq HF1.out.below.size)).trans k2c
          have HRG : Hid (u2.rangeAt u1.heap.size 0 [.int .i64 (A1 : Nat), .int .i64 (T : Nat), .int .i64 (f : Nat), .int .i64 (c : Nat), .int .i64 (hs : Nat), .slice none 0 0, .slice (some ⟨u1.heap.size + 1, 0, none⟩) n n, .int .i64 0, .bool false]) := Lib.hid fun j u hu => by rw [Nat.zero_add]; exact (HFQ.out.keep HF1.out.below).cell hu
          clear own1 g1 e1
          go_upto_region 22 with fail
          refine wp_region_held_drew (S := (fun w' => True)) (by kernel_rfl) ?_ (fun hH0 => ?_)
          · (try dsimp only); (first | done | trivial)
          refine wpAnyH_take (i := 0) (oi := { dst := some 133, op := Op.move (Operand.tmp 0), type := 26, pos := "ref.go:68", after := #[], guard := none }) (v := ?v83) rfl (by kernel_rfl) (by kernel_rfl) (by kernel_rfl) (fun _ _ _ h => h) (Or.inl ⟨by rfl, ?hy83⟩) (by assumption) ?_
          case hy83 => intro w hSw; (try dsimp only at hSw); go_simp; (try simp only [if_pos hkc, if_pos hkc3, if_pos hkc2, Int.toNat_natCast, hAO]); (try with_reducible rfl)
          try simp only [Act.put, List.setIfInBounds_toArray, List.set_cons_zero, List.set_cons_succ]
          refine wpAnyH_take (i := 1) (oi := { dst := some 134, op := Op.move (Operand.tmp 19), type := 40, pos := "ref.go:68", after := #[], guard := none }) (v := ?v84) rfl (by kernel_rfl) (by kernel_rfl) (by kernel_rfl) (fun _ _ _ h => h) (Or.inl ⟨by rfl, ?hy84⟩) (by assumption) ?_
          case hy84 => intro w hSw; (try dsimp only at hSw); go_simp; (try simp only [if_pos hkc, if_pos hkc3, if_pos hkc2, Int.toNat_natCast, hAO]); (try with_reducible rfl)
          try simp only [Act.put, List.setIfInBounds_toArray, List.set_cons_zero, List.set_cons_succ]
          refine wpAnyH_take (i := 5) (oi := { dst := some 138, op := Op.move (Operand.tmp 0), type := 26, pos := "ref.go:68", after := #[], guard := none }) (v := ?v85) rfl (by kernel_rfl) (by kernel_rfl) (by kernel_rfl) (fun _ _ _ h => h) (Or.inl ⟨by rfl, ?hy85⟩) (by assumption) ?_
          case hy85 => intro w hSw; (try dsimp only at hSw); go_simp; (try simp only [if_pos hkc, if_pos hkc3, if_pos hkc2, Int.toNat_natCast, hAO]); (try with_reducible rfl)
          try simp only [Act.put, List.setIfInBounds_toArray, List.set_cons_zero, List.set_cons_succ]
          refine wpAnyH_take (i := 6) (oi := { dst := some 139, op := Op.nilCheck (Operand.tmp 138), type := 0, pos := "ref.go:68", after := #[{ on := 5, ground := Ground.data }], guard := none }) (v := ?v86) rfl (by kernel_rfl) (by kernel_rfl) (by kernel_rfl) (fun _ _ _ h => h) (Or.inl ⟨by rfl, ?hy86⟩) (by assumption) ?_
          case hy86 => intro w hSw; (try dsimp only at hSw); go_simp; (try simp only [if_pos hkc, if_pos hkc3, if_pos hkc2, Int.toNat_natCast, hAO]); (try with_reducible rfl)
          try simp only [Act.put, List.setIfInBounds_toArray, List.set_cons_zero, List.set_cons_succ]
          refine wpAnyH_take (i := 7) (oi := { dst := some 140, op := Op.fieldAddr 43 (Operand.tmp 139) 0, type := 0, pos := "ref.go:68", after := #[{ on := 6, ground := Ground.data }], guard := none }) (v := ?v87) rfl (by kernel_rfl) (by kernel_rfl) (by kernel_rfl) (fun _ _ _ h => h) (Or.inl ⟨by rfl, ?hy87⟩) (by assumption) ?_
          case hy87 => intro w hSw; (try dsimp only at hSw); go_simp; (try simp only [if_pos hkc, if_pos hkc3, if_pos hkc2, Int.toNat_natCast, hAO]); (try with_reducible rfl)
          try simp only [Act.put, List.setIfInBounds_toArray, List.set_cons_zero, List.set_cons_succ]
          refine wpAnyH_take (i := 9) (oi := { dst := some 142, op := Op.move (Operand.tmp 18), type := 3, pos := "ref.go:68", after := #[], guard := none }) (v := ?v88) rfl (by kernel_rfl) (by kernel_rfl) (by kernel_rfl) (fun _ _ _ h => h) (Or.inl ⟨by rfl, ?hy88⟩) (by assumption) ?_
          case hy88 => intro w hSw; (try dsimp only at hSw); go_simp; (try simp only [if_pos hkc, if_pos hkc3, if_pos hkc2, Int.toNat_natCast, hAO]); (try with_reducible rfl)
          try simp only [Act.put, List.setIfInBounds_toArray, List.set_cons_zero, List.set_cons_succ]
          refine wpAnyH_ready (rs := [2, 8]) (by kernel_rfl) (by simp) ?_
          refine (AllReadyH.cons (o := { dst := some 135, op := Op.load 47 (Operand.tmp 16), type := 47, pos := "ref.go:68", after := #[], guard := none }) rfl (fun K hK => ?_) (AllReadyH.cons (o := { dst := some 141, op := Op.load 40 (Operand.tmp 140), type := 40, pos := "ref.go:68", after := #[{ on := 7, ground := Ground.data }], guard := none }) rfl (fun K hK => ?_) AllReadyH.nil))
          · rw [if_pos (by rfl)]; refine wp_load_mid 47 (.tmp 16) (by rfl) u1.heap.size 0 (by rfl) [.int .i64 (A1 : Nat), .int .i64 (T : Nat), .int .i64 (f : Nat), .int .i64 (c : Nat), .int .i64 (hs : Nat), .slice none 0 0, .slice (some ⟨u1.heap.size + 1, 0, none⟩) n n, .int .i64 0, .bool false] _ HRG.out Try.underlying47 rfl info9 ?_
            refine hK.out _ _ ?_ (fun hH1 => ?_)
            · (try dsimp only); (first | done | trivial)
            clear hK K
            clear hH0
            try simp only [Act.put, List.setIfInBounds_toArray, List.set_cons_zero, List.set_cons_succ]
            refine wpAnyH_ready (rs := [3, 8]) (by kernel_rfl) (by simp) ?_
            refine (AllReadyH.cons (o := { dst := some 136, op := Op.buildSlice 40 1 #[(0, Operand.tmp 135)], type := 40, pos := "ref.go:68", after := #[{ on := 2, ground := Ground.data }], guard := none }) rfl (fun K hK => ?_) (AllReadyH.cons (o := { dst := some 141, op := Op.load 40 (Operand.tmp 140), type := 40, pos := "ref.go:68", after := #[{ on := 7, ground := Ground.data }], guard := none }) rfl (fun K hK => ?_) AllReadyH.nil))
            · go_simp
              refine hK.out _ _ ?_ (fun hH2 => ?_)
              · (try dsimp only); (first | done | trivial)
              clear hK K
              clear hH1
              try simp only [Act.put, List.setIfInBounds_toArray, List.set_cons_zero, List.set_cons_succ]
              refine wpAnyH_ready (rs := [4, 8]) (by kernel_rfl) (by simp) ?_
              refine (AllReadyH.cons (o := { dst := some 137, op := Op.call { callee := Callee.builtin Builtin.append, args := #[Operand.tmp 134, Operand.tmp 136], argTypes := #[40, 40] }, type := 40, pos := "ref.go:68", after := #[{ on := 1, ground := Ground.data }, { on := 3, ground := Ground.data }], guard := none }) rfl (fun K hK => ?_) (AllReadyH.cons (o := { dst := some 141, op := Op.load 40 (Operand.tmp 140), type := 40, pos := "ref.go:68", after := #[{ on := 7, ground := Ground.data }], guard := none }) rfl (fun K hK => ?_) AllReadyH.nil))
              · rw [if_pos (by rfl)]; refine wp_appO (.tmp 134) (.tmp 136) (by rfl) _ _ _ (by rfl) (World.ownsRow.alloc (w := u2.drew) HO1.out _) _ _ _ (by rfl) ([.int .i64 (A1 : Nat), .int .i64 (T : Nat), .int .i64 (f : Nat), .int .i64 (c : Nat), .int .i64 (hs : Nat), .slice none 0 0, .slice (some ⟨u1.heap.size + 1, 0, none⟩) n n, .int .i64 0, .bool false]) (⟨rfl, fun _ => ⟨⟨u2.heap.size, 0, none⟩, rfl, fun j u hu => by rw [Addr.add_lit, Nat.zero_add]; exact new_cell u2.drew _ _ (by simpa using hu)⟩⟩) (HPONE.out) (by omega) ?_
                intro v2 u3 own2 g2 e2
                obtain ⟨av2, cv2, rfl⟩ := own_slice own2
                have HF2 := Lib.hid ((HF1.out.more (u'' := u2.drew.alloc (.cells #[.int .i64 (A1 : Nat), .int .i64 (T : Nat), .int .i64 (f : Nat), .int .i64 (c : Nat), .int .i64 (hs : Nat), .slice none 0 0, .slice (some ⟨u1.heap.size + 1, 0, none⟩) n n, .int .i64 0, .bool false] 47)) ((show Below u2.heap.size u2 u2.drew from ⟨rfl, rfl, rfl, Nat.le_refl _, fun _ _ => rfl⟩).alloc (Nat.le_refl _) _)).app g2 e2); have HO2 := Lib.hid own2
                have k3 := (HF2.out.below.cell (p := ⟨h, 0, none⟩) (by exact hlhq)).trans c0
                clear own2 g2 e2
                refine hK.out _ _ ?_ (fun hH3 => ?_)
                · (try dsimp only); (first | done | trivial)
                clear hK K
                clear hH2
                try simp only [Act.put, List.setIfInBounds_toArray, List.set_cons_zero, List.set_cons_succ]
                refine wpAnyH_ready (rs := [8]) (by kernel_rfl) (by simp) ?_
                refine (AllReadyH.cons (o := { dst := some 141, op := Op.load 40 (Operand.tmp 140), type := 40, pos := "ref.go:68", after := #[{ on := 7, ground := Ground.data }], guard := none }) rfl (fun K hK => ?_) AllReadyH.nil)
                go_simp
                refine hK.out _ _ ?_ (fun hH4 => ?_)
                · (try dsimp only); (first | done | trivial)
                clear hK K
                clear hH3
                try simp only [Act.put, List.setIfInBounds_toArray, List.set_cons_zero, List.set_cons_succ]
                refine wpAnyH_take (i := 10) (oi := { dst := some 143, op := Op.slice 40 (Operand.tmp 141) (some (Operand.tmp 142)) none none, type := 40, pos := "ref.go:68", after := #[{ on := 8, ground := Ground.data }, { on := 9, ground := Ground.data }], guard := none }) (v := ?v89) rfl (by kernel_rfl) (by kernel_rfl) (by kernel_rfl) (fun _ _ _ h => h) (Or.inl ⟨by rfl, ?hy89⟩) (by assumption) ?_
                case hy89 => intro w hSw; (try dsimp only at hSw); go_simp; (try simp only [if_pos hkc, if_pos hkc3, if_pos hkc2, Int.toNat_natCast, hAO]); (try with_reducible rfl)
                try simp only [Act.put, List.setIfInBounds_toArray, List.set_cons_zero, List.set_cons_succ]
                refine wpAnyH_ready (rs := [11]) (by kernel_rfl) (by simp) ?_
                refine (AllReadyH.cons (o := { dst := some 144, op := Op.call { callee := Callee.builtin Builtin.append, args := #[Operand.tmp 137, Operand.tmp 143], argTypes := #[40, 40] }, type := 40, pos := "ref.go:68", after := #[{ on := 4, ground := Ground.data }, { on := 10, ground := Ground.data }, { on := 4, ground := Ground.chain }], guard := none }) rfl (fun K hK => ?_) AllReadyH.nil)
                rw [if_pos (by rfl)]; refine wp_appO (.tmp 137) (.tmp 143) (by rfl) _ _ _ (by rfl) HO2.out _ _ _ (by rfl) (cellsL (obs.drop k2)) (SrcO.zero (by rw [List.drop_eq_nil_of_le (by omega)]; rfl) (by omega)) (fun u hu => HONE.out u (cellsL_drop _ _ u hu)) (by omega) ?_
                intro v3 u4 own3 g3 e3
                obtain ⟨av3, cv3, rfl⟩ := own_slice own3
                have HF3 := Lib.hid (HF2.out.app g3 e3); have HO3 := Lib.hid own3
                have k4 := (HF3.out.below.cell (p := ⟨h, 0, none⟩) (by exact hlhq)).trans c0
                have fz4 := frozen_of_row u4 h 0 _ _ (HRQ.out.keep (w' := u4) fun k hk => HF3.out.below.block k (HRQ.out.lt hk)).row
                have oc4 : (u4.setCell ⟨h, 0, none⟩ (.slice av3 (k2 + 1 + (obs.length - k2)) cv3)).cell? ⟨u1.heap.size, 0, none⟩ = some (.int .i64 (A1 : Nat)) := (World.cell?_setCell_other _ _ _ _ (fun e => by injection e; omega)).trans ((HF3.out.below.cell (p := ⟨u1.heap.size, 0, none⟩) (by exact HFQ.out.lt)).trans oc0)
                clear own3 g3 e3
                refine hK.out _ _ ?_ (fun hH5 => ?_)
                · (try dsimp only); (first | done | trivial)
                clear hK K
                clear hH4
                try simp only [Act.put, List.setIfInBounds_toArray, List.set_cons_zero, List.set_cons_succ]
                refine wpAnyH_take (i := 12) (oi := { dst := some 145, op := Op.nilCheck (Operand.tmp 133), type := 0, pos := "ref.go:68", after := #[{ on := 0, ground := Ground.data }, { on := 0, ground := Ground.phase }, { on := 1, ground := Ground.phase }, { on := 2, ground := Ground.phase }, { on := 3, ground := Ground.phase }, { on := 4, ground := Ground.phase }, { on := 5, ground := Ground.phase }, { on := 6, ground := Ground.phase }, { on := 7, ground := Ground.phase }, { on := 8, ground := Ground.phase }, { on := 9, ground := Ground.phase }, { on := 10, ground := Ground.phase }, { on := 11, ground := Ground.phase }], guard := none }) (v := ?v90) rfl (by kernel_rfl) (by kernel_rfl) (by kernel_rfl) (fun _ _ _ h => h) (Or.inl ⟨by rfl, ?hy90⟩) (by assumption) ?_
                case hy90 => intro w hSw; (try dsimp only at hSw); go_simp; (try simp only [if_pos hkc, if_pos hkc3, if_pos hkc2, Int.toNat_natCast, hAO]); (try with_reducible rfl)
                try simp only [Act.put, List.setIfInBounds_toArray, List.set_cons_zero, List.set_cons_succ]
                refine wpAnyH_take (i := 13) (oi := { dst := some 146, op := Op.fieldAddr 43 (Operand.tmp 145) 0, type := 0, pos := "ref.go:68", after := #[{ on := 12, ground := Ground.data }, { on := 0, ground := Ground.phase }, { on := 1, ground := Ground.phase }, { on := 2, ground := Ground.phase }, { on := 3, ground := Ground.phase }, { on := 4, ground := Ground.phase }, { on := 5, ground := Ground.phase }, { on := 6, ground := Ground.phase }, { on := 7, ground := Ground.phase }, { on := 8, ground := Ground.phase }, { on := 9, ground := Ground.phase }, { on := 10, ground := Ground.phase }, { on := 11, ground := Ground.phase }], guard := none }) (v := ?v91) rfl (by kernel_rfl) (by kernel_rfl) (by kernel_rfl) (fun _ _ _ h => h) (Or.inl ⟨by rfl, ?hy91⟩) (by assumption) ?_
                case hy91 => intro w hSw; (try dsimp only at hSw); go_simp; (try simp only [if_pos hkc, if_pos hkc3, if_pos hkc2, Int.toNat_natCast, hAO]); (try with_reducible rfl)
                try simp only [Act.put, List.setIfInBounds_toArray, List.set_cons_zero, List.set_cons_succ]
                refine wpAnyH_ready (rs := [14]) (by kernel_rfl) (by simp) ?_
                refine (AllReadyH.cons (o := { dst := none, op := Op.store 40 (Operand.tmp 146) (Operand.tmp 144), type := 0, pos := "ref.go:68", after := #[{ on := 13, ground := Ground.data }, { on := 11, ground := Ground.data }, { on := 11, ground := Ground.chain }, { on := 0, ground := Ground.phase }, { on := 1, ground := Ground.phase }, { on := 2, ground := Ground.phase }, { on := 3, ground := Ground.phase }, { on := 4, ground := Ground.phase }, { on := 5, ground := Ground.phase }, { on := 6, ground := Ground.phase }, { on := 7, ground := Ground.phase }, { on := 8, ground := Ground.phase }, { on := 9, ground := Ground.phase }, { on := 10, ground := Ground.phase }, { on := 11, ground := Ground.phase }], guard := none }) rfl (fun K hK => ?_) AllReadyH.nil)
                go_simp
                refine hK.out _ _ ?_ (fun hH6 => ?_)
                · (try dsimp only); (first | done | trivial)
                clear hK K
                clear hH5
                try simp only [Act.put, List.setIfInBounds_toArray, List.set_cons_zero, List.set_cons_succ]
                refine wpAnyH_done (by kernel_rfl) ?_ _
                go_wp2_with fail
                go_ret2
                obtain ⟨lv2, q1, q2⟩ := HFIN.out u4 _ _ (by omega) HF3.out HO3.out
                have eT := HT2.out
                subst eT
                exact ⟨rfl, k2, _, lv2, by omega, q1, q2⟩
              · go_simp
                refine hK.out _ _ ?_ (fun hH3 => ?_)
                · (try dsimp only); (first | done | trivial)
                clear hK K
                clear hH2
                try simp only [Act.put, List.setIfInBounds_toArray, List.set_cons_zero, List.set_cons_succ]
                refine wpAnyH_take (i := 10) (oi := { dst := some 143, op := Op.slice 40 (Operand.tmp 141) (some (Operand.tmp 142)) none none, type := 40, pos := "ref.go:68", after := #[{ on := 8, ground := Ground.data }, { on := 9, ground := Ground.data }], guard := none }) (v := ?v92) rfl (by kernel_rfl) (by kernel_rfl) (by kernel_rfl) (fun _ _ _ h => h) (Or.inl ⟨by rfl, ?hy92⟩) (by assumption) ?_
                case hy92 => intro w hSw; (try dsimp only at hSw); go_simp; (try simp only [if_pos hkc, if_pos hkc3, if_pos hkc2, Int.toNat_natCast, hAO]); (try with_reducible rfl)
                try simp only [Act.put, List.setIfInBounds_toArray, List.set_cons_zero, List.set_cons_succ]
                refine wpAnyH_ready (rs := [4]) (by kernel_rfl) (by simp) ?_
                refine (AllReadyH.cons (o := { dst := some 137, op := Op.call { callee := Callee.builtin Builtin.append, args := #[Operand.tmp 134, Operand.tmp 136], argTypes := #[40, 40] }, type := 40, pos := "ref.go:68", after := #[{ on := 1, ground := Ground.data }, { on := 3, ground := Ground.data }], guard := none }) rfl (fun K hK => ?_) AllReadyH.nil)
                rw [if_pos (by rfl)]; refine wp_appO (.tmp 134) (.tmp 136) (by rfl) _ _ _ (by rfl) (World.ownsRow.alloc (w := u2.drew) HO1.out _) _ _ _ (by rfl) ([.int .i64 (A1 : Nat), .int .i64 (T : Nat), .int .i64 (f : Nat), .int .i64 (c : Nat), .int .i64 (hs : Nat), .slice none 0 0, .slice (some ⟨u1.heap.size + 1, 0, none⟩) n n, .int .i64 0, .bool false]) (⟨rfl, fun _ => ⟨⟨u2.heap.size, 0, none⟩, rfl, fun j u hu => by rw [Addr.add_lit, Nat.zero_add]; exact new_cell u2.drew _ _ (by simpa using hu)⟩⟩) (HPONE.out) (by omega) ?_
                intro v2 u3 own2 g2 e2
                obtain ⟨av2, cv2, rfl⟩ := own_slice own2
                have HF2 := Lib.hid ((HF1.out.more (u'' := u2.drew.alloc (.cells #[.int .i64 (A1 : Nat), .int .i64 (T : Nat), .int .i64 (f : Nat), .int .i64 (c : Nat), .int .i64 (hs : Nat), .slice none 0 0, .slice (some ⟨u1.heap.size + 1, 0, none⟩) n n, .int .i64 0, .bool false] 47)) ((show Below u2.heap.size u2 u2.drew from ⟨rfl, rfl, rfl, Nat.le_refl _, fun _ _ => rfl⟩).alloc (Nat.le_refl _) _)).app g2 e2); have HO2 := Lib.hid own2
                have k3 := (HF2.out.below.cell (p := ⟨h, 0, none⟩) (by exact hlhq)).trans c0
                clear own2 g2 e2
                refine hK.out _ _ ?_ (fun hH4 => ?_)
                · (try dsimp only); (first | done | trivial)
                clear hK K
                clear hH3
                try simp only [Act.put, List.setIfInBounds_toArray, List.set_cons_zero, List.set_cons_succ]
                refine wpAnyH_ready (rs := [11]) (by kernel_rfl) (by simp) ?_
                refine (AllReadyH.cons (o := { dst := some 144, op := Op.call { callee := Callee.builtin Builtin.append, args := #[Operand.tmp 137, Operand.tmp 143], argTypes := #[40, 40] }, type := 40, pos := "ref.go:68", after := #[{ on := 4, ground := Ground.data }, { on := 10, ground := Ground.data }, { on := 4, ground := Ground.chain }], guard := none }) rfl (fun K hK => ?_) AllReadyH.nil)
                rw [if_pos (by rfl)]; refine wp_appO (.tmp 137) (.tmp 143) (by rfl) _ _ _ (by rfl) HO2.out _ _ _ (by rfl) (cellsL (obs.drop k2)) (SrcO.zero (by rw [List.drop_eq_nil_of_le (by omega)]; rfl) (by omega)) (fun u hu => HONE.out u (cellsL_drop _ _ u hu)) (by omega) ?_
                intro v3 u4 own3 g3 e3
                obtain ⟨av3, cv3, rfl⟩ := own_slice own3
                have HF3 := Lib.hid (HF2.out.app g3 e3); have HO3 := Lib.hid own3
                have k4 := (HF3.out.below.cell (p := ⟨h, 0, none⟩) (by exact hlhq)).trans c0
                have fz4 := frozen_of_row u4 h 0 _ _ (HRQ.out.keep (w' := u4) fun k hk => HF3.out.below.block k (HRQ.out.lt hk)).row
                have oc4 : (u4.setCell ⟨h, 0, none⟩ (.slice av3 (k2 + 1 + (obs.length - k2)) cv3)).cell? ⟨u1.heap.size, 0, none⟩ = some (.int .i64 (A1 : Nat)) := (World.cell?_setCell_other _ _ _ _ (fun e => by injection e; omega)).trans ((HF3.out.below.cell (p := ⟨u1.heap.size, 0, none⟩) (by exact HFQ.out.lt)).trans oc0)
                clear own3 g3 e3
                refine hK.out _ _ ?_ (fun hH5 => ?_)
                · (try dsimp only); (first | done | trivial)
                clear hK K
                clear hH4
                try simp only [Act.put, List.setIfInBounds_toArray, List.set_cons_zero, List.set_cons_succ]
                refine wpAnyH_take (i := 12) (oi := { dst := some 145, op := Op.nilCheck (Operand.tmp 133), type := 0, pos := "ref.go:68", after := #[{ on := 0, ground := Ground.data }, { on := 0, ground := Ground.phase }, { on := 1, ground := Ground.phase }, { on := 2, ground := Ground.phase }, { on := 3, ground := Ground.phase }, { on := 4, ground := Ground.phase }, { on := 5, ground := Ground.phase }, { on := 6, ground := Ground.phase }, { on := 7, ground := Ground.phase }, { on := 8, ground := Ground.phase }, { on := 9, ground := Ground.phase }, { on := 10, ground := Ground.phase }, { on := 11, ground := Ground.phase }], guard := none }) (v := ?v93) rfl (by kernel_rfl) (by kernel_rfl) (by kernel_rfl) (fun _ _ _ h => h) (Or.inl ⟨by rfl, ?hy93⟩) (by assumption) ?_
                case hy93 => intro w hSw; (try dsimp only at hSw); go_simp; (try simp only [if_pos hkc, if_pos hkc3, if_pos hkc2, Int.toNat_natCast, hAO]); (try with_reducible rfl)
                try simp only [Act.put, List.setIfInBounds_toArray, List.set_cons_zero, List.set_cons_succ]
                refine wpAnyH_take (i := 13) (oi := { dst := some 146, op := Op.fieldAddr 43 (Operand.tmp 145) 0, type := 0, pos := "ref.go:68", after := #[{ on := 12, ground := Ground.data }, { on := 0, ground := Ground.phase }, { on := 1, ground := Ground.phase }, { on := 2, ground := Ground.phase }, { on := 3, ground := Ground.phase }, { on := 4, ground := Ground.phase }, { on := 5, ground := Ground.phase }, { on := 6, ground := Ground.phase }, { on := 7, ground := Ground.phase }, { on := 8, ground := Ground.phase }, { on := 9, ground := Ground.phase }, { on := 10, ground := Ground.phase }, { on := 11, ground := Ground.phase }], guard := none }) (v := ?v94) rfl (by kernel_rfl) (by kernel_rfl) (by kernel_rfl) (fun _ _ _ h => h) (Or.inl ⟨by rfl, ?hy94⟩) (by assumption) ?_
                case hy94 => intro w hSw; (try dsimp only at hSw); go_simp; (try simp only [if_pos hkc, if_pos hkc3, if_pos hkc2, Int.toNat_natCast, hAO]); (try with_reducible rfl)
                try simp only [Act.put, List.setIfInBounds_toArray, List.set_cons_zero, List.set_cons_succ]
                refine wpAnyH_ready (rs := [14]) (by kernel_rfl) (by simp) ?_
                refine (AllReadyH.cons (o := { dst := none, op := Op.store 40 (Operand.tmp 146) (Operand.tmp 144), type := 0, pos := "ref.go:68", after := #[{ on := 13, ground := Ground.data }, { on := 11, ground := Ground.data }, { on := 11, ground := Ground.chain }, { on := 0, ground := Ground.phase }, { on := 1, ground := Ground.phase }, { on := 2, ground := Ground.phase }, { on := 3, ground := Ground.phase }, { on := 4, ground := Ground.phase }, { on := 5, ground := Ground.phase }, { on := 6, ground := Ground.phase }, { on := 7, ground := Ground.phase }, { on := 8, ground := Ground.phase }, { on := 9, ground := Ground.phase }, { on := 10, ground := Ground.phase }, { on := 11, ground := Ground.phase }], guard := none }) rfl (fun K hK => ?_) AllReadyH.nil)
                go_simp
                refine hK.out _ _ ?_ (fun hH6 => ?_)
                · (try dsimp only); (first | done | trivial)
                clear hK K
                clear hH5
                try simp only [Act.put, List.setIfInBounds_toArray, List.set_cons_zero, List.set_cons_succ]
                refine wpAnyH_done (by kernel_rfl) ?_ _
                go_wp2_with fail
                go_ret2
                obtain ⟨lv2, q1, q2⟩ := HFIN.out u4 _ _ (by omega) HF3.out HO3.out
                have eT := HT2.out
                subst eT
                exact ⟨rfl, k2, _, lv2, by omega, q1, q2⟩
            · go_simp
              refine hK.out _ _ ?_ (fun hH2 => ?_)
              · (try dsimp only); (first | done | trivial)
              clear hK K
              clear hH1
              try simp only [Act.put, List.setIfInBounds_toArray, List.set_cons_zero, List.set_cons_succ]
              refine wpAnyH_take (i := 10) (oi := { dst := some 143, op := Op.slice 40 (Operand.tmp 141) (some (Operand.tmp 142)) none none, type := 40, pos := "ref.go:68", after := #[{ on := 8, ground := Ground.data }, { on := 9, ground := Ground.data }], guard := none }) (v := ?v95) rfl (by kernel_rfl) (by kernel_rfl) (by kernel_rfl) (fun _ _ _ h => h) (Or.inl ⟨by rfl, ?hy95⟩) (by assumption) ?_
              case hy95 => intro w hSw; (try dsimp only at hSw); go_simp; (try simp only [if_pos hkc, if_pos hkc3, if_pos hkc2, Int.toNat_natCast, hAO]); (try with_reducible rfl)
              try simp only [Act.put, List.setIfInBounds_toArray, List.set_cons_zero, List.set_cons_succ]
              refine wpAnyH_ready (rs := [3]) (by kernel_rfl) (by simp) ?_
              refine (AllReadyH.cons (o := { dst := some 136, op := Op.buildSlice 40 1 #[(0, Operand.tmp 135)], type := 40, pos := "ref.go:68", after := #[{ on := 2, ground := Ground.data }], guard := none }) rfl (fun K hK => ?_) AllReadyH.nil)
              go_simp
              refine hK.out _ _ ?_ (fun hH3 => ?_)
              · (try dsimp only); (first | done | trivial)
              clear hK K
              clear hH2
              try simp only [Act.put, List.setIfInBounds_toArray, List.set_cons_zero, List.set_cons_succ]
              refine wpAnyH_ready (rs := [4]) (by kernel_rfl) (by simp) ?_
              refine (AllReadyH.cons (o := { dst := some 137, op := Op.call { callee := Callee.builtin Builtin.append, args := #[Operand.tmp 134, Operand.tmp 136], argTypes := #[40, 40] }, type := 40, pos := "ref.go:68", after := #[{ on := 1, ground := Ground.data }, { on := 3, ground := Ground.data }], guard := none }) rfl (fun K hK => ?_) AllReadyH.nil)
              rw [if_pos (by rfl)]; refine wp_appO (.tmp 134) (.tmp 136) (by rfl) _ _ _ (by rfl) (World.ownsRow.alloc (w := u2.drew) HO1.out _) _ _ _ (by rfl) ([.int .i64 (A1 : Nat), .int .i64 (T : Nat), .int .i64 (f : Nat), .int .i64 (c : Nat), .int .i64 (hs : Nat), .slice none 0 0, .slice (some ⟨u1.heap.size + 1, 0, none⟩) n n, .int .i64 0, .bool false]) (⟨rfl, fun _ => ⟨⟨u2.heap.size, 0, none⟩, rfl, fun j u hu => by rw [Addr.add_lit, Nat.zero_add]; exact new_cell u2.drew _ _ (by simpa using hu)⟩⟩) (HPONE.out) (by omega) ?_
              intro v2 u3 own2 g2 e2
              obtain ⟨av2, cv2, rfl⟩ := own_slice own2
              have HF2 := Lib.hid ((HF1.out.more (u'' := u2.drew.alloc (.cells #[.int .i64 (A1 : Nat), .int .i64 (T : Nat), .int .i64 (f : Nat), .int .i64 (c : Nat), .int .i64 (hs : Nat), .slice none 0 0, .slice (some ⟨u1.heap.size + 1, 0, none⟩) n n, .int .i64 0, .bool false] 47)) ((show Below u2.heap.size u2 u2.drew from ⟨rfl, rfl, rfl, Nat.le_refl _, fun _ _ => rfl⟩).alloc (Nat.le_refl _) _)).app g2 e2); have HO2 := Lib.hid own2
              have k3 := (HF2.out.below.cell (p := ⟨h, 0, none⟩) (by exact hlhq)).trans c0
              clear own2 g2 e2
              refine hK.out _ _ ?_ (fun hH4 => ?_)
              · (try dsimp only); (first | done | trivial)
              clear hK K
              clear hH3
              try simp only [Act.put, List.setIfInBounds_toArray, List.set_cons_zero, List.set_cons_succ]
              refine wpAnyH_ready (rs := [11]) (by kernel_rfl) (by simp) ?_
              refine (AllReadyH.cons (o := { dst := some 144, op := Op.call { callee := Callee.builtin Builtin.append, args := #[Operand.tmp 137, Operand.tmp 143], argTypes := #[40, 40] }, type := 40, pos := "ref.go:68", after := #[{ on := 4, ground := Ground.data }, { on := 10, ground := Ground.data }, { on := 4, ground := Ground.chain }], guard := none }) rfl (fun K hK => ?_) AllReadyH.nil)
              rw [if_pos (by rfl)]; refine wp_appO (.tmp 137) (.tmp 143) (by rfl) _ _ _ (by rfl) HO2.out _ _ _ (by rfl) (cellsL (obs.drop k2)) (SrcO.zero (by rw [List.drop_eq_nil_of_le (by omega)]; rfl) (by omega)) (fun u hu => HONE.out u (cellsL_drop _ _ u hu)) (by omega) ?_
              intro v3 u4 own3 g3 e3
              obtain ⟨av3, cv3, rfl⟩ := own_slice own3
              have HF3 := Lib.hid (HF2.out.app g3 e3); have HO3 := Lib.hid own3
              have k4 := (HF3.out.below.cell (p := ⟨h, 0, none⟩) (by exact hlhq)).trans c0
              have fz4 := frozen_of_row u4 h 0 _ _ (HRQ.out.keep (w' := u4) fun k hk => HF3.out.below.block k (HRQ.out.lt hk)).row
              have oc4 : (u4.setCell ⟨h, 0, none⟩ (.slice av3 (k2 + 1 + (obs.length - k2)) cv3)).cell? ⟨u1.heap.size, 0, none⟩ = some (.int .i64 (A1 : Nat)) := (World.cell?_setCell_other _ _ _ _ (fun e => by injection e; omega)).trans ((HF3.out.below.cell (p := ⟨u1.heap.size, 0, none⟩) (by exact HFQ.out.lt)).trans oc0)
              clear own3 g3 e3
              refine hK.out _ _ ?_ (fun hH5 => ?_)
              · (try dsimp only); (first | done | trivial)
              clear hK K
              clear hH4
              try simp only [Act.put, List.setIfInBounds_toArray, List.set_cons_zero, List.set_cons_succ]
              refine wpAnyH_take (i := 12) (oi := { dst := some 145, op := Op.nilCheck (Operand.tmp 133), type := 0, pos := "ref.go:68", after := #[{ on := 0, ground := Ground.data }, { on := 0, ground := Ground.phase }, { on := 1, ground := Ground.phase }, { on := 2, ground := Ground.phase }, { on := 3, ground := Ground.phase }, { on := 4, ground := Ground.phase }, { on := 5, ground := Ground.phase }, { on := 6, ground := Ground.phase }, { on := 7, ground := Ground.phase }, { on := 8, ground := Ground.phase }, { on := 9, ground := Ground.phase }, { on := 10, ground := Ground.phase }, { on := 11, ground := Ground.phase }], guard := none }) (v := ?v96) rfl (by kernel_rfl) (by kernel_rfl) (by kernel_rfl) (fun _ _ _ h => h) (Or.inl ⟨by rfl, ?hy96⟩) (by assumption) ?_
              case hy96 => intro w hSw; (try dsimp only at hSw); go_simp; (try simp only [if_pos hkc, if_pos hkc3, if_pos hkc2, Int.toNat_natCast, hAO]); (try with_reducible rfl)
              try simp only [Act.put, List.setIfInBounds_toArray, List.set_cons_zero, List.set_cons_succ]
              refine wpAnyH_take (i := 13) (oi := { dst := some 146, op := Op.fieldAddr 43 (Operand.tmp 145) 0, type := 0, pos := "ref.go:68", after := #[{ on := 12, ground := Ground.data }, { on := 0, ground := Ground.phase }, { on := 1, ground := Ground.phase }, { on := 2, ground := Ground.phase }, { on := 3, ground := Ground.phase }, { on := 4, ground := Ground.phase }, { on := 5, ground := Ground.phase }, { on := 6, ground := Ground.phase }, { on := 7, ground := Ground.phase }, { on := 8, ground := Ground.phase }, { on := 9, ground := Ground.phase }, { on := 10, ground := Ground.phase }, { on := 11, ground := Ground.phase }], guard := none }) (v := ?v97) rfl (by kernel_rfl) (by kernel_rfl) (by kernel_rfl) (fun _ _ _ h => h) (Or.inl ⟨by rfl, ?hy97⟩) (by assumption) ?_
              case hy97 => intro w hSw; (try dsimp only at hSw); go_simp; (try simp only [if_pos hkc, if_pos hkc3, if_pos hkc2, Int.toNat_natCast, hAO]); (try with_reducible rfl)
              try simp only [Act.put, List.setIfInBounds_toArray, List.set_cons_zero, List.set_cons_succ]
              refine wpAnyH_ready (rs := [14]) (by kernel_rfl) (by simp) ?_
              refine (AllReadyH.cons (o := { dst := none, op := Op.store 40 (Operand.tmp 146) (Operand.tmp 144), type := 0, pos := "ref.go:68", after := #[{ on := 13, ground := Ground.data }, { on := 11, ground := Ground.data }, { on := 11, ground := Ground.chain }, { on := 0, ground := Ground.phase }, { on := 1, ground := Ground.phase }, { on := 2, ground := Ground.phase }, { on := 3, ground := Ground.phase }, { on := 4, ground := Ground.phase }, { on := 5, ground := Ground.phase }, { on := 6, ground := Ground.phase }, { on := 7, ground := Ground.phase }, { on := 8, ground := Ground.phase }, { on := 9, ground := Ground.phase }, { on := 10, ground := Ground.phase }, { on := 11, ground := Ground.phase }], guard := none }) rfl (fun K hK => ?_) AllReadyH.nil)
              go_simp
              refine hK.out _ _ ?_ (fun hH6 => ?_)
              · (try dsimp only); (first | done | trivial)
              clear hK K
              clear hH5
              try simp only [Act.put, List.setIfInBounds_toArray, List.set_cons_zero, List.set_cons_succ]
              refine wpAnyH_done (by kernel_rfl) ?_ _
              go_wp2_with fail
              go_ret2
              obtain ⟨lv2, q1, q2⟩ := HFIN.out u4 _ _ (by omega) HF3.out HO3.out
              have eT := HT2.out
              subst eT
              exact ⟨rfl, k2, _, lv2, by omega, q1, q2⟩
          · go_simp
            refine hK.out _ _ ?_ (fun hH1 => ?_)
            · (try dsimp only); (first | done | trivial)
            clear hK K
            clear hH0
            try simp only [Act.put, List.setIfInBounds_toArray, List.set_cons_zero, List.set_cons_succ]
            refine wpAnyH_take (i := 10) (oi := { dst := some 143, op := Op.slice 40 (Operand.tmp 141) (some (Operand.tmp 142)) none none, type := 40, pos := "ref.go:68", after := #[{ on := 8, ground := Ground.data }, { on := 9, ground := Ground.data }], guard := none }) (v := ?v98) rfl (by kernel_rfl) (by kernel_rfl) (by kernel_rfl) (fun _ _ _ h => h) (Or.inl ⟨by rfl, ?hy98⟩) (by assumption) ?_
            case hy98 => intro w hSw; (try dsimp only at hSw); go_simp; (try simp only [if_pos hkc, if_pos hkc3, if_pos hkc2, Int.toNat_natCast, hAO]); (try with_reducible rfl)
            try simp only [Act.put, List.setIfInBounds_toArray, List.set_cons_zero, List.set_cons_succ]
            refine wpAnyH_ready (rs := [2]) (by kernel_rfl) (by simp) ?_
            refine (AllReadyH.cons (o := { dst := some 135, op := Op.load 47 (Operand.tmp 16), type := 47, pos := "ref.go:68", after := #[], guard := none }) rfl (fun K hK => ?_) AllReadyH.nil)
            rw [if_pos (by rfl)]; refine wp_load_mid 47 (.tmp 16) (by rfl) u1.heap.size 0 (by rfl) [.int .i64 (A1 : Nat), .int .i64 (T : Nat), .int .i64 (f : Nat), .int .i64 (c : Nat), .int .i64 (hs : Nat), .slice none 0 0, .slice (some ⟨u1.heap.size + 1, 0, none⟩) n n, .int .i64 0, .bool false] _ HRG.out Try.underlying47 rfl info9 ?_
            refine hK.out _ _ ?_ (fun hH2 => ?_)
            · (try dsimp only); (first | done | trivial)
            clear hK K
            clear hH1
            try simp only [Act.put, List.setIfInBounds_toArray, List.set_cons_zero, List.set_cons_succ]
            refine wpAnyH_ready (rs := [3]) (by kernel_rfl) (by simp) ?_
            refine (AllReadyH.cons (o := { dst := some 136, op := Op.buildSlice 40 1 #[(0, Operand.tmp 135)], type := 40, pos := "ref.go:68", after := #[{ on := 2, ground := Ground.data }], guard := none }) rfl (fun K hK => ?_) AllReadyH.nil)
            go_simp
            refine hK.out _ _ ?_ (fun hH3 => ?_)
            · (try dsimp only); (first | done | trivial)
            clear hK K
            clear hH2
            try simp only [Act.put, List.setIfInBounds_toArray, List.set_cons_zero, List.set_cons_succ]
            refine wpAnyH_ready (rs := [4]) (by kernel_rfl) (by simp) ?_
            refine (AllReadyH.cons (o := { dst := some 137, op := Op.call { callee := Callee.builtin Builtin.append, args := #[Operand.tmp 134, Operand.tmp 136], argTypes := #[40, 40] }, type := 40, pos := "ref.go:68", after := #[{ on := 1, ground := Ground.data }, { on := 3, ground := Ground.data }], guard := none }) rfl (fun K hK => ?_) AllReadyH.nil)
            rw [if_pos (by rfl)]; refine wp_appO (.tmp 134) (.tmp 136) (by rfl) _ _ _ (by rfl) (World.ownsRow.alloc (w := u2.drew) HO1.out _) _ _ _ (by rfl) ([.int .i64 (A1 : Nat), .int .i64 (T : Nat), .int .i64 (f : Nat), .int .i64 (c : Nat), .int .i64 (hs : Nat), .slice none 0 0, .slice (some ⟨u1.heap.size + 1, 0, none⟩) n n, .int .i64 0, .bool false]) (⟨rfl, fun _ => ⟨⟨u2.heap.size, 0, none⟩, rfl, fun j u hu => by rw [Addr.add_lit, Nat.zero_add]; exact new_cell u2.drew _ _ (by simpa using hu)⟩⟩) (HPONE.out) (by omega) ?_
            intro v2 u3 own2 g2 e2
            obtain ⟨av2, cv2, rfl⟩ := own_slice own2
            have HF2 := Lib.hid ((HF1.out.more (u'' := u2.drew.alloc (.cells #[.int .i64 (A1 : Nat), .int .i64 (T : Nat), .int .i64 (f : Nat), .int .i64 (c : Nat), .int .i64 (hs : Nat), .slice none 0 0, .slice (some ⟨u1.heap.size + 1, 0, none⟩) n n, .int .i64 0, .bool false] 47)) ((show Below u2.heap.size u2 u2.drew from ⟨rfl, rfl, rfl, Nat.le_refl _, fun _ _ => rfl⟩).alloc (Nat.le_refl _) _)).app g2 e2); have HO2 := Lib.hid own2
            have k3 := (HF2.out.below.cell (p := ⟨h, 0, none⟩) (by exact hlhq)).trans c0
            clear own2 g2 e2
            refine hK.out _ _ ?_ (fun hH4 => ?_)
            · (try dsimp only); (first | done | trivial)
            clear hK K
            clear hH3
            try simp only [Act.put, List.setIfInBounds_toArray, List.set_cons_zero, List.set_cons_succ]
            refine wpAnyH_ready (rs := [11]) (by kernel_rfl) (by simp) ?_
            refine (AllReadyH.cons (o := { dst := some 144, op := Op.call { callee := Callee.builtin Builtin.append, args := #[Operand.tmp 137, Operand.tmp 143], argTypes := #[40, 40] }, type := 40, pos := "ref.go:68", after := #[{ on := 4, ground := Ground.data }, { on := 10, ground := Ground.data }, { on := 4, ground := Ground.chain }], guard := none }) rfl (fun K hK => ?_) AllReadyH.nil)
            rw [if_pos (by rfl)]; refine wp_appO (.tmp 137) (.tmp 143) (by rfl) _ _ _ (by rfl) HO2.out _ _ _ (by rfl) (cellsL (obs.drop k2)) (SrcO.zero (by rw [List.drop_eq_nil_of_le (by omega)]; rfl) (by omega)) (fun u hu => HONE.out u (cellsL_drop _ _ u hu)) (by omega) ?_
            intro v3 u4 own3 g3 e3
            obtain ⟨av3, cv3, rfl⟩ := own_slice own3
            have HF3 := Lib.hid (HF2.out.app g3 e3); have HO3 := Lib.hid own3
            have k4 := (HF3.out.below.cell (p := ⟨h, 0, none⟩) (by exact hlhq)).trans c0
            have fz4 := frozen_of_row u4 h 0 _ _ (HRQ.out.keep (w' := u4) fun k hk => HF3.out.below.block k (HRQ.out.lt hk)).row
            have oc4 : (u4.setCell ⟨h, 0, none⟩ (.slice av3 (k2 + 1 + (obs.length - k2)) cv3)).cell? ⟨u1.heap.size, 0, none⟩ = some (.int .i64 (A1 : Nat)) := (World.cell?_setCell_other _ _ _ _ (fun e => by injection e; omega)).trans ((HF3.out.below.cell (p := ⟨u1.heap.size, 0, none⟩) (by exact HFQ.out.lt)).trans oc0)
            clear own3 g3 e3
            refine hK.out _ _ ?_ (fun hH5 => ?_)
            · (try dsimp only); (first | done | trivial)
            clear hK K
            clear hH4
            try simp only [Act.put, List.setIfInBounds_toArray, List.set_cons_zero, List.set_cons_succ]
            refine wpAnyH_take (i := 12) (oi := { dst := some 145, op := Op.nilCheck (Operand.tmp 133), type := 0, pos := "ref.go:68", after := #[{ on := 0, ground := Ground.data }, { on := 0, ground := Ground.phase }, { on := 1, ground := Ground.phase }, { on := 2, ground := Ground.phase }, { on := 3, ground := Ground.phase }, { on := 4, ground := Ground.phase }, { on := 5, ground := Ground.phase }, { on := 6, ground := Ground.phase }, { on := 7, ground := Ground.phase }, { on := 8, ground := Ground.phase }, { on := 9, ground := Ground.phase }, { on := 10, ground := Ground.phase }, { on := 11, ground := Ground.phase }], guard := none }) (v := ?v99) rfl (by kernel_rfl) (by kernel_rfl) (by kernel_rfl) (fun _ _ _ h => h) (Or.inl ⟨by rfl, ?hy99⟩) (by assumption) ?_
            case hy99 => intro w hSw; (try dsimp only at hSw); go_simp; (try simp only [if_pos hkc, if_pos hkc3, if_pos hkc2, Int.toNat_natCast, hAO]); (try with_reducible rfl)
            try simp only [Act.put, List.setIfInBounds_toArray, List.set_cons_zero, List.set_cons_succ]
            refine wpAnyH_take (i := 13) (oi := { dst := some 146, op := Op.fieldAddr 43 (Operand.tmp 145) 0, type := 0, pos := "ref.go:68", after := #[{ on := 12, ground := Ground.data }, { on := 0, ground := Ground.phase }, { on := 1, ground := Ground.phase }, { on := 2, ground := Ground.phase }, { on := 3, ground := Ground.phase }, { on := 4, ground := Ground.phase }, { on := 5, ground := Ground.phase }, { on := 6, ground := Ground.phase }, { on := 7, ground := Ground.phase }, { on := 8, ground := Ground.phase }, { on := 9, ground := Ground.phase }, { on := 10, ground := Ground.phase }, { on := 11, ground := Ground.phase }], guard := none }) (v := ?v100) rfl (by kernel_rfl) (by kernel_rfl) (by kernel_rfl) (fun _ _ _ h => h) (Or.inl ⟨by rfl, ?hy100⟩) (by assumption) ?_
            case hy100 => intro w hSw; (try dsimp only at hSw); go_simp; (try simp only [if_pos hkc, if_pos hkc3, if_pos hkc2, Int.toNat_natCast, hAO]); (try with_reducible rfl)
            try simp only [Act.put, List.setIfInBounds_toArray, List.set_cons_zero, List.set_cons_succ]
            refine wpAnyH_ready (rs := [14]) (by kernel_rfl) (by simp) ?_
            refine (AllReadyH.cons (o := { dst := none, op := Op.store 40 (Operand.tmp 146) (Operand.tmp 144), type := 0, pos := "ref.go:68", after := #[{ on := 13, ground := Ground.data }, { on := 11, ground := Ground.data }, { on := 11, ground := Ground.chain }, { on := 0, ground := Ground.phase }, { on := 1, ground := Ground.phase }, { on := 2, ground := Ground.phase }, { on := 3, ground := Ground.phase }, { on := 4, ground := Ground.phase }, { on := 5, ground := Ground.phase }, { on := 6, ground := Ground.phase }, { on := 7, ground := Ground.phase }, { on := 8, ground := Ground.phase }, { on := 9, ground := Ground.phase }, { on := 10, ground := Ground.phase }, { on := 11, ground := Ground.phase }], guard := none }) rfl (fun K hK => ?_) AllReadyH.nil)
            go_simp
            refine hK.out _ _ ?_ (fun hH6 => ?_)
            · (try dsimp only); (first | done | trivial)
            clear hK K
            clear hH5
            try simp only [Act.put, List.setIfInBounds_toArray, List.set_cons_zero, List.set_cons_succ]
            refine wpAnyH_done (by kernel_rfl) ?_ _
            go_wp2_with fail
            go_ret2
            obtain ⟨lv2, q1, q2⟩ := HFIN.out u4 _ _ (by omega) HF3.out HO3.out
            have eT := HT2.out
            subst eT
            exact ⟨rfl, k2, _, lv2, by omega, q1, q2⟩

end
end Go.Proofs.Ytljgnmbjidkjnaa.Rf5
