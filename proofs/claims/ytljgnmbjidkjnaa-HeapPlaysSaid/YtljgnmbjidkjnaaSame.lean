/- Are all objects as the document says? -/
import Derived.Test.YtljgnmbjidkjnaaPlay3
import Derived.Deep.RegionHeld3
namespace Go.Proofs.Ytljgnmbjidkjnaa.Rf5
open Go.Proofs.Ytljgnmbjidkjnaa.Gen Go.Proofs.Ytljgnmbjidkjnaa.Base Go.Proofs.Ytljgnmbjidkjnaa.Fr Go.Proofs.Ytljgnmbjidkjnaa.Hp Go.Proofs.Ytljgnmbjidkjnaa.Rf4 Go.ChangeShapes Go.WideShapes Go.ChangeAt Go.RowKit
set_option linter.unusedVariables false
/-- A heap, the reference, an object of it by itself. -/
structure Sm (w u : World) (X : HB) (ws : List Int) (l bg : List Bool) (h r g : Nat) (lv : Value) (obs : List Ob) (ob : Nat) (o : Ob) : Prop where
  hp : HpAt u X ws l bg
  rf : R5 u h r g lv obs l
  row : u.heap[ob]? = some (.cells o.cells.toArray 47 (0, 0))
  bel : Below w.heap.size w u
section
variable {w u u' : World} {X : HB} {ws : List Int} {l bg : List Bool} {N h r g ob : Nat} {lv : Value} {obs : List Ob} {o : Ob} {x : Int}
theorem Sm.below (hS : Sm w u X ws l bg h r g lv obs ob o) (hb : Below u.heap.size u u') : Sm w u' X ws l bg h r g lv obs ob o :=
  ⟨hS.hp.below hb, hS.rf.keep fun k hk => hb.block k (hS.rf.lt hk), (hb.block ob (Array.getElem?_eq_some_iff.1 hS.row).1).trans hS.row, hS.bel.trans (hb.mono hS.bel.size)⟩
theorem Sm.cell (hS : Sm w u X ws l bg h r g lv obs ob o) {j : Nat} {v : Value} (hv : o.cells[j]? = some v) : u.cell? ⟨ob, j, none⟩ = some v := by rw [cell_of_row u ob j _ _ _ hS.row]; simpa using hv
theorem Sm.cells (hS : Sm w u X ws l bg h r g lv obs ob o) : u.cell? ⟨ob, 2, none⟩ = some (.int .i64 (o.fmt : Nat)) ∧ u.cell? ⟨ob, 3, none⟩ = some (.int .i64 o.cls) ∧ u.cell? ⟨ob, 4, none⟩ = some (.int .i64 o.hash) ∧ u.cell? ⟨ob, 7, none⟩ = some (.int .i64 o.col) ∧ u.cell? ⟨ob, 8, none⟩ = some (.bool o.fin) ∧ u.cell? ⟨h, 1, none⟩ = some (.pointer (some ⟨r, 0, none⟩)) ∧ u.cell? ⟨r, 0, none⟩ = some (.slice (some ⟨g, 0, none⟩) l.length l.length) :=
  ⟨hS.cell rfl, hS.cell rfl, hS.cell rfl, hS.cell rfl, hS.cell rfl, hS.rf.c0.2, hS.rf.fr.c0⟩
theorem nxt_fun (hs : obs.Pairwise fun p q => p.pos < q.pos) {v v' : Int} (h1 : nxt obs x v) (h2 : nxt obs x v') : v = v' := by
  rcases h1 with ⟨rfl, n1⟩ | ⟨q, p, rfl, hq, hx, hl⟩ <;> rcases h2 with ⟨rfl, n2⟩ | ⟨q', p', rfl, hq', hx', hl'⟩
  · rfl
  · have := n1 q' p' hq'; omega
  · have := n2 q p hq; omega
  · rcases Nat.lt_trichotomy q q' with c | c | c
    · have := hl' q p c hq; omega
    · subst c; rw [hq] at hq'; cases hq'; rfl
    · have := hl q' p' c hq'; omega
theorem nxt_ex (hs : obs.Pairwise fun p q => p.pos < q.pos) (x : Int) : ∃ v, nxt obs x v := by
  by_cases hh : ∃ (q : Nat) (p : Ob), obs[q]? = some p ∧ x < (p.pos : Int)
  · have key : ∀ n q : Nat, q ≤ n → ∀ p, obs[q]? = some p → x < (p.pos : Int) → ∃ v, nxt obs x v := fun n => by
      induction n with
      | zero => exact fun q hq p hp hx => ⟨_, .inr ⟨q, p, rfl, hp, hx, fun q' p' h1 => by omega⟩⟩
      | succ n ih =>
        intro q hq p hp hx
        by_cases c : ∃ (q' : Nat) (p' : Ob), q' < q ∧ obs[q']? = some p' ∧ x < (p'.pos : Int)
        · obtain ⟨q', p', h1, h2, h3⟩ := c
          exact ih q' (by omega) p' h2 h3
        · refine ⟨_, .inr ⟨q, p, rfl, hp, hx, fun q' p' h1 h2 => ?_⟩⟩
          rcases (show (p'.pos : Int) ≤ x ∨ x < (p'.pos : Int) by omega) with d | d
          · exact d
          · exact absurd ⟨q', p', h1, h2, d⟩ c
    obtain ⟨q, p, h1, h2⟩ := hh
    exact key q q (Nat.le_refl _) p h1 h2
  · refine ⟨0, .inl ⟨rfl, fun q p hq => ?_⟩⟩
    rcases (show (p.pos : Int) ≤ x ∨ x < (p.pos : Int) by omega) with d | d
    · exact d
    · exact absurd ⟨q, p, hq, d⟩ hh
theorem an_Words (h : HpAt w X ws l bg) {U : Int} (hU : (l.length : Int) - cnt l = U) : Calls Try.prog 29 #[.pointer (some ⟨X.h, 0, none⟩)] w fun e w' => e = .returned (.tuple #[.int .i64 U, .int .i64 l.length]) ∧ Below w.heap.size w w' := by
  have h1 := hp_Words h
  rw [← h.e2, hU] at h1
  exact h1.mono fun e w' ⟨a, q, b⟩ => ⟨a, by subst b; exact ⟨rfl, rfl, rfl, Nat.le_refl _, fun _ _ => rfl⟩⟩
set_option maxHeartbeats 8000000 in
set_option maxRecDepth 100000 in
theorem same_any (hH : HpAt w X ws l bg) (hR : R5 w h r g lv obs l) (hK : Kr N ws l bg obs) (x i : Int) (hx : (Lit.int .i64 x).wf = true) (hi : (Lit.int .i64 i).wf = true) :
    Calls Try.prog 14 #[.pointer (some ⟨X.h, 0, none⟩), .pointer (some ⟨h, 0, none⟩), .int .i64 x, .int .i64 i] w fun e w' => e = .returned (.bool true) ∧ Below w.heap.size w w' := by
  have hz := z9_run
  have hget := r5_Got hR x hx
  have HR := Lib.hid hR; have HH := Lib.hid hH; have HK := Lib.hid hK
  have hlen := hR.fr.len
  have hcl := cnt_le l
  clear hR hH hK
  go_enter Try.func14, Try.ntmps14
  go_wp2_with fail
  refine hget.mono ?_
  rintro e u1 ⟨o, b, rfl, hG, hb1⟩
  have HONE := Lib.hid (HR.out.rows hG).one
  have HG := Lib.hid hG
  have hw2 : Below w.heap.size w (u1.alloc (.cells o.cells.toArray 47)) := hb1.alloc hb1.size _
  obtain ⟨ob, hob⟩ : ∃ ob, u1.heap.size = ob := ⟨_, rfl⟩
  have SM2 := Lib.hid (Sm.mk (HH.out.below hw2) (HR.out.keep fun k hk => hw2.block k (HR.out.lt hk)) (heap_alloc_new u1 (.cells o.cells.toArray 47)) hw2)
  obtain ⟨U, hU⟩ : ∃ U : Int, (l.length : Int) - cnt l = U := ⟨_, rfl⟩
  have hU2 : IntKind.i64.wrap ((l.length : Int) - cnt l) = U := by rw [IntWalk.i64_in _ ⟨by omega, by omega⟩]; exact hU
  have HU := Lib.hid hU
  have HLN : Hid (∀ p ∈ obs, p.F.length ≤ 65536 ∧ p.B.length ≤ 65536) := Lib.hid fun p hp => by have := (HK.out.one p hp).len; omega
  have HBW : Hid (∀ p ∈ obs, ∀ v ∈ p.B, 0 ≤ v ∧ v ≤ 255) := Lib.hid fun p hp => (HK.out.one p hp).Bw
  obtain ⟨nv, hnv⟩ := nxt_ex HR.out.srt x
  have HNX := Lib.hid hnv
  obtain ⟨SZ, hSZ⟩ : ∃ SZ : Int, (if b then (o.F.length : Int) + o.B.length else -1) = SZ := ⟨_, rfl⟩
  have HSZ := Lib.hid hSZ
  rw [hob] at SM2
  have HOB := Lib.hid hob
  clear hget hG hb1 hw2 hU hnv hSZ hob
  have HUW := Lib.hid hU2
  clear hU2
  dsimp only
  go_wp2_with (refine wpList_store_row rfl 47 (Operand.tmp 9) (Operand.tmp 21) rfl u1.heap.size o.cells.toArray rfl rfl _ z9 (heap_alloc_new u1 _) info9 rfl HONE.out ?_; rw [World.setRow_alloc_new])
  refine (an_Mark SM2.out.hp HK.out HG.out hx).mono ?_
  rintro e u3 ⟨rfl, hb3⟩
  have SM3 := Lib.hid (SM2.out.below hb3)
  clear hb3 SM2
  dsimp only
  go_wp2_with fail
  refine (an_Words SM3.out.hp HU.out).mono ?_
  rintro e u4 ⟨rfl, hb4⟩
  have SM4 := Lib.hid (SM3.out.below hb4)
  clear hb4 SM3
  dsimp only
  go_upto_region 4 with fail
  have hob := HOB.out
  simp only [hob]
  clear hob
  have SM0 : Hid (Sm w u4.drew X ws l bg h r g lv obs ob o) := Lib.hid (SM4.out.below ⟨rfl, rfl, rfl, Nat.le_refl _, fun _ _ => rfl⟩)
  have SM := SM0
  have hU2 := HUW.out
  refine wp_region_held_drew (S := (fun w' => w'.cell? ⟨ob, 2, none⟩ = some (.int .i64 (o.fmt : Nat)) ∧ w'.cell? ⟨ob, 3, none⟩ = some (.int .i64 o.cls) ∧ w'.cell? ⟨ob, 4, none⟩ = some (.int .i64 o.hash) ∧ w'.cell? ⟨ob, 7, none⟩ = some (.int .i64 o.col) ∧ w'.cell? ⟨ob, 8, none⟩ = some (.bool o.fin) ∧ w'.cell? ⟨h, 1, none⟩ = some (.pointer (some ⟨r, 0, none⟩)) ∧ w'.cell? ⟨r, 0, none⟩ = some (.slice (some ⟨g, 0, none⟩) l.length l.length))) (by as_aux_lemma => kernel_rfl) ?_ (fun hH0 => ?_)
  · (try dsimp only); exact SM0.out.cells
  refine wpAnyH_take (i := 0) (oi := { dst := some 34, op := Op.move (Operand.tmp 0), type := 24, pos := "law.go:34", after := #[], guard := none }) (v := ?v1) rfl (by as_aux_lemma => kernel_rfl) (by as_aux_lemma => kernel_rfl) (by as_aux_lemma => kernel_rfl) (fun _ _ _ h => h) (Or.inl ⟨by rfl, ?hy1⟩) (by assumption) ?_
  case hy1 => intro w hSw; (try dsimp only at hSw); go_simp; (try with_reducible rfl)
  try simp only [Act.put, List.setIfInBounds_toArray, List.set_cons_zero, List.set_cons_succ]
  refine wpAnyH_take (i := 1) (oi := { dst := some 35, op := Op.move (Operand.tmp 2), type := 3, pos := "law.go:34", after := #[], guard := none }) (v := ?v2) rfl (by as_aux_lemma => kernel_rfl) (by as_aux_lemma => kernel_rfl) (by as_aux_lemma => kernel_rfl) (fun _ _ _ h => h) (Or.inl ⟨by rfl, ?hy2⟩) (by assumption) ?_
  case hy2 => intro w hSw; (try dsimp only at hSw); go_simp; (try with_reducible rfl)
  try simp only [Act.put, List.setIfInBounds_toArray, List.set_cons_zero, List.set_cons_succ]
  refine wpAnyH_take (i := 3) (oi := { dst := some 37, op := Op.move (Operand.tmp 10), type := 4, pos := "law.go:34", after := #[], guard := none }) (v := ?v3) rfl (by as_aux_lemma => kernel_rfl) (by as_aux_lemma => kernel_rfl) (by as_aux_lemma => kernel_rfl) (fun _ _ _ h => h) (Or.inl ⟨by rfl, ?hy3⟩) (by assumption) ?_
  case hy3 => intro w hSw; (try dsimp only at hSw); go_simp; (try with_reducible rfl)
  try simp only [Act.put, List.setIfInBounds_toArray, List.set_cons_zero, List.set_cons_succ]
  refine wpAnyH_ready (rs := [2]) (by as_aux_lemma => kernel_rfl) (by simp) ?_
  refine AllReadyH.cons (o := { dst := some 36, op := Op.call { callee := Callee.value (Operand.func 26), args := #[Operand.tmp 34, Operand.tmp 35], argTypes := #[24, 3] }, type := 4, pos := "law.go:34", after := #[{ on := 0, ground := Ground.data }, { on := 1, ground := Ground.data }], guard := none }) rfl (fun K hK => ?_) AllReadyH.nil
  go_simp; go_at_call 26; with_reducible refine (an_Has SM.out.hp HK.out HG.out hx).mono ?_; rintro e w4 ⟨rfl, e4⟩; subst w4; dsimp only
  refine hK.out _ _ ?_ (fun hH1 => ?_)
  · (try dsimp only); first | exact hS | exact SM.out.cells | assumption
  clear hK K
  clear hH0
  try simp only [Act.put, List.setIfInBounds_toArray, List.set_cons_zero, List.set_cons_succ]
  refine wpAnyH_take (i := 4) (oi := { dst := some 38, op := Op.binOp BinOp.neq 4 (Operand.tmp 36) (Operand.tmp 37) 4, type := 4, pos := "law.go:34", after := #[{ on := 2, ground := Ground.data }, { on := 3, ground := Ground.data }], guard := none }) (v := ?v5) rfl (by as_aux_lemma => kernel_rfl) (by as_aux_lemma => kernel_rfl) (by as_aux_lemma => kernel_rfl) (fun _ _ _ h => h) (Or.inl ⟨by rfl, ?hy5⟩) (by assumption) ?_
  case hy5 => intro w hSw; (try dsimp only at hSw); go_simp; (try with_reducible rfl)
  try simp only [Act.put, List.setIfInBounds_toArray, List.set_cons_zero, List.set_cons_succ]
  refine wpAnyH_take (i := 5) (oi := { dst := some 39, op := Op.move (Operand.tmp 38), type := 4, pos := "law.go:34", after := #[{ on := 4, ground := Ground.data }, { on := 2, ground := Ground.chain }], guard := none }) (v := ?v6) rfl (by as_aux_lemma => kernel_rfl) (by as_aux_lemma => kernel_rfl) (by as_aux_lemma => kernel_rfl) (fun _ _ _ h => h) (Or.inl ⟨by rfl, ?hy6⟩) (by assumption) ?_
  case hy6 => intro w hSw; (try dsimp only at hSw); go_simp; (try with_reducible rfl)
  try simp only [Act.put, List.setIfInBounds_toArray, List.set_cons_zero, List.set_cons_succ]
  refine wpAnyH_take (i := 6) (oi := { dst := some 40, op := Op.move (Operand.tmp 0), type := 24, pos := "law.go:34", after := #[{ on := 5, ground := Ground.guard }], guard := some (5, false) }) (v := ?v7) rfl (by as_aux_lemma => kernel_rfl) (by as_aux_lemma => kernel_rfl) (by as_aux_lemma => kernel_rfl) (fun _ _ _ h => h) (Or.inl ⟨by rfl, ?hy7⟩) (by assumption) ?_
  case hy7 => intro w hSw; (try dsimp only at hSw); go_simp; (try with_reducible rfl)
  try simp only [Act.put, List.setIfInBounds_toArray, List.set_cons_zero, List.set_cons_succ]
  refine wpAnyH_take (i := 7) (oi := { dst := some 41, op := Op.move (Operand.tmp 2), type := 3, pos := "law.go:34", after := #[{ on := 5, ground := Ground.guard }], guard := some (5, false) }) (v := ?v8) rfl (by as_aux_lemma => kernel_rfl) (by as_aux_lemma => kernel_rfl) (by as_aux_lemma => kernel_rfl) (fun _ _ _ h => h) (Or.inl ⟨by rfl, ?hy8⟩) (by assumption) ?_
  case hy8 => intro w hSw; (try dsimp only at hSw); go_simp; (try with_reducible rfl)
  try simp only [Act.put, List.setIfInBounds_toArray, List.set_cons_zero, List.set_cons_succ]
  refine wpAnyH_take (i := 9) (oi := { dst := some 43, op := Op.move (Operand.tmp 1), type := 26, pos := "law.go:34", after := #[{ on := 5, ground := Ground.guard }], guard := some (5, false) }) (v := ?v9) rfl (by as_aux_lemma => kernel_rfl) (by as_aux_lemma => kernel_rfl) (by as_aux_lemma => kernel_rfl) (fun _ _ _ h => h) (Or.inl ⟨by rfl, ?hy9⟩) (by assumption) ?_
  case hy9 => intro w hSw; (try dsimp only at hSw); go_simp; (try with_reducible rfl)
  try simp only [Act.put, List.setIfInBounds_toArray, List.set_cons_zero, List.set_cons_succ]
  refine wpAnyH_take (i := 10) (oi := { dst := some 44, op := Op.move (Operand.tmp 2), type := 3, pos := "law.go:34", after := #[{ on := 5, ground := Ground.guard }], guard := some (5, false) }) (v := ?v10) rfl (by as_aux_lemma => kernel_rfl) (by as_aux_lemma => kernel_rfl) (by as_aux_lemma => kernel_rfl) (fun _ _ _ h => h) (Or.inl ⟨by rfl, ?hy10⟩) (by assumption) ?_
  case hy10 => intro w hSw; (try dsimp only at hSw); go_simp; (try with_reducible rfl)
  try simp only [Act.put, List.setIfInBounds_toArray, List.set_cons_zero, List.set_cons_succ]
  refine wpAnyH_ready (rs := [8]) (by as_aux_lemma => kernel_rfl) (by simp) ?_
  refine AllReadyH.cons (o := { dst := some 42, op := Op.call { callee := Callee.value (Operand.func 27), args := #[Operand.tmp 40, Operand.tmp 41], argTypes := #[24, 3] }, type := 3, pos := "law.go:34", after := #[{ on := 6, ground := Ground.data }, { on := 7, ground := Ground.data }, { on := 5, ground := Ground.chain }, { on := 5, ground := Ground.guard }], guard := some (5, false) }) rfl (fun K hK => ?_) AllReadyH.nil
  go_simp; go_at_call 27; with_reducible refine (HSZ.out ▸ an_Size SM.out.hp HK.out HG.out hx).mono ?_; rintro e w4 ⟨rfl, e4⟩; subst w4; dsimp only
  refine hK.out _ _ ?_ (fun hH2 => ?_)
  · (try dsimp only); first | exact hS | exact SM.out.cells | assumption
  clear hK K
  clear hH1
  try simp only [Act.put, List.setIfInBounds_toArray, List.set_cons_zero, List.set_cons_succ]
  refine wpAnyH_ready (rs := [11]) (by as_aux_lemma => kernel_rfl) (by simp) ?_
  refine AllReadyH.cons (o := { dst := some 45, op := Op.call { callee := Callee.value (Operand.func 46), args := #[Operand.tmp 43, Operand.tmp 44], argTypes := #[26, 3] }, type := 3, pos := "law.go:34", after := #[{ on := 9, ground := Ground.data }, { on := 10, ground := Ground.data }, { on := 8, ground := Ground.chain }, { on := 5, ground := Ground.guard }], guard := some (5, false) }) rfl (fun K hK => ?_) AllReadyH.nil
  go_simp; go_at_call 46; with_reducible refine (r5_Size SM.out.rf x hx HLN.out).mono ?_
  rintro e u ⟨o2, b2, rfl, hG2, hb⟩
  obtain ⟨rfl, rfl⟩ := Got.fun SM.out.rf.srt HG.out hG2
  clear hG2
  rw [HSZ.out]
  have SM := Lib.hid (SM.out.below hb)
  clear hb
  have hS := SM.out.cells
  dsimp only
  refine hK.out _ _ ?_ (fun hH3 => ?_)
  · (try dsimp only); first | exact hS | exact SM.out.cells | assumption
  clear hK K
  clear hH2
  try simp only [Act.put, List.setIfInBounds_toArray, List.set_cons_zero, List.set_cons_succ]
  refine wpAnyH_take (i := 12) (oi := { dst := some 46, op := Op.binOp BinOp.neq 3 (Operand.tmp 42) (Operand.tmp 45) 3, type := 4, pos := "law.go:34", after := #[{ on := 8, ground := Ground.data }, { on := 11, ground := Ground.data }, { on := 5, ground := Ground.guard }], guard := some (5, false) }) (v := ?v13) rfl (by as_aux_lemma => kernel_rfl) (by as_aux_lemma => kernel_rfl) (by as_aux_lemma => kernel_rfl) (fun _ _ _ h => h) (Or.inl ⟨by rfl, ?hy13⟩) (by assumption) ?_
  case hy13 => intro w hSw; (try dsimp only at hSw); go_simp; (try with_reducible rfl)
  try simp only [Act.put, List.setIfInBounds_toArray, List.set_cons_zero, List.set_cons_succ]
  refine wpAnyH_take (i := 13) (oi := { dst := some 47, op := Op.pick (Operand.tmp 39) (Operand.const (Value.bool true)) (Operand.tmp 46), type := 4, pos := "law.go:34", after := #[{ on := 5, ground := Ground.data }, { on := 12, ground := Ground.data }], guard := none }) (v := ?v14) rfl (by as_aux_lemma => kernel_rfl) (by as_aux_lemma => kernel_rfl) (by as_aux_lemma => kernel_rfl) (fun _ _ _ h => h) (Or.inl ⟨by rfl, ?hy14⟩) (by assumption) ?_
  case hy14 => intro w hSw; (try dsimp only at hSw); go_simp; (try with_reducible rfl)
  try simp only [Act.put, List.setIfInBounds_toArray, List.set_cons_zero, List.set_cons_succ]
  refine wpAnyH_take (i := 14) (oi := { dst := some 48, op := Op.move (Operand.tmp 47), type := 4, pos := "law.go:34", after := #[{ on := 13, ground := Ground.data }, { on := 11, ground := Ground.chain }], guard := none }) (v := ?v15) rfl (by as_aux_lemma => kernel_rfl) (by as_aux_lemma => kernel_rfl) (by as_aux_lemma => kernel_rfl) (fun _ _ _ h => h) (Or.inl ⟨by rfl, ?hy15⟩) (by assumption) ?_
  case hy15 => intro w hSw; (try dsimp only at hSw); go_simp; (try with_reducible rfl)
  try simp only [Act.put, List.setIfInBounds_toArray, List.set_cons_zero, List.set_cons_succ]
  refine wpAnyH_take (i := 15) (oi := { dst := some 49, op := Op.move (Operand.tmp 0), type := 24, pos := "law.go:34", after := #[{ on := 14, ground := Ground.guard }], guard := some (14, false) }) (v := ?v16) rfl (by as_aux_lemma => kernel_rfl) (by as_aux_lemma => kernel_rfl) (by as_aux_lemma => kernel_rfl) (fun _ _ _ h => h) (Or.inl ⟨by rfl, ?hy16⟩) (by assumption) ?_
  case hy16 => intro w hSw; (try dsimp only at hSw); go_simp; (try with_reducible rfl)
  try simp only [Act.put, List.setIfInBounds_toArray, List.set_cons_zero, List.set_cons_succ]
  refine wpAnyH_take (i := 16) (oi := { dst := some 50, op := Op.move (Operand.tmp 2), type := 3, pos := "law.go:34", after := #[{ on := 14, ground := Ground.guard }], guard := some (14, false) }) (v := ?v17) rfl (by as_aux_lemma => kernel_rfl) (by as_aux_lemma => kernel_rfl) (by as_aux_lemma => kernel_rfl) (fun _ _ _ h => h) (Or.inl ⟨by rfl, ?hy17⟩) (by assumption) ?_
  case hy17 => intro w hSw; (try dsimp only at hSw); go_simp; (try with_reducible rfl)
  try simp only [Act.put, List.setIfInBounds_toArray, List.set_cons_zero, List.set_cons_succ]
  refine wpAnyH_take (i := 18) (oi := { dst := some 52, op := Op.fieldAddr 47 (Operand.tmp 9) 2, type := 0, pos := "law.go:34", after := #[{ on := 14, ground := Ground.guard }], guard := some (14, false) }) (v := ?v18) rfl (by as_aux_lemma => kernel_rfl) (by as_aux_lemma => kernel_rfl) (by as_aux_lemma => kernel_rfl) (fun _ _ _ h => h) (Or.inl ⟨by rfl, ?hy18⟩) (by assumption) ?_
  case hy18 => intro w hSw; (try dsimp only at hSw); go_simp; (try with_reducible rfl)
  try simp only [Act.put, List.setIfInBounds_toArray, List.set_cons_zero, List.set_cons_succ]
  refine wpAnyH_take (i := 19) (oi := { dst := some 53, op := Op.load 3 (Operand.tmp 52), type := 3, pos := "law.go:34", after := #[{ on := 18, ground := Ground.data }, { on := 14, ground := Ground.guard }], guard := some (14, false) }) (v := ?v19) rfl (by as_aux_lemma => kernel_rfl) (by as_aux_lemma => kernel_rfl) (by as_aux_lemma => kernel_rfl) (fun _ _ _ h => h) (Or.inl ⟨by rfl, ?hy19⟩) (by assumption) ?_
  case hy19 => intro w hSw; (try dsimp only at hSw); go_simp; (try with_reducible rfl)
  try simp only [Act.put, List.setIfInBounds_toArray, List.set_cons_zero, List.set_cons_succ]
  refine wpAnyH_ready (rs := [17]) (by as_aux_lemma => kernel_rfl) (by simp) ?_
  refine AllReadyH.cons (o := { dst := some 51, op := Op.call { callee := Callee.value (Operand.func 47), args := #[Operand.tmp 49, Operand.tmp 50], argTypes := #[24, 3] }, type := 3, pos := "law.go:34", after := #[{ on := 15, ground := Ground.data }, { on := 16, ground := Ground.data }, { on := 14, ground := Ground.chain }, { on := 14, ground := Ground.guard }], guard := some (14, false) }) rfl (fun K hK => ?_) AllReadyH.nil
  go_simp; go_at_call 47; with_reducible refine (an_Fmt SM.out.hp HK.out HG.out hx).mono ?_; rintro e w4 ⟨rfl, e4⟩; subst w4; dsimp only
  refine hK.out _ _ ?_ (fun hH4 => ?_)
  · (try dsimp only); first | exact hS | exact SM.out.cells | assumption
  clear hK K
  clear hH3
  try simp only [Act.put, List.setIfInBounds_toArray, List.set_cons_zero, List.set_cons_succ]
  refine wpAnyH_take (i := 20) (oi := { dst := some 54, op := Op.binOp BinOp.neq 3 (Operand.tmp 51) (Operand.tmp 53) 3, type := 4, pos := "law.go:34", after := #[{ on := 17, ground := Ground.data }, { on := 19, ground := Ground.data }, { on := 14, ground := Ground.guard }], guard := some (14, false) }) (v := ?v21) rfl (by as_aux_lemma => kernel_rfl) (by as_aux_lemma => kernel_rfl) (by as_aux_lemma => kernel_rfl) (fun _ _ _ h => h) (Or.inl ⟨by rfl, ?hy21⟩) (by assumption) ?_
  case hy21 => intro w hSw; (try dsimp only at hSw); go_simp; (try with_reducible rfl)
  try simp only [Act.put, List.setIfInBounds_toArray, List.set_cons_zero, List.set_cons_succ]
  refine wpAnyH_take (i := 21) (oi := { dst := some 55, op := Op.pick (Operand.tmp 48) (Operand.const (Value.bool true)) (Operand.tmp 54), type := 4, pos := "law.go:34", after := #[{ on := 14, ground := Ground.data }, { on := 20, ground := Ground.data }], guard := none }) (v := ?v22) rfl (by as_aux_lemma => kernel_rfl) (by as_aux_lemma => kernel_rfl) (by as_aux_lemma => kernel_rfl) (fun _ _ _ h => h) (Or.inl ⟨by rfl, ?hy22⟩) (by assumption) ?_
  case hy22 => intro w hSw; (try dsimp only at hSw); go_simp; (try with_reducible rfl)
  try simp only [Act.put, List.setIfInBounds_toArray, List.set_cons_zero, List.set_cons_succ]
  refine wpAnyH_take (i := 22) (oi := { dst := some 56, op := Op.move (Operand.tmp 55), type := 4, pos := "law.go:34", after := #[{ on := 21, ground := Ground.data }, { on := 17, ground := Ground.chain }], guard := none }) (v := ?v23) rfl (by as_aux_lemma => kernel_rfl) (by as_aux_lemma => kernel_rfl) (by as_aux_lemma => kernel_rfl) (fun _ _ _ h => h) (Or.inl ⟨by rfl, ?hy23⟩) (by assumption) ?_
  case hy23 => intro w hSw; (try dsimp only at hSw); go_simp; (try with_reducible rfl)
  try simp only [Act.put, List.setIfInBounds_toArray, List.set_cons_zero, List.set_cons_succ]
  refine wpAnyH_take (i := 23) (oi := { dst := some 57, op := Op.move (Operand.tmp 0), type := 24, pos := "law.go:34", after := #[{ on := 22, ground := Ground.guard }], guard := some (22, false) }) (v := ?v24) rfl (by as_aux_lemma => kernel_rfl) (by as_aux_lemma => kernel_rfl) (by as_aux_lemma => kernel_rfl) (fun _ _ _ h => h) (Or.inl ⟨by rfl, ?hy24⟩) (by assumption) ?_
  case hy24 => intro w hSw; (try dsimp only at hSw); go_simp; (try with_reducible rfl)
  try simp only [Act.put, List.setIfInBounds_toArray, List.set_cons_zero, List.set_cons_succ]
  refine wpAnyH_take (i := 24) (oi := { dst := some 58, op := Op.move (Operand.tmp 2), type := 3, pos := "law.go:34", after := #[{ on := 22, ground := Ground.guard }], guard := some (22, false) }) (v := ?v25) rfl (by as_aux_lemma => kernel_rfl) (by as_aux_lemma => kernel_rfl) (by as_aux_lemma => kernel_rfl) (fun _ _ _ h => h) (Or.inl ⟨by rfl, ?hy25⟩) (by assumption) ?_
  case hy25 => intro w hSw; (try dsimp only at hSw); go_simp; (try with_reducible rfl)
  try simp only [Act.put, List.setIfInBounds_toArray, List.set_cons_zero, List.set_cons_succ]
  refine wpAnyH_take (i := 26) (oi := { dst := some 60, op := Op.fieldAddr 47 (Operand.tmp 9) 3, type := 0, pos := "law.go:34", after := #[{ on := 22, ground := Ground.guard }], guard := some (22, false) }) (v := ?v26) rfl (by as_aux_lemma => kernel_rfl) (by as_aux_lemma => kernel_rfl) (by as_aux_lemma => kernel_rfl) (fun _ _ _ h => h) (Or.inl ⟨by rfl, ?hy26⟩) (by assumption) ?_
  case hy26 => intro w hSw; (try dsimp only at hSw); go_simp; (try with_reducible rfl)
  try simp only [Act.put, List.setIfInBounds_toArray, List.set_cons_zero, List.set_cons_succ]
  refine wpAnyH_take (i := 27) (oi := { dst := some 61, op := Op.load 3 (Operand.tmp 60), type := 3, pos := "law.go:34", after := #[{ on := 26, ground := Ground.data }, { on := 22, ground := Ground.guard }], guard := some (22, false) }) (v := ?v27) rfl (by as_aux_lemma => kernel_rfl) (by as_aux_lemma => kernel_rfl) (by as_aux_lemma => kernel_rfl) (fun _ _ _ h => h) (Or.inl ⟨by rfl, ?hy27⟩) (by assumption) ?_
  case hy27 => intro w hSw; (try dsimp only at hSw); go_simp; (try with_reducible rfl)
  try simp only [Act.put, List.setIfInBounds_toArray, List.set_cons_zero, List.set_cons_succ]
  refine wpAnyH_ready (rs := [25]) (by as_aux_lemma => kernel_rfl) (by simp) ?_
  refine AllReadyH.cons (o := { dst := some 59, op := Op.call { callee := Callee.value (Operand.func 48), args := #[Operand.tmp 57, Operand.tmp 58], argTypes := #[24, 3] }, type := 3, pos := "law.go:34", after := #[{ on := 23, ground := Ground.data }, { on := 24, ground := Ground.data }, { on := 22, ground := Ground.chain }, { on := 22, ground := Ground.guard }], guard := some (22, false) }) rfl (fun K hK => ?_) AllReadyH.nil
  go_simp; go_at_call 48; with_reducible refine (an_Class SM.out.hp HK.out HG.out hx).mono ?_; rintro e w4 ⟨rfl, e4⟩; subst w4; dsimp only
  refine hK.out _ _ ?_ (fun hH5 => ?_)
  · (try dsimp only); first | exact hS | exact SM.out.cells | assumption
  clear hK K
  clear hH4
  try simp only [Act.put, List.setIfInBounds_toArray, List.set_cons_zero, List.set_cons_succ]
  refine wpAnyH_take (i := 28) (oi := { dst := some 62, op := Op.binOp BinOp.neq 3 (Operand.tmp 59) (Operand.tmp 61) 3, type := 4, pos := "law.go:34", after := #[{ on := 25, ground := Ground.data }, { on := 27, ground := Ground.data }, { on := 22, ground := Ground.guard }], guard := some (22, false) }) (v := ?v29) rfl (by as_aux_lemma => kernel_rfl) (by as_aux_lemma => kernel_rfl) (by as_aux_lemma => kernel_rfl) (fun _ _ _ h => h) (Or.inl ⟨by rfl, ?hy29⟩) (by assumption) ?_
  case hy29 => intro w hSw; (try dsimp only at hSw); go_simp; (try with_reducible rfl)
  try simp only [Act.put, List.setIfInBounds_toArray, List.set_cons_zero, List.set_cons_succ]
  refine wpAnyH_take (i := 29) (oi := { dst := some 63, op := Op.pick (Operand.tmp 56) (Operand.const (Value.bool true)) (Operand.tmp 62), type := 4, pos := "law.go:34", after := #[{ on := 22, ground := Ground.data }, { on := 28, ground := Ground.data }], guard := none }) (v := ?v30) rfl (by as_aux_lemma => kernel_rfl) (by as_aux_lemma => kernel_rfl) (by as_aux_lemma => kernel_rfl) (fun _ _ _ h => h) (Or.inl ⟨by rfl, ?hy30⟩) (by assumption) ?_
  case hy30 => intro w hSw; (try dsimp only at hSw); go_simp; (try with_reducible rfl)
  try simp only [Act.put, List.setIfInBounds_toArray, List.set_cons_zero, List.set_cons_succ]
  refine wpAnyH_take (i := 30) (oi := { dst := some 64, op := Op.move (Operand.tmp 63), type := 4, pos := "law.go:34", after := #[{ on := 29, ground := Ground.data }, { on := 25, ground := Ground.chain }], guard := none }) (v := ?v31) rfl (by as_aux_lemma => kernel_rfl) (by as_aux_lemma => kernel_rfl) (by as_aux_lemma => kernel_rfl) (fun _ _ _ h => h) (Or.inl ⟨by rfl, ?hy31⟩) (by assumption) ?_
  case hy31 => intro w hSw; (try dsimp only at hSw); go_simp; (try with_reducible rfl)
  try simp only [Act.put, List.setIfInBounds_toArray, List.set_cons_zero, List.set_cons_succ]
  refine wpAnyH_take (i := 31) (oi := { dst := some 65, op := Op.move (Operand.tmp 0), type := 24, pos := "law.go:34", after := #[{ on := 30, ground := Ground.guard }], guard := some (30, false) }) (v := ?v32) rfl (by as_aux_lemma => kernel_rfl) (by as_aux_lemma => kernel_rfl) (by as_aux_lemma => kernel_rfl) (fun _ _ _ h => h) (Or.inl ⟨by rfl, ?hy32⟩) (by assumption) ?_
  case hy32 => intro w hSw; (try dsimp only at hSw); go_simp; (try with_reducible rfl)
  try simp only [Act.put, List.setIfInBounds_toArray, List.set_cons_zero, List.set_cons_succ]
  refine wpAnyH_take (i := 32) (oi := { dst := some 66, op := Op.move (Operand.tmp 2), type := 3, pos := "law.go:34", after := #[{ on := 30, ground := Ground.guard }], guard := some (30, false) }) (v := ?v33) rfl (by as_aux_lemma => kernel_rfl) (by as_aux_lemma => kernel_rfl) (by as_aux_lemma => kernel_rfl) (fun _ _ _ h => h) (Or.inl ⟨by rfl, ?hy33⟩) (by assumption) ?_
  case hy33 => intro w hSw; (try dsimp only at hSw); go_simp; (try with_reducible rfl)
  try simp only [Act.put, List.setIfInBounds_toArray, List.set_cons_zero, List.set_cons_succ]
  refine wpAnyH_take (i := 34) (oi := { dst := some 68, op := Op.fieldAddr 47 (Operand.tmp 9) 4, type := 0, pos := "law.go:34", after := #[{ on := 30, ground := Ground.guard }], guard := some (30, false) }) (v := ?v34) rfl (by as_aux_lemma => kernel_rfl) (by as_aux_lemma => kernel_rfl) (by as_aux_lemma => kernel_rfl) (fun _ _ _ h => h) (Or.inl ⟨by rfl, ?hy34⟩) (by assumption) ?_
  case hy34 => intro w hSw; (try dsimp only at hSw); go_simp; (try with_reducible rfl)
  try simp only [Act.put, List.setIfInBounds_toArray, List.set_cons_zero, List.set_cons_succ]
  refine wpAnyH_take (i := 35) (oi := { dst := some 69, op := Op.load 3 (Operand.tmp 68), type := 3, pos := "law.go:34", after := #[{ on := 34, ground := Ground.data }, { on := 30, ground := Ground.guard }], guard := some (30, false) }) (v := ?v35) rfl (by as_aux_lemma => kernel_rfl) (by as_aux_lemma => kernel_rfl) (by as_aux_lemma => kernel_rfl) (fun _ _ _ h => h) (Or.inl ⟨by rfl, ?hy35⟩) (by assumption) ?_
  case hy35 => intro w hSw; (try dsimp only at hSw); go_simp; (try with_reducible rfl)
  try simp only [Act.put, List.setIfInBounds_toArray, List.set_cons_zero, List.set_cons_succ]
  refine wpAnyH_ready (rs := [33]) (by as_aux_lemma => kernel_rfl) (by simp) ?_
  refine AllReadyH.cons (o := { dst := some 67, op := Op.call { callee := Callee.value (Operand.func 25), args := #[Operand.tmp 65, Operand.tmp 66], argTypes := #[24, 3] }, type := 3, pos := "law.go:34", after := #[{ on := 31, ground := Ground.data }, { on := 32, ground := Ground.data }, { on := 30, ground := Ground.chain }, { on := 30, ground := Ground.guard }], guard := some (30, false) }) rfl (fun K hK => ?_) AllReadyH.nil
  go_simp; go_at_call 25; with_reducible refine (an_Hash SM.out.hp HK.out HG.out hx).mono ?_; rintro e w4 ⟨rfl, e4⟩; subst w4; dsimp only
  refine hK.out _ _ ?_ (fun hH6 => ?_)
  · (try dsimp only); first | exact hS | exact SM.out.cells | assumption
  clear hK K
  clear hH5
  try simp only [Act.put, List.setIfInBounds_toArray, List.set_cons_zero, List.set_cons_succ]
  refine wpAnyH_take (i := 36) (oi := { dst := some 70, op := Op.binOp BinOp.neq 3 (Operand.tmp 67) (Operand.tmp 69) 3, type := 4, pos := "law.go:34", after := #[{ on := 33, ground := Ground.data }, { on := 35, ground := Ground.data }, { on := 30, ground := Ground.guard }], guard := some (30, false) }) (v := ?v37) rfl (by as_aux_lemma => kernel_rfl) (by as_aux_lemma => kernel_rfl) (by as_aux_lemma => kernel_rfl) (fun _ _ _ h => h) (Or.inl ⟨by rfl, ?hy37⟩) (by assumption) ?_
  case hy37 => intro w hSw; (try dsimp only at hSw); go_simp; (try with_reducible rfl)
  try simp only [Act.put, List.setIfInBounds_toArray, List.set_cons_zero, List.set_cons_succ]
  refine wpAnyH_take (i := 37) (oi := { dst := some 71, op := Op.pick (Operand.tmp 64) (Operand.const (Value.bool true)) (Operand.tmp 70), type := 4, pos := "law.go:34", after := #[{ on := 30, ground := Ground.data }, { on := 36, ground := Ground.data }], guard := none }) (v := ?v38) rfl (by as_aux_lemma => kernel_rfl) (by as_aux_lemma => kernel_rfl) (by as_aux_lemma => kernel_rfl) (fun _ _ _ h => h) (Or.inl ⟨by rfl, ?hy38⟩) (by assumption) ?_
  case hy38 => intro w hSw; (try dsimp only at hSw); go_simp; (try with_reducible rfl)
  try simp only [Act.put, List.setIfInBounds_toArray, List.set_cons_zero, List.set_cons_succ]
  refine wpAnyH_take (i := 38) (oi := { dst := some 72, op := Op.move (Operand.tmp 71), type := 4, pos := "law.go:34", after := #[{ on := 37, ground := Ground.data }, { on := 33, ground := Ground.chain }], guard := none }) (v := ?v39) rfl (by as_aux_lemma => kernel_rfl) (by as_aux_lemma => kernel_rfl) (by as_aux_lemma => kernel_rfl) (fun _ _ _ h => h) (Or.inl ⟨by rfl, ?hy39⟩) (by assumption) ?_
  case hy39 => intro w hSw; (try dsimp only at hSw); go_simp; (try with_reducible rfl)
  try simp only [Act.put, List.setIfInBounds_toArray, List.set_cons_zero, List.set_cons_succ]
  refine wpAnyH_take (i := 39) (oi := { dst := some 73, op := Op.move (Operand.tmp 11), type := 3, pos := "law.go:34", after := #[{ on := 38, ground := Ground.guard }], guard := some (38, false) }) (v := ?v40) rfl (by as_aux_lemma => kernel_rfl) (by as_aux_lemma => kernel_rfl) (by as_aux_lemma => kernel_rfl) (fun _ _ _ h => h) (Or.inl ⟨by rfl, ?hy40⟩) (by assumption) ?_
  case hy40 => intro w hSw; (try dsimp only at hSw); go_simp; (try with_reducible rfl)
  try simp only [Act.put, List.setIfInBounds_toArray, List.set_cons_zero, List.set_cons_succ]
  refine wpAnyH_take (i := 40) (oi := { dst := some 74, op := Op.fieldAddr 47 (Operand.tmp 9) 7, type := 0, pos := "law.go:34", after := #[{ on := 38, ground := Ground.guard }], guard := some (38, false) }) (v := ?v41) rfl (by as_aux_lemma => kernel_rfl) (by as_aux_lemma => kernel_rfl) (by as_aux_lemma => kernel_rfl) (fun _ _ _ h => h) (Or.inl ⟨by rfl, ?hy41⟩) (by assumption) ?_
  case hy41 => intro w hSw; (try dsimp only at hSw); go_simp; (try with_reducible rfl)
  try simp only [Act.put, List.setIfInBounds_toArray, List.set_cons_zero, List.set_cons_succ]
  refine wpAnyH_take (i := 41) (oi := { dst := some 75, op := Op.load 3 (Operand.tmp 74), type := 3, pos := "law.go:34", after := #[{ on := 40, ground := Ground.data }, { on := 38, ground := Ground.guard }], guard := some (38, false) }) (v := ?v42) rfl (by as_aux_lemma => kernel_rfl) (by as_aux_lemma => kernel_rfl) (by as_aux_lemma => kernel_rfl) (fun _ _ _ h => h) (Or.inl ⟨by rfl, ?hy42⟩) (by assumption) ?_
  case hy42 => intro w hSw; (try dsimp only at hSw); go_simp; (try with_reducible rfl)
  try simp only [Act.put, List.setIfInBounds_toArray, List.set_cons_zero, List.set_cons_succ]
  refine wpAnyH_take (i := 42) (oi := { dst := some 76, op := Op.binOp BinOp.neq 3 (Operand.tmp 73) (Operand.tmp 75) 3, type := 4, pos := "law.go:34", after := #[{ on := 39, ground := Ground.data }, { on := 41, ground := Ground.data }, { on := 38, ground := Ground.guard }], guard := some (38, false) }) (v := ?v43) rfl (by as_aux_lemma => kernel_rfl) (by as_aux_lemma => kernel_rfl) (by as_aux_lemma => kernel_rfl) (fun _ _ _ h => h) (Or.inl ⟨by rfl, ?hy43⟩) (by assumption) ?_
  case hy43 => intro w hSw; (try dsimp only at hSw); go_simp; (try with_reducible rfl)
  try simp only [Act.put, List.setIfInBounds_toArray, List.set_cons_zero, List.set_cons_succ]
  refine wpAnyH_take (i := 43) (oi := { dst := some 77, op := Op.pick (Operand.tmp 72) (Operand.const (Value.bool true)) (Operand.tmp 76), type := 4, pos := "law.go:34", after := #[{ on := 38, ground := Ground.data }, { on := 42, ground := Ground.data }], guard := none }) (v := ?v44) rfl (by as_aux_lemma => kernel_rfl) (by as_aux_lemma => kernel_rfl) (by as_aux_lemma => kernel_rfl) (fun _ _ _ h => h) (Or.inl ⟨by rfl, ?hy44⟩) (by assumption) ?_
  case hy44 => intro w hSw; (try dsimp only at hSw); go_simp; (try with_reducible rfl)
  try simp only [Act.put, List.setIfInBounds_toArray, List.set_cons_zero, List.set_cons_succ]
  refine wpAnyH_take (i := 44) (oi := { dst := some 78, op := Op.move (Operand.tmp 77), type := 4, pos := "law.go:34", after := #[{ on := 43, ground := Ground.data }, { on := 38, ground := Ground.chain }], guard := none }) (v := ?v45) rfl (by as_aux_lemma => kernel_rfl) (by as_aux_lemma => kernel_rfl) (by as_aux_lemma => kernel_rfl) (fun _ _ _ h => h) (Or.inl ⟨by rfl, ?hy45⟩) (by assumption) ?_
  case hy45 => intro w hSw; (try dsimp only at hSw); go_simp; (try with_reducible rfl)
  try simp only [Act.put, List.setIfInBounds_toArray, List.set_cons_zero, List.set_cons_succ]
  refine wpAnyH_take (i := 45) (oi := { dst := some 79, op := Op.move (Operand.tmp 12), type := 4, pos := "law.go:34", after := #[{ on := 44, ground := Ground.guard }], guard := some (44, false) }) (v := ?v46) rfl (by as_aux_lemma => kernel_rfl) (by as_aux_lemma => kernel_rfl) (by as_aux_lemma => kernel_rfl) (fun _ _ _ h => h) (Or.inl ⟨by rfl, ?hy46⟩) (by assumption) ?_
  case hy46 => intro w hSw; (try dsimp only at hSw); go_simp; (try with_reducible rfl)
  try simp only [Act.put, List.setIfInBounds_toArray, List.set_cons_zero, List.set_cons_succ]
  refine wpAnyH_take (i := 46) (oi := { dst := some 80, op := Op.fieldAddr 47 (Operand.tmp 9) 8, type := 0, pos := "law.go:34", after := #[{ on := 44, ground := Ground.guard }], guard := some (44, false) }) (v := ?v47) rfl (by as_aux_lemma => kernel_rfl) (by as_aux_lemma => kernel_rfl) (by as_aux_lemma => kernel_rfl) (fun _ _ _ h => h) (Or.inl ⟨by rfl, ?hy47⟩) (by assumption) ?_
  case hy47 => intro w hSw; (try dsimp only at hSw); go_simp; (try with_reducible rfl)
  try simp only [Act.put, List.setIfInBounds_toArray, List.set_cons_zero, List.set_cons_succ]
  refine wpAnyH_take (i := 47) (oi := { dst := some 81, op := Op.load 4 (Operand.tmp 80), type := 4, pos := "law.go:34", after := #[{ on := 46, ground := Ground.data }, { on := 44, ground := Ground.guard }], guard := some (44, false) }) (v := ?v48) rfl (by as_aux_lemma => kernel_rfl) (by as_aux_lemma => kernel_rfl) (by as_aux_lemma => kernel_rfl) (fun _ _ _ h => h) (Or.inl ⟨by rfl, ?hy48⟩) (by assumption) ?_
  case hy48 => intro w hSw; (try dsimp only at hSw); go_simp; (try with_reducible rfl)
  try simp only [Act.put, List.setIfInBounds_toArray, List.set_cons_zero, List.set_cons_succ]
  refine wpAnyH_take (i := 48) (oi := { dst := some 82, op := Op.binOp BinOp.neq 4 (Operand.tmp 79) (Operand.tmp 81) 4, type := 4, pos := "law.go:34", after := #[{ on := 45, ground := Ground.data }, { on := 47, ground := Ground.data }, { on := 44, ground := Ground.guard }], guard := some (44, false) }) (v := ?v49) rfl (by as_aux_lemma => kernel_rfl) (by as_aux_lemma => kernel_rfl) (by as_aux_lemma => kernel_rfl) (fun _ _ _ h => h) (Or.inl ⟨by rfl, ?hy49⟩) (by assumption) ?_
  case hy49 => intro w hSw; (try dsimp only at hSw); go_simp; (try with_reducible rfl)
  try simp only [Act.put, List.setIfInBounds_toArray, List.set_cons_zero, List.set_cons_succ]
  refine wpAnyH_take (i := 49) (oi := { dst := some 83, op := Op.pick (Operand.tmp 78) (Operand.const (Value.bool true)) (Operand.tmp 82), type := 4, pos := "law.go:34", after := #[{ on := 44, ground := Ground.data }, { on := 48, ground := Ground.data }], guard := none }) (v := ?v50) rfl (by as_aux_lemma => kernel_rfl) (by as_aux_lemma => kernel_rfl) (by as_aux_lemma => kernel_rfl) (fun _ _ _ h => h) (Or.inl ⟨by rfl, ?hy50⟩) (by assumption) ?_
  case hy50 => intro w hSw; (try dsimp only at hSw); go_simp; (try with_reducible rfl)
  try simp only [Act.put, List.setIfInBounds_toArray, List.set_cons_zero, List.set_cons_succ]
  refine wpAnyH_take (i := 50) (oi := { dst := some 84, op := Op.move (Operand.tmp 83), type := 4, pos := "law.go:34", after := #[{ on := 49, ground := Ground.data }, { on := 44, ground := Ground.chain }], guard := none }) (v := ?v51) rfl (by as_aux_lemma => kernel_rfl) (by as_aux_lemma => kernel_rfl) (by as_aux_lemma => kernel_rfl) (fun _ _ _ h => h) (Or.inl ⟨by rfl, ?hy51⟩) (by assumption) ?_
  case hy51 => intro w hSw; (try dsimp only at hSw); go_simp; (try with_reducible rfl)
  try simp only [Act.put, List.setIfInBounds_toArray, List.set_cons_zero, List.set_cons_succ]
  refine wpAnyH_take (i := 51) (oi := { dst := some 85, op := Op.move (Operand.tmp 0), type := 24, pos := "law.go:34", after := #[{ on := 50, ground := Ground.guard }], guard := some (50, false) }) (v := ?v52) rfl (by as_aux_lemma => kernel_rfl) (by as_aux_lemma => kernel_rfl) (by as_aux_lemma => kernel_rfl) (fun _ _ _ h => h) (Or.inl ⟨by rfl, ?hy52⟩) (by assumption) ?_
  case hy52 => intro w hSw; (try dsimp only at hSw); go_simp; (try with_reducible rfl)
  try simp only [Act.put, List.setIfInBounds_toArray, List.set_cons_zero, List.set_cons_succ]
  refine wpAnyH_take (i := 52) (oi := { dst := some 86, op := Op.move (Operand.tmp 2), type := 3, pos := "law.go:34", after := #[{ on := 50, ground := Ground.guard }], guard := some (50, false) }) (v := ?v53) rfl (by as_aux_lemma => kernel_rfl) (by as_aux_lemma => kernel_rfl) (by as_aux_lemma => kernel_rfl) (fun _ _ _ h => h) (Or.inl ⟨by rfl, ?hy53⟩) (by assumption) ?_
  case hy53 => intro w hSw; (try dsimp only at hSw); go_simp; (try with_reducible rfl)
  try simp only [Act.put, List.setIfInBounds_toArray, List.set_cons_zero, List.set_cons_succ]
  refine wpAnyH_take (i := 53) (oi := { dst := some 87, op := Op.move (Operand.tmp 3), type := 3, pos := "law.go:34", after := #[{ on := 50, ground := Ground.guard }], guard := some (50, false) }) (v := ?v54) rfl (by as_aux_lemma => kernel_rfl) (by as_aux_lemma => kernel_rfl) (by as_aux_lemma => kernel_rfl) (fun _ _ _ h => h) (Or.inl ⟨by rfl, ?hy54⟩) (by assumption) ?_
  case hy54 => intro w hSw; (try dsimp only at hSw); go_simp; (try with_reducible rfl)
  try simp only [Act.put, List.setIfInBounds_toArray, List.set_cons_zero, List.set_cons_succ]
  refine wpAnyH_take (i := 55) (oi := { dst := some 89, op := Op.move (Operand.tmp 1), type := 26, pos := "law.go:34", after := #[{ on := 50, ground := Ground.guard }], guard := some (50, false) }) (v := ?v55) rfl (by as_aux_lemma => kernel_rfl) (by as_aux_lemma => kernel_rfl) (by as_aux_lemma => kernel_rfl) (fun _ _ _ h => h) (Or.inl ⟨by rfl, ?hy55⟩) (by assumption) ?_
  case hy55 => intro w hSw; (try dsimp only at hSw); go_simp; (try with_reducible rfl)
  try simp only [Act.put, List.setIfInBounds_toArray, List.set_cons_zero, List.set_cons_succ]
  refine wpAnyH_take (i := 56) (oi := { dst := some 90, op := Op.move (Operand.tmp 2), type := 3, pos := "law.go:34", after := #[{ on := 50, ground := Ground.guard }], guard := some (50, false) }) (v := ?v56) rfl (by as_aux_lemma => kernel_rfl) (by as_aux_lemma => kernel_rfl) (by as_aux_lemma => kernel_rfl) (fun _ _ _ h => h) (Or.inl ⟨by rfl, ?hy56⟩) (by assumption) ?_
  case hy56 => intro w hSw; (try dsimp only at hSw); go_simp; (try with_reducible rfl)
  try simp only [Act.put, List.setIfInBounds_toArray, List.set_cons_zero, List.set_cons_succ]
  refine wpAnyH_take (i := 57) (oi := { dst := some 91, op := Op.move (Operand.tmp 3), type := 3, pos := "law.go:34", after := #[{ on := 50, ground := Ground.guard }], guard := some (50, false) }) (v := ?v57) rfl (by as_aux_lemma => kernel_rfl) (by as_aux_lemma => kernel_rfl) (by as_aux_lemma => kernel_rfl) (fun _ _ _ h => h) (Or.inl ⟨by rfl, ?hy57⟩) (by assumption) ?_
  case hy57 => intro w hSw; (try dsimp only at hSw); go_simp; (try with_reducible rfl)
  try simp only [Act.put, List.setIfInBounds_toArray, List.set_cons_zero, List.set_cons_succ]
  refine wpAnyH_ready (rs := [54]) (by as_aux_lemma => kernel_rfl) (by simp) ?_
  refine AllReadyH.cons (o := { dst := some 88, op := Op.call { callee := Callee.value (Operand.func 28), args := #[Operand.tmp 85, Operand.tmp 86, Operand.tmp 87], argTypes := #[24, 3, 3] }, type := 28, pos := "law.go:34", after := #[{ on := 51, ground := Ground.data }, { on := 52, ground := Ground.data }, { on := 53, ground := Ground.data }, { on := 50, ground := Ground.chain }, { on := 50, ground := Ground.guard }], guard := some (50, false) }) rfl (fun K hK => ?_) AllReadyH.nil
  go_simp; go_at_call 28; with_reducible refine (an_Field SM.out.hp HK.out HG.out i hx).mono ?_; rintro e w4 ⟨rfl, e4⟩; subst w4; dsimp only
  refine hK.out _ _ ?_ (fun hH7 => ?_)
  · (try dsimp only); first | exact hS | exact SM.out.cells | assumption
  clear hK K
  clear hH6
  try simp only [Act.put, List.setIfInBounds_toArray, List.set_cons_zero, List.set_cons_succ]
  refine wpAnyH_ready (rs := [58]) (by as_aux_lemma => kernel_rfl) (by simp) ?_
  refine AllReadyH.cons (o := { dst := some 92, op := Op.call { callee := Callee.value (Operand.func 49), args := #[Operand.tmp 89, Operand.tmp 90, Operand.tmp 91], argTypes := #[26, 3, 3] }, type := 28, pos := "law.go:34", after := #[{ on := 55, ground := Ground.data }, { on := 56, ground := Ground.data }, { on := 57, ground := Ground.data }, { on := 54, ground := Ground.chain }, { on := 50, ground := Ground.guard }], guard := some (50, false) }) rfl (fun K hK => ?_) AllReadyH.nil
  go_simp; go_at_call 49; with_reducible refine (r5_Field SM.out.rf x i hx hi).mono ?_
  rintro e u ⟨o2, rfl, hG2, hb⟩
  obtain ⟨b2, hG2⟩ := hG2
  obtain ⟨rfl, rfl⟩ := Got.fun SM.out.rf.srt HG.out hG2
  clear hG2
  have SM := Lib.hid (SM.out.below hb)
  clear hb
  have hS := SM.out.cells
  dsimp only
  refine hK.out _ _ ?_ (fun hH8 => ?_)
  · (try dsimp only); first | exact hS | exact SM.out.cells | assumption
  clear hK K
  clear hH7
  try simp only [Act.put, List.setIfInBounds_toArray, List.set_cons_zero, List.set_cons_succ]
  refine wpAnyH_take (i := 59) (oi := { dst := some 93, op := Op.binOp BinOp.neq 28 (Operand.tmp 88) (Operand.tmp 92) 28, type := 4, pos := "law.go:34", after := #[{ on := 54, ground := Ground.data }, { on := 58, ground := Ground.data }, { on := 50, ground := Ground.guard }], guard := some (50, false) }) (v := ?v60) rfl (by as_aux_lemma => kernel_rfl) (by as_aux_lemma => kernel_rfl) (by as_aux_lemma => kernel_rfl) (fun _ _ _ h => h) (Or.inl ⟨by rfl, ?hy60⟩) (by assumption) ?_
  case hy60 => intro w hSw; (try dsimp only at hSw); go_simp; (try with_reducible rfl)
  try simp only [Act.put, List.setIfInBounds_toArray, List.set_cons_zero, List.set_cons_succ]
  refine wpAnyH_take (i := 60) (oi := { dst := some 94, op := Op.pick (Operand.tmp 84) (Operand.const (Value.bool true)) (Operand.tmp 93), type := 4, pos := "law.go:34", after := #[{ on := 50, ground := Ground.data }, { on := 59, ground := Ground.data }], guard := none }) (v := ?v61) rfl (by as_aux_lemma => kernel_rfl) (by as_aux_lemma => kernel_rfl) (by as_aux_lemma => kernel_rfl) (fun _ _ _ h => h) (Or.inl ⟨by rfl, ?hy61⟩) (by assumption) ?_
  case hy61 => intro w hSw; (try dsimp only at hSw); go_simp; (try with_reducible rfl)
  try simp only [Act.put, List.setIfInBounds_toArray, List.set_cons_zero, List.set_cons_succ]
  refine wpAnyH_take (i := 61) (oi := { dst := some 95, op := Op.move (Operand.tmp 94), type := 4, pos := "law.go:34", after := #[{ on := 60, ground := Ground.data }, { on := 58, ground := Ground.chain }], guard := none }) (v := ?v62) rfl (by as_aux_lemma => kernel_rfl) (by as_aux_lemma => kernel_rfl) (by as_aux_lemma => kernel_rfl) (fun _ _ _ h => h) (Or.inl ⟨by rfl, ?hy62⟩) (by assumption) ?_
  case hy62 => intro w hSw; (try dsimp only at hSw); go_simp; (try with_reducible rfl)
  try simp only [Act.put, List.setIfInBounds_toArray, List.set_cons_zero, List.set_cons_succ]
  refine wpAnyH_take (i := 62) (oi := { dst := some 96, op := Op.move (Operand.tmp 0), type := 24, pos := "law.go:34", after := #[{ on := 61, ground := Ground.guard }], guard := some (61, false) }) (v := ?v63) rfl (by as_aux_lemma => kernel_rfl) (by as_aux_lemma => kernel_rfl) (by as_aux_lemma => kernel_rfl) (fun _ _ _ h => h) (Or.inl ⟨by rfl, ?hy63⟩) (by assumption) ?_
  case hy63 => intro w hSw; (try dsimp only at hSw); go_simp; (try with_reducible rfl)
  try simp only [Act.put, List.setIfInBounds_toArray, List.set_cons_zero, List.set_cons_succ]
  refine wpAnyH_take (i := 63) (oi := { dst := some 97, op := Op.move (Operand.tmp 2), type := 3, pos := "law.go:34", after := #[{ on := 61, ground := Ground.guard }], guard := some (61, false) }) (v := ?v64) rfl (by as_aux_lemma => kernel_rfl) (by as_aux_lemma => kernel_rfl) (by as_aux_lemma => kernel_rfl) (fun _ _ _ h => h) (Or.inl ⟨by rfl, ?hy64⟩) (by assumption) ?_
  case hy64 => intro w hSw; (try dsimp only at hSw); go_simp; (try with_reducible rfl)
  try simp only [Act.put, List.setIfInBounds_toArray, List.set_cons_zero, List.set_cons_succ]
  refine wpAnyH_take (i := 64) (oi := { dst := some 98, op := Op.move (Operand.tmp 3), type := 3, pos := "law.go:34", after := #[{ on := 61, ground := Ground.guard }], guard := some (61, false) }) (v := ?v65) rfl (by as_aux_lemma => kernel_rfl) (by as_aux_lemma => kernel_rfl) (by as_aux_lemma => kernel_rfl) (fun _ _ _ h => h) (Or.inl ⟨by rfl, ?hy65⟩) (by assumption) ?_
  case hy65 => intro w hSw; (try dsimp only at hSw); go_simp; (try with_reducible rfl)
  try simp only [Act.put, List.setIfInBounds_toArray, List.set_cons_zero, List.set_cons_succ]
  refine wpAnyH_take (i := 66) (oi := { dst := some 100, op := Op.move (Operand.tmp 1), type := 26, pos := "law.go:34", after := #[{ on := 61, ground := Ground.guard }], guard := some (61, false) }) (v := ?v66) rfl (by as_aux_lemma => kernel_rfl) (by as_aux_lemma => kernel_rfl) (by as_aux_lemma => kernel_rfl) (fun _ _ _ h => h) (Or.inl ⟨by rfl, ?hy66⟩) (by assumption) ?_
  case hy66 => intro w hSw; (try dsimp only at hSw); go_simp; (try with_reducible rfl)
  try simp only [Act.put, List.setIfInBounds_toArray, List.set_cons_zero, List.set_cons_succ]
  refine wpAnyH_take (i := 67) (oi := { dst := some 101, op := Op.move (Operand.tmp 2), type := 3, pos := "law.go:34", after := #[{ on := 61, ground := Ground.guard }], guard := some (61, false) }) (v := ?v67) rfl (by as_aux_lemma => kernel_rfl) (by as_aux_lemma => kernel_rfl) (by as_aux_lemma => kernel_rfl) (fun _ _ _ h => h) (Or.inl ⟨by rfl, ?hy67⟩) (by assumption) ?_
  case hy67 => intro w hSw; (try dsimp only at hSw); go_simp; (try with_reducible rfl)
  try simp only [Act.put, List.setIfInBounds_toArray, List.set_cons_zero, List.set_cons_succ]
  refine wpAnyH_take (i := 68) (oi := { dst := some 102, op := Op.move (Operand.tmp 3), type := 3, pos := "law.go:34", after := #[{ on := 61, ground := Ground.guard }], guard := some (61, false) }) (v := ?v68) rfl (by as_aux_lemma => kernel_rfl) (by as_aux_lemma => kernel_rfl) (by as_aux_lemma => kernel_rfl) (fun _ _ _ h => h) (Or.inl ⟨by rfl, ?hy68⟩) (by assumption) ?_
  case hy68 => intro w hSw; (try dsimp only at hSw); go_simp; (try with_reducible rfl)
  try simp only [Act.put, List.setIfInBounds_toArray, List.set_cons_zero, List.set_cons_succ]
  refine wpAnyH_ready (rs := [65]) (by as_aux_lemma => kernel_rfl) (by simp) ?_
  refine AllReadyH.cons (o := { dst := some 99, op := Op.call { callee := Callee.value (Operand.func 31), args := #[Operand.tmp 96, Operand.tmp 97, Operand.tmp 98], argTypes := #[24, 3, 3] }, type := 3, pos := "law.go:34", after := #[{ on := 62, ground := Ground.data }, { on := 63, ground := Ground.data }, { on := 64, ground := Ground.data }, { on := 61, ground := Ground.chain }, { on := 61, ground := Ground.guard }], guard := some (61, false) }) rfl (fun K hK => ?_) AllReadyH.nil
  go_simp; go_at_call 31; with_reducible refine (an_Byte SM.out.hp HK.out HG.out i hx).mono ?_; rintro e w4 ⟨rfl, e4⟩; subst w4; dsimp only
  refine hK.out _ _ ?_ (fun hH9 => ?_)
  · (try dsimp only); first | exact hS | exact SM.out.cells | assumption
  clear hK K
  clear hH8
  try simp only [Act.put, List.setIfInBounds_toArray, List.set_cons_zero, List.set_cons_succ]
  refine wpAnyH_ready (rs := [69]) (by as_aux_lemma => kernel_rfl) (by simp) ?_
  refine AllReadyH.cons (o := { dst := some 103, op := Op.call { callee := Callee.value (Operand.func 50), args := #[Operand.tmp 100, Operand.tmp 101, Operand.tmp 102], argTypes := #[26, 3, 3] }, type := 3, pos := "law.go:34", after := #[{ on := 66, ground := Ground.data }, { on := 67, ground := Ground.data }, { on := 68, ground := Ground.data }, { on := 65, ground := Ground.chain }, { on := 61, ground := Ground.guard }], guard := some (61, false) }) rfl (fun K hK => ?_) AllReadyH.nil
  go_simp; go_at_call 50; with_reducible refine (r5_Byte SM.out.rf x i hx hi HBW.out).mono ?_
  rintro e u ⟨o2, rfl, hG2, hb⟩
  obtain ⟨b2, hG2⟩ := hG2
  obtain ⟨rfl, rfl⟩ := Got.fun SM.out.rf.srt HG.out hG2
  clear hG2
  have SM := Lib.hid (SM.out.below hb)
  clear hb
  have hS := SM.out.cells
  dsimp only
  refine hK.out _ _ ?_ (fun hH10 => ?_)
  · (try dsimp only); first | exact hS | exact SM.out.cells | assumption
  clear hK K
  clear hH9
  try simp only [Act.put, List.setIfInBounds_toArray, List.set_cons_zero, List.set_cons_succ]
  refine wpAnyH_take (i := 70) (oi := { dst := some 104, op := Op.binOp BinOp.neq 3 (Operand.tmp 99) (Operand.tmp 103) 3, type := 4, pos := "law.go:34", after := #[{ on := 65, ground := Ground.data }, { on := 69, ground := Ground.data }, { on := 61, ground := Ground.guard }], guard := some (61, false) }) (v := ?v71) rfl (by as_aux_lemma => kernel_rfl) (by as_aux_lemma => kernel_rfl) (by as_aux_lemma => kernel_rfl) (fun _ _ _ h => h) (Or.inl ⟨by rfl, ?hy71⟩) (by assumption) ?_
  case hy71 => intro w hSw; (try dsimp only at hSw); go_simp; (try with_reducible rfl)
  try simp only [Act.put, List.setIfInBounds_toArray, List.set_cons_zero, List.set_cons_succ]
  refine wpAnyH_take (i := 71) (oi := { dst := some 105, op := Op.pick (Operand.tmp 95) (Operand.const (Value.bool true)) (Operand.tmp 104), type := 4, pos := "law.go:34", after := #[{ on := 61, ground := Ground.data }, { on := 70, ground := Ground.data }], guard := none }) (v := ?v72) rfl (by as_aux_lemma => kernel_rfl) (by as_aux_lemma => kernel_rfl) (by as_aux_lemma => kernel_rfl) (fun _ _ _ h => h) (Or.inl ⟨by rfl, ?hy72⟩) (by assumption) ?_
  case hy72 => intro w hSw; (try dsimp only at hSw); go_simp; (try with_reducible rfl)
  try simp only [Act.put, List.setIfInBounds_toArray, List.set_cons_zero, List.set_cons_succ]
  refine wpAnyH_take (i := 72) (oi := { dst := some 106, op := Op.move (Operand.tmp 105), type := 4, pos := "law.go:34", after := #[{ on := 71, ground := Ground.data }, { on := 69, ground := Ground.chain }], guard := none }) (v := ?v73) rfl (by as_aux_lemma => kernel_rfl) (by as_aux_lemma => kernel_rfl) (by as_aux_lemma => kernel_rfl) (fun _ _ _ h => h) (Or.inl ⟨by rfl, ?hy73⟩) (by assumption) ?_
  case hy73 => intro w hSw; (try dsimp only at hSw); go_simp; (try with_reducible rfl)
  try simp only [Act.put, List.setIfInBounds_toArray, List.set_cons_zero, List.set_cons_succ]
  refine wpAnyH_take (i := 73) (oi := { dst := some 107, op := Op.move (Operand.tmp 0), type := 24, pos := "law.go:34", after := #[{ on := 72, ground := Ground.guard }], guard := some (72, false) }) (v := ?v74) rfl (by as_aux_lemma => kernel_rfl) (by as_aux_lemma => kernel_rfl) (by as_aux_lemma => kernel_rfl) (fun _ _ _ h => h) (Or.inl ⟨by rfl, ?hy74⟩) (by assumption) ?_
  case hy74 => intro w hSw; (try dsimp only at hSw); go_simp; (try with_reducible rfl)
  try simp only [Act.put, List.setIfInBounds_toArray, List.set_cons_zero, List.set_cons_succ]
  refine wpAnyH_take (i := 74) (oi := { dst := some 108, op := Op.move (Operand.tmp 2), type := 3, pos := "law.go:34", after := #[{ on := 72, ground := Ground.guard }], guard := some (72, false) }) (v := ?v75) rfl (by as_aux_lemma => kernel_rfl) (by as_aux_lemma => kernel_rfl) (by as_aux_lemma => kernel_rfl) (fun _ _ _ h => h) (Or.inl ⟨by rfl, ?hy75⟩) (by assumption) ?_
  case hy75 => intro w hSw; (try dsimp only at hSw); go_simp; (try with_reducible rfl)
  try simp only [Act.put, List.setIfInBounds_toArray, List.set_cons_zero, List.set_cons_succ]
  refine wpAnyH_take (i := 76) (oi := { dst := some 110, op := Op.move (Operand.tmp 1), type := 26, pos := "law.go:34", after := #[{ on := 72, ground := Ground.guard }], guard := some (72, false) }) (v := ?v76) rfl (by as_aux_lemma => kernel_rfl) (by as_aux_lemma => kernel_rfl) (by as_aux_lemma => kernel_rfl) (fun _ _ _ h => h) (Or.inl ⟨by rfl, ?hy76⟩) (by assumption) ?_
  case hy76 => intro w hSw; (try dsimp only at hSw); go_simp; (try with_reducible rfl)
  try simp only [Act.put, List.setIfInBounds_toArray, List.set_cons_zero, List.set_cons_succ]
  refine wpAnyH_take (i := 77) (oi := { dst := some 111, op := Op.move (Operand.tmp 2), type := 3, pos := "law.go:34", after := #[{ on := 72, ground := Ground.guard }], guard := some (72, false) }) (v := ?v77) rfl (by as_aux_lemma => kernel_rfl) (by as_aux_lemma => kernel_rfl) (by as_aux_lemma => kernel_rfl) (fun _ _ _ h => h) (Or.inl ⟨by rfl, ?hy77⟩) (by assumption) ?_
  case hy77 => intro w hSw; (try dsimp only at hSw); go_simp; (try with_reducible rfl)
  try simp only [Act.put, List.setIfInBounds_toArray, List.set_cons_zero, List.set_cons_succ]
  refine wpAnyH_ready (rs := [75]) (by as_aux_lemma => kernel_rfl) (by simp) ?_
  refine AllReadyH.cons (o := { dst := some 109, op := Op.call { callee := Callee.value (Operand.func 30), args := #[Operand.tmp 107, Operand.tmp 108], argTypes := #[24, 3] }, type := 3, pos := "law.go:34", after := #[{ on := 73, ground := Ground.data }, { on := 74, ground := Ground.data }, { on := 72, ground := Ground.chain }, { on := 72, ground := Ground.guard }], guard := some (72, false) }) rfl (fun K hK => ?_) AllReadyH.nil
  go_simp; go_at_call 30; with_reducible refine (an_Next SM.out.hp HK.out SM.out.rf.srt HNX.out hx).mono ?_; rintro e w4 ⟨rfl, e4⟩; subst w4; dsimp only
  refine hK.out _ _ ?_ (fun hH11 => ?_)
  · (try dsimp only); first | exact hS | exact SM.out.cells | assumption
  clear hK K
  clear hH10
  try simp only [Act.put, List.setIfInBounds_toArray, List.set_cons_zero, List.set_cons_succ]
  refine wpAnyH_ready (rs := [78]) (by as_aux_lemma => kernel_rfl) (by simp) ?_
  refine AllReadyH.cons (o := { dst := some 112, op := Op.call { callee := Callee.value (Operand.func 51), args := #[Operand.tmp 110, Operand.tmp 111], argTypes := #[26, 3] }, type := 3, pos := "law.go:34", after := #[{ on := 76, ground := Ground.data }, { on := 77, ground := Ground.data }, { on := 75, ground := Ground.chain }, { on := 72, ground := Ground.guard }], guard := some (72, false) }) rfl (fun K hK => ?_) AllReadyH.nil
  go_simp; go_at_call 51; with_reducible refine (r5_Next SM.out.rf x hx).mono ?_; rintro e w4 ⟨v2, rfl, hn2, e4⟩; subst w4; obtain rfl := nxt_fun SM.out.rf.srt HNX.out hn2; clear hn2; dsimp only
  refine hK.out _ _ ?_ (fun hH12 => ?_)
  · (try dsimp only); first | exact hS | exact SM.out.cells | assumption
  clear hK K
  clear hH11
  try simp only [Act.put, List.setIfInBounds_toArray, List.set_cons_zero, List.set_cons_succ]
  refine wpAnyH_take (i := 79) (oi := { dst := some 113, op := Op.binOp BinOp.neq 3 (Operand.tmp 109) (Operand.tmp 112) 3, type := 4, pos := "law.go:34", after := #[{ on := 75, ground := Ground.data }, { on := 78, ground := Ground.data }, { on := 72, ground := Ground.guard }], guard := some (72, false) }) (v := ?v80) rfl (by as_aux_lemma => kernel_rfl) (by as_aux_lemma => kernel_rfl) (by as_aux_lemma => kernel_rfl) (fun _ _ _ h => h) (Or.inl ⟨by rfl, ?hy80⟩) (by assumption) ?_
  case hy80 => intro w hSw; (try dsimp only at hSw); go_simp; (try with_reducible rfl)
  try simp only [Act.put, List.setIfInBounds_toArray, List.set_cons_zero, List.set_cons_succ]
  refine wpAnyH_take (i := 80) (oi := { dst := some 114, op := Op.pick (Operand.tmp 106) (Operand.const (Value.bool true)) (Operand.tmp 113), type := 4, pos := "law.go:34", after := #[{ on := 72, ground := Ground.data }, { on := 79, ground := Ground.data }], guard := none }) (v := ?v81) rfl (by as_aux_lemma => kernel_rfl) (by as_aux_lemma => kernel_rfl) (by as_aux_lemma => kernel_rfl) (fun _ _ _ h => h) (Or.inl ⟨by rfl, ?hy81⟩) (by assumption) ?_
  case hy81 => intro w hSw; (try dsimp only at hSw); go_simp; (try with_reducible rfl)
  try simp only [Act.put, List.setIfInBounds_toArray, List.set_cons_zero, List.set_cons_succ]
  refine wpAnyH_take (i := 81) (oi := { dst := some 115, op := Op.move (Operand.tmp 114), type := 4, pos := "law.go:34", after := #[{ on := 80, ground := Ground.data }, { on := 78, ground := Ground.chain }], guard := none }) (v := ?v82) rfl (by as_aux_lemma => kernel_rfl) (by as_aux_lemma => kernel_rfl) (by as_aux_lemma => kernel_rfl) (fun _ _ _ h => h) (Or.inl ⟨by rfl, ?hy82⟩) (by assumption) ?_
  case hy82 => intro w hSw; (try dsimp only at hSw); go_simp; (try with_reducible rfl)
  try simp only [Act.put, List.setIfInBounds_toArray, List.set_cons_zero, List.set_cons_succ]
  refine wpAnyH_take (i := 82) (oi := { dst := some 116, op := Op.move (Operand.tmp 14), type := 3, pos := "law.go:34", after := #[{ on := 81, ground := Ground.guard }], guard := some (81, false) }) (v := ?v83) rfl (by as_aux_lemma => kernel_rfl) (by as_aux_lemma => kernel_rfl) (by as_aux_lemma => kernel_rfl) (fun _ _ _ h => h) (Or.inl ⟨by rfl, ?hy83⟩) (by assumption) ?_
  case hy83 => intro w hSw; (try dsimp only at hSw); go_simp; (try with_reducible rfl)
  try simp only [Act.put, List.setIfInBounds_toArray, List.set_cons_zero, List.set_cons_succ]
  refine wpAnyH_take (i := 83) (oi := { dst := some 117, op := Op.move (Operand.tmp 1), type := 26, pos := "law.go:34", after := #[{ on := 81, ground := Ground.guard }], guard := some (81, false) }) (v := ?v84) rfl (by as_aux_lemma => kernel_rfl) (by as_aux_lemma => kernel_rfl) (by as_aux_lemma => kernel_rfl) (fun _ _ _ h => h) (Or.inl ⟨by rfl, ?hy84⟩) (by assumption) ?_
  case hy84 => intro w hSw; (try dsimp only at hSw); go_simp; (try with_reducible rfl)
  try simp only [Act.put, List.setIfInBounds_toArray, List.set_cons_zero, List.set_cons_succ]
  refine wpAnyH_take (i := 84) (oi := { dst := some 118, op := Op.nilCheck (Operand.tmp 117), type := 0, pos := "law.go:34", after := #[{ on := 83, ground := Ground.data }, { on := 81, ground := Ground.guard }], guard := some (81, false) }) (v := ?v85) rfl (by as_aux_lemma => kernel_rfl) (by as_aux_lemma => kernel_rfl) (by as_aux_lemma => kernel_rfl) (fun _ _ _ h => h) (Or.inl ⟨by rfl, ?hy85⟩) (by assumption) ?_
  case hy85 => intro w hSw; (try dsimp only at hSw); go_simp; (try with_reducible rfl)
  try simp only [Act.put, List.setIfInBounds_toArray, List.set_cons_zero, List.set_cons_succ]
  refine wpAnyH_take (i := 85) (oi := { dst := some 119, op := Op.fieldAddr 43 (Operand.tmp 118) 1, type := 0, pos := "law.go:34", after := #[{ on := 84, ground := Ground.data }, { on := 81, ground := Ground.guard }], guard := some (81, false) }) (v := ?v86) rfl (by as_aux_lemma => kernel_rfl) (by as_aux_lemma => kernel_rfl) (by as_aux_lemma => kernel_rfl) (fun _ _ _ h => h) (Or.inl ⟨by rfl, ?hy86⟩) (by assumption) ?_
  case hy86 => intro w hSw; (try dsimp only at hSw); go_simp; (try with_reducible rfl)
  try simp only [Act.put, List.setIfInBounds_toArray, List.set_cons_zero, List.set_cons_succ]
  refine wpAnyH_take (i := 86) (oi := { dst := some 120, op := Op.load 41 (Operand.tmp 119), type := 41, pos := "law.go:34", after := #[{ on := 85, ground := Ground.data }, { on := 81, ground := Ground.guard }], guard := some (81, false) }) (v := ?v87) rfl (by as_aux_lemma => kernel_rfl) (by as_aux_lemma => kernel_rfl) (by as_aux_lemma => kernel_rfl) (fun _ _ _ h => h) (Or.inl ⟨by rfl, ?hy87⟩) (by assumption) ?_
  case hy87 => intro w hSw; (try dsimp only at hSw); go_simp; (try with_reducible rfl)
  try simp only [Act.put, List.setIfInBounds_toArray, List.set_cons_zero, List.set_cons_succ]
  refine wpAnyH_take (i := 87) (oi := { dst := some 121, op := Op.nilCheck (Operand.tmp 120), type := 0, pos := "law.go:34", after := #[{ on := 86, ground := Ground.data }, { on := 81, ground := Ground.guard }], guard := some (81, false) }) (v := ?v88) rfl (by as_aux_lemma => kernel_rfl) (by as_aux_lemma => kernel_rfl) (by as_aux_lemma => kernel_rfl) (fun _ _ _ h => h) (Or.inl ⟨by rfl, ?hy88⟩) (by assumption) ?_
  case hy88 => intro w hSw; (try dsimp only at hSw); go_simp; (try with_reducible rfl)
  try simp only [Act.put, List.setIfInBounds_toArray, List.set_cons_zero, List.set_cons_succ]
  refine wpAnyH_take (i := 88) (oi := { dst := some 122, op := Op.fieldAddr 77 (Operand.tmp 121) 0, type := 0, pos := "law.go:34", after := #[{ on := 87, ground := Ground.data }, { on := 81, ground := Ground.guard }], guard := some (81, false) }) (v := ?v89) rfl (by as_aux_lemma => kernel_rfl) (by as_aux_lemma => kernel_rfl) (by as_aux_lemma => kernel_rfl) (fun _ _ _ h => h) (Or.inl ⟨by rfl, ?hy89⟩) (by assumption) ?_
  case hy89 => intro w hSw; (try dsimp only at hSw); go_simp; (try with_reducible rfl)
  try simp only [Act.put, List.setIfInBounds_toArray, List.set_cons_zero, List.set_cons_succ]
  refine wpAnyH_take (i := 89) (oi := { dst := some 123, op := Op.load 64 (Operand.tmp 122), type := 64, pos := "law.go:34", after := #[{ on := 88, ground := Ground.data }, { on := 81, ground := Ground.guard }], guard := some (81, false) }) (v := ?v90) rfl (by as_aux_lemma => kernel_rfl) (by as_aux_lemma => kernel_rfl) (by as_aux_lemma => kernel_rfl) (fun _ _ _ h => h) (Or.inl ⟨by rfl, ?hy90⟩) (by assumption) ?_
  case hy90 => intro w hSw; (try dsimp only at hSw); go_simp; (try with_reducible rfl)
  try simp only [Act.put, List.setIfInBounds_toArray, List.set_cons_zero, List.set_cons_succ]
  refine wpAnyH_take (i := 90) (oi := { dst := some 124, op := Op.call { callee := Callee.builtin Builtin.len, args := #[Operand.tmp 123], argTypes := #[64] }, type := 3, pos := "law.go:34", after := #[{ on := 89, ground := Ground.data }, { on := 81, ground := Ground.guard }], guard := some (81, false) }) (v := ?v91) rfl (by as_aux_lemma => kernel_rfl) (by as_aux_lemma => kernel_rfl) (by as_aux_lemma => kernel_rfl) (fun _ _ _ h => h) (Or.inl ⟨by rfl, ?hy91⟩) (by assumption) ?_
  case hy91 => intro w hSw; (try dsimp only at hSw); go_simp; (try with_reducible rfl)
  try simp only [Act.put, List.setIfInBounds_toArray, List.set_cons_zero, List.set_cons_succ]
  refine wpAnyH_take (i := 91) (oi := { dst := some 125, op := Op.binOp BinOp.neq 3 (Operand.tmp 116) (Operand.tmp 124) 3, type := 4, pos := "law.go:34", after := #[{ on := 82, ground := Ground.data }, { on := 90, ground := Ground.data }, { on := 81, ground := Ground.guard }], guard := some (81, false) }) (v := ?v92) rfl (by as_aux_lemma => kernel_rfl) (by as_aux_lemma => kernel_rfl) (by as_aux_lemma => kernel_rfl) (fun _ _ _ h => h) (Or.inl ⟨by rfl, ?hy92⟩) (by assumption) ?_
  case hy92 => intro w hSw; (try dsimp only at hSw); go_simp; (try with_reducible rfl)
  try simp only [Act.put, List.setIfInBounds_toArray, List.set_cons_zero, List.set_cons_succ]
  refine wpAnyH_take (i := 92) (oi := { dst := some 126, op := Op.pick (Operand.tmp 115) (Operand.const (Value.bool true)) (Operand.tmp 125), type := 4, pos := "law.go:34", after := #[{ on := 81, ground := Ground.data }, { on := 91, ground := Ground.data }], guard := none }) (v := ?v93) rfl (by as_aux_lemma => kernel_rfl) (by as_aux_lemma => kernel_rfl) (by as_aux_lemma => kernel_rfl) (fun _ _ _ h => h) (Or.inl ⟨by rfl, ?hy93⟩) (by assumption) ?_
  case hy93 => intro w hSw; (try dsimp only at hSw); go_simp; (try with_reducible rfl)
  try simp only [Act.put, List.setIfInBounds_toArray, List.set_cons_zero, List.set_cons_succ]
  refine wpAnyH_take (i := 93) (oi := { dst := some 127, op := Op.move (Operand.tmp 126), type := 4, pos := "law.go:34", after := #[{ on := 92, ground := Ground.data }, { on := 81, ground := Ground.chain }], guard := none }) (v := ?v94) rfl (by as_aux_lemma => kernel_rfl) (by as_aux_lemma => kernel_rfl) (by as_aux_lemma => kernel_rfl) (fun _ _ _ h => h) (Or.inl ⟨by rfl, ?hy94⟩) (by assumption) ?_
  case hy94 => intro w hSw; (try dsimp only at hSw); go_simp; (try with_reducible rfl)
  try simp only [Act.put, List.setIfInBounds_toArray, List.set_cons_zero, List.set_cons_succ]
  refine wpAnyH_take (i := 94) (oi := { dst := some 128, op := Op.move (Operand.tmp 13), type := 3, pos := "law.go:34", after := #[{ on := 93, ground := Ground.guard }], guard := some (93, false) }) (v := ?v95) rfl (by as_aux_lemma => kernel_rfl) (by as_aux_lemma => kernel_rfl) (by as_aux_lemma => kernel_rfl) (fun _ _ _ h => h) (Or.inl ⟨by rfl, ?hy95⟩) (by assumption) ?_
  case hy95 => intro w hSw; (try dsimp only at hSw); go_simp; (try with_reducible rfl)
  try simp only [Act.put, List.setIfInBounds_toArray, List.set_cons_zero, List.set_cons_succ]
  refine wpAnyH_take (i := 95) (oi := { dst := some 129, op := Op.move (Operand.tmp 14), type := 3, pos := "law.go:34", after := #[{ on := 93, ground := Ground.guard }], guard := some (93, false) }) (v := ?v96) rfl (by as_aux_lemma => kernel_rfl) (by as_aux_lemma => kernel_rfl) (by as_aux_lemma => kernel_rfl) (fun _ _ _ h => h) (Or.inl ⟨by rfl, ?hy96⟩) (by assumption) ?_
  case hy96 => intro w hSw; (try dsimp only at hSw); go_simp; (try with_reducible rfl)
  try simp only [Act.put, List.setIfInBounds_toArray, List.set_cons_zero, List.set_cons_succ]
  refine wpAnyH_take (i := 96) (oi := { dst := some 130, op := Op.move (Operand.tmp 1), type := 26, pos := "law.go:34", after := #[{ on := 93, ground := Ground.guard }], guard := some (93, false) }) (v := ?v97) rfl (by as_aux_lemma => kernel_rfl) (by as_aux_lemma => kernel_rfl) (by as_aux_lemma => kernel_rfl) (fun _ _ _ h => h) (Or.inl ⟨by rfl, ?hy97⟩) (by assumption) ?_
  case hy97 => intro w hSw; (try dsimp only at hSw); go_simp; (try with_reducible rfl)
  try simp only [Act.put, List.setIfInBounds_toArray, List.set_cons_zero, List.set_cons_succ]
  refine wpAnyH_take (i := 97) (oi := { dst := some 131, op := Op.nilCheck (Operand.tmp 130), type := 0, pos := "law.go:34", after := #[{ on := 96, ground := Ground.data }, { on := 93, ground := Ground.guard }], guard := some (93, false) }) (v := ?v98) rfl (by as_aux_lemma => kernel_rfl) (by as_aux_lemma => kernel_rfl) (by as_aux_lemma => kernel_rfl) (fun _ _ _ h => h) (Or.inl ⟨by rfl, ?hy98⟩) (by assumption) ?_
  case hy98 => intro w hSw; (try dsimp only at hSw); go_simp; (try with_reducible rfl)
  try simp only [Act.put, List.setIfInBounds_toArray, List.set_cons_zero, List.set_cons_succ]
  refine wpAnyH_take (i := 98) (oi := { dst := some 132, op := Op.fieldAddr 43 (Operand.tmp 131) 1, type := 0, pos := "law.go:34", after := #[{ on := 97, ground := Ground.data }, { on := 93, ground := Ground.guard }], guard := some (93, false) }) (v := ?v99) rfl (by as_aux_lemma => kernel_rfl) (by as_aux_lemma => kernel_rfl) (by as_aux_lemma => kernel_rfl) (fun _ _ _ h => h) (Or.inl ⟨by rfl, ?hy99⟩) (by assumption) ?_
  case hy99 => intro w hSw; (try dsimp only at hSw); go_simp; (try with_reducible rfl)
  try simp only [Act.put, List.setIfInBounds_toArray, List.set_cons_zero, List.set_cons_succ]
  refine wpAnyH_take (i := 99) (oi := { dst := some 133, op := Op.load 41 (Operand.tmp 132), type := 41, pos := "law.go:34", after := #[{ on := 98, ground := Ground.data }, { on := 93, ground := Ground.guard }], guard := some (93, false) }) (v := ?v100) rfl (by as_aux_lemma => kernel_rfl) (by as_aux_lemma => kernel_rfl) (by as_aux_lemma => kernel_rfl) (fun _ _ _ h => h) (Or.inl ⟨by rfl, ?hy100⟩) (by assumption) ?_
  case hy100 => intro w hSw; (try dsimp only at hSw); go_simp; (try with_reducible rfl)
  try simp only [Act.put, List.setIfInBounds_toArray, List.set_cons_zero, List.set_cons_succ]
  refine wpAnyH_ready (rs := [100]) (by as_aux_lemma => kernel_rfl) (by simp) ?_
  refine AllReadyH.cons (o := { dst := some 134, op := Op.call { callee := Callee.value (Operand.func 52), args := #[Operand.tmp 133], argTypes := #[41] }, type := 3, pos := "law.go:34", after := #[{ on := 99, ground := Ground.data }, { on := 93, ground := Ground.chain }, { on := 93, ground := Ground.guard }], guard := some (93, false) }) rfl (fun K hK => ?_) AllReadyH.nil
  go_simp; go_at_call 52; with_reducible refine (r4_Words SM.out.rf.fr).mono ?_; rintro e w4 ⟨rfl, e4⟩; subst w4; dsimp only
  refine hK.out _ _ ?_ (fun hH13 => ?_)
  · (try dsimp only); first | exact hS | exact SM.out.cells | assumption
  clear hK K
  clear hH12
  try simp only [Act.put, List.setIfInBounds_toArray, List.set_cons_zero, List.set_cons_succ]
  refine wpAnyH_take (i := 101) (oi := { dst := some 135, op := Op.binOp BinOp.sub 3 (Operand.tmp 129) (Operand.tmp 134) 3, type := 3, pos := "law.go:34", after := #[{ on := 95, ground := Ground.data }, { on := 100, ground := Ground.data }, { on := 93, ground := Ground.guard }], guard := some (93, false) }) (v := ?v102) rfl (by as_aux_lemma => kernel_rfl) (by as_aux_lemma => kernel_rfl) (by as_aux_lemma => kernel_rfl) (fun _ _ _ h => h) (Or.inl ⟨by rfl, ?hy102⟩) (by assumption) ?_
  case hy102 => intro w hSw; (try dsimp only at hSw); go_simp; (try with_reducible rfl)
  try simp only [Act.put, List.setIfInBounds_toArray, List.set_cons_zero, List.set_cons_succ]
  refine wpAnyH_take (i := 102) (oi := { dst := some 136, op := Op.binOp BinOp.neq 3 (Operand.tmp 128) (Operand.tmp 135) 3, type := 4, pos := "law.go:34", after := #[{ on := 94, ground := Ground.data }, { on := 101, ground := Ground.data }, { on := 93, ground := Ground.guard }], guard := some (93, false) }) (v := ?v103) rfl (by as_aux_lemma => kernel_rfl) (by as_aux_lemma => kernel_rfl) (by as_aux_lemma => kernel_rfl) (fun _ _ _ h => h) (Or.inl ⟨by rfl, ?hy103⟩) (by assumption) ?_
  case hy103 => intro w hSw; (try dsimp only at hSw); go_simp; (try with_reducible rfl)
  try simp only [Act.put, List.setIfInBounds_toArray, List.set_cons_zero, List.set_cons_succ]
  refine wpAnyH_take (i := 103) (oi := { dst := some 137, op := Op.pick (Operand.tmp 127) (Operand.const (Value.bool true)) (Operand.tmp 136), type := 4, pos := "law.go:34", after := #[{ on := 93, ground := Ground.data }, { on := 102, ground := Ground.data }], guard := none }) (v := ?v104) rfl (by as_aux_lemma => kernel_rfl) (by as_aux_lemma => kernel_rfl) (by as_aux_lemma => kernel_rfl) (fun _ _ _ h => h) (Or.inl ⟨by rfl, ?hy104⟩) (by assumption) ?_
  case hy104 => intro w hSw; (try dsimp only at hSw); go_simp; (try with_reducible rfl)
  try simp only [Act.put, List.setIfInBounds_toArray, List.set_cons_zero, List.set_cons_succ]
  refine wpAnyH_done (by as_aux_lemma => kernel_rfl) ?_ _
  have hln : o.F.length ≤ 65536 ∧ o.B.length ≤ 65536 := by
    rcases HG.out with ⟨_, rfl, _⟩ | ⟨_, q, ho, _⟩
    · exact ⟨Nat.zero_le _, Nat.zero_le _⟩
    · exact HLN.out o (List.mem_of_getElem? ho)
  obtain ⟨ln1, ln2⟩ := hln
  go_wp2_with fail
  go_loopw [15] (fun v15 wr => ∃ k : Nat, k ≤ o.F.length ∧ v15 = .int .i64 k ∧ Sm w wr X ws l bg h r g lv obs ob o) (fun v15 wr => o.F.length - (intOf v15).toNat)
  case atStart => exact ⟨0, Nat.zero_le _, rfl, SM.out⟩
  case round =>
    obtain ⟨k, hk, rfl, hSM⟩ := hrel
    have hrows := hSM.rf.rows HG.out
    obtain ⟨fa, fc, hfv, _, _, hck⟩ := own_k hrows.f
    have c5 := hSM.cell (j := 5) rfl
    rw [hfv] at c5
    have SM := Lib.hid hSM; have HCK := Lib.hid hck
    clear hSM hrows hfv hck
    by_cases hlt : k < o.F.length
    · have t1 : (k : Int) < (o.F.length : Int) := by omega
      have t0 : (0 : Int) ≤ (k : Int) := by omega
      obtain ⟨fg, rfl, ck, _⟩ := HCK.out k hlt
      have SMd : Hid (Sm w wr.drew X ws l bg h r g lv obs ob o) := Lib.hid (SM.out.below ⟨rfl, rfl, rfl, Nat.le_refl _, fun _ _ => rfl⟩)
      have hcn := an_Field SMd.out.hp HK.out HG.out (k : Int) hx
      rw [elA_at hlt] at hcn
      generalize o.F[k]?.getD 0 = V at *
      go_upto_region 9 with fail
      refine wp_region_held_drew (S := (fun w' => w'.cell? ⟨ob, 5, none⟩ = some (.slice (some ⟨fg, 0, none⟩) o.F.length fc) ∧ w'.cell? ⟨fg, k, none⟩ = some (.int .u32 V))) (by kernel_rfl) ?_ (fun hH0 => ?_)
      · (try dsimp only); exact ⟨c5, ck⟩
      refine wpAnyH_take (i := 0) (oi := { dst := some 145, op := Op.move (Operand.tmp 0), type := 24, pos := "law.go:38", after := #[], guard := none }) (v := ?v116) rfl (by kernel_rfl) (by kernel_rfl) (by kernel_rfl) (fun _ _ _ h => h) (Or.inl ⟨by rfl, ?hy116⟩) (by assumption) ?_
      case hy116 => intro w hSw; (try dsimp only at hSw); go_simp; (try with_reducible rfl)
      try simp only [Act.put, List.setIfInBounds_toArray, List.set_cons_zero, List.set_cons_succ]
      refine wpAnyH_take (i := 1) (oi := { dst := some 146, op := Op.move (Operand.tmp 2), type := 3, pos := "law.go:38", after := #[], guard := none }) (v := ?v117) rfl (by kernel_rfl) (by kernel_rfl) (by kernel_rfl) (fun _ _ _ h => h) (Or.inl ⟨by rfl, ?hy117⟩) (by assumption) ?_
      case hy117 => intro w hSw; (try dsimp only at hSw); go_simp; (try with_reducible rfl)
      try simp only [Act.put, List.setIfInBounds_toArray, List.set_cons_zero, List.set_cons_succ]
      refine wpAnyH_take (i := 2) (oi := { dst := some 147, op := Op.move (Operand.tmp 15), type := 3, pos := "law.go:38", after := #[], guard := none }) (v := ?v118) rfl (by kernel_rfl) (by kernel_rfl) (by kernel_rfl) (fun _ _ _ h => h) (Or.inl ⟨by rfl, ?hy118⟩) (by assumption) ?_
      case hy118 => intro w hSw; (try dsimp only at hSw); go_simp; (try with_reducible rfl)
      try simp only [Act.put, List.setIfInBounds_toArray, List.set_cons_zero, List.set_cons_succ]
      refine wpAnyH_take (i := 4) (oi := { dst := some 149, op := Op.fieldAddr 47 (Operand.tmp 9) 5, type := 0, pos := "law.go:38", after := #[], guard := none }) (v := ?v119) rfl (by kernel_rfl) (by kernel_rfl) (by kernel_rfl) (fun _ _ _ h => h) (Or.inl ⟨by rfl, ?hy119⟩) (by assumption) ?_
      case hy119 => intro w hSw; (try dsimp only at hSw); go_simp; (try with_reducible rfl)
      try simp only [Act.put, List.setIfInBounds_toArray, List.set_cons_zero, List.set_cons_succ]
      refine wpAnyH_take (i := 5) (oi := { dst := some 150, op := Op.load 44 (Operand.tmp 149), type := 44, pos := "law.go:38", after := #[{ on := 4, ground := Ground.data }], guard := none }) (v := ?v120) rfl (by kernel_rfl) (by kernel_rfl) (by kernel_rfl) (fun _ _ _ h => h) (Or.inl ⟨by rfl, ?hy120⟩) (by assumption) ?_
      case hy120 => intro w hSw; (try dsimp only at hSw); go_simp; (try with_reducible rfl)
      try simp only [Act.put, List.setIfInBounds_toArray, List.set_cons_zero, List.set_cons_succ]
      refine wpAnyH_take (i := 6) (oi := { dst := some 151, op := Op.move (Operand.tmp 15), type := 3, pos := "law.go:38", after := #[], guard := none }) (v := ?v121) rfl (by kernel_rfl) (by kernel_rfl) (by kernel_rfl) (fun _ _ _ h => h) (Or.inl ⟨by rfl, ?hy121⟩) (by assumption) ?_
      case hy121 => intro w hSw; (try dsimp only at hSw); go_simp; (try with_reducible rfl)
      try simp only [Act.put, List.setIfInBounds_toArray, List.set_cons_zero, List.set_cons_succ]
      refine wpAnyH_take (i := 7) (oi := { dst := some 152, op := Op.indexAddr 44 (Operand.tmp 150) (Operand.tmp 151), type := 0, pos := "law.go:38", after := #[{ on := 5, ground := Ground.data }, { on := 6, ground := Ground.data }], guard := none }) (v := ?v122) rfl (by kernel_rfl) (by kernel_rfl) (by kernel_rfl) (fun _ _ _ h => h) (Or.inl ⟨by rfl, ?hy122⟩) (by assumption) ?_
      case hy122 => intro w hSw; (try dsimp only at hSw); go_simp; (try with_reducible rfl)
      try simp only [Act.put, List.setIfInBounds_toArray, List.set_cons_zero, List.set_cons_succ]
      refine wpAnyH_take (i := 8) (oi := { dst := some 153, op := Op.load 28 (Operand.tmp 152), type := 28, pos := "law.go:38", after := #[{ on := 7, ground := Ground.data }], guard := none }) (v := ?v123) rfl (by kernel_rfl) (by kernel_rfl) (by kernel_rfl) (fun _ _ _ h => h) (Or.inl ⟨by rfl, ?hy123⟩) (by assumption) ?_
      case hy123 => intro w hSw; (try dsimp only at hSw); go_simp; (try with_reducible rfl)
      try simp only [Act.put, List.setIfInBounds_toArray, List.set_cons_zero, List.set_cons_succ]
      refine wpAnyH_ready (rs := [3]) (by kernel_rfl) (by simp) ?_
      refine AllReadyH.cons (o := { dst := some 148, op := Op.call { callee := Callee.value (Operand.func 28), args := #[Operand.tmp 145, Operand.tmp 146, Operand.tmp 147], argTypes := #[24, 3, 3] }, type := 28, pos := "law.go:38", after := #[{ on := 0, ground := Ground.data }, { on := 1, ground := Ground.data }, { on := 2, ground := Ground.data }], guard := none }) rfl (fun K hK => ?_) AllReadyH.nil
      go_simp; go_at_call 28; with_reducible refine (hcn).mono ?_; rintro e w4 ⟨rfl, e4⟩; subst w4; dsimp only
      refine hK.out _ _ ?_ (fun hH1 => ?_)
      · (try dsimp only); exact ⟨c5, ck⟩
      clear hK K
      clear hH0
      try simp only [Act.put, List.setIfInBounds_toArray, List.set_cons_zero, List.set_cons_succ]
      refine wpAnyH_take (i := 9) (oi := { dst := some 154, op := Op.binOp BinOp.neq 28 (Operand.tmp 148) (Operand.tmp 153) 28, type := 4, pos := "law.go:38", after := #[{ on := 3, ground := Ground.data }, { on := 8, ground := Ground.data }], guard := none }) (v := ?v125) rfl (by kernel_rfl) (by kernel_rfl) (by kernel_rfl) (fun _ _ _ h => h) (Or.inl ⟨by rfl, ?hy125⟩) (by assumption) ?_
      case hy125 => intro w hSw; (try dsimp only at hSw); go_simp; (try with_reducible rfl)
      try simp only [Act.put, List.setIfInBounds_toArray, List.set_cons_zero, List.set_cons_succ]
      refine wpAnyH_done (by kernel_rfl) ?_ _
      go_wp2_with fail
      refine ⟨⟨k + 1, by omega, by simp, SMd.out⟩, by simp only [intOf]; omega⟩
    · obtain rfl : k = o.F.length := by omega
      go_wp2_with fail
      go_loopw [16] (fun v16 wr => ∃ k : Nat, k ≤ o.B.length ∧ v16 = .int .i64 k ∧ Sm w wr X ws l bg h r g lv obs ob o) (fun v16 wr => o.B.length - (intOf v16).toNat)
      case atStart => exact ⟨0, Nat.zero_le _, rfl, SM.out⟩
      case round =>
        obtain ⟨k, hk, rfl, hSM⟩ := hrel
        have hrows := hSM.rf.rows HG.out
        obtain ⟨fa, fc, hfv, _, _, hck⟩ := own_k hrows.b
        have c5 := hSM.cell (j := 6) rfl
        rw [hfv] at c5
        have SM := Lib.hid hSM; have HCK := Lib.hid hck
        clear hSM hrows hfv hck
        by_cases hlt : k < o.B.length
        · have t1 : (k : Int) < (o.B.length : Int) := by omega
          have t0 : (0 : Int) ≤ (k : Int) := by omega
          obtain ⟨fg, rfl, ck, _⟩ := HCK.out k hlt
          have SMd : Hid (Sm w wr.drew X ws l bg h r g lv obs ob o) := Lib.hid (SM.out.below ⟨rfl, rfl, rfl, Nat.le_refl _, fun _ _ => rfl⟩)
          have hcn := an_Byte SMd.out.hp HK.out HG.out (k : Int) hx
          rw [elA_at hlt] at hcn
          have vb : 0 ≤ (o.B)[k]?.getD 0 ∧ (o.B)[k]?.getD 0 ≤ 255 := by
            rw [List.getElem?_eq_getElem hlt]
            have hm : (o.B)[k] ∈ o.B := List.getElem_mem _
            rcases HG.out with ⟨_, rfl, _⟩ | ⟨_, q, ho, _⟩
            · exact absurd hlt (by show ¬ k < 0; omega)
            · exact HBW.out o (List.mem_of_getElem? ho) _ hm
          obtain ⟨vb0, vb1⟩ := vb
          generalize o.B[k]?.getD 0 = V at *
          have wv : IntKind.i64.wrap V = V := IntWalk.i64_in _ ⟨by omega, by omega⟩
          go_upto_region 14 with fail
          refine wp_region_held_drew (S := (fun w' => w'.cell? ⟨ob, 6, none⟩ = some (.slice (some ⟨fg, 0, none⟩) o.B.length fc) ∧ w'.cell? ⟨fg, k, none⟩ = some (.int .u8 V))) (by kernel_rfl) ?_ (fun hH0 => ?_)
          · (try dsimp only); exact ⟨c5, ck⟩
          refine wpAnyH_take (i := 0) (oi := { dst := some 162, op := Op.move (Operand.tmp 0), type := 24, pos := "law.go:43", after := #[], guard := none }) (v := ?v105) rfl (by kernel_rfl) (by kernel_rfl) (by kernel_rfl) (fun _ _ _ h => h) (Or.inl ⟨by rfl, ?hy105⟩) (by assumption) ?_
          case hy105 => intro w hSw; (try dsimp only at hSw); go_simp; (try with_reducible rfl)
          try simp only [Act.put, List.setIfInBounds_toArray, List.set_cons_zero, List.set_cons_succ]
          refine wpAnyH_take (i := 1) (oi := { dst := some 163, op := Op.move (Operand.tmp 2), type := 3, pos := "law.go:43", after := #[], guard := none }) (v := ?v106) rfl (by kernel_rfl) (by kernel_rfl) (by kernel_rfl) (fun _ _ _ h => h) (Or.inl ⟨by rfl, ?hy106⟩) (by assumption) ?_
          case hy106 => intro w hSw; (try dsimp only at hSw); go_simp; (try with_reducible rfl)
          try simp only [Act.put, List.setIfInBounds_toArray, List.set_cons_zero, List.set_cons_succ]
          refine wpAnyH_take (i := 2) (oi := { dst := some 164, op := Op.move (Operand.tmp 16), type := 3, pos := "law.go:43", after := #[], guard := none }) (v := ?v107) rfl (by kernel_rfl) (by kernel_rfl) (by kernel_rfl) (fun _ _ _ h => h) (Or.inl ⟨by rfl, ?hy107⟩) (by assumption) ?_
          case hy107 => intro w hSw; (try dsimp only at hSw); go_simp; (try with_reducible rfl)
          try simp only [Act.put, List.setIfInBounds_toArray, List.set_cons_zero, List.set_cons_succ]
          refine wpAnyH_take (i := 4) (oi := { dst := some 166, op := Op.fieldAddr 47 (Operand.tmp 9) 6, type := 0, pos := "law.go:43", after := #[], guard := none }) (v := ?v108) rfl (by kernel_rfl) (by kernel_rfl) (by kernel_rfl) (fun _ _ _ h => h) (Or.inl ⟨by rfl, ?hy108⟩) (by assumption) ?_
          case hy108 => intro w hSw; (try dsimp only at hSw); go_simp; (try with_reducible rfl)
          try simp only [Act.put, List.setIfInBounds_toArray, List.set_cons_zero, List.set_cons_succ]
          refine wpAnyH_take (i := 5) (oi := { dst := some 167, op := Op.load 45 (Operand.tmp 166), type := 45, pos := "law.go:43", after := #[{ on := 4, ground := Ground.data }], guard := none }) (v := ?v109) rfl (by kernel_rfl) (by kernel_rfl) (by kernel_rfl) (fun _ _ _ h => h) (Or.inl ⟨by rfl, ?hy109⟩) (by assumption) ?_
          case hy109 => intro w hSw; (try dsimp only at hSw); go_simp; (try with_reducible rfl)
          try simp only [Act.put, List.setIfInBounds_toArray, List.set_cons_zero, List.set_cons_succ]
          refine wpAnyH_take (i := 6) (oi := { dst := some 168, op := Op.move (Operand.tmp 16), type := 3, pos := "law.go:43", after := #[], guard := none }) (v := ?v110) rfl (by kernel_rfl) (by kernel_rfl) (by kernel_rfl) (fun _ _ _ h => h) (Or.inl ⟨by rfl, ?hy110⟩) (by assumption) ?_
          case hy110 => intro w hSw; (try dsimp only at hSw); go_simp; (try with_reducible rfl)
          try simp only [Act.put, List.setIfInBounds_toArray, List.set_cons_zero, List.set_cons_succ]
          refine wpAnyH_take (i := 7) (oi := { dst := some 169, op := Op.indexAddr 45 (Operand.tmp 167) (Operand.tmp 168), type := 0, pos := "law.go:43", after := #[{ on := 5, ground := Ground.data }, { on := 6, ground := Ground.data }], guard := none }) (v := ?v111) rfl (by kernel_rfl) (by kernel_rfl) (by kernel_rfl) (fun _ _ _ h => h) (Or.inl ⟨by rfl, ?hy111⟩) (by assumption) ?_
          case hy111 => intro w hSw; (try dsimp only at hSw); go_simp; (try with_reducible rfl)
          try simp only [Act.put, List.setIfInBounds_toArray, List.set_cons_zero, List.set_cons_succ]
          refine wpAnyH_take (i := 8) (oi := { dst := some 170, op := Op.load 5 (Operand.tmp 169), type := 5, pos := "law.go:43", after := #[{ on := 7, ground := Ground.data }], guard := none }) (v := ?v112) rfl (by kernel_rfl) (by kernel_rfl) (by kernel_rfl) (fun _ _ _ h => h) (Or.inl ⟨by rfl, ?hy112⟩) (by assumption) ?_
          case hy112 => intro w hSw; (try dsimp only at hSw); go_simp; (try with_reducible rfl)
          try simp only [Act.put, List.setIfInBounds_toArray, List.set_cons_zero, List.set_cons_succ]
          refine wpAnyH_take (i := 9) (oi := { dst := some 171, op := Op.convert 5 3 (Operand.tmp 170), type := 3, pos := "law.go:43", after := #[{ on := 8, ground := Ground.data }], guard := none }) (v := ?v113) rfl (by kernel_rfl) (by kernel_rfl) (by kernel_rfl) (fun _ _ _ h => h) (Or.inl ⟨by rfl, ?hy113⟩) (by assumption) ?_
          case hy113 => intro w hSw; (try dsimp only at hSw); go_simp; (try with_reducible rfl)
          try simp only [Act.put, List.setIfInBounds_toArray, List.set_cons_zero, List.set_cons_succ]
          refine wpAnyH_ready (rs := [3]) (by kernel_rfl) (by simp) ?_
          refine AllReadyH.cons (o := { dst := some 165, op := Op.call { callee := Callee.value (Operand.func 31), args := #[Operand.tmp 162, Operand.tmp 163, Operand.tmp 164], argTypes := #[24, 3, 3] }, type := 3, pos := "law.go:43", after := #[{ on := 0, ground := Ground.data }, { on := 1, ground := Ground.data }, { on := 2, ground := Ground.data }], guard := none }) rfl (fun K hK => ?_) AllReadyH.nil
          go_simp; go_at_call 31; with_reducible refine (hcn).mono ?_; rintro e w4 ⟨rfl, e4⟩; subst w4; dsimp only
          refine hK.out _ _ ?_ (fun hH1 => ?_)
          · (try dsimp only); exact ⟨c5, ck⟩
          clear hK K
          clear hH0
          try simp only [Act.put, List.setIfInBounds_toArray, List.set_cons_zero, List.set_cons_succ]
          refine wpAnyH_take (i := 10) (oi := { dst := some 172, op := Op.binOp BinOp.neq 3 (Operand.tmp 165) (Operand.tmp 171) 3, type := 4, pos := "law.go:43", after := #[{ on := 3, ground := Ground.data }, { on := 9, ground := Ground.data }], guard := none }) (v := ?v115) rfl (by kernel_rfl) (by kernel_rfl) (by kernel_rfl) (fun _ _ _ h => h) (Or.inl ⟨by rfl, ?hy115⟩) (by assumption) ?_
          case hy115 => intro w hSw; (try dsimp only at hSw); go_simp; (try with_reducible rfl)
          try simp only [Act.put, List.setIfInBounds_toArray, List.set_cons_zero, List.set_cons_succ]
          refine wpAnyH_done (by kernel_rfl) ?_ _
          go_wp2_with fail
          refine ⟨⟨k + 1, by omega, by simp, SMd.out⟩, by simp only [intOf]; omega⟩
        · obtain rfl : k = o.B.length := by omega
          go_wp2_with fail
          go_ret
          exact ⟨rfl, SM.out.bel⟩
end
end Go.Proofs.Ytljgnmbjidkjnaa.Rf5
