/- An array of what is popped: simple.array. -/
/- Instructions: literals, constants, set; what sends. -/
/- SimplePushes: a frame's fields with a stack of values; what calls keep. -/
/- SimplePushes: its instructions. -/
/- SimplePushes: the rest of its instructions; a row of numbers and a block beside the memory. -/
/- A world that is being built: a method with one literal. -/
/- SimplePushes: its world. -/
import Derived.Test.YtoklohfpkaiidaaGreatSk3
import Derived.Test.YtoklohfpkaiidaaGreatSf8
import Derived.Test.YtoklohfpkaiidaaGreatBk
import Derived.Test.YtoklohfpkaiidaaGreatB6
import Derived.Test.YtoklohfpkaiidaaGreatTh3
namespace Go.Proofs.YtoklohfpkaiidaaGreat.Obj
open Go.Proofs.YtoklohfpkaiidaaGreat.Gen Go.Proofs.YtoklohfpkaiidaaGreat.Base Go.ChangeShapes Go.WideShapes Go.ChangeAt Go.RowKit
set_option linter.unusedVariables false
section
variable {w u v : World} {m li : Nat} {lv dv lv1 dv1 : Value} {M M1 : MS} {P : Nat → Prop}
structure Bw (w u : World) (P : Nat → Prop) (m li : Nat) (lv dv : Value) (M : MS) : Prop where
  size : w.heap.size + 1 ≤ u.heap.size
  val : u.heap[w.heap.size]? = some (.cells #[.bool false, .int .i64 0] 54 (0, 0))
  me : MemAt u m li lv dv M
  nx : Nx P w (ownM m li lv dv M) u
  far : ∀ k, ownM m li lv dv M k → k ≠ w.heap.size
theorem Bw.start (h : MemAt w m li lv dv M) : Bw w (w.alloc (.cells #[.bool false, .int .i64 0] 54)) (ownM m li lv dv M) m li lv dv M :=
  have hb : Below w.heap.size w (w.alloc (.cells #[.bool false, .int .i64 0] 54)) := (Below.refl _ _).alloc (Nat.le_refl _) _
  ⟨by simp, heap_alloc_new w _, h.below hb, ⟨hb.os, hb.tape, hb.output, hb.size, fun k hk _ => hb.block k hk, fun k hk => .inl hk⟩, fun k hk => by have := h.lt hk; omega⟩
theorem Bw.step (h : Bw w u P m li lv dv M) (hM : MemAt v m li lv1 dv1 M1) (hN : Nx (ownM m li lv dv M) u (ownM m li lv1 dv1 M1) v) : Bw w v P m li lv1 dv1 M1 :=
  ⟨Nat.le_trans h.size hN.size, (hN.block _ (by have := h.size; omega) fun c => h.far _ c rfl).trans h.val, hM, h.nx.trans hN, fun k hk => by
    rcases hN.own k hk with c | c
    · exact h.far k c
    · have := h.size; omega⟩
theorem Bw.below (h : Bw w u P m li lv dv M) (hb : Below u.heap.size u v) : Bw w v P m li lv dv M :=
  h.step (h.me.below hb) ⟨hb.os, hb.tape, hb.output, hb.size, fun k hk _ => hb.block k hk, fun k hk => .inl hk⟩
theorem Bw.put (h : Bw w u P m li lv dv M) (cs : Array Value) : MemAt (u.setRow w.heap.size cs) m li lv dv M ∧ Nx P w (ownM m li lv dv M) (u.setRow w.heap.size cs) :=
  ⟨h.me.keep fun k hk => setRow_other u _ k _ (h.far k hk), h.nx.os, h.nx.tape, h.nx.output, by have := h.nx.size; simp [World.setRow]; omega, fun k hk hn => (setRow_other u _ k _ (by omega)).trans (h.nx.block k hk hn), h.nx.own⟩
set_option maxHeartbeats 4000000 in
set_option maxRecDepth 100000 in
theorem sm_array {R R' : Nat → Value → Value → MS → Prop} {q an : Int} {k : Nat} {vv : Nat → V} (h : MemAt w m li lv dv M) (hk : k ≤ 16)
    (hMk : ∀ u, MemAt u m li lv dv M → Calls Tryz.prog 90 #[.pointer (some ⟨m, 0, none⟩), .int .i64 7, .int .i64 (k : Int)] u fun e w' => e = .returned (.tuple #[.int .i64 an, .bool true]) ∧ ∃ lv1 dv1 M1, R 0 lv1 dv1 M1 ∧ MemAt w' m li lv1 dv1 M1 ∧ Nx (ownM m li lv dv M) u (ownM m li lv1 dv1 M1) w')
    (hSz : ∀ lv1 dv1 M1, R 0 lv1 dv1 M1 → ∀ u, MemAt u m li lv1 dv1 M1 → Calls Tryz.prog 87 #[.pointer (some ⟨m, 0, none⟩), .int .i64 an] u fun e w' => e = .returned (.int .i64 (k : Int)) ∧ Below u.heap.size u w')
    (hPp : ∀ j, j < k → ∀ lv1 dv1 M1, R j lv1 dv1 M1 → ∀ u, MemAt u m li lv1 dv1 M1 → Calls Tryz.prog 48 #[.pointer (some ⟨m, 0, none⟩), .int .i64 q] u fun e w' => e = .returned (.tuple #[.agg #[.bool (vv j).1, .int .i64 (vv j).2], .bool true]) ∧ ∃ lv2 dv2 M2, R' j lv2 dv2 M2 ∧ MemAt w' m li lv2 dv2 M2 ∧ Nx (ownM m li lv1 dv1 M1) u (ownM m li lv2 dv2 M2) w')
    (hSt : ∀ j, j < k → ∀ lv1 dv1 M1, R' j lv1 dv1 M1 → ∀ u, MemAt u m li lv1 dv1 M1 → Calls Tryz.prog 89 #[.pointer (some ⟨m, 0, none⟩), .int .i64 an, .int .i64 ((k : Int) - 1 - (j : Int)), .agg #[.bool (vv j).1, .int .i64 (vv j).2]] u fun e w' => e = .returned (.bool true) ∧ ∃ lv2 dv2 M2, R (j + 1) lv2 dv2 M2 ∧ MemAt w' m li lv2 dv2 M2 ∧ Nx (ownM m li lv1 dv1 M1) u (ownM m li lv2 dv2 M2) w') :
    Calls Tryz.prog 47 #[.pointer (some ⟨m, 0, none⟩), .int .i64 q, .int .i64 (k : Int)] w fun e w' => e = .returned (.tuple #[.agg #[.bool true, .int .i64 an], .bool true]) ∧ ∃ lv' dv' M', R k lv' dv' M' ∧ MemAt w' m li lv' dv' M' ∧ Nx (ownM m li lv dv M) w (ownM m li lv' dv' M') w' := by
  have hz := zV
  have HMK := Lib.hid hMk; have HSZ := Lib.hid hSz; have HPP := Lib.hid hPp; have HST := Lib.hid hSt
  have HQ := Lib.hid (Bw.start h)
  have s1 : ¬ 16 < (k : Int) := by omega
  have s2 : IntKind.i64.wrap ((k : Int) - 1) = (k : Int) - 1 := IntWalk.i64_in _ ⟨by omega, by omega⟩
  clear h hMk hSz hPp hSt
  go_enter Tryz.func47, Tryz.ntmps47
  go_wp2_with (first
    | (go_at_call 90; (with_reducible refine (HMK.out _ HQ.out.me).mono ?_); rintro e u1 ⟨rfl, lv1, dv1, M1, hR, hM1, hN1⟩; have HQ1 := Lib.hid (HQ.out.step hM1 hN1); have HR := Lib.hid hR; clear hM1 hN1 hR; dsimp only)
    | (go_at_call 87; (with_reducible refine (HSZ.out _ _ _ HR.out _ HQ1.out.me).mono ?_); rintro e u2 ⟨rfl, hb2⟩; have HQ2 := Lib.hid (HQ1.out.below hb2); clear hb2; dsimp only))
  go_loopw [31] (fun v31 wr => ∃ (j : Nat) (lv1 dv1 : Value) (M1 : MS), j ≤ k ∧ v31 = .int .i64 (j : Int) ∧ R j lv1 dv1 M1 ∧ Bw w wr (ownM m li lv dv M) m li lv1 dv1 M1) (fun v31 wr => k - (intOf v31).toNat)
  case atStart => exact ⟨0, lv1, dv1, M1, by omega, rfl, HR.out, HQ2.out⟩
  case round =>
    clear HQ HQ1 HQ2 HR
    obtain ⟨j, lv1, dv1, M1, hj, rfl, hR, hQ⟩ := hrel
    have HR := Lib.hid hR; have HQ := Lib.hid hQ
    clear hR hQ
    by_cases hlt : j < k
    · have t1 : (j : Int) < (k : Int) := by omega
      have t2 : IntKind.i64.wrap ((k : Int) - 1 - (j : Int)) = (k : Int) - 1 - (j : Int) := IntWalk.i64_in _ ⟨by omega, by omega⟩
      have HPJ := Lib.hid (HPP.out j hlt)
      have HSJ := Lib.hid (HST.out j hlt)
      generalize vv j = p at HPJ HSJ
      obtain ⟨vb, vn⟩ := p
      have hHP := HPJ.out; have hHS := HSJ.out
      dsimp only at hHP hHS
      have HPJ := Lib.hid hHP; have HSJ := Lib.hid hHS
      clear hHP hHS
      go_wp2_with (first
        | (go_at_call 48; (with_reducible refine (HPJ.out _ _ _ HR.out _ HQ.out.me).mono ?_); rintro e u3 ⟨rfl, lv3, dv3, M3, hR3, hM3, hN3⟩; have HQ3 := Lib.hid ((HQ.out.step hM3 hN3).below ((Below.refl _ _).alloc (Nat.le_refl _) (.cells #[.bool vb, .int .i64 vn] 54))); have HR3 := Lib.hid hR3; clear hM3 hN3 hR3; dsimp only)
        | (refine wpList_store_row rfl 54 (Operand.tmp 12) (Operand.tmp 38) rfl u3.heap.size _ rfl rfl _ _ (heap_alloc_new u3 _) info2 (by rfl) (by simp [Value.oneCell']) ?_; rw [World.setRow_alloc_new])
        | (go_at_call 89; (with_reducible refine (HSJ.out _ _ _ HR3.out _ HQ3.out.me).mono ?_); rintro e u4 ⟨rfl, lv4, dv4, M4, hR4, hM4, hN4⟩; have HQ4 := Lib.hid (HQ3.out.step hM4 hN4); have HR4 := Lib.hid hR4; clear hM4 hN4 hR4; dsimp only))
      exact ⟨⟨j + 1, lv4, dv4, M4, by omega, by simp, HR4.out, HQ4.out⟩, by simp only [intOf]; omega⟩
    · obtain rfl : j = k := by omega
      go_wp2_with (first
        | (go_at_call 45; (with_reducible refine (sm_thing _ _).mono ?_); rintro e ux ⟨rfl, hbx⟩; have HQ5 := Lib.hid (HQ.out.below hbx); have HV := Lib.hid HQ5.out.val; clear hbx; dsimp only)
        | (refine wpList_store_row rfl 54 (Operand.tmp 6) (Operand.tmp 55) rfl w.heap.size _ rfl rfl _ _ HV.out info2 (by rfl) (by simp [Value.oneCell']) ?_))
      have hld := load2 (ux.setRow w.heap.size #[.bool true, .int .i64 an]) w.heap.size #[.bool true, .int .i64 an] (setRow_heap _ _ _ _ _ _ HV.out) rfl
      have hput := HQ5.out.put #[.bool true, .int .i64 an]
      refine bodyPost_ret (v := .tuple #[.agg #[.bool true, .int .i64 an], .bool true]) ?_ rfl ⟨rfl, lv1, dv1, M1, HR.out, hput.1, hput.2⟩
      rw [results_cell_tmp rfl]
      simp [asAddr, Result.andThen, hld]
end
end Go.Proofs.YtoklohfpkaiidaaGreat.Obj

namespace Go.Proofs.YtoklohfpkaiidaaGreat.Obj
open Go.Proofs.YtoklohfpkaiidaaGreat.Gen Go.Proofs.YtoklohfpkaiidaaGreat.Base Go.ChangeShapes Go.WideShapes Go.ChangeAt Go.RowKit
set_option linter.unusedVariables false
section
variable {w u : World} {m li : Nat} {lv dv lv1 dv1 lv' dv' : Value} {M M1 M2 : MS}
set_option maxHeartbeats 2000000 in
set_option maxRecDepth 100000 in
theorem sm_Do_lit (h : MemAt w m li lv dv M) {q sn mn bn : Int} {sb vb : Bool} {si vn : Int} (hI : M.isF q si mn bn) (hs : M.get q 3 = (sb, sn)) (x b : Int) (hx : 0 ≤ x ∧ x ≤ 100) {pb : Bool}
    (hF : ∀ u, Below w.heap.size w u → Calls Tryz.prog 43 #[.pointer (some ⟨m, 0, none⟩), .agg #[.bool sb, .int .i64 sn], .int .i64 (4 + x)] u fun e w' => e = .returned (.tuple #[.agg #[.bool vb, .int .i64 vn], .bool true]) ∧ Below u.heap.size u w')
    (hP : ∀ u, Below w.heap.size w u → Calls Tryz.prog 51 #[.pointer (some ⟨m, 0, none⟩), .int .i64 q, .agg #[.bool vb, .int .i64 vn]] u fun e w' => e = .returned (.bool pb) ∧ MemAt w' m li lv' dv' M2 ∧ Nx (ownM m li lv dv M) u (ownM m li lv' dv' M2) w') :
    Calls Tryz.prog 23 #[.pointer (some ⟨m, 0, none⟩), .int .i64 q, .agg #[.int .i64 3, .int .i64 x, .int .i64 b]] w fun e w' => e = .returned (.bool pb) ∧ MemAt w' m li lv' dv' M2 ∧ Nx (ownM m li lv dv M) w (ownM m li lv' dv' M2) w' := by
  have HIS := Lib.hid fun u (hb : Below w.heap.size w u) => fr_Is (h.below hb) hI
  have HG := Lib.hid fun u (hb : Below w.heap.size w u) => me_Get2 (h.below hb) q 3
  rw [hs] at HG
  dsimp only at HG
  have HF := Lib.hid hF
  have HP : Hid (∀ u, Below w.heap.size w u → Calls Tryz.prog 51 #[.pointer (some ⟨m, 0, none⟩), .int .i64 q, .agg #[.bool vb, .int .i64 vn]] u fun e w' => e = .returned (.bool pb) ∧ MemAt w' m li lv' dv' M2 ∧ Nx (ownM m li lv dv M) w (ownM m li lv' dv' M2) w') := Lib.hid fun u hb => (hP u hb).mono fun e w' ⟨h1, h2, h3⟩ => ⟨h1, h2, nx_bel hb h3⟩
  clear hP
  have HD0 := Lib.hid (DoS.start w 3 x b)
  have HDZ := Lib.hid ((DoS.start w 3 x b).put false 0)
  have hz := zV
  have hwr : IntKind.i64.wrap (4 + x) = 4 + x := IntWalk.i64_in _ ⟨by omega, by omega⟩
  clear h hI hs hF
  go_enter Tryz.func23, Tryz.ntmps23
  go_wp2_with fail
  refine wp_scope_gotos 1 ?_
  generalize hQ : gotoN _ _ 1 _ = Q1
  have HQ1 := Lib.hid hQ; clear hQ
  go_upto_region 12 with (first
    | (refine wpList_store_row rfl 54 (Operand.tmp 7) (Operand.tmp 9) rfl (w.heap.size + 1) #[.bool false, .int .i64 0] rfl rfl _ _ HD0.out.val info2 (by rfl) (by simp [Value.oneCell']) ?_)
    | (go_at_call 41; (with_reducible refine (HIS.out _ HDZ.out.bel).mono ?_); rintro e u1 ⟨rfl, hb1⟩; have HD1 := Lib.hid (HDZ.out.more hb1); have y0 := HD1.out.c0; have y1 := HD1.out.c1; clear hb1; dsimp only))
  have HD := Lib.hid HD1.out.drew
  clear HD0 HDZ HD1 y0 y1
  refine wp_region_noPanic ?_
  refine wp_region_held_drew (S := (fun w' => w'.cell? ⟨w.heap.size, 1, none⟩ = some (.int .i64 x))) (by kernel_rfl) ?_ (fun hH0 => ?_)
  · (try dsimp only); exact HD.out.c1
  refine wpAnyH_take (i := 0) (oi := { dst := some 46, op := Op.move (Operand.tmp 0), type := 35, pos := "simple.go:36", after := #[], guard := none }) (v := ?v1) rfl (by kernel_rfl) (by kernel_rfl) (by kernel_rfl) (fun _ _ _ h => h) (Or.inl ⟨by rfl, ?hy1⟩) (by assumption) ?_
  case hy1 => intro w hSw; (try dsimp only at hSw); go_simp; (try with_reducible rfl)
  try simp only [Act.put, List.setIfInBounds_toArray, List.set_cons_zero, List.set_cons_succ]
  refine wpAnyH_take (i := 1) (oi := { dst := some 47, op := Op.move (Operand.tmp 0), type := 35, pos := "simple.go:36", after := #[], guard := none }) (v := ?v2) rfl (by kernel_rfl) (by kernel_rfl) (by kernel_rfl) (fun _ _ _ h => h) (Or.inl ⟨by rfl, ?hy2⟩) (by assumption) ?_
  case hy2 => intro w hSw; (try dsimp only at hSw); go_simp; (try with_reducible rfl)
  try simp only [Act.put, List.setIfInBounds_toArray, List.set_cons_zero, List.set_cons_succ]
  refine wpAnyH_take (i := 2) (oi := { dst := some 48, op := Op.move (Operand.tmp 1), type := 3, pos := "simple.go:36", after := #[], guard := none }) (v := ?v3) rfl (by kernel_rfl) (by kernel_rfl) (by kernel_rfl) (fun _ _ _ h => h) (Or.inl ⟨by rfl, ?hy3⟩) (by assumption) ?_
  case hy3 => intro w hSw; (try dsimp only at hSw); go_simp; (try with_reducible rfl)
  try simp only [Act.put, List.setIfInBounds_toArray, List.set_cons_zero, List.set_cons_succ]
  refine wpAnyH_take (i := 4) (oi := { dst := some 50, op := Op.fieldAddr 61 (Operand.tmp 5) 1, type := 0, pos := "simple.go:36", after := #[], guard := none }) (v := ?v4) rfl (by kernel_rfl) (by kernel_rfl) (by kernel_rfl) (fun _ _ _ h => h) (Or.inl ⟨by rfl, ?hy4⟩) (by assumption) ?_
  case hy4 => intro w hSw; (try dsimp only at hSw); go_simp; (try with_reducible rfl)
  try simp only [Act.put, List.setIfInBounds_toArray, List.set_cons_zero, List.set_cons_succ]
  refine wpAnyH_take (i := 5) (oi := { dst := some 51, op := Op.load 3 (Operand.tmp 50), type := 3, pos := "simple.go:36", after := #[{ on := 4, ground := Ground.data }], guard := none }) (v := ?v5) rfl (by kernel_rfl) (by kernel_rfl) (by kernel_rfl) (fun _ _ _ h => h) (Or.inl ⟨by rfl, ?hy5⟩) (by assumption) ?_
  case hy5 => intro w hSw; (try dsimp only at hSw); go_simp; (try with_reducible rfl)
  try simp only [Act.put, List.setIfInBounds_toArray, List.set_cons_zero, List.set_cons_succ]
  refine wpAnyH_take (i := 6) (oi := { dst := some 52, op := Op.binOp BinOp.add 3 (Operand.const (Value.int IntKind.i64 4)) (Operand.tmp 51) 3, type := 3, pos := "simple.go:36", after := #[{ on := 5, ground := Ground.data }], guard := none }) (v := ?v6) rfl (by kernel_rfl) (by kernel_rfl) (by kernel_rfl) (fun _ _ _ h => h) (Or.inl ⟨by rfl, ?hy6⟩) (by assumption) ?_
  case hy6 => intro w hSw; (try dsimp only at hSw); go_simp; (try with_reducible rfl)
  try simp only [Act.put, List.setIfInBounds_toArray, List.set_cons_zero, List.set_cons_succ]
  refine wpAnyH_ready (rs := [3]) (by kernel_rfl) (by simp) ?_
  refine AllReadyH.cons (o := { dst := some 49, op := Op.call { callee := Callee.value (Operand.func 24), args := #[Operand.tmp 47, Operand.tmp 48, Operand.const (Value.int IntKind.i64 3)], argTypes := #[35, 3, 3] }, type := 54, pos := "simple.go:36", after := #[{ on := 1, ground := Ground.data }, { on := 2, ground := Ground.data }], guard := none }) rfl (fun K hK => ?_) AllReadyH.nil
  go_simp; go_at_call 24; (with_reducible refine (HG.out _ HD.out.bel).mono ?_); rintro e ux ⟨rfl, hbx⟩; have HD := Lib.hid (HD.out.more hbx); clear hbx; dsimp only
  refine hK.out _ _ ?_ (fun hH1 => ?_)
  · (try dsimp only); exact HD.out.c1
  clear hK K
  clear hH0
  try simp only [Act.put, List.setIfInBounds_toArray, List.set_cons_zero, List.set_cons_succ]
  refine wpAnyH_ready (rs := [7]) (by kernel_rfl) (by simp) ?_
  refine AllReadyH.cons (o := { dst := some 53, op := Op.call { callee := Callee.value (Operand.func 43), args := #[Operand.tmp 46, Operand.tmp 49, Operand.tmp 52], argTypes := #[35, 54, 3] }, type := 91, pos := "simple.go:36", after := #[{ on := 0, ground := Ground.data }, { on := 3, ground := Ground.data }, { on := 6, ground := Ground.data }, { on := 3, ground := Ground.chain }], guard := none }) rfl (fun K hK => ?_) AllReadyH.nil
  go_simp; go_at_call 43; (with_reducible refine (HF.out _ HD.out.bel).mono ?_); rintro e ux ⟨rfl, hbx⟩; have HD := Lib.hid (HD.out.more hbx); clear hbx; dsimp only
  refine hK.out _ _ ?_ (fun hH2 => ?_)
  · (try dsimp only); exact HD.out.c1
  clear hK K
  clear hH1
  try simp only [Act.put, List.setIfInBounds_toArray, List.set_cons_zero, List.set_cons_succ]
  refine wpAnyH_take (i := 8) (oi := { dst := some 45, op := Op.move (Operand.tmp 53), type := 91, pos := "simple.go:36", after := #[{ on := 7, ground := Ground.data }], guard := none }) (v := ?v9) rfl (by kernel_rfl) (by kernel_rfl) (by kernel_rfl) (fun _ _ _ h => h) (Or.inl ⟨by rfl, ?hy9⟩) (by assumption) ?_
  case hy9 => intro w hSw; (try dsimp only at hSw); go_simp; (try with_reducible rfl)
  try simp only [Act.put, List.setIfInBounds_toArray, List.set_cons_zero, List.set_cons_succ]
  refine wpAnyH_take (i := 9) (oi := { dst := some 54, op := Op.extract (Operand.tmp 45) 0, type := 54, pos := "simple.go:36", after := #[{ on := 8, ground := Ground.data }], guard := none }) (v := ?v10) rfl (by kernel_rfl) (by kernel_rfl) (by kernel_rfl) (fun _ _ _ h => h) (Or.inl ⟨by rfl, ?hy10⟩) (by assumption) ?_
  case hy10 => intro w hSw; (try dsimp only at hSw); go_simp; (try with_reducible rfl)
  try simp only [Act.put, List.setIfInBounds_toArray, List.set_cons_zero, List.set_cons_succ]
  refine wpAnyH_take (i := 10) (oi := { dst := some 55, op := Op.extract (Operand.tmp 45) 1, type := 4, pos := "simple.go:36", after := #[{ on := 8, ground := Ground.data }, { on := 11, ground := Ground.gcOnly Departure.lateStores }], guard := none }) (v := ?v11) rfl (by kernel_rfl) (by kernel_rfl) (by kernel_rfl) (fun _ _ _ h => h) (Or.inl ⟨by rfl, ?hy11⟩) (by assumption) ?_
  case hy11 => intro w hSw; (try dsimp only at hSw); go_simp; (try with_reducible rfl)
  try simp only [Act.put, List.setIfInBounds_toArray, List.set_cons_zero, List.set_cons_succ]
  refine wpAnyH_ready (rs := [11]) (by kernel_rfl) (by simp) ?_
  refine AllReadyH.cons (o := { dst := none, op := Op.store 54 (Operand.tmp 7) (Operand.tmp 54), type := 0, pos := "simple.go:36", after := #[{ on := 9, ground := Ground.data }, { on := 7, ground := Ground.chain }, { on := 0, ground := Ground.phase }, { on := 1, ground := Ground.phase }, { on := 2, ground := Ground.phase }, { on := 3, ground := Ground.phase }, { on := 4, ground := Ground.phase }, { on := 5, ground := Ground.phase }, { on := 6, ground := Ground.phase }, { on := 7, ground := Ground.phase }, { on := 8, ground := Ground.phase }, { on := 9, ground := Ground.phase }, { on := 10, ground := Ground.textOnly Departure.lateStores }], guard := none }) rfl (fun K hK => ?_) AllReadyH.nil
  refine wp_store_row 54 (Operand.tmp 7) (Operand.tmp 54) rfl (w.heap.size + 1) #[.bool vb, .int .i64 vn] (by rfl) (by rfl) _ _ HD.out.val info2 (by rfl) (by simp [Value.oneCell']) ?_; have HD := Lib.hid (HD.out.put vb vn)
  refine hK.out _ _ ?_ (fun hH3 => ?_)
  · (try dsimp only); exact HD.out.c1
  clear hK K
  clear hH2
  try simp only [Act.put, List.setIfInBounds_toArray, List.set_cons_zero, List.set_cons_succ]
  refine wpAnyH_take (i := 12) (oi := { dst := some 8, op := Op.assign (Operand.tmp 55), type := 4, pos := "simple.go:36", after := #[{ on := 10, ground := Ground.data }, { on := 11, ground := Ground.chain }, { on := 0, ground := Ground.phase }, { on := 1, ground := Ground.phase }, { on := 2, ground := Ground.phase }, { on := 3, ground := Ground.phase }, { on := 4, ground := Ground.phase }, { on := 5, ground := Ground.phase }, { on := 6, ground := Ground.phase }, { on := 7, ground := Ground.phase }, { on := 8, ground := Ground.phase }, { on := 9, ground := Ground.phase }, { on := 10, ground := Ground.phase }, { on := 11, ground := Ground.phase }], guard := none }) (v := ?v13) rfl (by kernel_rfl) (by kernel_rfl) (by kernel_rfl) (fun _ _ _ h => h) (Or.inl ⟨by rfl, ?hy13⟩) (by assumption) ?_
  case hy13 => intro w hSw; (try dsimp only at hSw); go_simp; (try with_reducible rfl)
  try simp only [Act.put, List.setIfInBounds_toArray, List.set_cons_zero, List.set_cons_succ]
  refine wpAnyH_done (by kernel_rfl) ?_ _
  refine NoPanic.normal ?_
  go_wp2_with fail
  apply wp_goto
  rw [← HQ1.out]
  refine gotoN_goto rfl ?_
  generalize hQ : gotoN _ _ 0 _ = Q0
  have HQ0 := Lib.hid hQ; clear hQ
  clear HQ1
  go_wp2_with (first
    | (refine wpl_load_rowG (by rfl) 54 (Operand.tmp 7) (by rfl) (w.heap.size + 1) (by rfl) _ _ (0, 0) _ HD.out.val Tryz.underlying54 rfl info2 ?_)
    | (go_at_call 51; (with_reducible refine (HP.out _ HD.out.bel).mono ?_); rintro e u2 ⟨rfl, hM2, hN2⟩; have HM := Lib.hid hM2; have HN := Lib.hid hN2; clear hM2 hN2; dsimp only))
  rw [← HQ0.out]
  try simp only [gotoN_ret]
  go_ret
  exact ⟨rfl, HM.out, HN.out⟩
set_option maxHeartbeats 2000000 in
set_option maxRecDepth 100000 in
theorem sm_Do_lit_no (h : MemAt w m li lv dv M) {q sn mn bn : Int} {sb vb : Bool} {si vn : Int} (hI : M.isF q si mn bn) (hs : M.get q 3 = (sb, sn)) (x b : Int) (hx : 0 ≤ x ∧ x ≤ 100)
    (hF : ∀ u, Below w.heap.size w u → Calls Tryz.prog 43 #[.pointer (some ⟨m, 0, none⟩), .agg #[.bool sb, .int .i64 sn], .int .i64 (4 + x)] u fun e w' => e = .returned (.tuple #[.agg #[.bool vb, .int .i64 vn], .bool false]) ∧ Below u.heap.size u w') :
    Calls Tryz.prog 23 #[.pointer (some ⟨m, 0, none⟩), .int .i64 q, .agg #[.int .i64 3, .int .i64 x, .int .i64 b]] w fun e w' => e = .returned (.bool false) ∧ Below w.heap.size w w' := by
  have HIS := Lib.hid fun u (hb : Below w.heap.size w u) => fr_Is (h.below hb) hI
  have HG := Lib.hid fun u (hb : Below w.heap.size w u) => me_Get2 (h.below hb) q 3
  rw [hs] at HG
  dsimp only at HG
  have HF := Lib.hid hF
  have HD0 := Lib.hid (DoS.start w 3 x b)
  have HDZ := Lib.hid ((DoS.start w 3 x b).put false 0)
  have hz := zV
  have hwr : IntKind.i64.wrap (4 + x) = 4 + x := IntWalk.i64_in _ ⟨by omega, by omega⟩
  clear h hI hs hF
  go_enter Tryz.func23, Tryz.ntmps23
  go_wp2_with fail
  refine wp_scope_gotos 1 ?_
  generalize hQ : gotoN _ _ 1 _ = Q1
  have HQ1 := Lib.hid hQ; clear hQ
  go_upto_region 12 with (first
    | (refine wpList_store_row rfl 54 (Operand.tmp 7) (Operand.tmp 9) rfl (w.heap.size + 1) #[.bool false, .int .i64 0] rfl rfl _ _ HD0.out.val info2 (by rfl) (by simp [Value.oneCell']) ?_)
    | (go_at_call 41; (with_reducible refine (HIS.out _ HDZ.out.bel).mono ?_); rintro e u1 ⟨rfl, hb1⟩; have HD1 := Lib.hid (HDZ.out.more hb1); have y0 := HD1.out.c0; have y1 := HD1.out.c1; clear hb1; dsimp only))
  have HD := Lib.hid HD1.out.drew
  clear HD0 HDZ HD1 y0 y1
  refine wp_region_noPanic ?_
  refine wp_region_held_drew (S := (fun w' => w'.cell? ⟨w.heap.size, 1, none⟩ = some (.int .i64 x))) (by kernel_rfl) ?_ (fun hH0 => ?_)
  · (try dsimp only); exact HD.out.c1
  refine wpAnyH_take (i := 0) (oi := { dst := some 46, op := Op.move (Operand.tmp 0), type := 35, pos := "simple.go:36", after := #[], guard := none }) (v := ?v14) rfl (by kernel_rfl) (by kernel_rfl) (by kernel_rfl) (fun _ _ _ h => h) (Or.inl ⟨by rfl, ?hy14⟩) (by assumption) ?_
  case hy14 => intro w hSw; (try dsimp only at hSw); go_simp; (try with_reducible rfl)
  try simp only [Act.put, List.setIfInBounds_toArray, List.set_cons_zero, List.set_cons_succ]
  refine wpAnyH_take (i := 1) (oi := { dst := some 47, op := Op.move (Operand.tmp 0), type := 35, pos := "simple.go:36", after := #[], guard := none }) (v := ?v15) rfl (by kernel_rfl) (by kernel_rfl) (by kernel_rfl) (fun _ _ _ h => h) (Or.inl ⟨by rfl, ?hy15⟩) (by assumption) ?_
  case hy15 => intro w hSw; (try dsimp only at hSw); go_simp; (try with_reducible rfl)
  try simp only [Act.put, List.setIfInBounds_toArray, List.set_cons_zero, List.set_cons_succ]
  refine wpAnyH_take (i := 2) (oi := { dst := some 48, op := Op.move (Operand.tmp 1), type := 3, pos := "simple.go:36", after := #[], guard := none }) (v := ?v16) rfl (by kernel_rfl) (by kernel_rfl) (by kernel_rfl) (fun _ _ _ h => h) (Or.inl ⟨by rfl, ?hy16⟩) (by assumption) ?_
  case hy16 => intro w hSw; (try dsimp only at hSw); go_simp; (try with_reducible rfl)
  try simp only [Act.put, List.setIfInBounds_toArray, List.set_cons_zero, List.set_cons_succ]
  refine wpAnyH_take (i := 4) (oi := { dst := some 50, op := Op.fieldAddr 61 (Operand.tmp 5) 1, type := 0, pos := "simple.go:36", after := #[], guard := none }) (v := ?v17) rfl (by kernel_rfl) (by kernel_rfl) (by kernel_rfl) (fun _ _ _ h => h) (Or.inl ⟨by rfl, ?hy17⟩) (by assumption) ?_
  case hy17 => intro w hSw; (try dsimp only at hSw); go_simp; (try with_reducible rfl)
  try simp only [Act.put, List.setIfInBounds_toArray, List.set_cons_zero, List.set_cons_succ]
  refine wpAnyH_take (i := 5) (oi := { dst := some 51, op := Op.load 3 (Operand.tmp 50), type := 3, pos := "simple.go:36", after := #[{ on := 4, ground := Ground.data }], guard := none }) (v := ?v18) rfl (by kernel_rfl) (by kernel_rfl) (by kernel_rfl) (fun _ _ _ h => h) (Or.inl ⟨by rfl, ?hy18⟩) (by assumption) ?_
  case hy18 => intro w hSw; (try dsimp only at hSw); go_simp; (try with_reducible rfl)
  try simp only [Act.put, List.setIfInBounds_toArray, List.set_cons_zero, List.set_cons_succ]
  refine wpAnyH_take (i := 6) (oi := { dst := some 52, op := Op.binOp BinOp.add 3 (Operand.const (Value.int IntKind.i64 4)) (Operand.tmp 51) 3, type := 3, pos := "simple.go:36", after := #[{ on := 5, ground := Ground.data }], guard := none }) (v := ?v19) rfl (by kernel_rfl) (by kernel_rfl) (by kernel_rfl) (fun _ _ _ h => h) (Or.inl ⟨by rfl, ?hy19⟩) (by assumption) ?_
  case hy19 => intro w hSw; (try dsimp only at hSw); go_simp; (try with_reducible rfl)
  try simp only [Act.put, List.setIfInBounds_toArray, List.set_cons_zero, List.set_cons_succ]
  refine wpAnyH_ready (rs := [3]) (by kernel_rfl) (by simp) ?_
  refine AllReadyH.cons (o := { dst := some 49, op := Op.call { callee := Callee.value (Operand.func 24), args := #[Operand.tmp 47, Operand.tmp 48, Operand.const (Value.int IntKind.i64 3)], argTypes := #[35, 3, 3] }, type := 54, pos := "simple.go:36", after := #[{ on := 1, ground := Ground.data }, { on := 2, ground := Ground.data }], guard := none }) rfl (fun K hK => ?_) AllReadyH.nil
  go_simp; go_at_call 24; (with_reducible refine (HG.out _ HD.out.bel).mono ?_); rintro e ux ⟨rfl, hbx⟩; have HD := Lib.hid (HD.out.more hbx); clear hbx; dsimp only
  refine hK.out _ _ ?_ (fun hH1 => ?_)
  · (try dsimp only); exact HD.out.c1
  clear hK K
  clear hH0
  try simp only [Act.put, List.setIfInBounds_toArray, List.set_cons_zero, List.set_cons_succ]
  refine wpAnyH_ready (rs := [7]) (by kernel_rfl) (by simp) ?_
  refine AllReadyH.cons (o := { dst := some 53, op := Op.call { callee := Callee.value (Operand.func 43), args := #[Operand.tmp 46, Operand.tmp 49, Operand.tmp 52], argTypes := #[35, 54, 3] }, type := 91, pos := "simple.go:36", after := #[{ on := 0, ground := Ground.data }, { on := 3, ground := Ground.data }, { on := 6, ground := Ground.data }, { on := 3, ground := Ground.chain }], guard := none }) rfl (fun K hK => ?_) AllReadyH.nil
  go_simp; go_at_call 43; (with_reducible refine (HF.out _ HD.out.bel).mono ?_); rintro e ux ⟨rfl, hbx⟩; have HD := Lib.hid (HD.out.more hbx); clear hbx; dsimp only
  refine hK.out _ _ ?_ (fun hH2 => ?_)
  · (try dsimp only); exact HD.out.c1
  clear hK K
  clear hH1
  try simp only [Act.put, List.setIfInBounds_toArray, List.set_cons_zero, List.set_cons_succ]
  refine wpAnyH_take (i := 8) (oi := { dst := some 45, op := Op.move (Operand.tmp 53), type := 91, pos := "simple.go:36", after := #[{ on := 7, ground := Ground.data }], guard := none }) (v := ?v22) rfl (by kernel_rfl) (by kernel_rfl) (by kernel_rfl) (fun _ _ _ h => h) (Or.inl ⟨by rfl, ?hy22⟩) (by assumption) ?_
  case hy22 => intro w hSw; (try dsimp only at hSw); go_simp; (try with_reducible rfl)
  try simp only [Act.put, List.setIfInBounds_toArray, List.set_cons_zero, List.set_cons_succ]
  refine wpAnyH_take (i := 9) (oi := { dst := some 54, op := Op.extract (Operand.tmp 45) 0, type := 54, pos := "simple.go:36", after := #[{ on := 8, ground := Ground.data }], guard := none }) (v := ?v23) rfl (by kernel_rfl) (by kernel_rfl) (by kernel_rfl) (fun _ _ _ h => h) (Or.inl ⟨by rfl, ?hy23⟩) (by assumption) ?_
  case hy23 => intro w hSw; (try dsimp only at hSw); go_simp; (try with_reducible rfl)
  try simp only [Act.put, List.setIfInBounds_toArray, List.set_cons_zero, List.set_cons_succ]
  refine wpAnyH_take (i := 10) (oi := { dst := some 55, op := Op.extract (Operand.tmp 45) 1, type := 4, pos := "simple.go:36", after := #[{ on := 8, ground := Ground.data }, { on := 11, ground := Ground.gcOnly Departure.lateStores }], guard := none }) (v := ?v24) rfl (by kernel_rfl) (by kernel_rfl) (by kernel_rfl) (fun _ _ _ h => h) (Or.inl ⟨by rfl, ?hy24⟩) (by assumption) ?_
  case hy24 => intro w hSw; (try dsimp only at hSw); go_simp; (try with_reducible rfl)
  try simp only [Act.put, List.setIfInBounds_toArray, List.set_cons_zero, List.set_cons_succ]
  refine wpAnyH_ready (rs := [11]) (by kernel_rfl) (by simp) ?_
  refine AllReadyH.cons (o := { dst := none, op := Op.store 54 (Operand.tmp 7) (Operand.tmp 54), type := 0, pos := "simple.go:36", after := #[{ on := 9, ground := Ground.data }, { on := 7, ground := Ground.chain }, { on := 0, ground := Ground.phase }, { on := 1, ground := Ground.phase }, { on := 2, ground := Ground.phase }, { on := 3, ground := Ground.phase }, { on := 4, ground := Ground.phase }, { on := 5, ground := Ground.phase }, { on := 6, ground := Ground.phase }, { on := 7, ground := Ground.phase }, { on := 8, ground := Ground.phase }, { on := 9, ground := Ground.phase }, { on := 10, ground := Ground.textOnly Departure.lateStores }], guard := none }) rfl (fun K hK => ?_) AllReadyH.nil
  refine wp_store_row 54 (Operand.tmp 7) (Operand.tmp 54) rfl (w.heap.size + 1) #[.bool vb, .int .i64 vn] (by rfl) (by rfl) _ _ HD.out.val info2 (by rfl) (by simp [Value.oneCell']) ?_; have HD := Lib.hid (HD.out.put vb vn)
  refine hK.out _ _ ?_ (fun hH3 => ?_)
  · (try dsimp only); exact HD.out.c1
  clear hK K
  clear hH2
  try simp only [Act.put, List.setIfInBounds_toArray, List.set_cons_zero, List.set_cons_succ]
  refine wpAnyH_take (i := 12) (oi := { dst := some 8, op := Op.assign (Operand.tmp 55), type := 4, pos := "simple.go:36", after := #[{ on := 10, ground := Ground.data }, { on := 11, ground := Ground.chain }, { on := 0, ground := Ground.phase }, { on := 1, ground := Ground.phase }, { on := 2, ground := Ground.phase }, { on := 3, ground := Ground.phase }, { on := 4, ground := Ground.phase }, { on := 5, ground := Ground.phase }, { on := 6, ground := Ground.phase }, { on := 7, ground := Ground.phase }, { on := 8, ground := Ground.phase }, { on := 9, ground := Ground.phase }, { on := 10, ground := Ground.phase }, { on := 11, ground := Ground.phase }], guard := none }) (v := ?v26) rfl (by kernel_rfl) (by kernel_rfl) (by kernel_rfl) (fun _ _ _ h => h) (Or.inl ⟨by rfl, ?hy26⟩) (by assumption) ?_
  case hy26 => intro w hSw; (try dsimp only at hSw); go_simp; (try with_reducible rfl)
  try simp only [Act.put, List.setIfInBounds_toArray, List.set_cons_zero, List.set_cons_succ]
  refine wpAnyH_done (by kernel_rfl) ?_ _
  refine NoPanic.normal ?_
  go_wp2_with fail
  apply wp_goto
  rw [← HQ1.out]
  refine gotoN_goto rfl ?_
  generalize hQ : gotoN _ _ 0 _ = Q0
  have HQ0 := Lib.hid hQ; clear hQ
  clear HQ1
  go_wp2_with fail
  rw [← HQ0.out]
  try simp only [gotoN_ret]
  go_ret
  exact ⟨rfl, HD.out.bel⟩
set_option maxHeartbeats 2000000 in
set_option maxRecDepth 100000 in
theorem sm_Do_const_no (h : MemAt w m li lv dv M) {q mn bn si : Int} (hI : M.isF q si mn bn) (x b : Int) (hx : 3 ≤ x) :
    Calls Tryz.prog 23 #[.pointer (some ⟨m, 0, none⟩), .int .i64 q, .agg #[.int .i64 10, .int .i64 x, .int .i64 b]] w fun e w' => e = .returned (.bool false) ∧ Below w.heap.size w w' := by
  have HIS := Lib.hid fun u (hb : Below w.heap.size w u) => fr_Is (h.below hb) hI
  have HD0 := Lib.hid (DoS.start w 10 x b)
  have HDZ := Lib.hid ((DoS.start w 10 x b).put false 0)
  have hz := zV
  have s1 : (0 : Int) ≤ x := by omega
  have s2 : ¬ x ≤ 2 := by omega
  clear h hI hx
  go_enter Tryz.func23, Tryz.ntmps23
  go_wp2_with fail
  refine wp_scope_gotos 1 ?_
  generalize hQ : gotoN _ _ 1 _ = Q1
  have HQ1 := Lib.hid hQ; clear hQ
  go_upto_region 20 with (first
    | (refine wpList_store_row rfl 54 (Operand.tmp 7) (Operand.tmp 9) rfl (w.heap.size + 1) #[.bool false, .int .i64 0] rfl rfl _ _ HD0.out.val info2 (by rfl) (by simp [Value.oneCell']) ?_)
    | (go_at_call 41; (with_reducible refine (HIS.out _ HDZ.out.bel).mono ?_); rintro e u1 ⟨rfl, hb1⟩; have HD1 := Lib.hid (HDZ.out.more hb1); have y0 := HD1.out.c0; have y1 := HD1.out.c1; clear hb1; dsimp only))
  have HD := Lib.hid HD1.out.drew
  clear HD0 HDZ HD1 y0 y1
  refine wp_region_noPanic ?_
  refine wp_region_held_drew (S := (fun w' => w'.cell? ⟨w.heap.size, 1, none⟩ = some (.int .i64 x))) (by kernel_rfl) ?_ (fun hH0 => ?_)
  · (try dsimp only); exact HD.out.c1
  refine wpAnyH_take (i := 0) (oi := { dst := some 84, op := Op.fieldAddr 61 (Operand.tmp 5) 1, type := 0, pos := "simple.go:48", after := #[], guard := none }) (v := ?v27) rfl (by kernel_rfl) (by kernel_rfl) (by kernel_rfl) (fun _ _ _ h => h) (Or.inl ⟨by rfl, ?hy27⟩) (by assumption) ?_
  case hy27 => intro w hSw; (try dsimp only at hSw); go_simp; (try with_reducible rfl)
  try simp only [Act.put, List.setIfInBounds_toArray, List.set_cons_zero, List.set_cons_succ]
  refine wpAnyH_take (i := 1) (oi := { dst := some 85, op := Op.load 3 (Operand.tmp 84), type := 3, pos := "simple.go:48", after := #[{ on := 0, ground := Ground.data }], guard := none }) (v := ?v28) rfl (by kernel_rfl) (by kernel_rfl) (by kernel_rfl) (fun _ _ _ h => h) (Or.inl ⟨by rfl, ?hy28⟩) (by assumption) ?_
  case hy28 => intro w hSw; (try dsimp only at hSw); go_simp; (try with_reducible rfl)
  try simp only [Act.put, List.setIfInBounds_toArray, List.set_cons_zero, List.set_cons_succ]
  refine wpAnyH_take (i := 3) (oi := { dst := some 87, op := Op.fieldAddr 61 (Operand.tmp 5) 1, type := 0, pos := "simple.go:48", after := #[], guard := none }) (v := ?v29) rfl (by kernel_rfl) (by kernel_rfl) (by kernel_rfl) (fun _ _ _ h => h) (Or.inl ⟨by rfl, ?hy29⟩) (by assumption) ?_
  case hy29 => intro w hSw; (try dsimp only at hSw); go_simp; (try with_reducible rfl)
  try simp only [Act.put, List.setIfInBounds_toArray, List.set_cons_zero, List.set_cons_succ]
  refine wpAnyH_take (i := 4) (oi := { dst := some 88, op := Op.load 3 (Operand.tmp 87), type := 3, pos := "simple.go:48", after := #[{ on := 3, ground := Ground.data }], guard := none }) (v := ?v30) rfl (by kernel_rfl) (by kernel_rfl) (by kernel_rfl) (fun _ _ _ h => h) (Or.inl ⟨by rfl, ?hy30⟩) (by assumption) ?_
  case hy30 => intro w hSw; (try dsimp only at hSw); go_simp; (try with_reducible rfl)
  try simp only [Act.put, List.setIfInBounds_toArray, List.set_cons_zero, List.set_cons_succ]
  refine wpAnyH_take (i := 5) (oi := { dst := some 89, op := Op.binOp BinOp.geq 3 (Operand.tmp 88) (Operand.const (Value.int IntKind.i64 0)) 3, type := 4, pos := "simple.go:48", after := #[{ on := 4, ground := Ground.data }], guard := none }) (v := ?v31) rfl (by kernel_rfl) (by kernel_rfl) (by kernel_rfl) (fun _ _ _ h => h) (Or.inl ⟨by rfl, ?hy31⟩) (by assumption) ?_
  case hy31 => intro w hSw; (try dsimp only at hSw); go_simp; (try with_reducible rfl)
  try simp only [Act.put, List.setIfInBounds_toArray, List.set_cons_zero, List.set_cons_succ]
  refine wpAnyH_ready (rs := [2]) (by kernel_rfl) (by simp) ?_
  refine AllReadyH.cons (o := { dst := some 86, op := Op.call { callee := Callee.value (Operand.func 45), args := #[Operand.tmp 85], argTypes := #[3] }, type := 54, pos := "simple.go:48", after := #[{ on := 1, ground := Ground.data }], guard := none }) rfl (fun K hK => ?_) AllReadyH.nil
  go_simp; go_at_call 45; (with_reducible refine (sm_thing _ _).mono ?_); rintro e ux ⟨rfl, hbx⟩; have HD := Lib.hid (HD.out.more hbx); clear hbx; dsimp only
  refine hK.out _ _ ?_ (fun hH1 => ?_)
  · (try dsimp only); exact HD.out.c1
  clear hK K
  clear hH0
  try simp only [Act.put, List.setIfInBounds_toArray, List.set_cons_zero, List.set_cons_succ]
  refine wpAnyH_take (i := 6) (oi := { dst := some 90, op := Op.move (Operand.tmp 89), type := 4, pos := "simple.go:48", after := #[{ on := 5, ground := Ground.data }, { on := 2, ground := Ground.chain }], guard := none }) (v := ?v33) rfl (by kernel_rfl) (by kernel_rfl) (by kernel_rfl) (fun _ _ _ h => h) (Or.inl ⟨by rfl, ?hy33⟩) (by assumption) ?_
  case hy33 => intro w hSw; (try dsimp only at hSw); go_simp; (try with_reducible rfl)
  try simp only [Act.put, List.setIfInBounds_toArray, List.set_cons_zero, List.set_cons_succ]
  refine wpAnyH_take (i := 7) (oi := { dst := some 91, op := Op.fieldAddr 61 (Operand.tmp 5) 1, type := 0, pos := "simple.go:48", after := #[{ on := 6, ground := Ground.guard }, { on := 11, ground := Ground.gcOnly Departure.lateStores }], guard := some (6, true) }) (v := ?v34) rfl (by kernel_rfl) (by kernel_rfl) (by kernel_rfl) (fun _ _ _ h => h) (Or.inl ⟨by rfl, ?hy34⟩) (by assumption) ?_
  case hy34 => intro w hSw; (try dsimp only at hSw); go_simp; (try with_reducible rfl)
  try simp only [Act.put, List.setIfInBounds_toArray, List.set_cons_zero, List.set_cons_succ]
  refine wpAnyH_take (i := 8) (oi := { dst := some 92, op := Op.load 3 (Operand.tmp 91), type := 3, pos := "simple.go:48", after := #[{ on := 7, ground := Ground.data }, { on := 6, ground := Ground.guard }, { on := 11, ground := Ground.gcOnly Departure.lateStores }], guard := some (6, true) }) (v := ?v35) rfl (by kernel_rfl) (by kernel_rfl) (by kernel_rfl) (fun _ _ _ h => h) (Or.inl ⟨by rfl, ?hy35⟩) (by assumption) ?_
  case hy35 => intro w hSw; (try dsimp only at hSw); go_simp; (try with_reducible rfl)
  try simp only [Act.put, List.setIfInBounds_toArray, List.set_cons_zero, List.set_cons_succ]
  refine wpAnyH_take (i := 9) (oi := { dst := some 93, op := Op.binOp BinOp.leq 3 (Operand.tmp 92) (Operand.const (Value.int IntKind.i64 2)) 3, type := 4, pos := "simple.go:48", after := #[{ on := 8, ground := Ground.data }, { on := 6, ground := Ground.guard }, { on := 11, ground := Ground.gcOnly Departure.lateStores }], guard := some (6, true) }) (v := ?v36) rfl (by kernel_rfl) (by kernel_rfl) (by kernel_rfl) (fun _ _ _ h => h) (Or.inl ⟨by rfl, ?hy36⟩) (by assumption) ?_
  case hy36 => intro w hSw; (try dsimp only at hSw); go_simp; (try with_reducible rfl)
  try simp only [Act.put, List.setIfInBounds_toArray, List.set_cons_zero, List.set_cons_succ]
  refine wpAnyH_take (i := 10) (oi := { dst := some 94, op := Op.pick (Operand.tmp 90) (Operand.tmp 93) (Operand.const (Value.bool false)), type := 4, pos := "simple.go:48", after := #[{ on := 6, ground := Ground.data }, { on := 9, ground := Ground.data }, { on := 11, ground := Ground.gcOnly Departure.lateStores }], guard := none }) (v := ?v37) rfl (by kernel_rfl) (by kernel_rfl) (by kernel_rfl) (fun _ _ _ h => h) (Or.inl ⟨by rfl, ?hy37⟩) (by assumption) ?_
  case hy37 => intro w hSw; (try dsimp only at hSw); go_simp; (try with_reducible rfl)
  try simp only [Act.put, List.setIfInBounds_toArray, List.set_cons_zero, List.set_cons_succ]
  refine wpAnyH_ready (rs := [11]) (by kernel_rfl) (by simp) ?_
  refine AllReadyH.cons (o := { dst := none, op := Op.store 54 (Operand.tmp 7) (Operand.tmp 86), type := 0, pos := "simple.go:48", after := #[{ on := 2, ground := Ground.data }, { on := 6, ground := Ground.chain }, { on := 0, ground := Ground.phase }, { on := 1, ground := Ground.phase }, { on := 2, ground := Ground.phase }, { on := 3, ground := Ground.textOnly Departure.lateStores }, { on := 4, ground := Ground.textOnly Departure.lateStores }, { on := 5, ground := Ground.textOnly Departure.lateStores }, { on := 6, ground := Ground.textOnly Departure.lateStores }, { on := 7, ground := Ground.textOnly Departure.lateStores }, { on := 8, ground := Ground.textOnly Departure.lateStores }, { on := 9, ground := Ground.textOnly Departure.lateStores }, { on := 10, ground := Ground.textOnly Departure.lateStores }], guard := none }) rfl (fun K hK => ?_) AllReadyH.nil
  refine wp_store_row 54 (Operand.tmp 7) (Operand.tmp 86) rfl (w.heap.size + 1) #[.bool true, .int .i64 x] (by rfl) (by rfl) _ _ HD.out.val info2 (by rfl) (by simp [Value.oneCell']) ?_; have HD := Lib.hid (HD.out.put true x)
  refine hK.out _ _ ?_ (fun hH2 => ?_)
  · (try dsimp only); exact HD.out.c1
  clear hK K
  clear hH1
  try simp only [Act.put, List.setIfInBounds_toArray, List.set_cons_zero, List.set_cons_succ]
  refine wpAnyH_take (i := 12) (oi := { dst := some 8, op := Op.assign (Operand.tmp 94), type := 4, pos := "simple.go:48", after := #[{ on := 10, ground := Ground.data }, { on := 11, ground := Ground.chain }, { on := 0, ground := Ground.phase }, { on := 1, ground := Ground.phase }, { on := 2, ground := Ground.phase }, { on := 3, ground := Ground.phase }, { on := 4, ground := Ground.phase }, { on := 5, ground := Ground.phase }, { on := 6, ground := Ground.phase }, { on := 7, ground := Ground.phase }, { on := 8, ground := Ground.phase }, { on := 9, ground := Ground.phase }, { on := 10, ground := Ground.phase }, { on := 11, ground := Ground.phase }], guard := none }) (v := ?v39) rfl (by kernel_rfl) (by kernel_rfl) (by kernel_rfl) (fun _ _ _ h => h) (Or.inl ⟨by rfl, ?hy39⟩) (by assumption) ?_
  case hy39 => intro w hSw; (try dsimp only at hSw); go_simp; (try with_reducible rfl)
  try simp only [Act.put, List.setIfInBounds_toArray, List.set_cons_zero, List.set_cons_succ]
  refine wpAnyH_done (by kernel_rfl) ?_ _
  refine NoPanic.normal ?_
  go_wp2_with fail
  apply wp_goto
  rw [← HQ1.out]
  refine gotoN_goto rfl ?_
  generalize hQ : gotoN _ _ 0 _ = Q0
  have HQ0 := Lib.hid hQ; clear hQ
  clear HQ1
  go_wp2_with fail
  rw [← HQ0.out]
  try simp only [gotoN_ret]
  go_ret
  exact ⟨rfl, HD.out.bel⟩
set_option maxHeartbeats 2000000 in
set_option maxRecDepth 100000 in
theorem sm_Do_11 (h : MemAt w m li lv dv M) {q mn bn si : Int} (hI : M.isF q si mn bn) (x b : Int) :
    Calls Tryz.prog 23 #[.pointer (some ⟨m, 0, none⟩), .int .i64 q, .agg #[.int .i64 11, .int .i64 x, .int .i64 b]] w fun e w' => e = .returned (.bool false) ∧ Below w.heap.size w w' := by
  have HIS := Lib.hid fun u (hb : Below w.heap.size w u) => fr_Is (h.below hb) hI
  have HD0 := Lib.hid (DoS.start w 11 x b)
  have HDZ := Lib.hid ((DoS.start w 11 x b).put false 0)
  have hz := zV
  clear h hI
  go_enter Tryz.func23, Tryz.ntmps23
  go_wp2_with fail
  refine wp_scope_gotos 1 ?_
  generalize hQ : gotoN _ _ 1 _ = Q1
  have HQ1 := Lib.hid hQ; clear hQ
  go_wp2_with (first
    | (refine wpList_store_row rfl 54 (Operand.tmp 7) (Operand.tmp 9) rfl (w.heap.size + 1) #[.bool false, .int .i64 0] rfl rfl _ _ HD0.out.val info2 (by rfl) (by simp [Value.oneCell']) ?_)
    | (go_at_call 41; (with_reducible refine (HIS.out _ HDZ.out.bel).mono ?_); rintro e u1 ⟨rfl, hb1⟩; have HD1 := Lib.hid (HDZ.out.more hb1); have y0 := HD1.out.c0; have y1 := HD1.out.c1; clear hb1; dsimp only))
  rw [← HQ1.out]
  try simp only [gotoN_ret]
  go_ret
  exact ⟨rfl, HD1.out.bel⟩
set_option maxHeartbeats 2000000 in
set_option maxRecDepth 100000 in
theorem sm_store5 (h : MemAt w m li lv dv M) {q : Int} (x b : Int) (vb : Bool) (vn : Int) {ok : Bool}
    (hS : ∀ u, Below w.heap.size w u → Calls Tryz.prog 93 #[.pointer (some ⟨m, 0, none⟩), .int .i64 q, .int .i64 0, .int .i64 x, .agg #[.bool vb, .int .i64 vn]] u fun e w' => e = .returned (.bool ok) ∧ MemAt w' m li lv' dv' M2 ∧ Nx (ownM m li lv dv M) u (ownM m li lv' dv' M2) w') :
    Calls Tryz.prog 50 #[.pointer (some ⟨m, 0, none⟩), .int .i64 q, .agg #[.int .i64 5, .int .i64 x, .int .i64 b], .agg #[.bool vb, .int .i64 vn]] w fun e w' => e = .returned (.bool ok) ∧ MemAt w' m li lv' dv' M2 ∧ Nx (ownM m li lv dv M) w (ownM m li lv' dv' M2) w' := by
  have HS : Hid (∀ u, Below w.heap.size w u → Calls Tryz.prog 93 #[.pointer (some ⟨m, 0, none⟩), .int .i64 q, .int .i64 0, .int .i64 x, .agg #[.bool vb, .int .i64 vn]] u fun e w' => e = .returned (.bool ok) ∧ MemAt w' m li lv' dv' M2 ∧ Nx (ownM m li lv dv M) w (ownM m li lv' dv' M2) w') := Lib.hid fun u hb => (hS u hb).mono fun e w' ⟨h1, h2, h3⟩ => ⟨h1, h2, nx_bel hb h3⟩
  have HD := Lib.hid (DoS.startV w 5 x b vb vn)
  have y0 := HD.out.c0
  have y1 := HD.out.c1
  have hz := zV
  have hvn := val_N
  clear h hS
  go_enter Tryz.func50, Tryz.ntmps50
  go_wp2_with (first
    | (refine wpl_load_rowG (by rfl) 54 (Operand.tmp 7) (by rfl) (w.heap.size + 1) (by rfl) _ _ (0, 0) _ HD.out.val Tryz.underlying54 rfl info2 ?_)
    | (go_at_call 93; (with_reducible refine (HS.out _ HD.out.bel).mono ?_); rintro e u5 ⟨rfl, hM5, hN5⟩; have HM := Lib.hid hM5; have HN := Lib.hid hN5; clear hM5 hN5; dsimp only))
  go_ret
  exact ⟨by simp, HM.out, HN.out⟩
set_option maxHeartbeats 2000000 in
set_option maxRecDepth 100000 in
theorem sm_Do_set5 (h : MemAt w m li lv dv M) {q si mn bn : Int} (hI : M.isF q si mn bn) (x b : Int) {vb ok : Bool} {vn : Int}
    (hP : ∀ u, Below w.heap.size w u → Calls Tryz.prog 48 #[.pointer (some ⟨m, 0, none⟩), .int .i64 q] u fun e w' => e = .returned (.tuple #[.agg #[.bool vb, .int .i64 vn], .bool true]) ∧ MemAt w' m li lv1 dv1 M1 ∧ Nx (ownM m li lv dv M) u (ownM m li lv1 dv1 M1) w')
    (hS : ∀ u, MemAt u m li lv1 dv1 M1 → Calls Tryz.prog 50 #[.pointer (some ⟨m, 0, none⟩), .int .i64 q, .agg #[.int .i64 5, .int .i64 x, .int .i64 b], .agg #[.bool vb, .int .i64 vn]] u fun e w' => e = .returned (.bool ok) ∧ MemAt w' m li lv' dv' M2 ∧ Nx (ownM m li lv1 dv1 M1) u (ownM m li lv' dv' M2) w') :
    Calls Tryz.prog 23 #[.pointer (some ⟨m, 0, none⟩), .int .i64 q, .agg #[.int .i64 5, .int .i64 x, .int .i64 b]] w fun e w' => e = .returned (.bool ok) ∧ MemAt w' m li lv' dv' M2 ∧ Nx (ownM m li lv dv M) w (ownM m li lv' dv' M2) w' := by
  have HIS := Lib.hid fun u (hb : Below w.heap.size w u) => fr_Is (h.below hb) hI
  have HP := Lib.hid hP
  have HS := Lib.hid hS
  have HLT : Hid (∀ k, ownM m li lv dv M k → k < w.heap.size) := Lib.hid fun k hk => h.lt hk
  have HD0 := Lib.hid (DoS.start w 5 x b)
  have HDZ := Lib.hid ((DoS.start w 5 x b).put false 0)
  have hz := zV
  clear h hI hP hS
  go_enter Tryz.func23, Tryz.ntmps23
  go_wp2_with fail
  refine wp_scope_gotos 1 ?_
  generalize hQ : gotoN _ _ 1 _ = Q1
  have HQ1 := Lib.hid hQ; clear hQ
  go_wp2_with (first
    | (refine wpList_store_row rfl 54 (Operand.tmp 7) (Operand.tmp 9) rfl (w.heap.size + 1) #[.bool false, .int .i64 0] rfl rfl _ _ HD0.out.val info2 (by rfl) (by simp [Value.oneCell']) ?_)
    | (go_at_call 41; (with_reducible refine (HIS.out _ HDZ.out.bel).mono ?_); rintro e u1 ⟨rfl, hb1⟩; have HD1 := Lib.hid (HDZ.out.more hb1); have y0 := HD1.out.c0; clear hb1; dsimp only)
    | (go_at_call 48; (with_reducible refine (HP.out _ HD1.out.bel).mono ?_); rintro e u2 ⟨rfl, hM2, hN2⟩; have HR := Lib.hid (HD1.out.nx hN2 HLT.out); have HR2 := Lib.hid (HR.out.put vb vn); have HF := Lib.hid (do_set HD1.out.bel HD1.out.size hN2 hM2 HLT.out #[.bool vb, .int .i64 vn]); clear hM2 hN2 y0; dsimp only)
    | (refine wpList_store_row rfl 54 (Operand.tmp 7) (Operand.tmp 141) rfl (w.heap.size + 1) #[.bool vb, .int .i64 vn] rfl rfl _ _ HR.out.val info2 (by rfl) (by simp [Value.oneCell']) ?_)
    | (refine wpl_load_rowG (by rfl) 61 (Operand.tmp 5) (by rfl) w.heap.size (by rfl) _ _ (0, 0) _ HR2.out.ins Tryz.underlying61 rfl infoI3 ?_)
    | (refine wpl_load_rowG (by rfl) 54 (Operand.tmp 7) (by rfl) (w.heap.size + 1) (by rfl) _ _ (0, 0) _ HR2.out.val Tryz.underlying54 rfl info2 ?_)
    | (go_at_call 50; (with_reducible refine (HS.out _ HF.out.1).mono ?_); rintro e u3 ⟨rfl, hM3, hN3⟩; have HM := Lib.hid hM3; have HN := Lib.hid (HF.out.2.trans hN3); clear hM3 hN3; dsimp only))
  rw [← HQ1.out]
  try simp only [gotoN_ret]
  go_ret
  exact ⟨by simp, HM.out, HN.out⟩
end
end Go.Proofs.YtoklohfpkaiidaaGreat.Obj

namespace Go.Proofs.YtoklohfpkaiidaaGreat.Obj
open Go.Proofs.YtoklohfpkaiidaaGreat.Gen Go.Proofs.YtoklohfpkaiidaaGreat.Base Go.ChangeShapes Go.WideShapes Go.ChangeAt Go.RowKit
set_option linter.unusedVariables false
def psF (t : V) (l : List V) : List V := [(true, 0), (false, 0), (false, ((2 + l.length : Nat) : Int)), (true, 25), (true, 23), (true, 0), (true, 0), t] ++ (l ++ nilF (14 - l.length))
theorem psF_len (t : V) (l : List V) (h : l.length ≤ 14) : (psF t l).length = 22 := by simp [psF, nilF_len]; omega
theorem psF_2 (t : V) (l : List V) : elV (psF t l) 2 = (false, ((2 + l.length : Nat) : Int)) := rfl
theorem psF_7 (t : V) (l : List V) : elV (psF t l) 7 = t := rfl
theorem psF_at (t : V) (l : List V) (i : Nat) (h : i < l.length) : elV (psF t l) (8 + (i : Int)) = l[i] := by
  unfold elV psF
  rw [if_pos (by omega), show (8 + (i : Int)).toNat = 8 + i by omega, List.getElem?_append_right (by simp)]
  simp only [List.length_cons, List.length_nil]
  rw [show 8 + i - (0 + 1 + 1 + 1 + 1 + 1 + 1 + 1 + 1) = i by omega, List.getElem?_append_left h, List.getElem?_eq_getElem h]
  rfl
theorem nilF_one (a : Nat) (h : 0 < a) : nilF a = (true, 0) :: nilF (a - 1) := by
  obtain ⟨b, rfl⟩ : ∃ b, a = b + 1 := ⟨a - 1, by omega⟩
  unfold nilF; rw [List.replicate_succ]; rfl
theorem psF_slot (t : V) (l : List V) (u : V) (h : l.length < 14) : (psF t l).set (8 + l.length) u = [(true, 0), (false, 0), (false, ((2 + l.length : Nat) : Int)), (true, 25), (true, 23), (true, 0), (true, 0), t] ++ (l ++ u :: nilF (14 - l.length - 1)) := by
  unfold psF
  rw [List.set_append_right _ _ (by simp), List.set_append_right _ _ (by simp)]
  simp only [List.length_cons, List.length_nil]
  rw [show 8 + l.length - (0 + 1 + 1 + 1 + 1 + 1 + 1 + 1 + 1) - l.length = 0 by omega, nilF_one _ (show 0 < 14 - l.length by omega), List.set_cons_zero]
theorem psF_push (t : V) (l : List V) (v : V) (h : l.length < 14) : ((psF t l).set (8 + l.length) v).set 2 (false, ((2 + l.length : Nat) : Int) + 1) = psF t (l ++ [v]) := by
  rw [psF_slot t l v h]
  unfold psF
  rw [List.length_append, show 14 - (l.length + [v].length) = 14 - l.length - 1 by simp; omega, List.append_assoc]
  rfl
theorem psF_pop (t : V) (l : List V) (v : V) (h : l.length < 14) : ((psF t (l ++ [v])).set 2 (false, ((2 + l.length : Nat) : Int))).set (8 + l.length) (true, 0) = psF t l := by
  rw [← psF_push t l v h, List.set_set, List.set_comm _ _ (show 2 ≠ 8 + l.length by omega), List.set_set, psF_slot t l _ h]
  unfold psF
  rw [nilF_one _ (show 0 < 14 - l.length by omega)]
  rfl
theorem psF_t (t : V) (l : List V) (v : V) : (psF t l).set 7 v = psF v l := rfl
/-- What stays of the world, whatever is put into the frame or into what is new. -/
structure Pk (M : MS) : Prop where
  h0 : M.has 0 = true
  h23 : M.has 23 = true
  h25 : M.has 25 = true
  f23 : M.fmt 23 = 1
  s23 : M.size 23 = 2
  g23 : M.get 23 1 = (false, 4)
  f25 : M.fmt 25 = 1
  s25 : M.size 25 = 5
  g25 : M.get 25 4 = (false, 9)
  cls : M.isClass 7 = true
  shp : M.shape 7 = (0, 1)
section
variable {W w u : World} {m li q : Nat} {lv dv fv lv' dv' : Value} {M M' : MS} {t : V} {l F : List V} {b : Bd} {n : Nat} {cls fmt i : Int} {v : V}
theorem Pk.put (h : Pk M) (hb : M.bs[q]? = some b) (hq : 26 ≤ q) : Pk (M.put (q : Int) i v) :=
  ⟨h.h0, h.h23, h.h25, (put_fmt hb 23).trans h.f23, (put_size hb 23).trans h.s23, (put_getO (by omega) 1).trans h.g23, (put_fmt hb 25).trans h.f25, (put_size hb 25).trans h.s25, (put_getO (by omega) 4).trans h.g25, (put_isClass hb (by omega)).trans h.cls, (put_shape hb (by omega)).trans h.shp⟩
theorem Pk.mkF (h : Pk M) (hl : M.dead.length = M.bs.length) : Pk (M.mkF cls fmt F fv) :=
  ⟨mkF_hasT M h.h0, mkF_hasT M h.h23, mkF_hasT M h.h25, (mkF_fmtO hl h.h23).trans h.f23, (mkF_sizeO hl h.h23).trans h.s23, (mkF_getO hl h.h23 1).trans h.g23, (mkF_fmtO hl h.h25).trans h.f25, (mkF_sizeO hl h.h25).trans h.s25, (mkF_getO hl h.h25 4).trans h.g25, mkF_isClass hl h.cls, (mkF_shape hl h.cls).trans h.shp⟩
/-- The plain part. -/
structure Pp (M : MS) (n : Nat) (t : V) (l : List V) : Prop where
  pk : Pk M
  fr : FrAt M 26 0 25 0 (psF t l)
  len : M.bs.length = n
  last : M.last = (n : Int)
  small : l.length ≤ 14
theorem Pp.sp (h : Pp M n t l) : M.get ((26 : Nat) : Int) 2 = (false, ((2 + l.length : Nat) : Int)) := (h.fr.get 2).trans (psF_2 t l)
theorem Pp.bd26 (h : Pp M n t l) : ∃ b, M.bs[26]? = some b ∧ b.F.length = 22 := by
  obtain ⟨b, hb, hF, -, -⟩ := h.fr.bd
  exact ⟨b, hb, by rw [hF]; exact h.fr.len⟩
theorem Pp.push (h : Pp M n t l) (hl : l.length < 14) (v : V) : Pp ((M.put (26 : Nat) ((8 + l.length : Nat) : Int) v).put (26 : Nat) ((2 : Nat) : Int) (false, ((2 + l.length : Nat) : Int) + 1)) n t (l ++ [v]) := by
  obtain ⟨b, hb, hF⟩ := h.bd26
  have hf := (h.fr.put (i := 8 + l.length) (by omega) v ⟨by omega, by omega, by omega⟩ (by omega) (by omega)).put (i := 2) (by omega) (false, ((2 + l.length : Nat) : Int) + 1) (by decide) (by omega) (fun _ => by unfold num; simp; omega)
  rw [psF_push t l v hl] at hf
  obtain ⟨b2, hb2, -⟩ := (h.fr.put (i := 8 + l.length) (by omega) v ⟨by omega, by omega, by omega⟩ (by omega) (by omega)).bd
  exact ⟨(h.pk.put hb (by decide)).put hb2 (by decide), hf, (put_len (q := 26)).trans ((put_len (q := 26)).trans h.len), h.last, by simp; omega⟩
theorem Pp.pop (h : Pp M n t (l ++ [v])) : Pp ((M.put (26 : Nat) ((2 : Nat) : Int) (false, ((2 + l.length : Nat) : Int))).put (26 : Nat) ((8 + l.length : Nat) : Int) (true, 0)) n t l := by
  have hsm := h.small
  rw [List.length_append, List.length_singleton] at hsm
  obtain ⟨b, hb, hF⟩ := h.bd26
  have hf1 := h.fr.put (i := 2) (by omega) (false, ((2 + l.length : Nat) : Int)) (by decide) (by omega) (fun _ => by unfold num; simp; omega)
  obtain ⟨b2, hb2, -⟩ := hf1.bd
  have hf := hf1.put (i := 8 + l.length) (by omega) (true, 0) ⟨by omega, by omega, by omega⟩ (by omega) (by omega)
  rw [psF_pop t l v (by omega)] at hf
  exact ⟨(h.pk.put hb (by decide)).put hb2 (by decide), hf, (put_len (q := 26)).trans ((put_len (q := 26)).trans h.len), h.last, by omega⟩
theorem Pp.set7 (h : Pp M n t l) (v : V) : Pp (M.put (26 : Nat) ((7 : Nat) : Int) v) n v l := by
  obtain ⟨b, hb, hF⟩ := h.bd26
  have hf := h.fr.put (i := 7) (by omega) v (by decide) (by omega) (by omega)
  rw [psF_t] at hf
  exact ⟨h.pk.put hb (by decide), hf, (put_len (q := 26)).trans h.len, h.last, h.small⟩
theorem Pp.putO (h : Pp M n t l) (hb : M.bs[q]? = some b) (hq : 27 ≤ q) : Pp (M.put (q : Int) i v) n t l :=
  ⟨h.pk.put hb (by omega), h.fr.putO hb (by omega) (by omega) (.inl rfl), put_len.trans h.len, h.last, h.small⟩
theorem Pp.mkF (h : Pp M n t l) (hl : M.dead.length = M.bs.length) : Pp (M.mkF cls fmt F fv) (n + 1) t l :=
  ⟨h.pk.mkF hl, h.fr.mkF hl, by show (M.bs ++ [_]).length = n + 1; rw [List.length_append, h.len]; rfl, by show M.last + 1 = _; rw [h.last]; push_cast; rfl, h.small⟩
theorem pp_Push (hA : MemAt w m li lv dv M) (h : Pp M n t l) (hl : l.length < 14) (vb : Bool) (vn : Int) (hmay : M.may (vb, vn) = true) :
    Calls Tryz.prog 51 #[.pointer (some ⟨m, 0, none⟩), .int .i64 26, .agg #[.bool vb, .int .i64 vn]] w fun e w' => e = .returned (.bool true) ∧ ∃ lv2 dv2 M2, Pp M2 n t (l ++ [(vb, vn)]) ∧ MemAt w' m li lv2 dv2 M2 ∧ Nx (ownM m li lv dv M) w (ownM m li lv2 dv2 M2) w' := by
  obtain ⟨b, hb, hF⟩ := h.bd26
  have := fr_Push hA h.fr.isF hb hF h.fr.has vb vn hmay (s := 2 + l.length) (by omega) h.sp
  rw [show (6 : Int) + ((2 + l.length : Nat) : Int) = ((8 + l.length : Nat) : Int) by omega] at this
  refine this.mono ?_
  rintro e w' ⟨rfl, hM, hN⟩
  exact ⟨rfl, _, _, _, h.push hl (vb, vn), hM, hN⟩
theorem pp_Push_full (hA : MemAt w m li lv dv M) (h : Pp M n t l) (hl : l.length = 14) (vb : Bool) (vn : Int) (hmay : M.may (vb, vn) = true) :
    Calls Tryz.prog 51 #[.pointer (some ⟨m, 0, none⟩), .int .i64 26, .agg #[.bool vb, .int .i64 vn]] w fun e w' => e = .returned (.bool false) ∧ Below w.heap.size w w' :=
  fr_Push_full hA h.fr.isF vb vn hmay (by have := h.sp; rw [hl] at this; exact this)
theorem pp_Pop (hA : MemAt w m li lv dv M) (h : Pp M n t (l ++ [v])) :
    Calls Tryz.prog 48 #[.pointer (some ⟨m, 0, none⟩), .int .i64 26] w fun e w' => e = .returned (.tuple #[.agg #[.bool v.1, .int .i64 v.2], .bool true]) ∧ ∃ lv2 dv2 M2, (Pp M2 n t l ∧ M2.bs[28]? = M.bs[28]? ∧ M2.dead = M.dead) ∧ MemAt w' m li lv2 dv2 M2 ∧ Nx (ownM m li lv dv M) w (ownM m li lv2 dv2 M2) w' := by
  obtain ⟨b, hb, hF⟩ := h.bd26
  have hsm := h.small
  have hsp := h.sp
  rw [List.length_append, List.length_singleton] at hsm hsp
  have := fr_Pop hA h.fr.isF hb hF h.fr.has h.pk.h0 (s := 2 + (l.length + 1)) (by omega) (by omega) hsp
  have hg : M.get ((26 : Nat) : Int) (6 + ((2 + (l.length + 1) : Nat) : Int) - 1 - 0) = v := by
    rw [show (6 : Int) + ((2 + (l.length + 1) : Nat) : Int) - 1 - 0 = 8 + (l.length : Int) by omega]
    refine (h.fr.get _).trans ?_
    rw [psF_at t (l ++ [v]) l.length (by simp)]
    simp
  rw [hg, show ((2 + (l.length + 1) : Nat) : Int) - 1 = ((2 + l.length : Nat) : Int) by omega, show (6 : Int) + ((2 + l.length : Nat) : Int) = ((8 + l.length : Nat) : Int) by omega] at this
  refine this.mono ?_
  rintro e w' ⟨rfl, hM, hN⟩
  exact ⟨rfl, _, _, _, ⟨h.pop, (put_atO (q := 26) (by decide)).trans (put_atO (q := 26) (by decide)), rfl⟩, hM, hN⟩
end
end Go.Proofs.YtoklohfpkaiidaaGreat.Obj

namespace Go.Proofs.YtoklohfpkaiidaaGreat.Obj
open Go.Proofs.YtoklohfpkaiidaaGreat.Gen Go.Proofs.YtoklohfpkaiidaaGreat.Base Go.ChangeShapes Go.WideShapes Go.ChangeAt Go.RowKit
set_option linter.unusedVariables false
/-- The new array. -/
def Ar (M : MS) (G : List V) : Prop := M.has 28 = true ∧ ∃ b, M.bs[28]? = some b ∧ b.cls = 7 ∧ b.fmt = 1 ∧ b.F = G ∧ b.B = []
def Few (l : List V) : Prop := ∀ v ∈ l, v.1 = false ∧ -1000 ≤ v.2 ∧ v.2 ≤ 1000
def MS.psh (M : MS) (k : Nat) (v : V) : MS := (M.put (26 : Nat) ((8 + k : Nat) : Int) v).put (26 : Nat) ((2 : Nat) : Int) (false, ((2 + k : Nat) : Int) + 1)
section
variable {W w u : World} {m li : Nat} {lv dv lv' dv' : Value} {M : MS} {t v : V} {l G : List V} {n k : Nat}
theorem Few.may (h : Few l) (hv : v ∈ l) (M : MS) : M.may v = true := by
  obtain ⟨h1, h2, h3⟩ := h v hv
  unfold MS.may fits
  rw [h1]
  simp; omega
theorem Ar.get (h : Ar M G) (i : Int) : M.get 28 i = elV G i := by
  obtain ⟨hh, b, hb, -, -, hF, -⟩ := h
  unfold MS.get MS.at
  rw [hh, if_pos rfl, show (28 : Int).toNat = 28 from rfl, hb]
  show elV b.F i = _
  rw [hF]
theorem Ar.size (h : Ar M G) : M.size 28 = (G.length : Int) := by
  obtain ⟨hh, b, hb, -, -, hF, hB⟩ := h
  unfold MS.size MS.at
  rw [hh, if_pos rfl, show (28 : Int).toNat = 28 from rfl, hb]
  show (b.F.length : Int) + (b.B.length : Int) = _
  rw [hF, hB]; simp
theorem Ar.unmakes (h : Ar M G) {i : Int} (h3 : i = 3 ∨ i = 4 → (elV G 3).1 = true) (v : V) : M.unmakes 28 i v = false := by
  unfold MS.unmakes
  by_cases c : i = 3 ∨ i = 4
  · have hc : M.isClass 28 = false := by
      unfold MS.isClass
      rw [h.get 3]
      have e : shapes (elV G 3) (M.get 28 4) = false := by unfold shapes; rw [h3 c]; rfl
      rw [e, Bool.and_false]
    rw [hc, Bool.and_false, Bool.false_and]
  · rw [decide_eq_false c, Bool.false_and, Bool.false_and]
theorem Ar.put26 (h : Ar M G) (i : Int) (v : V) : Ar (M.put (26 : Nat) i v) G := by
  obtain ⟨hh, b, hb, h1⟩ := h
  exact ⟨hh, b, (put_atO (q := 26) (by decide)).trans hb, h1⟩
theorem Ar.same {M' : MS} (h : Ar M G) (hb : M'.bs[28]? = M.bs[28]?) (hd : M'.dead = M.dead) : Ar M' G := by
  obtain ⟨hh, b, hb', h1⟩ := h
  refine ⟨?_, b, hb.trans hb', h1⟩
  unfold MS.has at hh ⊢
  rw [hd]; exact hh
theorem nil_set (j : Nat) (hj : j < k) (D : List V) (v : V) : (nilF (k - j) ++ D).set (k - 1 - j) v = nilF (k - (j + 1)) ++ v :: D := by
  have e : nilF (k - j) = nilF (k - (j + 1)) ++ [(true, 0)] := by
    unfold nilF
    rw [show k - j = (k - (j + 1)) + 1 by omega, List.replicate_succ']
  have hl : (nilF (k - (j + 1))).length = k - (j + 1) := nilF_len _
  rw [e, List.append_assoc, List.set_append_right _ _ (by omega), hl, show k - 1 - j - (k - (j + 1)) = 0 by omega]
  rfl
theorem drop_step {l : List V} {j : Nat} (hj : j < l.length) : l.drop (l.length - (j + 1)) = (l[l.length - 1 - j]?.getD (false, 0)) :: l.drop (l.length - j) := by
  have h1 : l.length - (j + 1) < l.length := by omega
  rw [List.drop_eq_getElem_cons h1, show l.length - (j + 1) + 1 = l.length - j by omega]
  congr 1
  rw [List.getElem?_eq_getElem (by omega)]
  show l[l.length - (j + 1)] = l[l.length - 1 - j]
  congr 1
  omega
theorem take_step {l : List V} {j : Nat} (hj : j < l.length) : l.take (l.length - j) = l.take (l.length - (j + 1)) ++ [l[l.length - 1 - j]?.getD (false, 0)] := by
  rw [show l.length - j = l.length - (j + 1) + 1 by omega, List.take_add_one, show l.length - (j + 1) = l.length - 1 - j by omega, List.getElem?_eq_getElem (by omega)]
  rfl
theorem pp_array (hA : MemAt w m li lv dv M) (h : Pp M 28 t l) (hk : k ≤ l.length) (hf : Few l) :
    Calls Tryz.prog 47 #[.pointer (some ⟨m, 0, none⟩), .int .i64 26, .int .i64 (k : Int)] w fun e w' => e = .returned (.tuple #[.agg #[.bool true, .int .i64 28], .bool true]) ∧ ∃ lv' dv' M', (Pp M' 29 t (l.take (l.length - k)) ∧ Ar M' (l.drop (l.length - k))) ∧ MemAt w' m li lv' dv' M' ∧ Nx (ownM m li lv dv M) w (ownM m li lv' dv' M') w' := by
  have hsm := h.small
  have hl := hA.len
  have h28 := h.len
  have hR : ∀ j, j < k → ∀ M1, Ar M1 (nilF (k - j) ++ l.drop (l.length - j)) → (nilF (k - j) ++ l.drop (l.length - j)).length = k := fun j hj M1 _ => by
    rw [List.length_append, nilF_len, List.length_drop]; omega
  have := sm_array (R := fun j _ _ M1 => Pp M1 29 t (l.take (l.length - j)) ∧ Ar M1 (nilF (k - j) ++ l.drop (l.length - j))) (R' := fun j _ _ M1 => Pp M1 29 t (l.take (l.length - (j + 1))) ∧ Ar M1 (nilF (k - j) ++ l.drop (l.length - j))) (q := 26) (an := 28) (k := k) (vv := fun j => l[l.length - 1 - j]?.getD (false, 0)) hA (by omega) (fun u hu => ?_) (fun lv1 dv1 M1 hr u hu => ?_) (fun j hj lv1 dv1 M1 hr u hu => ?_) (fun j hj lv1 dv1 M1 hr u hu => ?_)
  · refine this.mono ?_
    rintro e w' ⟨rfl, lv2, dv2, M2, ⟨h1, h2⟩, hM, hN⟩
    rw [Nat.sub_self] at h2
    exact ⟨rfl, lv2, dv2, M2, ⟨h1, h2⟩, hM, hN⟩
  · refine (me_Make hu h.pk.cls h.pk.shp (by decide) (k : Int) (by omega) (k := k) (by omega) (by omega) (by omega) (by rw [h.last]; omega) (by omega)).mono ?_
    rintro e w' ⟨rfl, lv2, dv2, fv, hM, hN⟩
    rw [hl, h28]
    refine ⟨rfl, lv2, dv2, _, ⟨?_, ?_⟩, hM, hN⟩
    · rw [Nat.sub_zero, List.take_length, mk1_mkF]
      exact h.mkF hl
    · rw [Nat.sub_zero, Nat.sub_zero, List.drop_length, List.append_nil, mk1_mkF]
      have h1 := mkF_has (cls := 7) (fmt := 1) (F := nilF k) (fv := fv) M hl
      have h2 := mkF_at (cls := 7) (fmt := 1) (F := nilF k) (fv := fv) M
      rw [h28] at h1 h2
      exact ⟨h1, _, h2, rfl, rfl, rfl, rfl⟩
  · obtain ⟨h1, h2⟩ := hr
    have hs := h2.size
    rw [Nat.sub_zero, Nat.sub_zero, List.drop_length, List.append_nil, nilF_len] at hs
    have := me_Size hu 28
    rw [hs] at this
    exact this
  · obtain ⟨h1, h2⟩ := hr
    rw [take_step (show j < l.length by omega)] at h1
    refine (pp_Pop hu h1).mono ?_
    rintro e w' ⟨rfl, lv2, dv2, M2, ⟨h3, h4, h5⟩, hM, hN⟩
    exact ⟨rfl, lv2, dv2, M2, ⟨h3, h2.same h4 h5⟩, hM, hN⟩
  · obtain ⟨h1, h2⟩ := hr
    have hlen := hR j hj M1 h2
    obtain ⟨hh, b, hb, hc, hfm, hF, hB⟩ := h2
    have h2 : Ar M1 (nilF (k - j) ++ l.drop (l.length - j)) := ⟨hh, b, hb, hc, hfm, hF, hB⟩
    have hv : (l[l.length - 1 - j]?.getD (false, 0)) ∈ l := by
      rw [List.getElem?_eq_getElem (by omega)]
      exact List.getElem_mem _
    have hmay := hf.may hv M1
    have hd := drop_step (l := l) (show j < l.length by omega)
    generalize l[l.length - 1 - j]?.getD (false, 0) = p at *
    obtain ⟨pb, pn⟩ := p
    have hun := h2.unmakes (i := (((k - 1 - j : Nat)) : Int)) (fun c => by
      have : 4 ≤ k - j := by omega
      unfold elV
      rw [if_pos (by omega), show (3 : Int).toNat = 3 from rfl, List.getElem?_append_left (by rw [nilF_len]; omega)]
      unfold nilF
      rw [List.getElem?_replicate, if_pos (by omega)]; rfl) (pb, pn)
    have hs := me_Set_yes hu 28 (k - 1 - j) b pb pn hb (by rw [hF, hlen]; omega) hh hmay hun
    rw [show (((k - 1 - j : Nat)) : Int) = (k : Int) - 1 - (j : Int) by omega] at hs
    refine hs.mono ?_
    rintro e w' ⟨rfl, hM, hN⟩
    refine ⟨rfl, _, _, _, ⟨?_, ?_⟩, hM, hN⟩
    · exact h1.putO hb (by decide)
    · have hp := (put_at (i := (k : Int) - 1 - (j : Int)) (v := (pb, pn)) hb).1
      refine ⟨hh, _, hp, hc, hfm, ?_, hB⟩
      show b.F.set ((k : Int) - 1 - (j : Int)).toNat (pb, pn) = _
      rw [hF, show ((k : Int) - 1 - (j : Int)).toNat = k - 1 - j by omega, nil_set j hj, ← hd]
theorem pp_PushE (hA : MemAt w m li lv dv M) (h : Pp M n t l) (hl : l.length < 14) (vb : Bool) (vn : Int) (hmay : M.may (vb, vn) = true) :
    Calls Tryz.prog 51 #[.pointer (some ⟨m, 0, none⟩), .int .i64 26, .agg #[.bool vb, .int .i64 vn]] w fun e w' => e = .returned (.bool true) ∧ MemAt w' m li lv dv (M.psh l.length (vb, vn)) ∧ Nx (ownM m li lv dv M) w (ownM m li lv dv (M.psh l.length (vb, vn))) w' := by
  obtain ⟨b, hb, hF⟩ := h.bd26
  have := fr_Push hA h.fr.isF hb hF h.fr.has vb vn hmay (s := 2 + l.length) (by omega) h.sp
  rw [show (6 : Int) + ((2 + l.length : Nat) : Int) = ((8 + l.length : Nat) : Int) by omega] at this
  exact this
/-- Where the law stands. -/
structure Pw (W w : World) (m li : Nat) (lv dv : Value) (M : MS) (n : Nat) (t : V) (l : List V) : Prop where
  st : Sst W w m li lv dv M
  pp : Pp M n t l
theorem Pw.below (h : Pw W w m li lv dv M n t l) (hb : Below w.heap.size w u) : Pw W u m li lv dv M n t l := ⟨h.st.below hb, h.pp⟩
theorem pw_int (h : Pw W w m li lv dv M n t l) (hl : l.length < 14) (x b : Int) (hx : 0 ≤ x ∧ x ≤ 255) :
    Calls Tryz.prog 23 #[.pointer (some ⟨m, 0, none⟩), .int .i64 26, .agg #[.int .i64 9, .int .i64 x, .int .i64 b]] w fun e w' => e = .returned (.bool true) ∧ (∃ M', Pw W w' m li lv dv M' n t (l ++ [(false, x - 128)]) ∧ Nx (ownM m li lv dv M) w (ownM m li lv dv M') w') := by
  refine (sm_Do_int h.st.me (q := 26) h.pp.fr.isF x b hx fun u hu => pp_PushE (h.st.me.below hu) h.pp hl false (x - 128) (may_num M _ (by unfold fits; simp; omega))).mono ?_
  rintro e w' ⟨rfl, hM, hN⟩
  exact ⟨rfl, _, ⟨h.st.nx hM hN, h.pp.push hl _⟩, hN⟩
theorem pw_array (h : Pw W w m li lv dv M 28 t l) (hk : k ≤ l.length) (hl : l.length ≤ 12) (hf : Few l) (b : Int) :
    Calls Tryz.prog 23 #[.pointer (some ⟨m, 0, none⟩), .int .i64 26, .agg #[.int .i64 21, .int .i64 (k : Int), .int .i64 b]] w fun e w' => e = .returned (.bool true) ∧ ∃ lv' dv' M', (Pw W w' m li lv' dv' M' 29 t (l.take (l.length - k) ++ [(true, 28)]) ∧ Ar M' (l.drop (l.length - k))) ∧ Nx (ownM m li lv dv M) w (ownM m li lv' dv' M') w' := by
  refine (sm_Do_array (K := fun _ _ M1 => Pp M1 29 t (l.take (l.length - k)) ∧ Ar M1 (l.drop (l.length - k))) (K2 := fun _ _ M2 => Pp M2 29 t (l.take (l.length - k) ++ [(true, 28)]) ∧ Ar M2 (l.drop (l.length - k))) (vb := true) (vn := 28) (pb := true) h.st.me (q := 26) h.pp.fr.isF (k : Int) b (fun u hu => pp_array (h.st.me.below hu) h.pp hk hf) fun lv1 dv1 M1 hK u hu => ?_).mono ?_
  · obtain ⟨h1, h2⟩ := hK
    have hlt : (l.take (l.length - k)).length < 14 := by rw [List.length_take]; omega
    refine (pp_PushE hu h1 hlt true 28 (by unfold MS.may; rw [if_pos rfl]; exact h2.1)).mono ?_
    rintro e w' ⟨rfl, hM, hN⟩
    exact ⟨rfl, _, _, _, ⟨h1.push hlt _, (h2.put26 _ _).put26 _ _⟩, hM, hN⟩
  · rintro e w' ⟨rfl, lv2, dv2, M2, ⟨h1, h2⟩, hM, hN⟩
    exact ⟨rfl, lv2, dv2, M2, ⟨⟨h.st.nx hM hN, h1⟩, h2⟩, hN⟩
end
end Go.Proofs.YtoklohfpkaiidaaGreat.Obj

namespace Go.Proofs.YtoklohfpkaiidaaGreat.Obj
open Go.Proofs.YtoklohfpkaiidaaGreat.Gen Go.Proofs.YtoklohfpkaiidaaGreat.Base Go.ChangeShapes Go.WideShapes Go.ChangeAt Go.RowKit
set_option linter.unusedVariables false
theorem infoI : (Tryz.prog.info? 3).map (fun i => (i.zero, i.size, i.bytes)) = some (some (.int .i64 0), 1, 8) := by kernel_rfl
def ints (l : List Int) : List Value := l.map (Value.int .i64)
set_option maxRecDepth 100000 in
theorem wpl_appI {base : Nat} {ops : Array Oper} {rest : List Oper} {w : World} {o : Oper} {a : Act} {Q : Exit → Act → World → Prop} (hgd : o.guard = none) (s x : Operand)
    (ho : o.op = .call { callee := .builtin .append, args := #[s, x], argTypes := #[24, 24] })
    (v : Value) (n : Nat) (xs : List Value) (hs : a.eval s = v) (hown : w.ownsRow base 3 1 v n xs) (hbase : base ≤ w.heap.size) (ad : Addr) (m c : Nat) (hx : a.eval x = .slice (some ad) m c) (ys : List Value) (hl : ys.length = m * 1) (hc : ∀ j u, ys[j]? = some u → w.cell? (ad.add j) = some u) (h1 : ∀ u ∈ ys, u.oneCell' = true) (hn : n + m ≤ 1000000)
    (h : ∀ v' w', w'.ownsRow base 3 1 v' (n + m) (xs ++ ys) → w.grownBy w' v.ownBlock → (v'.ownBlock = v.ownBlock ∨ v'.ownBlock = some w.heap.size) → wpList Tryz.prog ops Q rest (a.put o.dst v') w') : wpList Tryz.prog ops Q (o :: rest) a w := by
  refine wpList_plain hgd fun _ hK => ?_
  obtain ⟨i0, hi, hz0, hz1, hz2⟩ := info_parts infoI
  obtain ⟨v', w', hr, h2, h3, _, h5⟩ := run_append_own_at (P := Tryz.prog) (w := w) base 24 o.type 3 i0 (.int .i64 0) 1 8 Tryz.underlying24 hi hz0 hz1 hz2 rfl (by decide) v n xs hown ad m c ys hl hc h1 (by unfold maxLen; omega) (by omega) hbase
  unfold Oper.wp execOp
  simp only [ho, resolve, invoke, builtin, Sem.run_bind, Sem.run_pure, Result.andThen_ok, List.map_toArray, List.map_cons, List.map_nil, hs, hx, hr]
  exact hK _ _ (h v' w' h2 h3 h5)
def MS.pop26 (M : MS) (k : Nat) : MS := (M.put (26 : Nat) ((2 : Nat) : Int) (false, ((2 + k : Nat) : Int))).put (26 : Nat) ((8 + k : Nat) : Int) (true, 0)
section
variable {W w u w' u8 : World} {m li : Nat} {lv dv lv' dv' vin v' : Value} {M M' : MS} {t v : V} {l G : List V} {n k : Nat} {inl : List Int} {R o : Obj}
theorem nx_same (hA : MemAt w m li lv dv M) (hb : Below w.heap.size w u) : MemAt u m li lv dv M ∧ Nx (ownM m li lv dv M) w (ownM m li lv dv M) u := ⟨hA.below hb, hb.os, hb.tape, hb.output, hb.size, fun k hk _ => hb.block k hk, fun k hk => .inl hk⟩
theorem pp_PopE (hA : MemAt w m li lv dv M) (h : Pp M n t (l ++ [v])) :
    Calls Tryz.prog 48 #[.pointer (some ⟨m, 0, none⟩), .int .i64 26] w fun e w' => e = .returned (.tuple #[.agg #[.bool v.1, .int .i64 v.2], .bool true]) ∧ MemAt w' m li lv dv (M.pop26 l.length) ∧ Nx (ownM m li lv dv M) w (ownM m li lv dv (M.pop26 l.length)) w' := by
  obtain ⟨b, hb, hF⟩ := h.bd26
  have hsm := h.small
  have hsp := h.sp
  rw [List.length_append, List.length_singleton] at hsm hsp
  have := fr_Pop hA h.fr.isF hb hF h.fr.has h.pk.h0 (s := 2 + (l.length + 1)) (by omega) (by omega) hsp
  have hg : M.get ((26 : Nat) : Int) (6 + ((2 + (l.length + 1) : Nat) : Int) - 1 - 0) = v := by
    rw [show (6 : Int) + ((2 + (l.length + 1) : Nat) : Int) - 1 - 0 = 8 + (l.length : Int) by omega]
    refine (h.fr.get _).trans ?_
    rw [psF_at t (l ++ [v]) l.length (by simp)]
    simp
  rw [hg, show ((2 + (l.length + 1) : Nat) : Int) - 1 = ((2 + l.length : Nat) : Int) by omega, show (6 : Int) + ((2 + l.length : Nat) : Int) = ((8 + l.length : Nat) : Int) by omega] at this
  exact this
theorem pw_set (h : Pw W w m li lv dv M n t (l ++ [v])) (hmay : M.may v = true) (b : Int) :
    Calls Tryz.prog 23 #[.pointer (some ⟨m, 0, none⟩), .int .i64 26, .agg #[.int .i64 5, .int .i64 1, .int .i64 b]] w fun e w' => e = .returned (.bool true) ∧ (∃ M', Pw W w' m li lv dv M' n v l ∧ Nx (ownM m li lv dv M) w (ownM m li lv dv M') w' ∧ M'.dead = M.dead) := by
  obtain ⟨vb, vn⟩ := v
  have h2 : Pp (M.pop26 l.length) n t l := h.pp.pop
  obtain ⟨b2, hb2, hF2⟩ := h2.bd26
  refine (sm_Do_set5 (lv' := lv) (dv' := dv) (M2 := (M.pop26 l.length).put (26 : Nat) ((7 : Nat) : Int) (vb, vn)) (ok := true) h.st.me (q := 26) h.pp.fr.isF 1 b (fun u hu => pp_PopE (h.st.me.below hu) h.pp) fun u hu => sm_store5 hu 1 b vb vn fun u2 hu2 => ?_).mono ?_
  · have := fr_SetTemp_of (hu.below hu2) (id := 26) (out := 0) (q := 26) (fun u3 hu3 => fr_further0 ((hu.below hu2).below hu3) h2.fr.isF) (t := 1) (by omega) hb2 hF2 h2.fr.has vb vn hmay
    exact this
  · rintro e w' ⟨rfl, hM, hN⟩
    exact ⟨rfl, _, ⟨h.st.nx hM hN, h2.set7 _⟩, hN, rfl⟩
theorem pw_temp (h : Pw W w m li lv dv M n t l) (hl : l.length < 14) (hmay : M.may t = true) (b : Int) :
    Calls Tryz.prog 23 #[.pointer (some ⟨m, 0, none⟩), .int .i64 26, .agg #[.int .i64 2, .int .i64 1, .int .i64 b]] w fun e w' => e = .returned (.bool true) ∧ (∃ M', Pw W w' m li lv dv M' n t (l ++ [t]) ∧ Nx (ownM m li lv dv M) w (ownM m li lv dv M') w') := by
  obtain ⟨vb, vn⟩ := t
  refine (sm_Do_temp h.st.me (q := 26) h.pp.fr.isF 1 b (vb := vb) (vn := vn) (fun u hu => ?_) fun u hu => pp_PushE (h.st.me.below hu) h.pp hl vb vn hmay).mono ?_
  · have := fr_Temp_of (h.st.me.below hu) (id := 26) (out := 0) (x := 26) (fun u3 hu3 => fr_further0 ((h.st.me.below hu).below hu3) h.pp.fr.isF) (t := 1) (by omega)
    have hg : M.get (26 : Int) (6 + ((1 : Nat) : Int)) = (vb, vn) := (h.pp.fr.get 7).trans (psF_7 _ _)
    rw [hg] at this
    exact this
  · rintro e w' ⟨rfl, hM, hN⟩
    exact ⟨rfl, _, ⟨h.st.nx hM hN, h.pp.push hl _⟩, hN⟩
theorem pw_fld (h : Pw W w m li lv dv M n t l) (hl : l.length < 14) (b : Int) :
    Calls Tryz.prog 23 #[.pointer (some ⟨m, 0, none⟩), .int .i64 26, .agg #[.int .i64 4, .int .i64 1, .int .i64 b]] w fun e w' => e = .returned (.bool true) ∧ (∃ M', Pw W w' m li lv dv M' n t (l ++ [(false, 4)]) ∧ Nx (ownM m li lv dv M) w (ownM m li lv dv M') w') := by
  refine (sm_Do_fld h.st.me (q := 26) (sb := true) (sn := 23) h.pp.fr.isF ((h.pp.fr.get 4).trans rfl) 1 b (vb := false) (vn := 4) (fun u hu => ?_) fun u hu => pp_PushE (h.st.me.below hu) h.pp hl false 4 (may_num M 4 (by decide))).mono ?_
  · have := sm_field_yes (h.st.me.below hu) (n := 23) (i := 1) (by rw [h.pp.pk.f23]; decide) (by omega) (by rw [h.pp.pk.s23]; decide)
    rw [h.pp.pk.g23] at this
    exact this
  · rintro e w' ⟨rfl, hM, hN⟩
    exact ⟨rfl, _, ⟨h.st.nx hM hN, h.pp.push hl _⟩, hN⟩
theorem pw_lit_field (hA : MemAt w m li lv dv M) (h : Pk M) : Calls Tryz.prog 43 #[.pointer (some ⟨m, 0, none⟩), .agg #[.bool true, .int .i64 25], .int .i64 (4 + 0)] w fun e w' => e = .returned (.tuple #[.agg #[.bool false, .int .i64 9], .bool true]) ∧ Below w.heap.size w w' := by
  have := sm_field_yes hA (n := 25) (i := 4 + 0) (by rw [h.f25]; decide) (by omega) (by rw [h.s25]; decide)
  have hg : M.get 25 (4 + 0) = (false, 9) := h.g25
  rw [hg] at this
  exact this
theorem pw_lit (h : Pw W w m li lv dv M n t l) (hl : l.length < 14) (b : Int) :
    Calls Tryz.prog 23 #[.pointer (some ⟨m, 0, none⟩), .int .i64 26, .agg #[.int .i64 3, .int .i64 0, .int .i64 b]] w fun e w' => e = .returned (.bool true) ∧ (∃ M', Pw W w' m li lv dv M' n t (l ++ [(false, 9)]) ∧ Nx (ownM m li lv dv M) w (ownM m li lv dv M') w') := by
  refine (sm_Do_lit h.st.me (q := 26) (sb := true) (sn := 25) h.pp.fr.isF ((h.pp.fr.get 3).trans rfl) 0 b (by omega) (vb := false) (vn := 9) (fun u hu => pw_lit_field (h.st.me.below hu) h.pp.pk) fun u hu => pp_PushE (h.st.me.below hu) h.pp hl false 9 (may_num M 9 (by decide))).mono ?_
  rintro e w' ⟨rfl, hM, hN⟩
  exact ⟨rfl, _, ⟨h.st.nx hM hN, h.pp.push hl _⟩, hN⟩
theorem pw_lit_full (h : Pw W w m li lv dv M n t l) (hl : l.length = 14) (b : Int) :
    Calls Tryz.prog 23 #[.pointer (some ⟨m, 0, none⟩), .int .i64 26, .agg #[.int .i64 3, .int .i64 0, .int .i64 b]] w fun e w' => e = .returned (.bool false) ∧ (∃ M', Pw W w' m li lv dv M' n t l ∧ Nx (ownM m li lv dv M) w (ownM m li lv dv M') w') := by
  refine (sm_Do_lit h.st.me (q := 26) (sb := true) (sn := 25) h.pp.fr.isF ((h.pp.fr.get 3).trans rfl) 0 b (by omega) (vb := false) (vn := 9) (fun u hu => pw_lit_field (h.st.me.below hu) h.pp.pk) (M2 := M) (lv' := lv) (dv' := dv) fun u hu => (pp_Push_full (h.st.me.below hu) h.pp hl false 9 (may_num M 9 (by decide))).mono fun e w' ⟨he, hb⟩ => ⟨he, nx_same (h.st.me.below hu) hb⟩).mono ?_
  rintro e w' ⟨rfl, hM, hN⟩
  exact ⟨rfl, _, ⟨h.st.nx hM hN, h.pp⟩, hN⟩
theorem pw_frame (h : Pw W w m li lv dv M n t l) (hl : l.length < 14) (x b : Int) :
    Calls Tryz.prog 23 #[.pointer (some ⟨m, 0, none⟩), .int .i64 26, .agg #[.int .i64 22, .int .i64 x, .int .i64 b]] w fun e w' => e = .returned (.bool true) ∧ (∃ M', Pw W w' m li lv dv M' n t (l ++ [(true, 26)]) ∧ Nx (ownM m li lv dv M) w (ownM m li lv dv M') w') := by
  refine (sm_Do_frame h.st.me (q := 26) h.pp.fr.isF x b (vb := true) (vn := 26) (fun u hu => sm_thing u 26) fun u hu => pp_PushE (h.st.me.below hu) h.pp hl true 26 (by unfold MS.may; rw [if_pos rfl]; exact h.pp.fr.has)).mono ?_
  rintro e w' ⟨rfl, hM, hN⟩
  exact ⟨rfl, _, ⟨h.st.nx hM hN, h.pp.push hl _⟩, hN⟩
theorem pw_frame_full (h : Pw W w m li lv dv M n t l) (hl : l.length = 14) (x b : Int) :
    Calls Tryz.prog 23 #[.pointer (some ⟨m, 0, none⟩), .int .i64 26, .agg #[.int .i64 22, .int .i64 x, .int .i64 b]] w fun e w' => e = .returned (.bool false) ∧ (∃ M', Pw W w' m li lv dv M' n t l ∧ Nx (ownM m li lv dv M) w (ownM m li lv dv M') w') := by
  refine (sm_Do_frame h.st.me (q := 26) h.pp.fr.isF x b (vb := true) (vn := 26) (fun u hu => sm_thing u 26) (M2 := M) (lv' := lv) (dv' := dv) fun u hu => (pp_Push_full (h.st.me.below hu) h.pp hl true 26 (by unfold MS.may; rw [if_pos rfl]; exact h.pp.fr.has)).mono fun e w' ⟨he, hb⟩ => ⟨he, nx_same (h.st.me.below hu) hb⟩).mono ?_
  rintro e w' ⟨rfl, hM, hN⟩
  exact ⟨rfl, _, ⟨h.st.nx hM hN, h.pp⟩, hN⟩
theorem pw_lit_no (h : Pw W w m li lv dv M n t l) (b : Int) :
    Calls Tryz.prog 23 #[.pointer (some ⟨m, 0, none⟩), .int .i64 26, .agg #[.int .i64 3, .int .i64 1, .int .i64 b]] w fun e w' => e = .returned (.bool false) ∧ Below w.heap.size w w' :=
  sm_Do_lit_no h.st.me (q := 26) (sb := true) (sn := 25) h.pp.fr.isF ((h.pp.fr.get 3).trans rfl) 1 b (by omega) (vb := false) (vn := 0) fun u hu => sm_field_out (h.st.me.below hu) (by rw [h.pp.pk.f25]; decide) (by omega) (by rw [h.pp.pk.s25]; decide)
theorem pw_const_no (h : Pw W w m li lv dv M n t l) (b : Int) :
    Calls Tryz.prog 23 #[.pointer (some ⟨m, 0, none⟩), .int .i64 26, .agg #[.int .i64 10, .int .i64 3, .int .i64 b]] w fun e w' => e = .returned (.bool false) ∧ Below w.heap.size w w' :=
  sm_Do_const_no h.st.me (q := 26) h.pp.fr.isF 3 b (by omega)
theorem pw_11 (h : Pw W w m li lv dv M n t l) (x b : Int) :
    Calls Tryz.prog 23 #[.pointer (some ⟨m, 0, none⟩), .int .i64 26, .agg #[.int .i64 11, .int .i64 x, .int .i64 b]] w fun e w' => e = .returned (.bool false) ∧ Below w.heap.size w w' :=
  sm_Do_11 h.st.me (q := 26) h.pp.fr.isF x b
theorem pw_Get26 (h : Pw W w m li lv dv M n t l) (i : Nat) (hi : i < l.length) : Calls Tryz.prog 24 #[.pointer (some ⟨m, 0, none⟩), .int .i64 26, .int .i64 (8 + (i : Int))] w fun e w' => e = .returned (.agg #[.bool l[i].1, .int .i64 l[i].2]) ∧ Below w.heap.size w w' := by
  have := me_Get2 h.st.me 26 (8 + (i : Int))
  have e : M.get 26 (8 + (i : Int)) = l[i] := (h.pp.fr.get _).trans (psF_at t l i hi)
  rw [e] at this
  exact this
theorem pw_Get28 (h : Pw W w m li lv dv M n t l) (hG : Ar M G) (i : Int) : Calls Tryz.prog 24 #[.pointer (some ⟨m, 0, none⟩), .int .i64 28, .int .i64 i] w fun e w' => e = .returned (.agg #[.bool (elV G i).1, .int .i64 (elV G i).2]) ∧ Below w.heap.size w w' := by
  have := me_Get2 h.st.me 28 i
  rw [hG.get] at this
  exact this
theorem pw_Thing28 (h : Pw W w m li lv dv M n t l) (hG : Ar M G) (hl : G.length ≤ 100) : Calls Tryz.prog 25 #[.pointer (some ⟨m, 0, none⟩), .int .i64 28] w fun e w' => (∃ c f ha fi a cp, e = .returned (.agg #[.int .i64 c, .int .i64 f, .int .i64 ha, .bool fi, .slice a G.length cp, .string ByteArray.empty])) ∧ Below w.heap.size w w' := by
  obtain ⟨hh, b, hb, hc, hf, hF, hB⟩ := hG
  refine (me_Thing h.st.me (q := 28) hb hh (by rw [hf]; decide) hB (by rw [hF]; omega)).mono ?_
  rintro e w' ⟨a, c, rfl, -, hb2⟩
  rw [hF]
  exact ⟨⟨_, _, _, _, a, c, rfl⟩, hb2⟩
theorem pw_Thing26 (h : Pw W w m li lv dv M n t l) : Calls Tryz.prog 25 #[.pointer (some ⟨m, 0, none⟩), .int .i64 26] w fun e w' => ∃ c f ha fi g cp, e = .returned (.agg #[.int .i64 c, .int .i64 f, .int .i64 ha, .bool fi, .slice (some ⟨g, 0, none⟩) 22 cp, .string ByteArray.empty]) ∧ (∃ cs, w'.heap[g]? = some (.cells cs 54 (0, 0)) ∧ cs.toList.take 44 = vals (psF t l)) ∧ w.heap.size ≤ g ∧ Below w.heap.size w w' := by
  obtain ⟨b, hb, hF, hB, hf⟩ := h.pp.fr.bd
  have hlen := h.pp.fr.len
  refine (me_Thing h.st.me (q := 26) hb h.pp.fr.has (by rw [hf]; decide) hB (by rw [hF]; omega)).mono ?_
  rintro e w' ⟨a, c, rfl, hO, hb2⟩
  rw [hF, hlen] at hO
  rw [hF, hlen]
  obtain ⟨hx, ⟨h1, h2⟩ | ⟨g, cap, cur, h3, h4, h5, h6, h7, h8, h9⟩⟩ := hO
  · exact absurd h2 (by decide)
  · obtain ⟨e1, -, e3⟩ := Value.slice.inj h3
    subst e1
    exact ⟨_, _, _, _, g, c, rfl, ⟨cur, h5, h9⟩, h4, hb2⟩
/-- A block beside the memory. -/
structure Bsd (w : World) (m li : Nat) (lv dv : Value) (M : MS) (k : Nat) (o : Obj) : Prop where
  row : w.heap[k]? = some o
  no : ¬ ownM m li lv dv M k
theorem Bsd.below (h : Bsd w m li lv dv M k o) (hb : Below w.heap.size w u) : Bsd u m li lv dv M k o := ⟨(hb.block k (Array.getElem?_eq_some_iff.1 h.row).1).trans h.row, h.no⟩
theorem Bsd.nx (h : Bsd w m li lv dv M k o) (hN : Nx (ownM m li lv dv M) w (ownM m li lv' dv' M') u) : Bsd u m li lv' dv' M' k o :=
  have hl := (Array.getElem?_eq_some_iff.1 h.row).1
  ⟨(hN.block k hl h.no).trans h.row, fun c => by rcases hN.own k c with c | c; exact h.no c; omega⟩
/-- A row of numbers beside it. -/
structure Rw (W w : World) (m li : Nat) (lv dv : Value) (M : MS) (vin : Value) (inl : List Int) : Prop where
  ins : w.ownsRow W.heap.size 3 1 vin inl.length (ints inl)
  apart : ∀ k, vin.ownBlock = some k → ¬ ownM m li lv dv M k
theorem Rw.below (h : Rw W w m li lv dv M vin inl) (hb : Below w.heap.size w u) : Rw W u m li lv dv M vin inl := ⟨owns_at h.ins fun k hk => hb.block k (h.ins.lt k hk).2, h.apart⟩
theorem Rw.nx (h : Rw W w m li lv dv M vin inl) (hN : Nx (ownM m li lv dv M) w (ownM m li lv' dv' M') u) : Rw W u m li lv' dv' M' vin inl :=
  ⟨owns_at h.ins fun k hk => hN.block k (h.ins.lt k hk).2 (h.apart k hk), fun k hk c => by
    rcases hN.own k c with c | c
    · exact h.apart k hk c
    · have := (h.ins.lt k hk).2; omega⟩
theorem Rw.start : Rw W w m li lv dv M (.slice none 0 0) [] := ⟨World.ownsRow_nil _ _ _ _, fun k hk => by simp [Value.ownBlock] at hk⟩
/-- One number more. -/
theorem Rw.app {x : Int} (h : Rw W w m li lv dv M vin inl) (hP : Pw W w m li lv dv M n t l) (own : u8.ownsRow W.heap.size 3 1 v' (inl.length + 1) (ints inl ++ [.int .i64 x])) (g8 : (w.alloc R).grownBy u8 vin.ownBlock) (e : v'.ownBlock = vin.ownBlock ∨ v'.ownBlock = some (w.alloc R).heap.size) :
    Pw W u8 m li lv dv M n t l ∧ Rw W u8 m li lv dv M v' (inl ++ [x]) := by
  have hws := hP.st.bel.size
  have hold : ∀ k, k < w.heap.size → vin.ownBlock ≠ some k → u8.heap[k]? = w.heap[k]? := fun k hk hn => (g8.block k (by simp; omega) fun e => hn e.symm).trans (heap_alloc_old _ _ hk)
  refine ⟨⟨⟨hP.st.me.keep fun k hk => hold k (hP.st.me.lt hk) fun e => h.apart k e hk, (hP.st.bel.alloc hws R).grown g8 (by rw [World.size_alloc]; omega) (fun j hj => (h.ins.lt j hj).1), hP.st.new⟩, hP.pp⟩, ?_, fun k hk c => ?_⟩
  · rw [List.length_append]
    have : ints (inl ++ [x]) = ints inl ++ [.int .i64 x] := by simp [ints]
    rw [this]; exact own
  · have hlt := hP.st.me.lt c
    rcases e with e | e
    · exact h.apart k (e ▸ hk) c
    · rw [e, World.size_alloc] at hk
      have : w.heap.size + 1 = k := by simpa using hk
      omega
theorem Rw.cells (h : Rw W w m li lv dv M vin inl) : ∃ a c, vin = .slice a inl.length c ∧ inl.length ≤ c ∧ ∀ i (hi : i < inl.length), ∃ g, a = some ⟨g, 0, none⟩ ∧ w.cell? ⟨g, i, none⟩ = some (.int .i64 inl[i]) ∧ g < w.heap.size := by
  obtain ⟨hx, ⟨h1, h2⟩ | ⟨g, cap, cur, h3, h4, h5, h6, h7, h8, h9⟩⟩ := h.ins
  · exact ⟨none, 0, by rw [h1, h2], by omega, fun i hi => by omega⟩
  · refine ⟨_, cap, h3, h6, fun i hi => ⟨g, rfl, ?_, (Array.getElem?_eq_some_iff.1 h5).1⟩⟩
    have hu : (ints inl)[i]? = some (.int .i64 inl[i]) := by simp [ints, hi]
    rw [cell_row w g i _ _ _ h5]
    rw [← h9, List.getElem?_take, if_pos (show i < inl.length * 1 by omega)] at hu
    simpa using hu
end
end Go.Proofs.YtoklohfpkaiidaaGreat.Obj

namespace Go.Proofs.YtoklohfpkaiidaaGreat.Obj
open Go.Proofs.YtoklohfpkaiidaaGreat.Gen Go.Proofs.YtoklohfpkaiidaaGreat.Base Go.ChangeShapes Go.WideShapes Go.ChangeAt Go.RowKit
set_option linter.unusedVariables false
section
variable {w u u' : World} {b : Nat} {lv : Value} {L : List Th} {last : Int}
set_option maxHeartbeats 2000000 in
set_option maxRecDepth 100000 in
theorem b_MethodL (h : LB w u b 51 lv L last) (hn : L.length ≤ 2990) (hl : 0 ≤ last ∧ last ≤ 2990) (args temps prim : Int) {g : Nat} {lb : Bool} {ln : Int} (hg : u.heap[g]? = some (.cells #[.bool lb, .int .i64 ln] 54 (0, 0))) (hgb : g ≠ b) (hgl : lv.ownBlock ≠ some g) :
    Calls Tryz.prog 20 #[.pointer (some ⟨b, 0, none⟩), .int .i64 args, .int .i64 temps, .int .i64 prim, .slice none 0 0, .slice (some ⟨g, 0, none⟩) 1 1] u fun e w' => e = .returned (.int .i64 ((L.length : Int) + 1)) ∧ ∃ va vc t1 t2, LB w w' b 51 (.slice va (L.length + 2) vc) (L ++ [t1, t2]) (last + 2) ∧ t1.pl = ⟨8, 3, last + 1, false, .slice none 0 0, [], ByteArray.empty⟩ ∧ t2.pl = ⟨11, 1, last + 2, false, .slice none 0 0, [(false, args), (false, temps), (false, prim), (true, (L.length : Int)), (lb, ln)], ByteArray.empty⟩ := by
  have HL := Lib.hid h
  have hgu : g < u.heap.size := (Array.getElem?_eq_some_iff.1 hg).1
  have HG := Lib.hid (And.intro hgu (And.intro hg (And.intro hgb hgl)))
  have HA1 := Lib.hid (b_AddK0 h (by omega) (by omega) 8 3 ByteArray.empty)
  have HA2 : Hid (∀ va vc fa fc ux u8, LB w ux b 51 (.slice va (L.length + 1) vc) (L ++ [⟨8, 3, last + 1, false, .slice none 0 0, [], ByteArray.empty⟩]) (last + 1) → Below ux.heap.size ux u8 → u8.ownsRow ux.heap.size 54 2 (.slice fa 5 fc) 5 (vals [(false, args), (false, temps), (false, prim), (true, (L.length : Int)), (lb, ln)]) → Calls Tryz.prog 18 #[.pointer (some ⟨b, 0, none⟩), .int .i64 11, .int .i64 1, .slice fa 5 fc, .string ⟨#[]⟩] u8 fun e w' => e = .returned (.int .i64 ((L.length : Int) + 1)) ∧ ∃ va vc, LB w w' b 51 (.slice va (L.length + 2) vc) (L ++ [⟨8, 3, last + 1, false, .slice none 0 0, [], ByteArray.empty⟩, ⟨11, 1, last + 2, false, .slice fa 5 fc, [(false, args), (false, temps), (false, prim), (true, (L.length : Int)), (lb, ln)], ⟨#[]⟩⟩]) (last + 2)) := Lib.hid fun va vc fa fc ux u8 hx hb8 hw => by
    have hk2 : ∀ k, blk (.slice fa 5 fc) 5 = some k → k ≠ b ∧ (Value.slice va (L.length + 1) vc).ownBlock ≠ some k := fun k hk => by
      have e : (Value.slice fa 5 fc).ownBlock = some k := by
        unfold blk at hk
        split at hk
        · cases hk
        · exact hk
      have h1 := (hw.lt k e).1
      exact ⟨by have := hx.lt; omega, fun c => by have := (hx.ls.lt k c).2; omega⟩
    have := b_Add (hx.more hb8) (by simp; omega) (by omega) 11 1 (F := [(false, args), (false, temps), (false, prim), (true, (L.length : Int)), (lb, ln)]) (fa := fa) (fc := fc) (RowV.own (by simp) (own_zero hw)) ⟨hk2, (own_cap hw).1, (own_cap hw).2⟩ ⟨#[]⟩
    rw [List.length_append, List.append_assoc, show last + 1 + 1 = last + 2 by omega] at this
    exact this
  clear h hg hgb hgl hgu
  go_enter Tryz.func20, Tryz.ntmps20
  go_wp2_with (first
    | (go_at_call 40; (with_reducible refine (rf_Put _).mono ?_); rintro e u1 ⟨rfl, rfl⟩; dsimp only)
    | (go_at_call 18; (with_reducible refine HA1.out.mono ?_); rintro e u2 ⟨rfl, va, vc, hL2, hK2⟩; have HL2 := Lib.hid hL2; have HR2 := Lib.hid (And.intro (Nat.lt_of_lt_of_le HG.out.1 hK2.size) ((hK2.block g HG.out.1 HG.out.2.2.1 HG.out.2.2.2).trans HG.out.2.1)); clear hL2 hK2 HA1; dsimp only)
    | (go_at_call 19; (with_reducible refine (nl_Num _ _).mono ?_); rintro e ux ⟨rfl, hbx⟩; have HL2 := Lib.hid (HL2.out.more hbx); have HR2 := Lib.hid (And.intro (Nat.lt_of_lt_of_le HR2.out.1 hbx.size) ((hbx.block g HR2.out.1).trans HR2.out.2)); clear hbx; dsimp only)
    | (go_at_call 22; (with_reducible refine (nl_Obj _ _).mono ?_); rintro e ux ⟨rfl, hbx⟩; have HL2 := Lib.hid (HL2.out.more hbx); have HR2 := Lib.hid (And.intro (Nat.lt_of_lt_of_le HR2.out.1 hbx.size) ((hbx.block g HR2.out.1).trans HR2.out.2)); clear hbx; dsimp only)
    | (at_builtin; refine wpl_appVb rfl (.tmp 27) (.tmp 28) (by rfl) (.slice (some ⟨ux.heap.size, 0, none⟩) 4 4) 4 (vals [(false, args), (false, temps), (false, prim), (true, (L.length : Int))]) (by rfl) (own_lit ux [(false, args), (false, temps), (false, prim), (true, (L.length : Int))] (by simp) (Nat.le_refl _)) (by simp) ⟨g, 0, none⟩ 1 1 (by rfl) (vcells (lb, ln)) rfl (fun j v hu => by rw [Addr.add_lit, Nat.zero_add]; exact (World.cell?_alloc_lt _ _ _ HR2.out.1).trans ((cell_row _ _ j _ _ _ HR2.out.2).trans (by simpa [vcells] using hu))) (fun v hv => by simp [vcells] at hv; rcases hv with rfl | rfl <;> rfl) (by omega) ?_))
  intro v8 u8 own8 g8 e8
  obtain ⟨fa, fc, rfl⟩ := own_sl own8
  have hb8 : Below ux.heap.size ux u8 := Below.grown ((Below.refl _ _).alloc (Nat.le_refl _) _) g8 (by simp) (fun j hj => by simp [Value.ownBlock] at hj; omega)
  have HA3 := Lib.hid (HA2.out _ _ _ _ _ _ HL2.out hb8 own8)
  clear own8 g8 e8 hb8
  go_wp2_with (go_at_call 18; (with_reducible refine HA3.out.mono ?_); rintro e u9 ⟨rfl, va9, vc9, hL3⟩; have HL3 := Lib.hid hL3; clear hL3; dsimp only)
  go_ret
  exact ⟨rfl, va9, vc9, _, _, HL3.out, rfl, rfl⟩
end
end Go.Proofs.YtoklohfpkaiidaaGreat.Obj

namespace Go.Proofs.YtoklohfpkaiidaaGreat.Obj
open Go.Proofs.YtoklohfpkaiidaaGreat.Gen Go.Proofs.YtoklohfpkaiidaaGreat.Base Go.ChangeShapes Go.WideShapes Go.ChangeAt Go.RowKit
set_option linter.unusedVariables false
def spA : List Th := (List.range 23).map firstT ++ [⟨7, 1, 24, false, .slice none 0 0, [(false, 3), (false, 4)], ByteArray.empty⟩]
def spC : List Th := spA ++ [⟨8, 3, 25, false, .slice none 0 0, [], ByteArray.empty⟩, ⟨11, 1, 26, false, .slice none 0 0, [(false, 0), (false, 2), (false, 0), (true, 24), (false, 9)], ByteArray.empty⟩]
def spL : List Th := spC ++ [⟨12, 1, 27, false, .slice none 0 0, psF (true, 0) [], ByteArray.empty⟩, ⟨14, 1, 28, false, .slice none 0 0, [(true, 26), (false, 5)], ByteArray.empty⟩]
theorem ok_spL : okL 28 spL = true ∧ (spL.all fun t => decide (t.F.length ≤ 100000 ∧ t.B.size ≤ 100000)) = true := ⟨by kernel_rfl, by kernel_rfl⟩
def spM (M : MS) : MS := { M with bs := spL.map Th.bare, dead := nos 28 }
theorem spM_ok (M : MS) : ((spM M).isM 25 && ((spM M).has 0 && ((spM M).has 23 && ((spM M).has 25 && ((spM M).has 26 && (decide ((spM M).fmt 23 = 1) && (decide ((spM M).size 23 = 2) && (decide ((spM M).get 23 1 = (false, 4)) && (decide ((spM M).fmt 25 = 1) && (decide ((spM M).size 25 = 5) && (decide ((spM M).get 25 4 = (false, 9)) && ((spM M).isClass 7 && decide ((spM M).shape 7 = (0, 1)))))))))))))) = true := by kernel_rfl
theorem spM_26 (M : MS) : (spM M).bs[26]? = some ⟨12, 1, 27, 0, false, .slice none 0 0, psF (true, 0) [], .slice none 0 0, []⟩ := by kernel_rfl
theorem spM_len (M : MS) : (spM M).bs.length = 28 := by kernel_rfl
theorem psF_new : hdF (hdL 0 0 2 25 (true, 23) 0) 6 = psF (true, 0) [] := rfl
section
variable {W w u : World} {m li b g : Nat} {lv dv : Value} {M : MS} {F : List V} {L : List Th}
theorem Pw.start (h : New u w L 28 m li lv dv M) (hL : L.map Th.pl = spL) (hb : Below W.heap.size W w) (hu : W.heap.size ≤ u.heap.size) : Pw W w m li lv dv M 28 (true, 0) [] := by
  have hs : M.bare = spM M := by
    have h1 := h.bare
    have h2 := h.dead
    have hl : L.length = 28 := by
      have := congrArg List.length hL
      rw [List.length_map] at this
      rw [this]; rfl
    rw [← bare_pl, hL] at h1
    rw [hl] at h2
    unfold MS.bare spM
    rw [h1, ← h2]
  have ho := spM_ok M
  have hl := spM_len M
  rw [← hs] at ho hl
  simp only [Bool.and_eq_true, decide_eq_true_eq, bare_isM, bare_has, bare_isClass, bare_shape, bare_fmt, bare_size, bare_get] at ho
  obtain ⟨o1, o2, o3, o4, o5, o6, o7, o8, o9, o10, o11, o12, o13⟩ := ho
  obtain ⟨f, hf, hfx⟩ := bare_bs (M := M) (q := 26) (by rw [hs]; exact spM_26 M)
  exact ⟨⟨h.me, hb, fun j hj => Nat.le_trans hu (h.new j hj)⟩, ⟨o2, o3, o4, o6, o7, o8, o9, o10, o11, o12, o13⟩, ⟨⟨f, hf, congrArg Bd.F hfx, congrArg Bd.B hfx, congrArg Bd.fmt hfx⟩, o5, by decide, psF_len _ _ (by decide), rfl, rfl, rfl, rfl, rfl, .inl rfl, .inl rfl, o1, by decide⟩, by rw [← hl]; exact (List.length_map _).symm, h.last, by decide⟩
theorem law_AddP (h : LB w u b 51 lv L 23) (hL : L.map Th.pl = (List.range 23).map firstT) (hg : g = u.heap.size) :
    Calls Tryz.prog 18 #[.pointer (some ⟨b, 0, none⟩), .int .i64 7, .int .i64 1, .slice (some ⟨g, 0, none⟩) 2 2, .string ⟨#[]⟩] (u.alloc (.cells #[.bool false, .int .i64 3, .bool false, .int .i64 4] 54)) fun e w' => e = .returned (.int .i64 23) ∧ ∃ a c L', LB w w' b 51 (.slice a L'.length c) L' 24 ∧ L'.map Th.pl = spA := by
  subst hg
  have hl : L.length = 23 := by
    have := congrArg List.length hL
    simpa using this
  have hF := h.newF [(false, 3), (false, 4)] ⟨by simp, by simp⟩
  have := b_Add (h.more ((Below.refl _ _).alloc (Nat.le_refl _) (.cells (vals [(false, 3), (false, 4)]).toArray 54))) (by omega) (by omega) 7 1 hF.1 ⟨hF.2, Nat.le_refl _, by simp⟩ ⟨#[]⟩
  refine this.mono ?_
  rintro e w' ⟨rfl, va, vc, hB⟩
  refine ⟨by rw [hl]; rfl, va, vc, L ++ [⟨7, 1, 23 + 1, false, .slice (some ⟨u.heap.size, 0, none⟩) 2 2, [(false, 3), (false, 4)], ⟨#[]⟩⟩], ?_, ?_⟩
  · rw [List.length_append]; exact hB
  · rw [List.map_append, hL]; rfl
theorem law_MethodP (h : LB w u b 51 lv L 24) (hL : L.map Th.pl = spA) (hg : g = u.heap.size) :
    Calls Tryz.prog 20 #[.pointer (some ⟨b, 0, none⟩), .int .i64 0, .int .i64 2, .int .i64 0, .slice none 0 0, .slice (some ⟨g, 0, none⟩) 1 1] (u.alloc (.cells #[.bool false, .int .i64 9] 54)) fun e w' => e = .returned (.int .i64 25) ∧ ∃ a c L', LB w w' b 51 (.slice a L'.length c) L' 26 ∧ L'.map Th.pl = spC := by
  subst hg
  have hl : L.length = 24 := by
    have := congrArg List.length hL
    rw [List.length_map] at this
    rw [this]; rfl
  refine (b_MethodL (h.more ((Below.refl _ _).alloc (Nat.le_refl _) (.cells #[.bool false, .int .i64 9] 54))) (by omega) (by omega) 0 2 0 (g := u.heap.size) (lb := false) (ln := 9) (heap_alloc_new u _) (by have := h.lt; omega) (fun c => by have := (h.ls.lt _ c).2; omega)).mono ?_
  rintro e w' ⟨rfl, va, vc, t1, t2, hB, h1, h2⟩
  rw [hl] at h2
  refine ⟨by rw [hl]; rfl, va, vc, L ++ [t1, t2], ?_, ?_⟩
  · rw [List.length_append]; exact hB
  · rw [List.map_append, hL, List.map_cons, List.map_cons, List.map_nil, h1, h2]; rfl
theorem law_StartP (h : LB w u b 51 lv L 26) (hL : L.map Th.pl = spC) :
    Calls Tryz.prog 21 #[.pointer (some ⟨b, 0, none⟩), .int .i64 25, .int .i64 2, .agg #[.bool true, .int .i64 23], .int .i64 5] u fun e w' => e = .returned (.tuple #[.int .i64 27, .int .i64 26]) ∧ ∃ a c L', LB w w' b 51 (.slice a L'.length c) L' 28 ∧ L'.map Th.pl = spL := by
  have hl : L.length = 26 := by
    have := congrArg List.length hL
    rw [List.length_map] at this
    rw [this]; rfl
  refine (b_Start h (by omega) (by omega)).mono ?_
  rintro e w' ⟨rfl, va, vc, t1, t2, hB, h1, h2⟩
  rw [hl] at h2
  refine ⟨by rw [hl]; rfl, va, vc, L ++ [t1, t2], ?_, ?_⟩
  · rw [List.length_append]; exact hB
  · rw [List.map_append, hL, List.map_cons, List.map_cons, List.map_nil, h1, h2, psF_new]; rfl
theorem law_NewP {a : Option Addr} {c : Nat} (h : LB w u b 51 (.slice a L.length c) L 28) (hL : L.map Th.pl = spL) :
    Calls Tryz.prog 11 #[.agg #[.slice a L.length c, .slice none 0 0, .int .i64 28, .int .i64 0, .int .i64 0, .slice none 0 0, .slice none 0 0, .slice none 0 0, .string ByteArray.empty, .string ByteArray.empty, .int .i64 0, .int .i64 0, .slice none 0 0], .int .i64 5] u fun e w' => ∃ m li lv dv M, e = .returned (.tuple #[.pointer (some ⟨m, 0, none⟩), .int .i64 0]) ∧ Below u.heap.size u w' ∧ New u w' L 28 m li lv dv M :=
  ob_New h.lat (by rw [← okL_pl, hL]; exact ok_spL.1) (small_of (by rw [hL]; exact ok_spL.2)) 5
end
end Go.Proofs.YtoklohfpkaiidaaGreat.Obj
