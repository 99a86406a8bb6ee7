/- Instructions that push a field of self. -/
import Derived.Test.YtoklohfpkaiidaaGreatSm2
namespace Go.Proofs.YtoklohfpkaiidaaGreat.Obj
open Go.Proofs.YtoklohfpkaiidaaGreat.Gen Go.Proofs.YtoklohfpkaiidaaGreat.Base Go.ChangeShapes Go.WideShapes Go.ChangeAt Go.RowKit
set_option linter.unusedVariables false
theorem DoS.drew {w u : World} {x0 x1 x2 vn : Int} {vb : Bool} (h : DoS w u x0 x1 x2 vb vn) : DoS w u.drew x0 x1 x2 vb vn := ⟨below_drew h.bel, h.size, h.ins, h.val⟩
section
variable {w u : World} {m li : Nat} {lv dv lv' dv' : Value} {M M2 : MS}
set_option maxHeartbeats 2000000 in
set_option maxRecDepth 100000 in
theorem sm_Do_fld (h : MemAt w m li lv dv M) {q sn mn bn : Int} {sb vb : Bool} {si vn : Int} (hI : M.isF q si mn bn) (hs : M.get q 4 = (sb, sn)) (x b : Int) {pb : Bool}
    (hF : ∀ u, Below w.heap.size w u → Calls Tryz.prog 43 #[.pointer (some ⟨m, 0, none⟩), .agg #[.bool sb, .int .i64 sn], .int .i64 x] u fun e w' => e = .returned (.tuple #[.agg #[.bool vb, .int .i64 vn], .bool true]) ∧ Below u.heap.size u w')
    (hP : ∀ u, Below w.heap.size w u → Calls Tryz.prog 51 #[.pointer (some ⟨m, 0, none⟩), .int .i64 q, .agg #[.bool vb, .int .i64 vn]] u fun e w' => e = .returned (.bool pb) ∧ MemAt w' m li lv' dv' M2 ∧ Nx (ownM m li lv dv M) u (ownM m li lv' dv' M2) w') :
    Calls Tryz.prog 23 #[.pointer (some ⟨m, 0, none⟩), .int .i64 q, .agg #[.int .i64 4, .int .i64 x, .int .i64 b]] w fun e w' => e = .returned (.bool pb) ∧ MemAt w' m li lv' dv' M2 ∧ Nx (ownM m li lv dv M) w (ownM m li lv' dv' M2) w' := by
  have HIS := Lib.hid fun u (hb : Below w.heap.size w u) => fr_Is (h.below hb) hI
  have HG := Lib.hid fun u (hb : Below w.heap.size w u) => me_Get2 (h.below hb) q 4
  rw [hs] at HG
  dsimp only at HG
  have HF := Lib.hid hF
  have HP : Hid (∀ u, Below w.heap.size w u → Calls Tryz.prog 51 #[.pointer (some ⟨m, 0, none⟩), .int .i64 q, .agg #[.bool vb, .int .i64 vn]] u fun e w' => e = .returned (.bool pb) ∧ MemAt w' m li lv' dv' M2 ∧ Nx (ownM m li lv dv M) w (ownM m li lv' dv' M2) w') := Lib.hid fun u hb => (hP u hb).mono fun e w' ⟨h1, h2, h3⟩ => ⟨h1, h2, nx_bel hb h3⟩
  clear hP
  have HD0 := Lib.hid (DoS.start w 4 x b)
  have HDZ := Lib.hid ((DoS.start w 4 x b).put false 0)
  have hz := zV
  clear h hI hs hF
  go_enter Tryz.func23, Tryz.ntmps23
  go_wp2_with fail
  refine wp_scope_gotos 1 ?_
  generalize hQ : gotoN _ _ 1 _ = Q1
  have HQ1 := Lib.hid hQ; clear hQ
  go_upto_region 14 with (first
    | (refine wpList_store_row rfl 54 (Operand.tmp 7) (Operand.tmp 9) rfl (w.heap.size + 1) #[.bool false, .int .i64 0] rfl rfl _ _ HD0.out.val info2 (by rfl) (by simp [Value.oneCell']) ?_)
    | (go_at_call 41; (with_reducible refine (HIS.out _ HDZ.out.bel).mono ?_); rintro e u1 ⟨rfl, hb1⟩; have HD1 := Lib.hid (HDZ.out.more hb1); have y0 := HD1.out.c0; have y1 := HD1.out.c1; clear hb1; dsimp only))
  have HD := Lib.hid HD1.out.drew
  clear HD0 HDZ HD1 y0 y1
  refine wp_region_noPanic ?_
  refine wp_region_held_drew (S := (fun w' => w'.cell? ⟨w.heap.size, 1, none⟩ = some (.int .i64 x))) (by kernel_rfl) ?_ (fun hH0 => ?_)
  · (try dsimp only); exact HD.out.c1
  refine wpAnyH_take (i := 0) (oi := { dst := some 59, op := Op.move (Operand.tmp 0), type := 35, pos := "simple.go:39", after := #[], guard := none }) (v := ?v1) rfl (by kernel_rfl) (by kernel_rfl) (by kernel_rfl) (fun _ _ _ h => h) (Or.inl ⟨by rfl, ?hy1⟩) (by assumption) ?_
  case hy1 => intro w hSw; (try dsimp only at hSw); go_simp; (try with_reducible rfl)
  try simp only [Act.put, List.setIfInBounds_toArray, List.set_cons_zero, List.set_cons_succ]
  refine wpAnyH_take (i := 1) (oi := { dst := some 60, op := Op.move (Operand.tmp 0), type := 35, pos := "simple.go:39", after := #[], guard := none }) (v := ?v2) rfl (by kernel_rfl) (by kernel_rfl) (by kernel_rfl) (fun _ _ _ h => h) (Or.inl ⟨by rfl, ?hy2⟩) (by assumption) ?_
  case hy2 => intro w hSw; (try dsimp only at hSw); go_simp; (try with_reducible rfl)
  try simp only [Act.put, List.setIfInBounds_toArray, List.set_cons_zero, List.set_cons_succ]
  refine wpAnyH_take (i := 2) (oi := { dst := some 61, op := Op.move (Operand.tmp 1), type := 3, pos := "simple.go:39", after := #[], guard := none }) (v := ?v3) rfl (by kernel_rfl) (by kernel_rfl) (by kernel_rfl) (fun _ _ _ h => h) (Or.inl ⟨by rfl, ?hy3⟩) (by assumption) ?_
  case hy3 => intro w hSw; (try dsimp only at hSw); go_simp; (try with_reducible rfl)
  try simp only [Act.put, List.setIfInBounds_toArray, List.set_cons_zero, List.set_cons_succ]
  refine wpAnyH_take (i := 4) (oi := { dst := some 63, op := Op.fieldAddr 61 (Operand.tmp 5) 1, type := 0, pos := "simple.go:39", after := #[], guard := none }) (v := ?v4) rfl (by kernel_rfl) (by kernel_rfl) (by kernel_rfl) (fun _ _ _ h => h) (Or.inl ⟨by rfl, ?hy4⟩) (by assumption) ?_
  case hy4 => intro w hSw; (try dsimp only at hSw); go_simp; (try with_reducible rfl)
  try simp only [Act.put, List.setIfInBounds_toArray, List.set_cons_zero, List.set_cons_succ]
  refine wpAnyH_take (i := 5) (oi := { dst := some 64, op := Op.load 3 (Operand.tmp 63), type := 3, pos := "simple.go:39", after := #[{ on := 4, ground := Ground.data }], guard := none }) (v := ?v5) rfl (by kernel_rfl) (by kernel_rfl) (by kernel_rfl) (fun _ _ _ h => h) (Or.inl ⟨by rfl, ?hy5⟩) (by assumption) ?_
  case hy5 => intro w hSw; (try dsimp only at hSw); go_simp; (try with_reducible rfl)
  try simp only [Act.put, List.setIfInBounds_toArray, List.set_cons_zero, List.set_cons_succ]
  refine wpAnyH_ready (rs := [3]) (by kernel_rfl) (by simp) ?_
  refine AllReadyH.cons (o := { dst := some 62, op := Op.call { callee := Callee.value (Operand.func 24), args := #[Operand.tmp 60, Operand.tmp 61, Operand.const (Value.int IntKind.i64 4)], argTypes := #[35, 3, 3] }, type := 54, pos := "simple.go:39", after := #[{ on := 1, ground := Ground.data }, { on := 2, ground := Ground.data }], guard := none }) rfl (fun K hK => ?_) AllReadyH.nil
  go_simp; go_at_call 24; (with_reducible refine (HG.out _ HD.out.bel).mono ?_); rintro e ux ⟨rfl, hbx⟩; have HD := Lib.hid (HD.out.more hbx); clear hbx; dsimp only
  refine hK.out _ _ ?_ (fun hH1 => ?_)
  · (try dsimp only); exact HD.out.c1
  clear hK K
  clear hH0
  try simp only [Act.put, List.setIfInBounds_toArray, List.set_cons_zero, List.set_cons_succ]
  refine wpAnyH_ready (rs := [6]) (by kernel_rfl) (by simp) ?_
  refine AllReadyH.cons (o := { dst := some 65, op := Op.call { callee := Callee.value (Operand.func 43), args := #[Operand.tmp 59, Operand.tmp 62, Operand.tmp 64], argTypes := #[35, 54, 3] }, type := 91, pos := "simple.go:39", after := #[{ on := 0, ground := Ground.data }, { on := 3, ground := Ground.data }, { on := 5, ground := Ground.data }, { on := 3, ground := Ground.chain }], guard := none }) rfl (fun K hK => ?_) AllReadyH.nil
  go_simp; go_at_call 43; (with_reducible refine (HF.out _ HD.out.bel).mono ?_); rintro e ux ⟨rfl, hbx⟩; have HD := Lib.hid (HD.out.more hbx); clear hbx; dsimp only
  refine hK.out _ _ ?_ (fun hH2 => ?_)
  · (try dsimp only); exact HD.out.c1
  clear hK K
  clear hH1
  try simp only [Act.put, List.setIfInBounds_toArray, List.set_cons_zero, List.set_cons_succ]
  refine wpAnyH_take (i := 7) (oi := { dst := some 58, op := Op.move (Operand.tmp 65), type := 91, pos := "simple.go:39", after := #[{ on := 6, ground := Ground.data }], guard := none }) (v := ?v8) rfl (by kernel_rfl) (by kernel_rfl) (by kernel_rfl) (fun _ _ _ h => h) (Or.inl ⟨by rfl, ?hy8⟩) (by assumption) ?_
  case hy8 => intro w hSw; (try dsimp only at hSw); go_simp; (try with_reducible rfl)
  try simp only [Act.put, List.setIfInBounds_toArray, List.set_cons_zero, List.set_cons_succ]
  refine wpAnyH_take (i := 8) (oi := { dst := some 66, op := Op.extract (Operand.tmp 58) 0, type := 54, pos := "simple.go:39", after := #[{ on := 7, ground := Ground.data }], guard := none }) (v := ?v9) rfl (by kernel_rfl) (by kernel_rfl) (by kernel_rfl) (fun _ _ _ h => h) (Or.inl ⟨by rfl, ?hy9⟩) (by assumption) ?_
  case hy9 => intro w hSw; (try dsimp only at hSw); go_simp; (try with_reducible rfl)
  try simp only [Act.put, List.setIfInBounds_toArray, List.set_cons_zero, List.set_cons_succ]
  refine wpAnyH_take (i := 9) (oi := { dst := some 67, op := Op.extract (Operand.tmp 58) 1, type := 4, pos := "simple.go:39", after := #[{ on := 7, ground := Ground.data }, { on := 10, ground := Ground.gcOnly Departure.lateStores }], guard := none }) (v := ?v10) rfl (by kernel_rfl) (by kernel_rfl) (by kernel_rfl) (fun _ _ _ h => h) (Or.inl ⟨by rfl, ?hy10⟩) (by assumption) ?_
  case hy10 => intro w hSw; (try dsimp only at hSw); go_simp; (try with_reducible rfl)
  try simp only [Act.put, List.setIfInBounds_toArray, List.set_cons_zero, List.set_cons_succ]
  refine wpAnyH_ready (rs := [10]) (by kernel_rfl) (by simp) ?_
  refine AllReadyH.cons (o := { dst := none, op := Op.store 54 (Operand.tmp 7) (Operand.tmp 66), type := 0, pos := "simple.go:39", after := #[{ on := 8, ground := Ground.data }, { on := 6, ground := Ground.chain }, { on := 0, ground := Ground.phase }, { on := 1, ground := Ground.phase }, { on := 2, ground := Ground.phase }, { on := 3, ground := Ground.phase }, { on := 4, ground := Ground.phase }, { on := 5, ground := Ground.phase }, { on := 6, ground := Ground.phase }, { on := 7, ground := Ground.phase }, { on := 8, ground := Ground.phase }, { on := 9, ground := Ground.textOnly Departure.lateStores }], guard := none }) rfl (fun K hK => ?_) AllReadyH.nil
  refine wp_store_row 54 (Operand.tmp 7) (Operand.tmp 66) rfl (w.heap.size + 1) #[.bool vb, .int .i64 vn] (by rfl) (by rfl) _ _ HD.out.val info2 (by rfl) (by simp [Value.oneCell']) ?_; have HD := Lib.hid (HD.out.put vb vn)
  refine hK.out _ _ ?_ (fun hH3 => ?_)
  · (try dsimp only); exact HD.out.c1
  clear hK K
  clear hH2
  try simp only [Act.put, List.setIfInBounds_toArray, List.set_cons_zero, List.set_cons_succ]
  refine wpAnyH_take (i := 11) (oi := { dst := some 8, op := Op.assign (Operand.tmp 67), type := 4, pos := "simple.go:39", after := #[{ on := 9, ground := Ground.data }, { on := 10, ground := Ground.chain }, { on := 0, ground := Ground.phase }, { on := 1, ground := Ground.phase }, { on := 2, ground := Ground.phase }, { on := 3, ground := Ground.phase }, { on := 4, ground := Ground.phase }, { on := 5, ground := Ground.phase }, { on := 6, ground := Ground.phase }, { on := 7, ground := Ground.phase }, { on := 8, ground := Ground.phase }, { on := 9, ground := Ground.phase }, { on := 10, ground := Ground.phase }], guard := none }) (v := ?v12) rfl (by kernel_rfl) (by kernel_rfl) (by kernel_rfl) (fun _ _ _ h => h) (Or.inl ⟨by rfl, ?hy12⟩) (by assumption) ?_
  case hy12 => intro w hSw; (try dsimp only at hSw); go_simp; (try with_reducible rfl)
  try simp only [Act.put, List.setIfInBounds_toArray, List.set_cons_zero, List.set_cons_succ]
  refine wpAnyH_done (by kernel_rfl) ?_ _
  refine NoPanic.normal ?_
  go_wp2_with fail
  apply wp_goto
  rw [← HQ1.out]
  refine gotoN_goto rfl ?_
  generalize hQ : gotoN _ _ 0 _ = Q0
  have HQ0 := Lib.hid hQ; clear hQ
  clear HQ1
  go_wp2_with (first
    | (refine wpl_load_rowG (by rfl) 54 (Operand.tmp 7) (by rfl) (w.heap.size + 1) (by rfl) _ _ (0, 0) _ HD.out.val Tryz.underlying54 rfl info2 ?_)
    | (go_at_call 51; (with_reducible refine (HP.out _ HD.out.bel).mono ?_); rintro e u2 ⟨rfl, hM2, hN2⟩; have HM := Lib.hid hM2; have HN := Lib.hid hN2; clear hM2 hN2; dsimp only))
  rw [← HQ0.out]
  try simp only [gotoN_ret]
  go_ret
  exact ⟨rfl, HM.out, HN.out⟩
set_option maxHeartbeats 2000000 in
set_option maxRecDepth 100000 in
theorem sm_Do_fld_no (h : MemAt w m li lv dv M) {q sn mn bn : Int} {sb vb : Bool} {si vn : Int} (hI : M.isF q si mn bn) (hs : M.get q 4 = (sb, sn)) (x b : Int)
    (hF : ∀ u, Below w.heap.size w u → Calls Tryz.prog 43 #[.pointer (some ⟨m, 0, none⟩), .agg #[.bool sb, .int .i64 sn], .int .i64 x] u fun e w' => e = .returned (.tuple #[.agg #[.bool vb, .int .i64 vn], .bool false]) ∧ Below u.heap.size u w') :
    Calls Tryz.prog 23 #[.pointer (some ⟨m, 0, none⟩), .int .i64 q, .agg #[.int .i64 4, .int .i64 x, .int .i64 b]] w fun e w' => e = .returned (.bool false) ∧ Below w.heap.size w w' := by
  have HIS := Lib.hid fun u (hb : Below w.heap.size w u) => fr_Is (h.below hb) hI
  have HG := Lib.hid fun u (hb : Below w.heap.size w u) => me_Get2 (h.below hb) q 4
  rw [hs] at HG
  dsimp only at HG
  have HF := Lib.hid hF
  have HD0 := Lib.hid (DoS.start w 4 x b)
  have HDZ := Lib.hid ((DoS.start w 4 x b).put false 0)
  have hz := zV
  clear h hI hs hF
  go_enter Tryz.func23, Tryz.ntmps23
  go_wp2_with fail
  refine wp_scope_gotos 1 ?_
  generalize hQ : gotoN _ _ 1 _ = Q1
  have HQ1 := Lib.hid hQ; clear hQ
  go_upto_region 14 with (first
    | (refine wpList_store_row rfl 54 (Operand.tmp 7) (Operand.tmp 9) rfl (w.heap.size + 1) #[.bool false, .int .i64 0] rfl rfl _ _ HD0.out.val info2 (by rfl) (by simp [Value.oneCell']) ?_)
    | (go_at_call 41; (with_reducible refine (HIS.out _ HDZ.out.bel).mono ?_); rintro e u1 ⟨rfl, hb1⟩; have HD1 := Lib.hid (HDZ.out.more hb1); have y0 := HD1.out.c0; have y1 := HD1.out.c1; clear hb1; dsimp only))
  have HD := Lib.hid HD1.out.drew
  clear HD0 HDZ HD1 y0 y1
  refine wp_region_noPanic ?_
  refine wp_region_held_drew (S := (fun w' => w'.cell? ⟨w.heap.size, 1, none⟩ = some (.int .i64 x))) (by kernel_rfl) ?_ (fun hH0 => ?_)
  · (try dsimp only); exact HD.out.c1
  refine wpAnyH_take (i := 0) (oi := { dst := some 59, op := Op.move (Operand.tmp 0), type := 35, pos := "simple.go:39", after := #[], guard := none }) (v := ?v13) rfl (by kernel_rfl) (by kernel_rfl) (by kernel_rfl) (fun _ _ _ h => h) (Or.inl ⟨by rfl, ?hy13⟩) (by assumption) ?_
  case hy13 => intro w hSw; (try dsimp only at hSw); go_simp; (try with_reducible rfl)
  try simp only [Act.put, List.setIfInBounds_toArray, List.set_cons_zero, List.set_cons_succ]
  refine wpAnyH_take (i := 1) (oi := { dst := some 60, op := Op.move (Operand.tmp 0), type := 35, pos := "simple.go:39", after := #[], guard := none }) (v := ?v14) rfl (by kernel_rfl) (by kernel_rfl) (by kernel_rfl) (fun _ _ _ h => h) (Or.inl ⟨by rfl, ?hy14⟩) (by assumption) ?_
  case hy14 => intro w hSw; (try dsimp only at hSw); go_simp; (try with_reducible rfl)
  try simp only [Act.put, List.setIfInBounds_toArray, List.set_cons_zero, List.set_cons_succ]
  refine wpAnyH_take (i := 2) (oi := { dst := some 61, op := Op.move (Operand.tmp 1), type := 3, pos := "simple.go:39", after := #[], guard := none }) (v := ?v15) rfl (by kernel_rfl) (by kernel_rfl) (by kernel_rfl) (fun _ _ _ h => h) (Or.inl ⟨by rfl, ?hy15⟩) (by assumption) ?_
  case hy15 => intro w hSw; (try dsimp only at hSw); go_simp; (try with_reducible rfl)
  try simp only [Act.put, List.setIfInBounds_toArray, List.set_cons_zero, List.set_cons_succ]
  refine wpAnyH_take (i := 4) (oi := { dst := some 63, op := Op.fieldAddr 61 (Operand.tmp 5) 1, type := 0, pos := "simple.go:39", after := #[], guard := none }) (v := ?v16) rfl (by kernel_rfl) (by kernel_rfl) (by kernel_rfl) (fun _ _ _ h => h) (Or.inl ⟨by rfl, ?hy16⟩) (by assumption) ?_
  case hy16 => intro w hSw; (try dsimp only at hSw); go_simp; (try with_reducible rfl)
  try simp only [Act.put, List.setIfInBounds_toArray, List.set_cons_zero, List.set_cons_succ]
  refine wpAnyH_take (i := 5) (oi := { dst := some 64, op := Op.load 3 (Operand.tmp 63), type := 3, pos := "simple.go:39", after := #[{ on := 4, ground := Ground.data }], guard := none }) (v := ?v17) rfl (by kernel_rfl) (by kernel_rfl) (by kernel_rfl) (fun _ _ _ h => h) (Or.inl ⟨by rfl, ?hy17⟩) (by assumption) ?_
  case hy17 => intro w hSw; (try dsimp only at hSw); go_simp; (try with_reducible rfl)
  try simp only [Act.put, List.setIfInBounds_toArray, List.set_cons_zero, List.set_cons_succ]
  refine wpAnyH_ready (rs := [3]) (by kernel_rfl) (by simp) ?_
  refine AllReadyH.cons (o := { dst := some 62, op := Op.call { callee := Callee.value (Operand.func 24), args := #[Operand.tmp 60, Operand.tmp 61, Operand.const (Value.int IntKind.i64 4)], argTypes := #[35, 3, 3] }, type := 54, pos := "simple.go:39", after := #[{ on := 1, ground := Ground.data }, { on := 2, ground := Ground.data }], guard := none }) rfl (fun K hK => ?_) AllReadyH.nil
  go_simp; go_at_call 24; (with_reducible refine (HG.out _ HD.out.bel).mono ?_); rintro e ux ⟨rfl, hbx⟩; have HD := Lib.hid (HD.out.more hbx); clear hbx; dsimp only
  refine hK.out _ _ ?_ (fun hH1 => ?_)
  · (try dsimp only); exact HD.out.c1
  clear hK K
  clear hH0
  try simp only [Act.put, List.setIfInBounds_toArray, List.set_cons_zero, List.set_cons_succ]
  refine wpAnyH_ready (rs := [6]) (by kernel_rfl) (by simp) ?_
  refine AllReadyH.cons (o := { dst := some 65, op := Op.call { callee := Callee.value (Operand.func 43), args := #[Operand.tmp 59, Operand.tmp 62, Operand.tmp 64], argTypes := #[35, 54, 3] }, type := 91, pos := "simple.go:39", after := #[{ on := 0, ground := Ground.data }, { on := 3, ground := Ground.data }, { on := 5, ground := Ground.data }, { on := 3, ground := Ground.chain }], guard := none }) rfl (fun K hK => ?_) AllReadyH.nil
  go_simp; go_at_call 43; (with_reducible refine (HF.out _ HD.out.bel).mono ?_); rintro e ux ⟨rfl, hbx⟩; have HD := Lib.hid (HD.out.more hbx); clear hbx; dsimp only
  refine hK.out _ _ ?_ (fun hH2 => ?_)
  · (try dsimp only); exact HD.out.c1
  clear hK K
  clear hH1
  try simp only [Act.put, List.setIfInBounds_toArray, List.set_cons_zero, List.set_cons_succ]
  refine wpAnyH_take (i := 7) (oi := { dst := some 58, op := Op.move (Operand.tmp 65), type := 91, pos := "simple.go:39", after := #[{ on := 6, ground := Ground.data }], guard := none }) (v := ?v20) rfl (by kernel_rfl) (by kernel_rfl) (by kernel_rfl) (fun _ _ _ h => h) (Or.inl ⟨by rfl, ?hy20⟩) (by assumption) ?_
  case hy20 => intro w hSw; (try dsimp only at hSw); go_simp; (try with_reducible rfl)
  try simp only [Act.put, List.setIfInBounds_toArray, List.set_cons_zero, List.set_cons_succ]
  refine wpAnyH_take (i := 8) (oi := { dst := some 66, op := Op.extract (Operand.tmp 58) 0, type := 54, pos := "simple.go:39", after := #[{ on := 7, ground := Ground.data }], guard := none }) (v := ?v21) rfl (by kernel_rfl) (by kernel_rfl) (by kernel_rfl) (fun _ _ _ h => h) (Or.inl ⟨by rfl, ?hy21⟩) (by assumption) ?_
  case hy21 => intro w hSw; (try dsimp only at hSw); go_simp; (try with_reducible rfl)
  try simp only [Act.put, List.setIfInBounds_toArray, List.set_cons_zero, List.set_cons_succ]
  refine wpAnyH_take (i := 9) (oi := { dst := some 67, op := Op.extract (Operand.tmp 58) 1, type := 4, pos := "simple.go:39", after := #[{ on := 7, ground := Ground.data }, { on := 10, ground := Ground.gcOnly Departure.lateStores }], guard := none }) (v := ?v22) rfl (by kernel_rfl) (by kernel_rfl) (by kernel_rfl) (fun _ _ _ h => h) (Or.inl ⟨by rfl, ?hy22⟩) (by assumption) ?_
  case hy22 => intro w hSw; (try dsimp only at hSw); go_simp; (try with_reducible rfl)
  try simp only [Act.put, List.setIfInBounds_toArray, List.set_cons_zero, List.set_cons_succ]
  refine wpAnyH_ready (rs := [10]) (by kernel_rfl) (by simp) ?_
  refine AllReadyH.cons (o := { dst := none, op := Op.store 54 (Operand.tmp 7) (Operand.tmp 66), type := 0, pos := "simple.go:39", after := #[{ on := 8, ground := Ground.data }, { on := 6, ground := Ground.chain }, { on := 0, ground := Ground.phase }, { on := 1, ground := Ground.phase }, { on := 2, ground := Ground.phase }, { on := 3, ground := Ground.phase }, { on := 4, ground := Ground.phase }, { on := 5, ground := Ground.phase }, { on := 6, ground := Ground.phase }, { on := 7, ground := Ground.phase }, { on := 8, ground := Ground.phase }, { on := 9, ground := Ground.textOnly Departure.lateStores }], guard := none }) rfl (fun K hK => ?_) AllReadyH.nil
  refine wp_store_row 54 (Operand.tmp 7) (Operand.tmp 66) rfl (w.heap.size + 1) #[.bool vb, .int .i64 vn] (by rfl) (by rfl) _ _ HD.out.val info2 (by rfl) (by simp [Value.oneCell']) ?_; have HD := Lib.hid (HD.out.put vb vn)
  refine hK.out _ _ ?_ (fun hH3 => ?_)
  · (try dsimp only); exact HD.out.c1
  clear hK K
  clear hH2
  try simp only [Act.put, List.setIfInBounds_toArray, List.set_cons_zero, List.set_cons_succ]
  refine wpAnyH_take (i := 11) (oi := { dst := some 8, op := Op.assign (Operand.tmp 67), type := 4, pos := "simple.go:39", after := #[{ on := 9, ground := Ground.data }, { on := 10, ground := Ground.chain }, { on := 0, ground := Ground.phase }, { on := 1, ground := Ground.phase }, { on := 2, ground := Ground.phase }, { on := 3, ground := Ground.phase }, { on := 4, ground := Ground.phase }, { on := 5, ground := Ground.phase }, { on := 6, ground := Ground.phase }, { on := 7, ground := Ground.phase }, { on := 8, ground := Ground.phase }, { on := 9, ground := Ground.phase }, { on := 10, ground := Ground.phase }], guard := none }) (v := ?v24) rfl (by kernel_rfl) (by kernel_rfl) (by kernel_rfl) (fun _ _ _ h => h) (Or.inl ⟨by rfl, ?hy24⟩) (by assumption) ?_
  case hy24 => intro w hSw; (try dsimp only at hSw); go_simp; (try with_reducible rfl)
  try simp only [Act.put, List.setIfInBounds_toArray, List.set_cons_zero, List.set_cons_succ]
  refine wpAnyH_done (by kernel_rfl) ?_ _
  refine NoPanic.normal ?_
  go_wp2_with fail
  apply wp_goto
  rw [← HQ1.out]
  refine gotoN_goto rfl ?_
  generalize hQ : gotoN _ _ 0 _ = Q0
  have HQ0 := Lib.hid hQ; clear hQ
  clear HQ1
  go_wp2_with fail
  rw [← HQ0.out]
  try simp only [gotoN_ret]
  go_ret
  exact ⟨rfl, HD.out.bel⟩
end
end Go.Proofs.YtoklohfpkaiidaaGreat.Obj
