/- A world that is being built: a process that runs a method. -/
import Derived.Test.YtoklohfpkaiidaaGreatFw3
import Derived.Test.YtoklohfpkaiidaaGreatB4
import Derived.Test.YtoklohfpkaiidaaGreatFs1
namespace Go.Proofs.YtoklohfpkaiidaaGreat.Obj
open Go.Proofs.YtoklohfpkaiidaaGreat.Gen Go.Proofs.YtoklohfpkaiidaaGreat.Base Go.ChangeShapes Go.WideShapes Go.ChangeAt Go.RowKit
set_option linter.unusedVariables false
theorem own_lit (w : World) (F : List V) (hF : F.length ≤ 60000) {base : Nat} (hb : base ≤ w.heap.size) : (w.alloc (.cells (vals F).toArray 54)).ownsRow base 54 2 (.slice (some ⟨w.heap.size, 0, none⟩) F.length F.length) F.length (vals F) :=
  ⟨vals_len F, .inr ⟨w.heap.size, F.length, (vals F).toArray, rfl, hb, heap_alloc_new w _, Nat.le_refl _, by unfold maxLen; omega, by rw [List.size_toArray, vals_len], by rw [List.take_of_length_le (by simp [vals_len])]⟩⟩
theorem own_zero {w : World} {base n : Nat} {v : Value} {xs : List Value} (h : w.ownsRow base 54 2 v n xs) : w.ownsRow 0 54 2 v n xs := by
  obtain ⟨hx, ⟨h1, h2⟩ | ⟨g, cap, cur, h3, h4, h5⟩⟩ := h
  · exact ⟨hx, .inl ⟨h1, h2⟩⟩
  · exact ⟨hx, .inr ⟨g, cap, cur, h3, Nat.zero_le _, h5⟩⟩
theorem own_cap {w : World} {base n : Nat} {a : Option Addr} {c : Nat} {xs : List Value} (h : w.ownsRow base 54 2 (.slice a n c) n xs) : n ≤ c ∧ (c : Int) ≤ 9223372036854775807 := by
  obtain ⟨hx, ⟨h1, h2⟩ | ⟨g, cap, cur, h3, h4, h5, h6, h7, h8⟩⟩ := h
  · obtain ⟨-, -, h⟩ := Value.slice.inj h1
    rw [h2, h]; exact ⟨Nat.le_refl _, by simp⟩
  · obtain ⟨-, -, h⟩ := Value.slice.inj h3
    unfold maxLen at h7
    rw [h]; omega
theorem wpl_appVb {base : Nat} {ops : Array Oper} {rest : List Oper} {w : World} {o : Oper} {a : Act} {Q : Exit → Act → World → Prop} (hgd : o.guard = none) (s x : Operand)
    (ho : o.op = .call { callee := .builtin .append, args := #[s, x], argTypes := #[56, 56] })
    (v : Value) (n : Nat) (xs : List Value) (hs : a.eval s = v) (hown : w.ownsRow base 54 2 v n xs) (hbase : base ≤ w.heap.size) (ad : Addr) (m c : Nat) (hx : a.eval x = .slice (some ad) m c) (ys : List Value) (hl : ys.length = m * 2) (hc : ∀ j u, ys[j]? = some u → w.cell? (ad.add j) = some u) (h1 : ∀ u ∈ ys, u.oneCell' = true) (hn : n + m ≤ 1000000)
    (h : ∀ v' w', w'.ownsRow base 54 2 v' (n + m) (xs ++ ys) → w.grownBy w' v.ownBlock → (v'.ownBlock = v.ownBlock ∨ v'.ownBlock = some w.heap.size) → wpList Tryz.prog ops Q rest (a.put o.dst v') w') : wpList Tryz.prog ops Q (o :: rest) a w := by
  refine wpList_plain hgd fun _ hK => ?_
  obtain ⟨i0, hi, hz0, hz1, hz2⟩ := info_parts infoV
  obtain ⟨v', w', hr, h2, h3, _, h5⟩ := run_append_own_at (P := Tryz.prog) (w := w) base 56 o.type 54 i0 (.agg #[.bool false, .int .i64 0]) 2 16 Tryz.underlying56 hi hz0 hz1 hz2 rfl (by decide) v n xs hown ad m c ys hl hc h1 (by unfold maxLen; omega) (by omega) hbase
  unfold Oper.wp execOp
  simp only [ho, resolve, invoke, builtin, Sem.run_bind, Sem.run_pure, Result.andThen_ok, List.map_toArray, List.map_cons, List.map_nil, hs, hx, hr]
  exact hK _ _ (h v' w' h2 h3 h5)
section
variable {w u u' : World} {b : Nat} {lv : Value} {L : List Th} {last temps method sn level : Int} {sb : Bool}
set_option maxHeartbeats 4000000 in
set_option maxRecDepth 100000 in
theorem b_Start (h : LB w u b 51 lv L last) (hn : L.length ≤ 2990) (hl : 0 ≤ last ∧ last ≤ 2990) :
    Calls Tryz.prog 21 #[.pointer (some ⟨b, 0, none⟩), .int .i64 method, .int .i64 temps, .agg #[.bool sb, .int .i64 sn], .int .i64 level] u fun e w' => e = .returned (.tuple #[.int .i64 ((L.length : Int) + 1), .int .i64 (L.length : Int)]) ∧ ∃ va vc t1 t2, LB w w' b 51 (.slice va (L.length + 2) vc) (L ++ [t1, t2]) (last + 2) ∧ t1.pl = ⟨12, 1, last + 1, false, .slice none 0 0, hdF (hdL 0 0 temps method (sb, sn) 0) 6, ByteArray.empty⟩ ∧ t2.pl = ⟨14, 1, last + 2, false, .slice none 0 0, [(true, (L.length : Int)), (false, level)], ByteArray.empty⟩ := by
  have HL := Lib.hid h
  have hX : Below u.heap.size u (u.alloc (.cells #[.bool sb, .int .i64 sn] 54)) := (Below.refl _ _).alloc (Nat.le_refl _) _
  have HS : Hid (Hs u (u.alloc (.cells #[.bool sb, .int .i64 sn] 54)).drew sb sn) := Lib.hid ⟨below_drew hX, heap_alloc_new u _⟩
  clear h hX
  go_enter Tryz.func21, Tryz.ntmps21
  go_upto_region 1 with fail
  refine wp_region_held_drew (S := (fun w' => w'.cell? ⟨u.heap.size, 0, none⟩ = some (.bool sb) ∧ w'.cell? ⟨u.heap.size, 1, none⟩ = some (.int .i64 sn))) (by kernel_rfl) ?_ (fun hH0 => ?_)
  · (try dsimp only); exact HS.out.cells
  refine wpAnyH_take (i := 2) (oi := { dst := some 18, op := Op.move (Operand.tmp 2), type := 3, pos := "law.go:136", after := #[], guard := none }) (v := ?v1) rfl (by kernel_rfl) (by kernel_rfl) (by kernel_rfl) (fun _ _ _ h => h) (Or.inl ⟨by rfl, ?hy1⟩) (by assumption) ?_
  case hy1 => intro w hSw; (try dsimp only at hSw); go_simp; (try with_reducible rfl)
  try simp only [Act.put, List.setIfInBounds_toArray, List.set_cons_zero, List.set_cons_succ]
  refine wpAnyH_take (i := 4) (oi := { dst := some 20, op := Op.move (Operand.tmp 1), type := 3, pos := "law.go:136", after := #[], guard := none }) (v := ?v2) rfl (by kernel_rfl) (by kernel_rfl) (by kernel_rfl) (fun _ _ _ h => h) (Or.inl ⟨by rfl, ?hy2⟩) (by assumption) ?_
  case hy2 => intro w hSw; (try dsimp only at hSw); go_simp; (try with_reducible rfl)
  try simp only [Act.put, List.setIfInBounds_toArray, List.set_cons_zero, List.set_cons_succ]
  refine wpAnyH_take (i := 6) (oi := { dst := some 22, op := Op.load 54 (Operand.tmp 8), type := 54, pos := "law.go:136", after := #[], guard := none }) (v := ?v3) rfl (by kernel_rfl) (by kernel_rfl) (by kernel_rfl) (fun _ _ _ h => h) (Or.inl ⟨by rfl, ?hy3⟩) (by assumption) ?_
  case hy3 => intro w hSw; (try dsimp only at hSw); go_simp; (try with_reducible rfl)
  try simp only [Act.put, List.setIfInBounds_toArray, List.set_cons_zero, List.set_cons_succ]
  refine wpAnyH_ready (rs := [0]) (by kernel_rfl) (by simp) ?_
  refine AllReadyH.cons (o := { dst := some 16, op := Op.call { callee := Callee.value (Operand.func 22), args := #[Operand.const (Value.int IntKind.i64 0)], argTypes := #[3] }, type := 54, pos := "law.go:136", after := #[], guard := none }) rfl (fun K hK => ?_) AllReadyH.nil
  go_simp; go_at_call 22; (with_reducible refine (nl_Obj _ _).mono ?_); rintro e ux ⟨rfl, hbx⟩; have HS := Lib.hid (HS.out.more hbx); clear hbx; dsimp only
  refine hK.out _ _ ?_ (fun hH1 => ?_)
  · (try dsimp only); first | exact HS.out.cells | exact (HS.out.more ((Below.refl _ _).alloc (Nat.le_refl _) _)).cells
  clear hK K
  clear hH0
  try simp only [Act.put, List.setIfInBounds_toArray, List.set_cons_zero, List.set_cons_succ]
  refine wpAnyH_ready (rs := [1]) (by kernel_rfl) (by simp) ?_
  refine AllReadyH.cons (o := { dst := some 17, op := Op.call { callee := Callee.value (Operand.func 19), args := #[Operand.const (Value.int IntKind.i64 0)], argTypes := #[3] }, type := 54, pos := "law.go:136", after := #[{ on := 0, ground := Ground.chain }], guard := none }) rfl (fun K hK => ?_) AllReadyH.nil
  go_simp; go_at_call 19; (with_reducible refine (nl_Num _ _).mono ?_); rintro e ux ⟨rfl, hbx⟩; have HS := Lib.hid (HS.out.more hbx); clear hbx; dsimp only
  refine hK.out _ _ ?_ (fun hH2 => ?_)
  · (try dsimp only); first | exact HS.out.cells | exact (HS.out.more ((Below.refl _ _).alloc (Nat.le_refl _) _)).cells
  clear hK K
  clear hH1
  try simp only [Act.put, List.setIfInBounds_toArray, List.set_cons_zero, List.set_cons_succ]
  refine wpAnyH_ready (rs := [3]) (by kernel_rfl) (by simp) ?_
  refine AllReadyH.cons (o := { dst := some 19, op := Op.call { callee := Callee.value (Operand.func 19), args := #[Operand.tmp 18], argTypes := #[3] }, type := 54, pos := "law.go:136", after := #[{ on := 2, ground := Ground.data }, { on := 1, ground := Ground.chain }], guard := none }) rfl (fun K hK => ?_) AllReadyH.nil
  go_simp; go_at_call 19; (with_reducible refine (nl_Num _ _).mono ?_); rintro e ux ⟨rfl, hbx⟩; have HS := Lib.hid (HS.out.more hbx); clear hbx; dsimp only
  refine hK.out _ _ ?_ (fun hH3 => ?_)
  · (try dsimp only); first | exact HS.out.cells | exact (HS.out.more ((Below.refl _ _).alloc (Nat.le_refl _) _)).cells
  clear hK K
  clear hH2
  try simp only [Act.put, List.setIfInBounds_toArray, List.set_cons_zero, List.set_cons_succ]
  refine wpAnyH_ready (rs := [5]) (by kernel_rfl) (by simp) ?_
  refine AllReadyH.cons (o := { dst := some 21, op := Op.call { callee := Callee.value (Operand.func 22), args := #[Operand.tmp 20], argTypes := #[3] }, type := 54, pos := "law.go:136", after := #[{ on := 4, ground := Ground.data }, { on := 3, ground := Ground.chain }], guard := none }) rfl (fun K hK => ?_) AllReadyH.nil
  go_simp; go_at_call 22; (with_reducible refine (nl_Obj _ _).mono ?_); rintro e ux ⟨rfl, hbx⟩; have HS := Lib.hid (HS.out.more hbx); clear hbx; dsimp only
  refine hK.out _ _ ?_ (fun hH4 => ?_)
  · (try dsimp only); first | exact HS.out.cells | exact (HS.out.more ((Below.refl _ _).alloc (Nat.le_refl _) _)).cells
  clear hK K
  clear hH3
  try simp only [Act.put, List.setIfInBounds_toArray, List.set_cons_zero, List.set_cons_succ]
  refine wpAnyH_ready (rs := [7]) (by kernel_rfl) (by simp) ?_
  refine AllReadyH.cons (o := { dst := some 23, op := Op.call { callee := Callee.value (Operand.func 22), args := #[Operand.const (Value.int IntKind.i64 0)], argTypes := #[3] }, type := 54, pos := "law.go:136", after := #[{ on := 5, ground := Ground.chain }], guard := none }) rfl (fun K hK => ?_) AllReadyH.nil
  go_simp; go_at_call 22; (with_reducible refine (nl_Obj _ _).mono ?_); rintro e ux ⟨rfl, hbx⟩; have HS := Lib.hid (HS.out.more hbx); clear hbx; dsimp only
  refine hK.out _ _ ?_ (fun hH5 => ?_)
  · (try dsimp only); first | exact HS.out.cells | exact (HS.out.more ((Below.refl _ _).alloc (Nat.le_refl _) _)).cells
  clear hK K
  clear hH4
  try simp only [Act.put, List.setIfInBounds_toArray, List.set_cons_zero, List.set_cons_succ]
  refine wpAnyH_ready (rs := [8]) (by kernel_rfl) (by simp) ?_
  refine AllReadyH.cons (o := { dst := some 24, op := Op.buildSlice 56 6 #[(0, Operand.tmp 16), (1, Operand.tmp 17), (2, Operand.tmp 19), (3, Operand.tmp 21), (4, Operand.tmp 22), (5, Operand.tmp 23)], type := 56, pos := "law.go:136", after := #[{ on := 0, ground := Ground.data }, { on := 1, ground := Ground.data }, { on := 3, ground := Ground.data }, { on := 5, ground := Ground.data }, { on := 6, ground := Ground.data }, { on := 7, ground := Ground.data }], guard := none }) rfl (fun K hK => ?_) AllReadyH.nil
  go_simp
  have HO := Lib.hid (HS.out.bel.alloc HS.out.bel.size (.cells #[.bool true, .int .i64 0, .bool false, .int .i64 0, .bool false, .int .i64 temps, .bool true, .int .i64 method, .bool sb, .int .i64 sn, .bool true, .int .i64 0] 54))
  have HW := Lib.hid (own_lit ux (hdL 0 0 temps method (sb, sn) 0) (by simp [hdL]) HS.out.bel.size)
  refine hK.out _ _ ?_ (fun hH6 => ?_)
  · (try dsimp only); first | exact HS.out.cells | exact (HS.out.more ((Below.refl _ _).alloc (Nat.le_refl _) _)).cells
  clear hK K
  clear hH5
  try simp only [Act.put, List.setIfInBounds_toArray, List.set_cons_zero, List.set_cons_succ]
  refine wpAnyH_take (i := 9) (oi := { dst := some 12, op := Op.assign (Operand.tmp 24), type := 56, pos := "law.go:136", after := #[{ on := 8, ground := Ground.data }, { on := 7, ground := Ground.chain }, { on := 0, ground := Ground.phase }, { on := 1, ground := Ground.phase }, { on := 2, ground := Ground.phase }, { on := 3, ground := Ground.phase }, { on := 4, ground := Ground.phase }, { on := 5, ground := Ground.phase }, { on := 6, ground := Ground.phase }, { on := 7, ground := Ground.phase }, { on := 8, ground := Ground.phase }], guard := none }) (v := ?v10) rfl (by kernel_rfl) (by kernel_rfl) (by kernel_rfl) (fun _ _ _ h => h) (Or.inl ⟨by rfl, ?hy10⟩) (by assumption) ?_
  case hy10 => intro w hSw; (try dsimp only at hSw); go_simp; (try with_reducible rfl)
  try simp only [Act.put, List.setIfInBounds_toArray, List.set_cons_zero, List.set_cons_succ]
  refine wpAnyH_done (by kernel_rfl) ?_ _

  go_wp2_with fail
  go_loopw [12, 13] (fun v12 v13 wr => ∃ i : Nat, i ≤ 16 ∧ v13 = .int .i64 i ∧ Below u.heap.size u wr ∧ wr.ownsRow u.heap.size 54 2 v12 (6 + i) (vals ((hdL 0 0 temps method (sb, sn) 0) ++ nilF i))) (fun v12 v13 wr => 16 - (intOf v13).toNat)
  case atStart => exact ⟨0, by omega, rfl, HO.out, HW.out⟩
  case round =>
    clear HO HW HS
    obtain ⟨i, hi, rfl, hb, hw⟩ := hrel
    obtain ⟨fa, fc, rfl⟩ := own_sl hw
    have HB := Lib.hid hb; have HW := Lib.hid hw
    clear hb hw
    by_cases hlt : i < 16
    · have t1 : (i : Int) < 16 := by omega
      go_wp2_with (first
        | (go_at_call 22; (with_reducible refine (nl_Obj _ _).mono ?_); rintro e u1 ⟨rfl, hb1⟩; have HB1 := Lib.hid (HB.out.trans (hb1.mono HB.out.size)); have HW1 := Lib.hid (owns_at HW.out fun k hk => hb1.block k (HW.out.lt k hk).2); clear hb1; dsimp only)
        | (at_builtin; refine wpl_appVb rfl (.tmp 29) (.tmp 31) (by rfl) (.slice fa (6 + i) fc) (6 + i) _ (by rfl) (World.ownsRow.alloc HW1.out _) (by have := HB1.out.size; simp; omega) ⟨_, 0, none⟩ 1 1 (by rfl) [.bool true, .int .i64 0] rfl (fun j v hj => by rw [Addr.add_lit, Nat.zero_add]; exact new_cell _ #[.bool true, .int .i64 0] _ (by simpa using hj)) (fun v hv => by simp at hv; rcases hv with rfl | rfl <;> rfl) (by omega) ?_))
      intro v8 u8 own8 g8 e8
      have hb8 := Below.grown (HB1.out.alloc HB1.out.size (.cells #[.bool true, .int .i64 0] 54)) g8 (by rw [World.size_alloc]; have := HB1.out.size; omega) (fun j hj => (HW1.out.lt j hj).1)
      have HB8 := Lib.hid hb8
      have e9 : vals ((hdL 0 0 temps method (sb, sn) 0) ++ nilF i) ++ [.bool true, .int .i64 0] = vals ((hdL 0 0 temps method (sb, sn) 0) ++ nilF (i + 1)) := by
        rw [← nilF_add i 1, ← List.append_assoc, vals_append _ (nilF 1)]; rfl
      rw [e9] at own8
      have HW8 := Lib.hid own8
      clear hb8 own8 g8 e8 e9
      go_wp2_with fail
      exact ⟨⟨i + 1, by omega, by simp, HB8.out, HW8.out⟩, by simp only [intOf]; omega⟩
    · obtain rfl : i = 16 := by omega
      simp only [Nat.reduceAdd]
      have HL1 := Lib.hid (HL.out.more HB.out)
      have hk2 : ∀ k, blk (.slice fa 22 fc) (hdF (hdL 0 0 temps method (sb, sn) 0) 6).length = some k → k ≠ b ∧ lv.ownBlock ≠ some k := fun k hk => by
        have e : (Value.slice fa 22 fc).ownBlock = some k := by
          unfold blk at hk
          split at hk
          · cases hk
          · exact hk
        have h1 := (HW.out.lt k e).1
        exact ⟨by have := HL.out.lt; omega, fun c => by have := (HL.out.ls.lt k c).2; omega⟩
      have HA1 : Hid (Calls Tryz.prog 18 #[.pointer (some ⟨b, 0, none⟩), .int .i64 12, .int .i64 1, .slice fa 22 fc, .string ⟨#[]⟩] wr fun e w' => e = .returned (.int .i64 (L.length : Int)) ∧ ∃ va vc, LB w w' b 51 (.slice va (L.length + 1) vc) (L ++ [⟨12, 1, last + 1, false, .slice fa 22 fc, hdF (hdL 0 0 temps method (sb, sn) 0) 6, ⟨#[]⟩⟩]) (last + 1)) := Lib.hid (b_Add HL1.out (by omega) (by omega) 12 1 (F := hdF (hdL 0 0 temps method (sb, sn) 0) 6) (fa := fa) (fc := fc) (RowV.own (by simp [hdF, nilF, hdL]) (own_zero HW.out)) ⟨hk2, (own_cap HW.out).1, (own_cap HW.out).2⟩ ⟨#[]⟩)
      have HA2 : Hid (∀ va vc ux, LB w ux b 51 (.slice va (L.length + 1) vc) (L ++ [⟨12, 1, last + 1, false, .slice fa 22 fc, hdF (hdL 0 0 temps method (sb, sn) 0) 6, ⟨#[]⟩⟩]) (last + 1) → Calls Tryz.prog 18 #[.pointer (some ⟨b, 0, none⟩), .int .i64 14, .int .i64 1, .slice (some ⟨ux.heap.size, 0, none⟩) 2 2, .string ⟨#[]⟩] (ux.alloc (.cells #[.bool true, .int .i64 (L.length : Int), .bool false, .int .i64 level] 54)) fun e w' => e = .returned (.int .i64 ((L.length : Int) + 1)) ∧ ∃ va vc, LB w w' b 51 (.slice va (L.length + 2) vc) (L ++ [⟨12, 1, last + 1, false, .slice fa 22 fc, hdF (hdL 0 0 temps method (sb, sn) 0) 6, ⟨#[]⟩⟩, ⟨14, 1, last + 2, false, .slice (some ⟨ux.heap.size, 0, none⟩) 2 2, [(true, (L.length : Int)), (false, level)], ⟨#[]⟩⟩]) (last + 2)) := Lib.hid fun va vc ux hx => by
        have hF := hx.newF [(true, (L.length : Int)), (false, level)] ⟨by simp, by simp⟩
        have := b_Add (hx.more ((Below.refl _ _).alloc (Nat.le_refl _) (.cells (vals [(true, (L.length : Int)), (false, level)]).toArray 54))) (by simp; omega) (by omega) 14 1 hF.1 ⟨hF.2, Nat.le_refl _, by simp⟩ ⟨#[]⟩
        rw [List.length_append, List.append_assoc, show last + 1 + 1 = last + 2 by omega] at this
        exact this
      clear HB HW HL HL1 hk2
      go_wp2_with (first
        | (go_at_call 18; (with_reducible refine HA1.out.mono ?_); rintro e v1 ⟨rfl, va, vc, hL2⟩; have HL2 := Lib.hid hL2; clear hL2 HA1; dsimp only)
        | (go_at_call 18; (with_reducible refine (HA2.out _ _ _ HL2.out).mono ?_); rintro e v2 ⟨rfl, va2, vc2, hL3⟩; have HL3 := Lib.hid hL3; clear hL3; dsimp only)
        | (go_at_call 19; (with_reducible refine (nl_Num _ _).mono ?_); rintro e v3 ⟨rfl, hbx⟩; have HL2 := Lib.hid (HL2.out.more hbx); clear hbx; dsimp only)
        | (go_at_call 22; (with_reducible refine (nl_Obj _ _).mono ?_); rintro e v3 ⟨rfl, hbx⟩; have HL2 := Lib.hid (HL2.out.more hbx); clear hbx; dsimp only))
      go_ret2
      exact ⟨rfl, va2, vc2, _, _, HL3.out, rfl, rfl⟩
end
end Go.Proofs.YtoklohfpkaiidaaGreat.Obj
