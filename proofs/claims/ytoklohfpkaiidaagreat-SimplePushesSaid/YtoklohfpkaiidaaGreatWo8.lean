/- A world over a list. -/
import Derived.Test.YtoklohfpkaiidaaGreatWo7
import Derived.Deep.RegionHeld3
namespace Go.Proofs.YtoklohfpkaiidaaGreat.Obj
open Go.Proofs.YtoklohfpkaiidaaGreat.Gen Go.Proofs.YtoklohfpkaiidaaGreat.Base Go.ChangeShapes Go.WideShapes Go.ChangeAt Go.RowKit
set_option linter.unusedVariables false
theorem infoBo : (Tryz.prog.info? 4).map (fun i => (i.zero, i.size, i.bytes)) = some (some (.bool false), 1, 1) := by kernel_rfl
def nos (n : Nat) : List Bool := List.replicate n false
theorem nos_len (n : Nat) : (nos n).length = n := by simp [nos]
theorem made_bo (n : Nat) : madeCells (Value.cells (.bool false)) n = (bools (nos n)).toArray := by
  apply Array.ext
  · simp [size_madeCells, nos, bools, Value.cells]
  · intro i h1 h2
    have hz : i % 1 = 0 := by omega
    simp [madeCells, nos, bools, Value.cells, hz]
theorem mk_bo (n : Nat) (hn : n ≤ 65536) (w : World) : Sem.run Tryz.prog (Instr.makeSlice 23 (.int .i64 (n : Int)) (.int .i64 (n : Int))) w = .ok (.slice (some ⟨w.heap.size, 0, none⟩) n n) (w.alloc (.cells (bools (nos n)).toArray 4)) := by
  obtain ⟨ti, hti, hz0, hz1, hz2⟩ := info_parts infoBo
  have h := run_make (P := Tryz.prog) w 23 4 ti (.bool false) Tryz.underlying23 hti hz0 .i64 .i64 n n (by omega) (by omega) (by rw [hz2]; omega) (by omega)
  rw [hz1, Int.toNat_natCast, Nat.mul_one, made_bo] at h
  exact h
theorem own_mk (n : Nat) (hn : n ≤ 65536) (w : World) : (w.alloc (.cells (bools (nos n)).toArray 4)).ownsRow 0 4 1 (.slice (some ⟨w.heap.size, 0, none⟩) n n) n (bools (nos n)) := by
  refine ⟨by simp [bools, nos], .inr ⟨w.heap.size, n, (bools (nos n)).toArray, rfl, Nat.zero_le _, heap_alloc_new w _, Nat.le_refl _, by unfold maxLen; omega, by simp [bools, nos], ?_⟩⟩
  rw [List.take_of_length_le (by simp [bools, nos])]
theorem inv_Len (li : Nat) (u : World) : Sem.run Tryz.prog (method 293 72 (.pointer (some ⟨li, 0, none⟩)) "Len") u = .ok (169, .pointer (some ⟨li, 0, none⟩)) u := by kernel_rfl
theorem li_Len {w : World} {li : Nat} {lv : Value} {bs : List Bd} (h : ListAt w li lv bs) : Calls Tryz.prog 169 #[.pointer (some ⟨li, 0, none⟩)] w fun e w' => e = .returned (.int .i64 bs.length) ∧ w = w' := by
  have c0 := h.c0
  obtain ⟨a, cap, rfl, -, -⟩ := h.at
  clear h
  go_enter Tryz.func169, Tryz.ntmps169
  go_wp2_with fail
  go_ret
  exact ⟨rfl, rfl⟩
/-- What is so while a world is laid over a list. -/
structure Ov (w u : World) : Prop where
  bel : Below w.heap.size w u
structure Ovd (w u : World) (n : Nat) (dv : Value) : Prop where
  bel : Below w.heap.size w u
  ds : u.ownsRow 0 4 1 dv n (bools (nos n))
  new : ∀ k, dv.ownBlock = some k → w.heap.size ≤ k
theorem Ov.more {w u u' : World} (h : Ov w u) (hb : Below u.heap.size u u') : Ov w u' := ⟨h.bel.trans (hb.mono h.bel.size)⟩
theorem Ovd.more {w u u' : World} {n : Nat} {dv : Value} (h : Ovd w u n dv) (hb : Below u.heap.size u u') : Ovd w u' n dv :=
  ⟨h.bel.trans (hb.mono h.bel.size), owns_at h.ds fun k hk => hb.block k (h.ds.lt k hk).2, h.new⟩
theorem Ov.mk' {w u : World} (h : Ov w u) (n : Nat) (hn : n ≤ 65536) : Ovd w (u.alloc (.cells (bools (nos n)).toArray 4)) n (.slice (some ⟨u.heap.size, 0, none⟩) n n) :=
  ⟨h.bel.alloc h.bel.size _, own_mk n hn u, fun k hk => by simp [Value.ownBlock] at hk; rw [← hk]; exact h.bel.size⟩
theorem Ov.row {w u : World} (h : Ov w u) {b : Nat} {o : Obj} (hr : w.heap[b]? = some o) : u.heap[b]? = some o := (h.bel.block b (Array.getElem?_eq_some_iff.1 hr).1).trans hr
theorem Ovd.row {w u : World} {n : Nat} {dv : Value} (h : Ovd w u n dv) {b : Nat} {o : Obj} (hr : w.heap[b]? = some o) : u.heap[b]? = some o := (h.bel.block b (Array.getElem?_eq_some_iff.1 hr).1).trans hr
def zM : Array Value := #[.nilIface, .slice none 0 0, .bool false, .int .i64 0, .int .i64 0, .int .i64 0, .slice none 0 0, .slice none 0 0, .slice none 0 0, .string ByteArray.empty, .string ByteArray.empty, .int .i64 0, .int .i64 0, .slice none 0 0, .int .i64 0, .pointer none, .slice none 0 0, .bool false]
theorem zM_run (u : World) : Sem.run Tryz.prog (zeroValue 78) u = .ok (.agg zM) u := by kernel_rfl
theorem ov_fin {w X : World} {n : Nat} {dv : Value} {r : Obj} (h : Ovd (w.alloc r) X n dv) (o : Obj) {s : Nat} (hs : s = X.heap.size) : w.heap.size ≤ s ∧ (X.alloc o).heap[s]? = some o ∧ Ovd w (X.alloc o) n dv ∧ dv.ownBlock ≠ some s := by
  subst hs
  have hz := h.bel.size
  simp only [World.size_alloc] at hz
  refine ⟨by omega, heap_alloc_new _ _, ⟨?_, World.ownsRow.alloc h.ds _, fun k hk => ?_⟩, fun e => ?_⟩
  · exact ((((Below.refl _ w).alloc (Nat.le_refl _) r).trans (h.bel.mono (by simp))).alloc (by omega) o)
  · have := h.new k hk; simp only [World.size_alloc] at this; omega
  · have := (h.ds.lt _ e).2; omega
set_option maxRecDepth 100000 in
set_option maxHeartbeats 4000000 in
theorem ov_Over (w : World) {li : Nat} {lv : Value} {bs : List Bd} (hL : ListAt w li lv bs) (hbs : bs.length ≤ 65536) (last most : Int) :
    Calls Tryz.prog 27 #[.iface 72 (.pointer (some ⟨li, 0, none⟩)), .agg #[.int .i64 0, .int .i64 0, .slice none 0 0, .slice none 0 0, .slice none 0 0, .string ByteArray.empty, .string ByteArray.empty, .int .i64 0, .int .i64 0, .slice none 0 0], .int .i64 last, .int .i64 most] w fun e w' => ∃ m dv stk, e = .returned (.pointer (some ⟨m, 0, none⟩)) ∧ w.heap.size ≤ m ∧ w'.heap[m]? = some (.cells #[.iface 72 (.pointer (some ⟨li, 0, none⟩)), dv, .bool false, .int .i64 last, .int .i64 0, .int .i64 0, .slice none 0 0, .slice none 0 0, .slice none 0 0, .string ByteArray.empty, .string ByteArray.empty, .int .i64 0, .int .i64 0, .slice none 0 0, .int .i64 0, stk, .slice none 0 0, .bool false] 78 (0, 0)) ∧ Ovd w w' bs.length dv ∧ dv.ownBlock ≠ some m := by
  have hmk := mk_bo bs.length hbs
  have hinv := inv_Len li
  have hz := zM_run
  unfold zM at hz
  have HS : Hid (Ov (w.alloc (.cells #[.int .i64 0, .int .i64 0, .slice none 0 0, .slice none 0 0, .slice none 0 0, .string ByteArray.empty, .string ByteArray.empty, .int .i64 0, .int .i64 0, .slice none 0 0] 28)) (w.alloc (.cells #[.int .i64 0, .int .i64 0, .slice none 0 0, .slice none 0 0, .slice none 0 0, .string ByteArray.empty, .string ByteArray.empty, .int .i64 0, .int .i64 0, .slice none 0 0] 28)).drew) := Lib.hid ⟨rfl, rfl, rfl, Nat.le_refl _, fun _ _ => rfl⟩
  have HR := Lib.hid (heap_alloc_new w (.cells #[.int .i64 0, .int .i64 0, .slice none 0 0, .slice none 0 0, .slice none 0 0, .string ByteArray.empty, .string ByteArray.empty, .int .i64 0, .int .i64 0, .slice none 0 0] 28))
  have HL := Lib.hid (hL.below ((Below.refl _ _).alloc (Nat.le_refl _) (.cells #[.int .i64 0, .int .i64 0, .slice none 0 0, .slice none 0 0, .slice none 0 0, .string ByteArray.empty, .string ByteArray.empty, .int .i64 0, .int .i64 0, .slice none 0 0] 28)))
  clear hL
  go_enter Tryz.func27, Tryz.ntmps27
  go_upto_region 1 with fail
  refine wp_region_held_drew (S := (fun w' => True)) (by kernel_rfl) ?_ (fun hH0 => ?_)
  · (try dsimp only); (first | done | trivial)
  refine wpAnyH_take (i := 0) (oi := { dst := some 9, op := Op.move (Operand.tmp 0), type := 75, pos := "object.go:40", after := #[], guard := none }) (v := ?v1) rfl (by kernel_rfl) (by kernel_rfl) (by kernel_rfl) (fun _ _ _ h => h) (Or.inl ⟨by rfl, ?hy1⟩) (by assumption) ?_
  case hy1 => intro w hSw; (try dsimp only at hSw); go_simp; (try with_reducible rfl)
  try simp only [Act.put, List.setIfInBounds_toArray, List.set_cons_zero, List.set_cons_succ]
  refine wpAnyH_take (i := 1) (oi := { dst := some 10, op := Op.move (Operand.tmp 0), type := 75, pos := "object.go:40", after := #[], guard := none }) (v := ?v2) rfl (by kernel_rfl) (by kernel_rfl) (by kernel_rfl) (fun _ _ _ h => h) (Or.inl ⟨by rfl, ?hy2⟩) (by assumption) ?_
  case hy2 => intro w hSw; (try dsimp only at hSw); go_simp; (try with_reducible rfl)
  try simp only [Act.put, List.setIfInBounds_toArray, List.set_cons_zero, List.set_cons_succ]
  refine wpAnyH_take (i := 4) (oi := { dst := some 13, op := Op.move (Operand.tmp 2), type := 3, pos := "object.go:40", after := #[], guard := none }) (v := ?v3) rfl (by kernel_rfl) (by kernel_rfl) (by kernel_rfl) (fun _ _ _ h => h) (Or.inl ⟨by rfl, ?hy3⟩) (by assumption) ?_
  case hy3 => intro w hSw; (try dsimp only at hSw); go_simp; (try with_reducible rfl)
  try simp only [Act.put, List.setIfInBounds_toArray, List.set_cons_zero, List.set_cons_succ]
  refine wpAnyH_take (i := 7) (oi := { dst := some 16, op := Op.move (Operand.tmp 3), type := 3, pos := "object.go:40", after := #[], guard := none }) (v := ?v4) rfl (by kernel_rfl) (by kernel_rfl) (by kernel_rfl) (fun _ _ _ h => h) (Or.inl ⟨by rfl, ?hy4⟩) (by assumption) ?_
  case hy4 => intro w hSw; (try dsimp only at hSw); go_simp; (try with_reducible rfl)
  try simp only [Act.put, List.setIfInBounds_toArray, List.set_cons_zero, List.set_cons_succ]
  refine wpAnyH_ready (rs := [2, 5]) (by kernel_rfl) (by simp) ?_
  refine (AllReadyH.cons (o := { dst := some 11, op := Op.call { callee := Callee.invoke (Operand.tmp 10) "Len", args := #[], argTypes := #[] }, type := 3, pos := "object.go:40", after := #[{ on := 1, ground := Ground.data }], guard := none }) rfl (fun K hK => ?_) (AllReadyH.cons (o := { dst := some 14, op := Op.load 28 (Operand.tmp 5), type := 28, pos := "object.go:40", after := #[], guard := none }) rfl (fun K hK => ?_) AllReadyH.nil))
  · go_simp; go_at_call 169; (with_reducible refine (li_Len (HL.out.below (by first | exact HD.out.bel | exact HS.out.bel))).mono ?_); rintro e ux ⟨rfl, rfl⟩; dsimp only
    refine hK.out _ _ ?_ (fun hH1 => ?_)
    · (try dsimp only); (first | done | trivial)
    clear hK K
    clear hH0
    try simp only [Act.put, List.setIfInBounds_toArray, List.set_cons_zero, List.set_cons_succ]
    refine wpAnyH_ready (rs := [3, 5]) (by kernel_rfl) (by simp) ?_
    refine (AllReadyH.cons (o := { dst := some 12, op := Op.makeSlice 23 (Operand.tmp 11) (Operand.tmp 11), type := 23, pos := "object.go:40", after := #[{ on := 2, ground := Ground.data }, { on := 2, ground := Ground.data }], guard := none }) rfl (fun K hK => ?_) (AllReadyH.cons (o := { dst := some 14, op := Op.load 28 (Operand.tmp 5), type := 28, pos := "object.go:40", after := #[], guard := none }) rfl (fun K hK => ?_) AllReadyH.nil))
    · go_simp
      have HD := Lib.hid (HS.out.mk' bs.length hbs)
      refine hK.out _ _ ?_ (fun hH2 => ?_)
      · (try dsimp only); (first | done | trivial)
      clear hK K
      clear hH1
      try simp only [Act.put, List.setIfInBounds_toArray, List.set_cons_zero, List.set_cons_succ]
      refine wpAnyH_ready (rs := [5]) (by kernel_rfl) (by simp) ?_
      refine (AllReadyH.cons (o := { dst := some 14, op := Op.load 28 (Operand.tmp 5), type := 28, pos := "object.go:40", after := #[], guard := none }) rfl (fun K hK => ?_) AllReadyH.nil)
      rw [if_pos (by rfl)]; refine wp_load_row 28 (.tmp 5) (by rfl) w.heap.size (by rfl) 28 #[.int .i64 0, .int .i64 0, .slice none 0 0, .slice none 0 0, .slice none 0 0, .string ByteArray.empty, .string ByteArray.empty, .int .i64 0, .int .i64 0, .slice none 0 0] (0, 0) _ (by first | exact HD.out.row HR.out | exact HS.out.row HR.out) Tryz.underlying28 rfl info10 ?_
      refine hK.out _ _ ?_ (fun hH3 => ?_)
      · (try dsimp only); (first | done | trivial)
      clear hK K
      clear hH2
      try simp only [Act.put, List.setIfInBounds_toArray, List.set_cons_zero, List.set_cons_succ]
      refine wpAnyH_ready (rs := [6]) (by kernel_rfl) (by simp) ?_
      refine (AllReadyH.cons (o := { dst := some 15, op := Op.call { callee := Callee.value (Operand.func 59), args := #[Operand.tmp 14], argTypes := #[28] }, type := 28, pos := "object.go:40", after := #[{ on := 5, ground := Ground.data }, { on := 2, ground := Ground.chain }], guard := none }) rfl (fun K hK => ?_) AllReadyH.nil)
      go_simp; go_at_call 59; (with_reducible refine (rg_Copy _).mono ?_); rintro e u6 ⟨rfl, hb6⟩
      (first | have HD := Lib.hid (HD.out.more hb6) | have HS := Lib.hid (HS.out.more hb6))
      clear hb6; dsimp only
      refine hK.out _ _ ?_ (fun hH4 => ?_)
      · (try dsimp only); (first | done | trivial)
      clear hK K
      clear hH3
      try simp only [Act.put, List.setIfInBounds_toArray, List.set_cons_zero, List.set_cons_succ]
      refine wpAnyH_ready (rs := [8]) (by kernel_rfl) (by simp) ?_
      refine (AllReadyH.cons (o := { dst := some 17, op := Op.call { callee := Callee.value (Operand.func 60), args := #[Operand.tmp 16], argTypes := #[3] }, type := 76, pos := "object.go:40", after := #[{ on := 7, ground := Ground.data }, { on := 6, ground := Ground.chain }], guard := none }) rfl (fun K hK => ?_) AllReadyH.nil)
      go_simp; go_at_call 60; (with_reducible refine (Gy.new_any _ _).mono ?_); rintro e u8 ⟨rfl, -, hg8, -⟩
      (first | have HD := Lib.hid (HD.out.more hg8.2) | have HS := Lib.hid (HS.out.more hg8.2))
      clear hg8; dsimp only
      refine hK.out _ _ ?_ (fun hH5 => ?_)
      · (try dsimp only); (first | done | trivial)
      clear hK K
      clear hH4
      try simp only [Act.put, List.setIfInBounds_toArray, List.set_cons_zero, List.set_cons_succ]
      refine wpAnyH_take (i := 9) (oi := { dst := some 18, op := Op.build 78 #[(0, Operand.tmp 9), (1, Operand.tmp 12), (3, Operand.tmp 13), (4, Operand.tmp 15), (6, Operand.tmp 17)], type := 78, pos := "object.go:40", after := #[{ on := 0, ground := Ground.data }, { on := 3, ground := Ground.data }, { on := 4, ground := Ground.data }, { on := 6, ground := Ground.data }, { on := 8, ground := Ground.data }], guard := none }) (v := ?v5) rfl (by kernel_rfl) (by kernel_rfl) (by kernel_rfl) (fun _ _ _ h => h) (Or.inl ⟨by rfl, ?hy5⟩) (by assumption) ?_
      case hy5 => intro w hSw; (try dsimp only at hSw); go_simp; (try with_reducible rfl)
      try simp only [Act.put, List.setIfInBounds_toArray, List.set_cons_zero, List.set_cons_succ]
      refine wpAnyH_ready (rs := [10]) (by kernel_rfl) (by simp) ?_
      refine (AllReadyH.cons (o := { dst := some 19, op := Op.box 78 (Operand.tmp 18), type := 35, pos := "object.go:40", after := #[{ on := 9, ground := Ground.data }], guard := none }) rfl (fun K hK => ?_) AllReadyH.nil)
      go_simp
      refine hK.out _ _ ?_ (fun hH6 => ?_)
      · (try dsimp only); (first | done | trivial)
      clear hK K
      clear hH5
      try simp only [Act.put, List.setIfInBounds_toArray, List.set_cons_zero, List.set_cons_succ]
      refine wpAnyH_take (i := 11) (oi := { dst := some 8, op := Op.assign (Operand.tmp 19), type := 35, pos := "object.go:40", after := #[{ on := 10, ground := Ground.data }, { on := 8, ground := Ground.chain }, { on := 0, ground := Ground.phase }, { on := 1, ground := Ground.phase }, { on := 2, ground := Ground.phase }, { on := 3, ground := Ground.phase }, { on := 4, ground := Ground.phase }, { on := 5, ground := Ground.phase }, { on := 6, ground := Ground.phase }, { on := 7, ground := Ground.phase }, { on := 8, ground := Ground.phase }, { on := 9, ground := Ground.phase }, { on := 10, ground := Ground.phase }], guard := none }) (v := ?v6) rfl (by kernel_rfl) (by kernel_rfl) (by kernel_rfl) (fun _ _ _ h => h) (Or.inl ⟨by rfl, ?hy6⟩) (by assumption) ?_
      case hy6 => intro w hSw; (try dsimp only at hSw); go_simp; (try with_reducible rfl)
      try simp only [Act.put, List.setIfInBounds_toArray, List.set_cons_zero, List.set_cons_succ]
      refine wpAnyH_done (by kernel_rfl) ?_ _
      go_wp2_with fail
      go_ret
      have hD := HD.out
      (try simp only [World.size_alloc, World.size_drew] at hD)
      exact ⟨_, _, _, rfl, ov_fin hD _ (by first | rfl | simp)⟩
    · rw [if_pos (by rfl)]; refine wp_load_row 28 (.tmp 5) (by rfl) w.heap.size (by rfl) 28 #[.int .i64 0, .int .i64 0, .slice none 0 0, .slice none 0 0, .slice none 0 0, .string ByteArray.empty, .string ByteArray.empty, .int .i64 0, .int .i64 0, .slice none 0 0] (0, 0) _ (by first | exact HD.out.row HR.out | exact HS.out.row HR.out) Tryz.underlying28 rfl info10 ?_
      refine hK.out _ _ ?_ (fun hH2 => ?_)
      · (try dsimp only); (first | done | trivial)
      clear hK K
      clear hH1
      try simp only [Act.put, List.setIfInBounds_toArray, List.set_cons_zero, List.set_cons_succ]
      refine wpAnyH_ready (rs := [3, 6]) (by kernel_rfl) (by simp) ?_
      refine (AllReadyH.cons (o := { dst := some 12, op := Op.makeSlice 23 (Operand.tmp 11) (Operand.tmp 11), type := 23, pos := "object.go:40", after := #[{ on := 2, ground := Ground.data }, { on := 2, ground := Ground.data }], guard := none }) rfl (fun K hK => ?_) (AllReadyH.cons (o := { dst := some 15, op := Op.call { callee := Callee.value (Operand.func 59), args := #[Operand.tmp 14], argTypes := #[28] }, type := 28, pos := "object.go:40", after := #[{ on := 5, ground := Ground.data }, { on := 2, ground := Ground.chain }], guard := none }) rfl (fun K hK => ?_) AllReadyH.nil))
      · go_simp
        have HD := Lib.hid (HS.out.mk' bs.length hbs)
        refine hK.out _ _ ?_ (fun hH3 => ?_)
        · (try dsimp only); (first | done | trivial)
        clear hK K
        clear hH2
        try simp only [Act.put, List.setIfInBounds_toArray, List.set_cons_zero, List.set_cons_succ]
        refine wpAnyH_ready (rs := [6]) (by kernel_rfl) (by simp) ?_
        refine (AllReadyH.cons (o := { dst := some 15, op := Op.call { callee := Callee.value (Operand.func 59), args := #[Operand.tmp 14], argTypes := #[28] }, type := 28, pos := "object.go:40", after := #[{ on := 5, ground := Ground.data }, { on := 2, ground := Ground.chain }], guard := none }) rfl (fun K hK => ?_) AllReadyH.nil)
        go_simp; go_at_call 59; (with_reducible refine (rg_Copy _).mono ?_); rintro e u6 ⟨rfl, hb6⟩
        (first | have HD := Lib.hid (HD.out.more hb6) | have HS := Lib.hid (HS.out.more hb6))
        clear hb6; dsimp only
        refine hK.out _ _ ?_ (fun hH4 => ?_)
        · (try dsimp only); (first | done | trivial)
        clear hK K
        clear hH3
        try simp only [Act.put, List.setIfInBounds_toArray, List.set_cons_zero, List.set_cons_succ]
        refine wpAnyH_ready (rs := [8]) (by kernel_rfl) (by simp) ?_
        refine (AllReadyH.cons (o := { dst := some 17, op := Op.call { callee := Callee.value (Operand.func 60), args := #[Operand.tmp 16], argTypes := #[3] }, type := 76, pos := "object.go:40", after := #[{ on := 7, ground := Ground.data }, { on := 6, ground := Ground.chain }], guard := none }) rfl (fun K hK => ?_) AllReadyH.nil)
        go_simp; go_at_call 60; (with_reducible refine (Gy.new_any _ _).mono ?_); rintro e u8 ⟨rfl, -, hg8, -⟩
        (first | have HD := Lib.hid (HD.out.more hg8.2) | have HS := Lib.hid (HS.out.more hg8.2))
        clear hg8; dsimp only
        refine hK.out _ _ ?_ (fun hH5 => ?_)
        · (try dsimp only); (first | done | trivial)
        clear hK K
        clear hH4
        try simp only [Act.put, List.setIfInBounds_toArray, List.set_cons_zero, List.set_cons_succ]
        refine wpAnyH_take (i := 9) (oi := { dst := some 18, op := Op.build 78 #[(0, Operand.tmp 9), (1, Operand.tmp 12), (3, Operand.tmp 13), (4, Operand.tmp 15), (6, Operand.tmp 17)], type := 78, pos := "object.go:40", after := #[{ on := 0, ground := Ground.data }, { on := 3, ground := Ground.data }, { on := 4, ground := Ground.data }, { on := 6, ground := Ground.data }, { on := 8, ground := Ground.data }], guard := none }) (v := ?v7) rfl (by kernel_rfl) (by kernel_rfl) (by kernel_rfl) (fun _ _ _ h => h) (Or.inl ⟨by rfl, ?hy7⟩) (by assumption) ?_
        case hy7 => intro w hSw; (try dsimp only at hSw); go_simp; (try with_reducible rfl)
        try simp only [Act.put, List.setIfInBounds_toArray, List.set_cons_zero, List.set_cons_succ]
        refine wpAnyH_ready (rs := [10]) (by kernel_rfl) (by simp) ?_
        refine (AllReadyH.cons (o := { dst := some 19, op := Op.box 78 (Operand.tmp 18), type := 35, pos := "object.go:40", after := #[{ on := 9, ground := Ground.data }], guard := none }) rfl (fun K hK => ?_) AllReadyH.nil)
        go_simp
        refine hK.out _ _ ?_ (fun hH6 => ?_)
        · (try dsimp only); (first | done | trivial)
        clear hK K
        clear hH5
        try simp only [Act.put, List.setIfInBounds_toArray, List.set_cons_zero, List.set_cons_succ]
        refine wpAnyH_take (i := 11) (oi := { dst := some 8, op := Op.assign (Operand.tmp 19), type := 35, pos := "object.go:40", after := #[{ on := 10, ground := Ground.data }, { on := 8, ground := Ground.chain }, { on := 0, ground := Ground.phase }, { on := 1, ground := Ground.phase }, { on := 2, ground := Ground.phase }, { on := 3, ground := Ground.phase }, { on := 4, ground := Ground.phase }, { on := 5, ground := Ground.phase }, { on := 6, ground := Ground.phase }, { on := 7, ground := Ground.phase }, { on := 8, ground := Ground.phase }, { on := 9, ground := Ground.phase }, { on := 10, ground := Ground.phase }], guard := none }) (v := ?v8) rfl (by kernel_rfl) (by kernel_rfl) (by kernel_rfl) (fun _ _ _ h => h) (Or.inl ⟨by rfl, ?hy8⟩) (by assumption) ?_
        case hy8 => intro w hSw; (try dsimp only at hSw); go_simp; (try with_reducible rfl)
        try simp only [Act.put, List.setIfInBounds_toArray, List.set_cons_zero, List.set_cons_succ]
        refine wpAnyH_done (by kernel_rfl) ?_ _
        go_wp2_with fail
        go_ret
        have hD := HD.out
        (try simp only [World.size_alloc, World.size_drew] at hD)
        exact ⟨_, _, _, rfl, ov_fin hD _ (by first | rfl | simp)⟩
      · go_simp; go_at_call 59; (with_reducible refine (rg_Copy _).mono ?_); rintro e u6 ⟨rfl, hb6⟩
        (first | have HD := Lib.hid (HD.out.more hb6) | have HS := Lib.hid (HS.out.more hb6))
        clear hb6; dsimp only
        refine hK.out _ _ ?_ (fun hH3 => ?_)
        · (try dsimp only); (first | done | trivial)
        clear hK K
        clear hH2
        try simp only [Act.put, List.setIfInBounds_toArray, List.set_cons_zero, List.set_cons_succ]
        refine wpAnyH_ready (rs := [3, 8]) (by kernel_rfl) (by simp) ?_
        refine (AllReadyH.cons (o := { dst := some 12, op := Op.makeSlice 23 (Operand.tmp 11) (Operand.tmp 11), type := 23, pos := "object.go:40", after := #[{ on := 2, ground := Ground.data }, { on := 2, ground := Ground.data }], guard := none }) rfl (fun K hK => ?_) (AllReadyH.cons (o := { dst := some 17, op := Op.call { callee := Callee.value (Operand.func 60), args := #[Operand.tmp 16], argTypes := #[3] }, type := 76, pos := "object.go:40", after := #[{ on := 7, ground := Ground.data }, { on := 6, ground := Ground.chain }], guard := none }) rfl (fun K hK => ?_) AllReadyH.nil))
        · go_simp
          have HD := Lib.hid (HS.out.mk' bs.length hbs)
          refine hK.out _ _ ?_ (fun hH4 => ?_)
          · (try dsimp only); (first | done | trivial)
          clear hK K
          clear hH3
          try simp only [Act.put, List.setIfInBounds_toArray, List.set_cons_zero, List.set_cons_succ]
          refine wpAnyH_ready (rs := [8]) (by kernel_rfl) (by simp) ?_
          refine (AllReadyH.cons (o := { dst := some 17, op := Op.call { callee := Callee.value (Operand.func 60), args := #[Operand.tmp 16], argTypes := #[3] }, type := 76, pos := "object.go:40", after := #[{ on := 7, ground := Ground.data }, { on := 6, ground := Ground.chain }], guard := none }) rfl (fun K hK => ?_) AllReadyH.nil)
          go_simp; go_at_call 60; (with_reducible refine (Gy.new_any _ _).mono ?_); rintro e u8 ⟨rfl, -, hg8, -⟩
          (first | have HD := Lib.hid (HD.out.more hg8.2) | have HS := Lib.hid (HS.out.more hg8.2))
          clear hg8; dsimp only
          refine hK.out _ _ ?_ (fun hH5 => ?_)
          · (try dsimp only); (first | done | trivial)
          clear hK K
          clear hH4
          try simp only [Act.put, List.setIfInBounds_toArray, List.set_cons_zero, List.set_cons_succ]
          refine wpAnyH_take (i := 9) (oi := { dst := some 18, op := Op.build 78 #[(0, Operand.tmp 9), (1, Operand.tmp 12), (3, Operand.tmp 13), (4, Operand.tmp 15), (6, Operand.tmp 17)], type := 78, pos := "object.go:40", after := #[{ on := 0, ground := Ground.data }, { on := 3, ground := Ground.data }, { on := 4, ground := Ground.data }, { on := 6, ground := Ground.data }, { on := 8, ground := Ground.data }], guard := none }) (v := ?v9) rfl (by kernel_rfl) (by kernel_rfl) (by kernel_rfl) (fun _ _ _ h => h) (Or.inl ⟨by rfl, ?hy9⟩) (by assumption) ?_
          case hy9 => intro w hSw; (try dsimp only at hSw); go_simp; (try with_reducible rfl)
          try simp only [Act.put, List.setIfInBounds_toArray, List.set_cons_zero, List.set_cons_succ]
          refine wpAnyH_ready (rs := [10]) (by kernel_rfl) (by simp) ?_
          refine (AllReadyH.cons (o := { dst := some 19, op := Op.box 78 (Operand.tmp 18), type := 35, pos := "object.go:40", after := #[{ on := 9, ground := Ground.data }], guard := none }) rfl (fun K hK => ?_) AllReadyH.nil)
          go_simp
          refine hK.out _ _ ?_ (fun hH6 => ?_)
          · (try dsimp only); (first | done | trivial)
          clear hK K
          clear hH5
          try simp only [Act.put, List.setIfInBounds_toArray, List.set_cons_zero, List.set_cons_succ]
          refine wpAnyH_take (i := 11) (oi := { dst := some 8, op := Op.assign (Operand.tmp 19), type := 35, pos := "object.go:40", after := #[{ on := 10, ground := Ground.data }, { on := 8, ground := Ground.chain }, { on := 0, ground := Ground.phase }, { on := 1, ground := Ground.phase }, { on := 2, ground := Ground.phase }, { on := 3, ground := Ground.phase }, { on := 4, ground := Ground.phase }, { on := 5, ground := Ground.phase }, { on := 6, ground := Ground.phase }, { on := 7, ground := Ground.phase }, { on := 8, ground := Ground.phase }, { on := 9, ground := Ground.phase }, { on := 10, ground := Ground.phase }], guard := none }) (v := ?v10) rfl (by kernel_rfl) (by kernel_rfl) (by kernel_rfl) (fun _ _ _ h => h) (Or.inl ⟨by rfl, ?hy10⟩) (by assumption) ?_
          case hy10 => intro w hSw; (try dsimp only at hSw); go_simp; (try with_reducible rfl)
          try simp only [Act.put, List.setIfInBounds_toArray, List.set_cons_zero, List.set_cons_succ]
          refine wpAnyH_done (by kernel_rfl) ?_ _
          go_wp2_with fail
          go_ret
          have hD := HD.out
          (try simp only [World.size_alloc, World.size_drew] at hD)
          exact ⟨_, _, _, rfl, ov_fin hD _ (by first | rfl | simp)⟩
        · go_simp; go_at_call 60; (with_reducible refine (Gy.new_any _ _).mono ?_); rintro e u8 ⟨rfl, -, hg8, -⟩
          (first | have HD := Lib.hid (HD.out.more hg8.2) | have HS := Lib.hid (HS.out.more hg8.2))
          clear hg8; dsimp only
          refine hK.out _ _ ?_ (fun hH4 => ?_)
          · (try dsimp only); (first | done | trivial)
          clear hK K
          clear hH3
          try simp only [Act.put, List.setIfInBounds_toArray, List.set_cons_zero, List.set_cons_succ]
          refine wpAnyH_ready (rs := [3]) (by kernel_rfl) (by simp) ?_
          refine (AllReadyH.cons (o := { dst := some 12, op := Op.makeSlice 23 (Operand.tmp 11) (Operand.tmp 11), type := 23, pos := "object.go:40", after := #[{ on := 2, ground := Ground.data }, { on := 2, ground := Ground.data }], guard := none }) rfl (fun K hK => ?_) AllReadyH.nil)
          go_simp
          have HD := Lib.hid (HS.out.mk' bs.length hbs)
          refine hK.out _ _ ?_ (fun hH5 => ?_)
          · (try dsimp only); (first | done | trivial)
          clear hK K
          clear hH4
          try simp only [Act.put, List.setIfInBounds_toArray, List.set_cons_zero, List.set_cons_succ]
          refine wpAnyH_take (i := 9) (oi := { dst := some 18, op := Op.build 78 #[(0, Operand.tmp 9), (1, Operand.tmp 12), (3, Operand.tmp 13), (4, Operand.tmp 15), (6, Operand.tmp 17)], type := 78, pos := "object.go:40", after := #[{ on := 0, ground := Ground.data }, { on := 3, ground := Ground.data }, { on := 4, ground := Ground.data }, { on := 6, ground := Ground.data }, { on := 8, ground := Ground.data }], guard := none }) (v := ?v11) rfl (by kernel_rfl) (by kernel_rfl) (by kernel_rfl) (fun _ _ _ h => h) (Or.inl ⟨by rfl, ?hy11⟩) (by assumption) ?_
          case hy11 => intro w hSw; (try dsimp only at hSw); go_simp; (try with_reducible rfl)
          try simp only [Act.put, List.setIfInBounds_toArray, List.set_cons_zero, List.set_cons_succ]
          refine wpAnyH_ready (rs := [10]) (by kernel_rfl) (by simp) ?_
          refine (AllReadyH.cons (o := { dst := some 19, op := Op.box 78 (Operand.tmp 18), type := 35, pos := "object.go:40", after := #[{ on := 9, ground := Ground.data }], guard := none }) rfl (fun K hK => ?_) AllReadyH.nil)
          go_simp
          refine hK.out _ _ ?_ (fun hH6 => ?_)
          · (try dsimp only); (first | done | trivial)
          clear hK K
          clear hH5
          try simp only [Act.put, List.setIfInBounds_toArray, List.set_cons_zero, List.set_cons_succ]
          refine wpAnyH_take (i := 11) (oi := { dst := some 8, op := Op.assign (Operand.tmp 19), type := 35, pos := "object.go:40", after := #[{ on := 10, ground := Ground.data }, { on := 8, ground := Ground.chain }, { on := 0, ground := Ground.phase }, { on := 1, ground := Ground.phase }, { on := 2, ground := Ground.phase }, { on := 3, ground := Ground.phase }, { on := 4, ground := Ground.phase }, { on := 5, ground := Ground.phase }, { on := 6, ground := Ground.phase }, { on := 7, ground := Ground.phase }, { on := 8, ground := Ground.phase }, { on := 9, ground := Ground.phase }, { on := 10, ground := Ground.phase }], guard := none }) (v := ?v12) rfl (by kernel_rfl) (by kernel_rfl) (by kernel_rfl) (fun _ _ _ h => h) (Or.inl ⟨by rfl, ?hy12⟩) (by assumption) ?_
          case hy12 => intro w hSw; (try dsimp only at hSw); go_simp; (try with_reducible rfl)
          try simp only [Act.put, List.setIfInBounds_toArray, List.set_cons_zero, List.set_cons_succ]
          refine wpAnyH_done (by kernel_rfl) ?_ _
          go_wp2_with fail
          go_ret
          have hD := HD.out
          (try simp only [World.size_alloc, World.size_drew] at hD)
          exact ⟨_, _, _, rfl, ov_fin hD _ (by first | rfl | simp)⟩
  · rw [if_pos (by rfl)]; refine wp_load_row 28 (.tmp 5) (by rfl) w.heap.size (by rfl) 28 #[.int .i64 0, .int .i64 0, .slice none 0 0, .slice none 0 0, .slice none 0 0, .string ByteArray.empty, .string ByteArray.empty, .int .i64 0, .int .i64 0, .slice none 0 0] (0, 0) _ (by first | exact HD.out.row HR.out | exact HS.out.row HR.out) Tryz.underlying28 rfl info10 ?_
    refine hK.out _ _ ?_ (fun hH1 => ?_)
    · (try dsimp only); (first | done | trivial)
    clear hK K
    clear hH0
    try simp only [Act.put, List.setIfInBounds_toArray, List.set_cons_zero, List.set_cons_succ]
    refine wpAnyH_ready (rs := [2]) (by kernel_rfl) (by simp) ?_
    refine (AllReadyH.cons (o := { dst := some 11, op := Op.call { callee := Callee.invoke (Operand.tmp 10) "Len", args := #[], argTypes := #[] }, type := 3, pos := "object.go:40", after := #[{ on := 1, ground := Ground.data }], guard := none }) rfl (fun K hK => ?_) AllReadyH.nil)
    go_simp; go_at_call 169; (with_reducible refine (li_Len (HL.out.below (by first | exact HD.out.bel | exact HS.out.bel))).mono ?_); rintro e ux ⟨rfl, rfl⟩; dsimp only
    refine hK.out _ _ ?_ (fun hH2 => ?_)
    · (try dsimp only); (first | done | trivial)
    clear hK K
    clear hH1
    try simp only [Act.put, List.setIfInBounds_toArray, List.set_cons_zero, List.set_cons_succ]
    refine wpAnyH_ready (rs := [3, 6]) (by kernel_rfl) (by simp) ?_
    refine (AllReadyH.cons (o := { dst := some 12, op := Op.makeSlice 23 (Operand.tmp 11) (Operand.tmp 11), type := 23, pos := "object.go:40", after := #[{ on := 2, ground := Ground.data }, { on := 2, ground := Ground.data }], guard := none }) rfl (fun K hK => ?_) (AllReadyH.cons (o := { dst := some 15, op := Op.call { callee := Callee.value (Operand.func 59), args := #[Operand.tmp 14], argTypes := #[28] }, type := 28, pos := "object.go:40", after := #[{ on := 5, ground := Ground.data }, { on := 2, ground := Ground.chain }], guard := none }) rfl (fun K hK => ?_) AllReadyH.nil))
    · go_simp
      have HD := Lib.hid (HS.out.mk' bs.length hbs)
      refine hK.out _ _ ?_ (fun hH3 => ?_)
      · (try dsimp only); (first | done | trivial)
      clear hK K
      clear hH2
      try simp only [Act.put, List.setIfInBounds_toArray, List.set_cons_zero, List.set_cons_succ]
      refine wpAnyH_ready (rs := [6]) (by kernel_rfl) (by simp) ?_
      refine (AllReadyH.cons (o := { dst := some 15, op := Op.call { callee := Callee.value (Operand.func 59), args := #[Operand.tmp 14], argTypes := #[28] }, type := 28, pos := "object.go:40", after := #[{ on := 5, ground := Ground.data }, { on := 2, ground := Ground.chain }], guard := none }) rfl (fun K hK => ?_) AllReadyH.nil)
      go_simp; go_at_call 59; (with_reducible refine (rg_Copy _).mono ?_); rintro e u6 ⟨rfl, hb6⟩
      (first | have HD := Lib.hid (HD.out.more hb6) | have HS := Lib.hid (HS.out.more hb6))
      clear hb6; dsimp only
      refine hK.out _ _ ?_ (fun hH4 => ?_)
      · (try dsimp only); (first | done | trivial)
      clear hK K
      clear hH3
      try simp only [Act.put, List.setIfInBounds_toArray, List.set_cons_zero, List.set_cons_succ]
      refine wpAnyH_ready (rs := [8]) (by kernel_rfl) (by simp) ?_
      refine (AllReadyH.cons (o := { dst := some 17, op := Op.call { callee := Callee.value (Operand.func 60), args := #[Operand.tmp 16], argTypes := #[3] }, type := 76, pos := "object.go:40", after := #[{ on := 7, ground := Ground.data }, { on := 6, ground := Ground.chain }], guard := none }) rfl (fun K hK => ?_) AllReadyH.nil)
      go_simp; go_at_call 60; (with_reducible refine (Gy.new_any _ _).mono ?_); rintro e u8 ⟨rfl, -, hg8, -⟩
      (first | have HD := Lib.hid (HD.out.more hg8.2) | have HS := Lib.hid (HS.out.more hg8.2))
      clear hg8; dsimp only
      refine hK.out _ _ ?_ (fun hH5 => ?_)
      · (try dsimp only); (first | done | trivial)
      clear hK K
      clear hH4
      try simp only [Act.put, List.setIfInBounds_toArray, List.set_cons_zero, List.set_cons_succ]
      refine wpAnyH_take (i := 9) (oi := { dst := some 18, op := Op.build 78 #[(0, Operand.tmp 9), (1, Operand.tmp 12), (3, Operand.tmp 13), (4, Operand.tmp 15), (6, Operand.tmp 17)], type := 78, pos := "object.go:40", after := #[{ on := 0, ground := Ground.data }, { on := 3, ground := Ground.data }, { on := 4, ground := Ground.data }, { on := 6, ground := Ground.data }, { on := 8, ground := Ground.data }], guard := none }) (v := ?v13) rfl (by kernel_rfl) (by kernel_rfl) (by kernel_rfl) (fun _ _ _ h => h) (Or.inl ⟨by rfl, ?hy13⟩) (by assumption) ?_
      case hy13 => intro w hSw; (try dsimp only at hSw); go_simp; (try with_reducible rfl)
      try simp only [Act.put, List.setIfInBounds_toArray, List.set_cons_zero, List.set_cons_succ]
      refine wpAnyH_ready (rs := [10]) (by kernel_rfl) (by simp) ?_
      refine (AllReadyH.cons (o := { dst := some 19, op := Op.box 78 (Operand.tmp 18), type := 35, pos := "object.go:40", after := #[{ on := 9, ground := Ground.data }], guard := none }) rfl (fun K hK => ?_) AllReadyH.nil)
      go_simp
      refine hK.out _ _ ?_ (fun hH6 => ?_)
      · (try dsimp only); (first | done | trivial)
      clear hK K
      clear hH5
      try simp only [Act.put, List.setIfInBounds_toArray, List.set_cons_zero, List.set_cons_succ]
      refine wpAnyH_take (i := 11) (oi := { dst := some 8, op := Op.assign (Operand.tmp 19), type := 35, pos := "object.go:40", after := #[{ on := 10, ground := Ground.data }, { on := 8, ground := Ground.chain }, { on := 0, ground := Ground.phase }, { on := 1, ground := Ground.phase }, { on := 2, ground := Ground.phase }, { on := 3, ground := Ground.phase }, { on := 4, ground := Ground.phase }, { on := 5, ground := Ground.phase }, { on := 6, ground := Ground.phase }, { on := 7, ground := Ground.phase }, { on := 8, ground := Ground.phase }, { on := 9, ground := Ground.phase }, { on := 10, ground := Ground.phase }], guard := none }) (v := ?v14) rfl (by kernel_rfl) (by kernel_rfl) (by kernel_rfl) (fun _ _ _ h => h) (Or.inl ⟨by rfl, ?hy14⟩) (by assumption) ?_
      case hy14 => intro w hSw; (try dsimp only at hSw); go_simp; (try with_reducible rfl)
      try simp only [Act.put, List.setIfInBounds_toArray, List.set_cons_zero, List.set_cons_succ]
      refine wpAnyH_done (by kernel_rfl) ?_ _
      go_wp2_with fail
      go_ret
      have hD := HD.out
      (try simp only [World.size_alloc, World.size_drew] at hD)
      exact ⟨_, _, _, rfl, ov_fin hD _ (by first | rfl | simp)⟩
    · go_simp; go_at_call 59; (with_reducible refine (rg_Copy _).mono ?_); rintro e u6 ⟨rfl, hb6⟩
      (first | have HD := Lib.hid (HD.out.more hb6) | have HS := Lib.hid (HS.out.more hb6))
      clear hb6; dsimp only
      refine hK.out _ _ ?_ (fun hH3 => ?_)
      · (try dsimp only); (first | done | trivial)
      clear hK K
      clear hH2
      try simp only [Act.put, List.setIfInBounds_toArray, List.set_cons_zero, List.set_cons_succ]
      refine wpAnyH_ready (rs := [3, 8]) (by kernel_rfl) (by simp) ?_
      refine (AllReadyH.cons (o := { dst := some 12, op := Op.makeSlice 23 (Operand.tmp 11) (Operand.tmp 11), type := 23, pos := "object.go:40", after := #[{ on := 2, ground := Ground.data }, { on := 2, ground := Ground.data }], guard := none }) rfl (fun K hK => ?_) (AllReadyH.cons (o := { dst := some 17, op := Op.call { callee := Callee.value (Operand.func 60), args := #[Operand.tmp 16], argTypes := #[3] }, type := 76, pos := "object.go:40", after := #[{ on := 7, ground := Ground.data }, { on := 6, ground := Ground.chain }], guard := none }) rfl (fun K hK => ?_) AllReadyH.nil))
      · go_simp
        have HD := Lib.hid (HS.out.mk' bs.length hbs)
        refine hK.out _ _ ?_ (fun hH4 => ?_)
        · (try dsimp only); (first | done | trivial)
        clear hK K
        clear hH3
        try simp only [Act.put, List.setIfInBounds_toArray, List.set_cons_zero, List.set_cons_succ]
        refine wpAnyH_ready (rs := [8]) (by kernel_rfl) (by simp) ?_
        refine (AllReadyH.cons (o := { dst := some 17, op := Op.call { callee := Callee.value (Operand.func 60), args := #[Operand.tmp 16], argTypes := #[3] }, type := 76, pos := "object.go:40", after := #[{ on := 7, ground := Ground.data }, { on := 6, ground := Ground.chain }], guard := none }) rfl (fun K hK => ?_) AllReadyH.nil)
        go_simp; go_at_call 60; (with_reducible refine (Gy.new_any _ _).mono ?_); rintro e u8 ⟨rfl, -, hg8, -⟩
        (first | have HD := Lib.hid (HD.out.more hg8.2) | have HS := Lib.hid (HS.out.more hg8.2))
        clear hg8; dsimp only
        refine hK.out _ _ ?_ (fun hH5 => ?_)
        · (try dsimp only); (first | done | trivial)
        clear hK K
        clear hH4
        try simp only [Act.put, List.setIfInBounds_toArray, List.set_cons_zero, List.set_cons_succ]
        refine wpAnyH_take (i := 9) (oi := { dst := some 18, op := Op.build 78 #[(0, Operand.tmp 9), (1, Operand.tmp 12), (3, Operand.tmp 13), (4, Operand.tmp 15), (6, Operand.tmp 17)], type := 78, pos := "object.go:40", after := #[{ on := 0, ground := Ground.data }, { on := 3, ground := Ground.data }, { on := 4, ground := Ground.data }, { on := 6, ground := Ground.data }, { on := 8, ground := Ground.data }], guard := none }) (v := ?v15) rfl (by kernel_rfl) (by kernel_rfl) (by kernel_rfl) (fun _ _ _ h => h) (Or.inl ⟨by rfl, ?hy15⟩) (by assumption) ?_
        case hy15 => intro w hSw; (try dsimp only at hSw); go_simp; (try with_reducible rfl)
        try simp only [Act.put, List.setIfInBounds_toArray, List.set_cons_zero, List.set_cons_succ]
        refine wpAnyH_ready (rs := [10]) (by kernel_rfl) (by simp) ?_
        refine (AllReadyH.cons (o := { dst := some 19, op := Op.box 78 (Operand.tmp 18), type := 35, pos := "object.go:40", after := #[{ on := 9, ground := Ground.data }], guard := none }) rfl (fun K hK => ?_) AllReadyH.nil)
        go_simp
        refine hK.out _ _ ?_ (fun hH6 => ?_)
        · (try dsimp only); (first | done | trivial)
        clear hK K
        clear hH5
        try simp only [Act.put, List.setIfInBounds_toArray, List.set_cons_zero, List.set_cons_succ]
        refine wpAnyH_take (i := 11) (oi := { dst := some 8, op := Op.assign (Operand.tmp 19), type := 35, pos := "object.go:40", after := #[{ on := 10, ground := Ground.data }, { on := 8, ground := Ground.chain }, { on := 0, ground := Ground.phase }, { on := 1, ground := Ground.phase }, { on := 2, ground := Ground.phase }, { on := 3, ground := Ground.phase }, { on := 4, ground := Ground.phase }, { on := 5, ground := Ground.phase }, { on := 6, ground := Ground.phase }, { on := 7, ground := Ground.phase }, { on := 8, ground := Ground.phase }, { on := 9, ground := Ground.phase }, { on := 10, ground := Ground.phase }], guard := none }) (v := ?v16) rfl (by kernel_rfl) (by kernel_rfl) (by kernel_rfl) (fun _ _ _ h => h) (Or.inl ⟨by rfl, ?hy16⟩) (by assumption) ?_
        case hy16 => intro w hSw; (try dsimp only at hSw); go_simp; (try with_reducible rfl)
        try simp only [Act.put, List.setIfInBounds_toArray, List.set_cons_zero, List.set_cons_succ]
        refine wpAnyH_done (by kernel_rfl) ?_ _
        go_wp2_with fail
        go_ret
        have hD := HD.out
        (try simp only [World.size_alloc, World.size_drew] at hD)
        exact ⟨_, _, _, rfl, ov_fin hD _ (by first | rfl | simp)⟩
      · go_simp; go_at_call 60; (with_reducible refine (Gy.new_any _ _).mono ?_); rintro e u8 ⟨rfl, -, hg8, -⟩
        (first | have HD := Lib.hid (HD.out.more hg8.2) | have HS := Lib.hid (HS.out.more hg8.2))
        clear hg8; dsimp only
        refine hK.out _ _ ?_ (fun hH4 => ?_)
        · (try dsimp only); (first | done | trivial)
        clear hK K
        clear hH3
        try simp only [Act.put, List.setIfInBounds_toArray, List.set_cons_zero, List.set_cons_succ]
        refine wpAnyH_ready (rs := [3]) (by kernel_rfl) (by simp) ?_
        refine (AllReadyH.cons (o := { dst := some 12, op := Op.makeSlice 23 (Operand.tmp 11) (Operand.tmp 11), type := 23, pos := "object.go:40", after := #[{ on := 2, ground := Ground.data }, { on := 2, ground := Ground.data }], guard := none }) rfl (fun K hK => ?_) AllReadyH.nil)
        go_simp
        have HD := Lib.hid (HS.out.mk' bs.length hbs)
        refine hK.out _ _ ?_ (fun hH5 => ?_)
        · (try dsimp only); (first | done | trivial)
        clear hK K
        clear hH4
        try simp only [Act.put, List.setIfInBounds_toArray, List.set_cons_zero, List.set_cons_succ]
        refine wpAnyH_take (i := 9) (oi := { dst := some 18, op := Op.build 78 #[(0, Operand.tmp 9), (1, Operand.tmp 12), (3, Operand.tmp 13), (4, Operand.tmp 15), (6, Operand.tmp 17)], type := 78, pos := "object.go:40", after := #[{ on := 0, ground := Ground.data }, { on := 3, ground := Ground.data }, { on := 4, ground := Ground.data }, { on := 6, ground := Ground.data }, { on := 8, ground := Ground.data }], guard := none }) (v := ?v17) rfl (by kernel_rfl) (by kernel_rfl) (by kernel_rfl) (fun _ _ _ h => h) (Or.inl ⟨by rfl, ?hy17⟩) (by assumption) ?_
        case hy17 => intro w hSw; (try dsimp only at hSw); go_simp; (try with_reducible rfl)
        try simp only [Act.put, List.setIfInBounds_toArray, List.set_cons_zero, List.set_cons_succ]
        refine wpAnyH_ready (rs := [10]) (by kernel_rfl) (by simp) ?_
        refine (AllReadyH.cons (o := { dst := some 19, op := Op.box 78 (Operand.tmp 18), type := 35, pos := "object.go:40", after := #[{ on := 9, ground := Ground.data }], guard := none }) rfl (fun K hK => ?_) AllReadyH.nil)
        go_simp
        refine hK.out _ _ ?_ (fun hH6 => ?_)
        · (try dsimp only); (first | done | trivial)
        clear hK K
        clear hH5
        try simp only [Act.put, List.setIfInBounds_toArray, List.set_cons_zero, List.set_cons_succ]
        refine wpAnyH_take (i := 11) (oi := { dst := some 8, op := Op.assign (Operand.tmp 19), type := 35, pos := "object.go:40", after := #[{ on := 10, ground := Ground.data }, { on := 8, ground := Ground.chain }, { on := 0, ground := Ground.phase }, { on := 1, ground := Ground.phase }, { on := 2, ground := Ground.phase }, { on := 3, ground := Ground.phase }, { on := 4, ground := Ground.phase }, { on := 5, ground := Ground.phase }, { on := 6, ground := Ground.phase }, { on := 7, ground := Ground.phase }, { on := 8, ground := Ground.phase }, { on := 9, ground := Ground.phase }, { on := 10, ground := Ground.phase }], guard := none }) (v := ?v18) rfl (by kernel_rfl) (by kernel_rfl) (by kernel_rfl) (fun _ _ _ h => h) (Or.inl ⟨by rfl, ?hy18⟩) (by assumption) ?_
        case hy18 => intro w hSw; (try dsimp only at hSw); go_simp; (try with_reducible rfl)
        try simp only [Act.put, List.setIfInBounds_toArray, List.set_cons_zero, List.set_cons_succ]
        refine wpAnyH_done (by kernel_rfl) ?_ _
        go_wp2_with fail
        go_ret
        have hD := HD.out
        (try simp only [World.size_alloc, World.size_drew] at hD)
        exact ⟨_, _, _, rfl, ov_fin hD _ (by first | rfl | simp)⟩

end Go.Proofs.YtoklohfpkaiidaaGreat.Obj
