/- A world's things as a list: newList. -/
import Derived.Test.YtoklohfpkaiidaaGreatWo10
namespace Go.Proofs.YtoklohfpkaiidaaGreat.Obj
open Go.Proofs.YtoklohfpkaiidaaGreat.Gen Go.Proofs.YtoklohfpkaiidaaGreat.Base Go.ChangeShapes Go.WideShapes Go.ChangeAt Go.RowKit
set_option linter.unusedVariables false
section
variable {w : World} {a : Option Addr} {c : Nat} {L : List Th} {last : Int}
theorem zL_run (u : World) : Sem.run Tryz.prog (zeroValue 106) u = .ok (.agg #[.slice none 0 0]) u := by kernel_rfl
theorem zB7_run (u : World) : Sem.run Tryz.prog (zeroValue 110) u = .ok zB7 u := by kernel_rfl
theorem Nl.start (w : World) (r : Obj) : Nl w ((w.alloc r).alloc (.cells #[.slice none 0 0] 106)) L (.slice none 0 0) [] 0 := by
  refine ⟨((Below.refl _ w).alloc (Nat.le_refl _) r).alloc (by simp) _, ?_, by simp, ?_⟩
  · refine ⟨by simpa using heap_alloc_new (w.alloc r) _, World.ownsRow_nil _ _ _ _, ?_, ?_, ?_, ?_, .nil, ?_, by simp⟩
    all_goals simp [Value.ownBlock]
  · rintro j (rfl | h | ⟨p, hp, _⟩)
    · omega
    · simp [Value.ownBlock] at h
    · cases hp
set_option maxRecDepth 100000 in
set_option maxHeartbeats 8000000 in
theorem new_List (h : LAt w (.slice a L.length c) L) (hn : L.length ≤ 3000) (hF : ∀ t ∈ L, t.F.length ≤ 100000 ∧ t.B.size ≤ 100000) : Calls Tryz.prog 28 #[.agg #[.slice a L.length c, .slice none 0 0, .int .i64 last, .int .i64 0, .int .i64 0, .slice none 0 0, .slice none 0 0, .slice none 0 0, .string ByteArray.empty, .string ByteArray.empty, .int .i64 0, .int .i64 0, .slice none 0 0]] w fun e w' => e = .returned (.pointer (some ⟨w.heap.size + 1, 0, none⟩)) ∧ ∃ lv bs, Nl w w' L lv bs L.length := by
  have hzl := zL_run
  have hzb := zB7_run
  unfold zB7 at hzb
  have HW := Lib.hid h; have HTF := Lib.hid hF
  clear h hF
  go_enter Tryz.func28, Tryz.ntmps28
  go_wp2_with fail
  go_loopw [11] (fun v11 wr => ∃ k : Nat, k ≤ L.length ∧ v11 = .int .i64 k ∧ ∃ lv bs, Nl w wr L lv bs k) (fun v11 wr => L.length - (intOf v11).toNat)
  case atStart => exact ⟨0, by omega, rfl, _, _, Nl.start w _⟩
  case round =>
    obtain ⟨k, hk, rfl, lv, bs, hN⟩ := hrel
    by_cases hlt : k < L.length
    · obtain rfl : k = bs.length := (hN.len hk).symm
      have t1 : (bs.length : Int) < (L.length : Int) := by omega
      have t0 : (0 : Int) ≤ (bs.length : Int) := by omega
      obtain ⟨t, ht⟩ : ∃ t, L[bs.length]? = some t := ⟨_, List.getElem?_eq_getElem (by omega)⟩
      have htf := HTF.out t (List.mem_of_getElem? ht)
      obtain ⟨aa, cc, e, hlc, hcm, hat⟩ := (HW.out.below hN.bel).at
      simp only [Value.slice.injEq] at e
      obtain ⟨rfl, -, rfl⟩ := e
      obtain ⟨b, o, rfl, hrg, hbb⟩ := hat bs.length t ht
      have hrow := (HW.out.below hN.bel).fs t (List.mem_of_getElem? ht)
      obtain ⟨fa, fc, hfv⟩ := hrow.slice
      obtain ⟨cls, fmt, hash, fin, fv, F, B⟩ := t
      dsimp only at hfv htf
      subst hfv
      obtain ⟨la, lc, rfl⟩ := own_sl hN.list.ls
      obtain ⟨hFl, hBl⟩ := htf
      unfold Th.cells at hrg
      dsimp only at hrg hrow
      have hwr : w.heap.size + 1 < wr.heap.size := hN.list.lt (.inl rfl)
      have hX : Below wr.heap.size wr (wr.alloc (.cells #[.int .i64 cls, .int .i64 fmt, .int .i64 hash, .bool fin, .slice fa F.length fc, .string B] 64)).drew := below_drew ((Below.refl _ wr).alloc (Nat.le_refl _) _)
      have HN := Lib.hid hN
      have HT : Hid (L[bs.length]? = some (⟨cls, fmt, hash, fin, .slice fa F.length fc, F, B⟩ : Th) ∧ (⟨cls, fmt, hash, fin, .slice fa F.length fc, F, B⟩ : Th).bare = ⟨cls, fmt, hash, 0, fin, .slice none 0 0, F, .slice none 0 0, bytesOf B⟩ ∧ bs.length + 1 ≤ 100000) := Lib.hid ⟨ht, rfl, by omega⟩
      have HRG := Lib.hid hrg
      have HB : Hid (Below ((wr.alloc (.cells #[.int .i64 cls, .int .i64 fmt, .int .i64 hash, .bool fin, .slice fa F.length fc, .string B] 64)).drew).heap.size ((wr.alloc (.cells #[.int .i64 cls, .int .i64 fmt, .int .i64 hash, .bool fin, .slice fa F.length fc, .string B] 64)).drew) ((wr.alloc (.cells #[.int .i64 cls, .int .i64 fmt, .int .i64 hash, .bool fin, .slice fa F.length fc, .string B] 64)).drew)) := Lib.hid (Below.refl _ _)
      have HRF : Hid (∀ u, Below ((wr.alloc (.cells #[.int .i64 cls, .int .i64 fmt, .int .i64 hash, .bool fin, .slice fa F.length fc, .string B] 64)).drew).heap.size ((wr.alloc (.cells #[.int .i64 cls, .int .i64 fmt, .int .i64 hash, .bool fin, .slice fa F.length fc, .string B] 64)).drew) u → RowR u 2 (.slice fa F.length fc) F.length (vals F)) := Lib.hid fun u hb => (hrow.below hX).below hb
      have HLS : Hid (∀ u, Below ((wr.alloc (.cells #[.int .i64 cls, .int .i64 fmt, .int .i64 hash, .bool fin, .slice fa F.length fc, .string B] 64)).drew).heap.size ((wr.alloc (.cells #[.int .i64 cls, .int .i64 fmt, .int .i64 hash, .bool fin, .slice fa F.length fc, .string B] 64)).drew) u → u.ownsRow 0 110 7 (.slice la bs.length lc) bs.length (cellsB bs)) := Lib.hid fun u hb => ((hN.list.below hX).below hb).ls
      have HROW : Hid (∀ u, Below ((wr.alloc (.cells #[.int .i64 cls, .int .i64 fmt, .int .i64 hash, .bool fin, .slice fa F.length fc, .string B] 64)).drew).heap.size ((wr.alloc (.cells #[.int .i64 cls, .int .i64 fmt, .int .i64 hash, .bool fin, .slice fa F.length fc, .string B] 64)).drew) u → u.heap[wr.heap.size]? = some (.cells #[.int .i64 cls, .int .i64 fmt, .int .i64 hash, .bool fin, .slice fa F.length fc, .string B] 64)) := Lib.hid fun u hb => (hb.block _ (by simp)).trans (heap_alloc_new wr _)
      have HLI : Hid (w.heap.size + 1 < ((wr.alloc (.cells #[.int .i64 cls, .int .i64 fmt, .int .i64 hash, .bool fin, .slice fa F.length fc, .string B] 64)).drew).heap.size) := Lib.hid (by simp; omega)
      have HLR : Hid (((wr.alloc (.cells #[.int .i64 cls, .int .i64 fmt, .int .i64 hash, .bool fin, .slice fa F.length fc, .string B] 64)).drew).heap[w.heap.size + 1]? = some (.cells #[.slice la bs.length lc] 106 (0, 0))) := Lib.hid ((hN.list.below hX).row)
      have HC0 : Hid (((wr.alloc (.cells #[.int .i64 cls, .int .i64 fmt, .int .i64 hash, .bool fin, .slice fa F.length fc, .string B] 64)).drew).cell? ⟨w.heap.size + 1, 0, none⟩ = some (.slice la bs.length lc)) := Lib.hid (hN.list.below hX).c0
      have HNV : Hid ((Value.slice la bs.length lc).ownBlock ≠ some wr.heap.size) := Lib.hid fun e => by have := hN.list.lt (.inr (.inl e)); omega
      have HNL : Hid ((Value.slice la bs.length lc).ownBlock ≠ some (w.heap.size + 1)) := Lib.hid hN.list.n1
      have HNW : Hid (wr.heap.size ≠ w.heap.size + 1) := Lib.hid (by omega)
      have c0 : (wr.alloc (.cells #[.int .i64 cls, .int .i64 fmt, .int .i64 hash, .bool fin, .slice fa F.length fc, .string B] 64)).cell? ⟨w.heap.size + 1, 0, none⟩ = some (.slice la bs.length lc) := (World.cell?_alloc_lt wr _ _ hwr).trans hN.list.c0
      have hbs : bs.length ≤ 3000 := by omega
      clear hat hrg ht hrow hN hX hbb
      go_upto_region 5 with (first
        | (refine wpList_load_mid (by rfl) 64 (Operand.tmp 13) (by rfl) b (o + bs.length * 6) (by rfl) _ _ HRG.out Tryz.underlying64 rfl info6 ?_)
        | (refine wpList_store_row rfl 64 (Operand.tmp 5) (Operand.tmp 14) rfl wr.heap.size _ rfl rfl _ _ (heap_alloc_new wr _) info6 rfl rfl ?_; rw [World.setRow_alloc_new]))
      refine wp_region_held_drew (S := (fun w' => w'.cell? ⟨wr.heap.size, 0, none⟩ = some (.int .i64 cls) ∧ w'.cell? ⟨wr.heap.size, 1, none⟩ = some (.int .i64 fmt) ∧ w'.cell? ⟨wr.heap.size, 2, none⟩ = some (.int .i64 hash) ∧ w'.cell? ⟨wr.heap.size, 3, none⟩ = some (.bool fin) ∧ w'.cell? ⟨wr.heap.size, 4, none⟩ = some (.slice fa F.length fc) ∧ w'.cell? ⟨wr.heap.size, 5, none⟩ = some (.string B))) (by kernel_rfl) ?_ (fun hH0 => ?_)
      · (try dsimp only); exact tc6 (HROW.out _ (Below.refl _ _))
      refine wpAnyH_take (i := 0) (oi := { dst := some 15, op := Op.move (Operand.tmp 3), type := 72, pos := "space.go:42", after := #[], guard := none }) (v := ?v1) rfl (by kernel_rfl) (by kernel_rfl) (by kernel_rfl) (fun _ _ _ h => h) (Or.inl ⟨by rfl, ?hy1⟩) (by assumption) ?_
      case hy1 => intro w hSw; (try dsimp only at hSw); go_simp; (try with_reducible rfl)
      try simp only [Act.put, List.setIfInBounds_toArray, List.set_cons_zero, List.set_cons_succ]
      refine wpAnyH_take (i := 1) (oi := { dst := some 16, op := Op.move (Operand.tmp 3), type := 72, pos := "space.go:42", after := #[], guard := none }) (v := ?v2) rfl (by kernel_rfl) (by kernel_rfl) (by kernel_rfl) (fun _ _ _ h => h) (Or.inl ⟨by rfl, ?hy2⟩) (by assumption) ?_
      case hy2 => intro w hSw; (try dsimp only at hSw); go_simp; (try with_reducible rfl)
      try simp only [Act.put, List.setIfInBounds_toArray, List.set_cons_zero, List.set_cons_succ]
      refine wpAnyH_take (i := 2) (oi := { dst := some 17, op := Op.nilCheck (Operand.tmp 16), type := 0, pos := "space.go:42", after := #[{ on := 1, ground := Ground.data }], guard := none }) (v := ?v3) rfl (by kernel_rfl) (by kernel_rfl) (by kernel_rfl) (fun _ _ _ h => h) (Or.inl ⟨by rfl, ?hy3⟩) (by assumption) ?_
      case hy3 => intro w hSw; (try dsimp only at hSw); go_simp; (try with_reducible rfl)
      try simp only [Act.put, List.setIfInBounds_toArray, List.set_cons_zero, List.set_cons_succ]
      refine wpAnyH_take (i := 3) (oi := { dst := some 18, op := Op.fieldAddr 106 (Operand.tmp 17) 0, type := 0, pos := "space.go:42", after := #[{ on := 2, ground := Ground.data }], guard := none }) (v := ?v4) rfl (by kernel_rfl) (by kernel_rfl) (by kernel_rfl) (fun _ _ _ h => h) (Or.inl ⟨by rfl, ?hy4⟩) (by assumption) ?_
      case hy4 => intro w hSw; (try dsimp only at hSw); go_simp; (try with_reducible rfl)
      try simp only [Act.put, List.setIfInBounds_toArray, List.set_cons_zero, List.set_cons_succ]
      refine wpAnyH_take (i := 5) (oi := { dst := some 20, op := Op.fieldAddr 64 (Operand.tmp 5) 0, type := 0, pos := "space.go:42", after := #[], guard := none }) (v := ?v5) rfl (by kernel_rfl) (by kernel_rfl) (by kernel_rfl) (fun _ _ _ h => h) (Or.inl ⟨by rfl, ?hy5⟩) (by assumption) ?_
      case hy5 => intro w hSw; (try dsimp only at hSw); go_simp; (try with_reducible rfl)
      try simp only [Act.put, List.setIfInBounds_toArray, List.set_cons_zero, List.set_cons_succ]
      refine wpAnyH_take (i := 6) (oi := { dst := some 21, op := Op.load 3 (Operand.tmp 20), type := 3, pos := "space.go:42", after := #[{ on := 5, ground := Ground.data }], guard := none }) (v := ?v6) rfl (by kernel_rfl) (by kernel_rfl) (by kernel_rfl) (fun _ _ _ h => h) (Or.inl ⟨by rfl, ?hy6⟩) (by assumption) ?_
      case hy6 => intro w hSw; (try dsimp only at hSw); go_simp; (try with_reducible rfl)
      try simp only [Act.put, List.setIfInBounds_toArray, List.set_cons_zero, List.set_cons_succ]
      refine wpAnyH_take (i := 7) (oi := { dst := some 22, op := Op.fieldAddr 64 (Operand.tmp 5) 1, type := 0, pos := "space.go:42", after := #[], guard := none }) (v := ?v7) rfl (by kernel_rfl) (by kernel_rfl) (by kernel_rfl) (fun _ _ _ h => h) (Or.inl ⟨by rfl, ?hy7⟩) (by assumption) ?_
      case hy7 => intro w hSw; (try dsimp only at hSw); go_simp; (try with_reducible rfl)
      try simp only [Act.put, List.setIfInBounds_toArray, List.set_cons_zero, List.set_cons_succ]
      refine wpAnyH_take (i := 8) (oi := { dst := some 23, op := Op.load 3 (Operand.tmp 22), type := 3, pos := "space.go:42", after := #[{ on := 7, ground := Ground.data }], guard := none }) (v := ?v8) rfl (by kernel_rfl) (by kernel_rfl) (by kernel_rfl) (fun _ _ _ h => h) (Or.inl ⟨by rfl, ?hy8⟩) (by assumption) ?_
      case hy8 => intro w hSw; (try dsimp only at hSw); go_simp; (try with_reducible rfl)
      try simp only [Act.put, List.setIfInBounds_toArray, List.set_cons_zero, List.set_cons_succ]
      refine wpAnyH_take (i := 9) (oi := { dst := some 24, op := Op.fieldAddr 64 (Operand.tmp 5) 2, type := 0, pos := "space.go:42", after := #[], guard := none }) (v := ?v9) rfl (by kernel_rfl) (by kernel_rfl) (by kernel_rfl) (fun _ _ _ h => h) (Or.inl ⟨by rfl, ?hy9⟩) (by assumption) ?_
      case hy9 => intro w hSw; (try dsimp only at hSw); go_simp; (try with_reducible rfl)
      try simp only [Act.put, List.setIfInBounds_toArray, List.set_cons_zero, List.set_cons_succ]
      refine wpAnyH_take (i := 10) (oi := { dst := some 25, op := Op.load 3 (Operand.tmp 24), type := 3, pos := "space.go:42", after := #[{ on := 9, ground := Ground.data }], guard := none }) (v := ?v10) rfl (by kernel_rfl) (by kernel_rfl) (by kernel_rfl) (fun _ _ _ h => h) (Or.inl ⟨by rfl, ?hy10⟩) (by assumption) ?_
      case hy10 => intro w hSw; (try dsimp only at hSw); go_simp; (try with_reducible rfl)
      try simp only [Act.put, List.setIfInBounds_toArray, List.set_cons_zero, List.set_cons_succ]
      refine wpAnyH_take (i := 11) (oi := { dst := some 26, op := Op.fieldAddr 64 (Operand.tmp 5) 3, type := 0, pos := "space.go:42", after := #[], guard := none }) (v := ?v11) rfl (by kernel_rfl) (by kernel_rfl) (by kernel_rfl) (fun _ _ _ h => h) (Or.inl ⟨by rfl, ?hy11⟩) (by assumption) ?_
      case hy11 => intro w hSw; (try dsimp only at hSw); go_simp; (try with_reducible rfl)
      try simp only [Act.put, List.setIfInBounds_toArray, List.set_cons_zero, List.set_cons_succ]
      refine wpAnyH_take (i := 12) (oi := { dst := some 27, op := Op.load 4 (Operand.tmp 26), type := 4, pos := "space.go:42", after := #[{ on := 11, ground := Ground.data }], guard := none }) (v := ?v12) rfl (by kernel_rfl) (by kernel_rfl) (by kernel_rfl) (fun _ _ _ h => h) (Or.inl ⟨by rfl, ?hy12⟩) (by assumption) ?_
      case hy12 => intro w hSw; (try dsimp only at hSw); go_simp; (try with_reducible rfl)
      try simp only [Act.put, List.setIfInBounds_toArray, List.set_cons_zero, List.set_cons_succ]
      refine wpAnyH_take (i := 13) (oi := { dst := some 28, op := Op.fieldAddr 64 (Operand.tmp 5) 4, type := 0, pos := "space.go:42", after := #[], guard := none }) (v := ?v13) rfl (by kernel_rfl) (by kernel_rfl) (by kernel_rfl) (fun _ _ _ h => h) (Or.inl ⟨by rfl, ?hy13⟩) (by assumption) ?_
      case hy13 => intro w hSw; (try dsimp only at hSw); go_simp; (try with_reducible rfl)
      try simp only [Act.put, List.setIfInBounds_toArray, List.set_cons_zero, List.set_cons_succ]
      refine wpAnyH_take (i := 14) (oi := { dst := some 29, op := Op.load 56 (Operand.tmp 28), type := 56, pos := "space.go:42", after := #[{ on := 13, ground := Ground.data }], guard := none }) (v := ?v14) rfl (by kernel_rfl) (by kernel_rfl) (by kernel_rfl) (fun _ _ _ h => h) (Or.inl ⟨by rfl, ?hy14⟩) (by assumption) ?_
      case hy14 => intro w hSw; (try dsimp only at hSw); go_simp; (try with_reducible rfl)
      try simp only [Act.put, List.setIfInBounds_toArray, List.set_cons_zero, List.set_cons_succ]
      refine wpAnyH_take (i := 16) (oi := { dst := some 31, op := Op.fieldAddr 64 (Operand.tmp 5) 5, type := 0, pos := "space.go:42", after := #[], guard := none }) (v := ?v15) rfl (by kernel_rfl) (by kernel_rfl) (by kernel_rfl) (fun _ _ _ h => h) (Or.inl ⟨by rfl, ?hy15⟩) (by assumption) ?_
      case hy15 => intro w hSw; (try dsimp only at hSw); go_simp; (try with_reducible rfl)
      try simp only [Act.put, List.setIfInBounds_toArray, List.set_cons_zero, List.set_cons_succ]
      refine wpAnyH_take (i := 17) (oi := { dst := some 32, op := Op.load 9 (Operand.tmp 31), type := 9, pos := "space.go:42", after := #[{ on := 16, ground := Ground.data }], guard := none }) (v := ?v16) rfl (by kernel_rfl) (by kernel_rfl) (by kernel_rfl) (fun _ _ _ h => h) (Or.inl ⟨by rfl, ?hy16⟩) (by assumption) ?_
      case hy16 => intro w hSw; (try dsimp only at hSw); go_simp; (try with_reducible rfl)
      try simp only [Act.put, List.setIfInBounds_toArray, List.set_cons_zero, List.set_cons_succ]
      refine wpAnyH_ready (rs := [4, 15, 18]) (by kernel_rfl) (by simp) ?_
      refine (AllReadyH.cons (o := { dst := some 19, op := Op.load 104 (Operand.tmp 18), type := 104, pos := "space.go:42", after := #[{ on := 3, ground := Ground.data }], guard := none }) rfl (fun K hK => ?_) (AllReadyH.cons (o := { dst := some 30, op := Op.call { callee := Callee.value (Operand.func 61), args := #[Operand.tmp 29], argTypes := #[56] }, type := 56, pos := "space.go:42", after := #[{ on := 14, ground := Ground.data }], guard := none }) rfl (fun K hK => ?_) (AllReadyH.cons (o := { dst := some 33, op := Op.convert 9 108 (Operand.tmp 32), type := 108, pos := "space.go:42", after := #[{ on := 17, ground := Ground.data }], guard := none }) rfl (fun K hK => ?_) AllReadyH.nil)))
      · go_simp
        refine hK.out _ _ ?_ (fun hH1 => ?_)
        · (try dsimp only); (first | exact HT8.out | exact HT9.out | exact tc6 (HROW.out _ HB.out) | exact tc6 ((heap_alloc_old _ _ (by have := HFY.out.bel.size; simp at this ⊢; omega)).trans (HROW.out _ HFY.out.bel)))
        clear hK K
        clear hH0
        try simp only [Act.put, List.setIfInBounds_toArray, List.set_cons_zero, List.set_cons_succ]
        refine wpAnyH_ready (rs := [15, 18]) (by kernel_rfl) (by simp) ?_
        refine (AllReadyH.cons (o := { dst := some 30, op := Op.call { callee := Callee.value (Operand.func 61), args := #[Operand.tmp 29], argTypes := #[56] }, type := 56, pos := "space.go:42", after := #[{ on := 14, ground := Ground.data }], guard := none }) rfl (fun K hK => ?_) (AllReadyH.cons (o := { dst := some 33, op := Op.convert 9 108 (Operand.tmp 32), type := 108, pos := "space.go:42", after := #[{ on := 17, ground := Ground.data }], guard := none }) rfl (fun K hK => ?_) AllReadyH.nil))
        · go_simp; go_at_call 61; (with_reducible refine (cl_Val _ _ F hFl (HRF.out _ HB.out)).mono ?_); rintro e u5 ⟨fv1, rfl, hf5, hfn5, hb5⟩
          obtain ⟨fa1, fc1, rfl⟩ := hf5.slice
          first | (have HFY := Lib.hid (HY.out.f hf5 hfn5 hb5); have HB := Lib.hid HFY.out.bel) | (have HF := Lib.hid ((Ml.mk HB.out).f hf5 hfn5 hb5); have HB := Lib.hid HF.out.bel)
          clear hf5 hfn5 hb5; dsimp only
          have c0 := (HB.out.cell (p := ⟨w.heap.size + 1, 0, none⟩) HLI.out).trans HC0.out
          refine hK.out _ _ ?_ (fun hH2 => ?_)
          · (try dsimp only); (first | exact HT8.out | exact HT9.out | exact tc6 (HROW.out _ HB.out) | exact tc6 ((heap_alloc_old _ _ (by have := HFY.out.bel.size; simp at this ⊢; omega)).trans (HROW.out _ HFY.out.bel)))
          clear hK K
          clear hH1
          try simp only [Act.put, List.setIfInBounds_toArray, List.set_cons_zero, List.set_cons_succ]
          refine wpAnyH_ready (rs := [18]) (by kernel_rfl) (by simp) ?_
          refine (AllReadyH.cons (o := { dst := some 33, op := Op.convert 9 108 (Operand.tmp 32), type := 108, pos := "space.go:42", after := #[{ on := 17, ground := Ground.data }], guard := none }) rfl (fun K hK => ?_) AllReadyH.nil)
          rw [if_pos (by rfl)]; refine wp_conv B hBl (.tmp 32) (by rfl) (by rfl) ?_
          intro ca cc u7 hy7 hyn7 hb7
          first | (have HFY := Lib.hid (HF.out.y hy7 hyn7 hb7); have HB := Lib.hid HFY.out.bel) | (have HY := Lib.hid ((Ml.mk HB.out).y hy7 hyn7 hb7); have HB := Lib.hid HY.out.bel)
          clear hy7 hyn7 hb7
          have c0 := (HB.out.cell (p := ⟨w.heap.size + 1, 0, none⟩) HLI.out).trans HC0.out
          refine hK.out _ _ ?_ (fun hH3 => ?_)
          · (try dsimp only); (first | exact HT8.out | exact HT9.out | exact tc6 (HROW.out _ HB.out) | exact tc6 ((heap_alloc_old _ _ (by have := HFY.out.bel.size; simp at this ⊢; omega)).trans (HROW.out _ HFY.out.bel)))
          clear hK K
          clear hH2
          try simp only [Act.put, List.setIfInBounds_toArray, List.set_cons_zero, List.set_cons_succ]
          refine wpAnyH_take (i := 19) (oi := { dst := some 34, op := Op.build 110 #[(0, Operand.tmp 21), (1, Operand.tmp 23), (2, Operand.tmp 25), (4, Operand.tmp 27), (5, Operand.tmp 30), (6, Operand.tmp 33)], type := 110, pos := "space.go:42", after := #[{ on := 6, ground := Ground.data }, { on := 8, ground := Ground.data }, { on := 10, ground := Ground.data }, { on := 12, ground := Ground.data }, { on := 15, ground := Ground.data }, { on := 18, ground := Ground.data }], guard := none }) (v := ?v17) rfl (by kernel_rfl) (by kernel_rfl) (by kernel_rfl) (fun _ _ _ h => h) (Or.inl ⟨by rfl, ?hy17⟩) (by assumption) ?_
          case hy17 => intro w hSw; (try dsimp only at hSw); go_simp; (try with_reducible rfl)
          try simp only [Act.put, List.setIfInBounds_toArray, List.set_cons_zero, List.set_cons_succ]
          refine wpAnyH_ready (rs := [20]) (by kernel_rfl) (by simp) ?_
          refine (AllReadyH.cons (o := { dst := some 35, op := Op.buildSlice 104 1 #[(0, Operand.tmp 34)], type := 104, pos := "space.go:42", after := #[{ on := 19, ground := Ground.data }], guard := none }) rfl (fun K hK => ?_) AllReadyH.nil)
          go_simp
          have c0 := fun x => (World.cell?_alloc_lt _ x _ (Nat.lt_of_lt_of_le HLI.out HB.out.size)).trans c0
          refine hK.out _ _ ?_ (fun hH4 => ?_)
          · (try dsimp only); (first | exact HT8.out | exact HT9.out | exact tc6 (HROW.out _ HB.out) | exact tc6 ((heap_alloc_old _ _ (by have := HFY.out.bel.size; simp at this ⊢; omega)).trans (HROW.out _ HFY.out.bel)))
          clear hK K
          clear hH3
          try simp only [Act.put, List.setIfInBounds_toArray, List.set_cons_zero, List.set_cons_succ]
          refine wpAnyH_ready (rs := [21]) (by kernel_rfl) (by simp) ?_
          refine (AllReadyH.cons (o := { dst := some 36, op := Op.call { callee := Callee.builtin Builtin.append, args := #[Operand.tmp 19, Operand.tmp 35], argTypes := #[104, 104] }, type := 104, pos := "space.go:42", after := #[{ on := 4, ground := Ground.data }, { on := 20, ground := Ground.data }, { on := 15, ground := Ground.chain }], guard := none }) rfl (fun K hK => ?_) AllReadyH.nil)
          rw [if_pos (by rfl)]; refine wp_appB (.tmp 19) (.tmp 35) (by rfl) (.slice la bs.length lc) bs.length _ (by rfl) (HLS.out _ (HFY.out.bel.alloc HFY.out.bel.size _)) ⟨_, 0, none⟩ 1 1 (by rfl) (Bd.cells ⟨cls, fmt, hash, 0, fin, .slice fa1 F.length fc1, F, .slice ca B.size cc, bytesOf B⟩) rfl (fun j u hu => by rw [Addr.add_lit, Nat.zero_add]; exact new_cell _ _ _ (by simpa [Bd.cells] using hu)) (one7 _ rfl rfl) (by omega) ?_
          intro v8 u8 own8 g8 e8
          obtain ⟨va, vc, rfl⟩ := own_sl own8
          have HST := Lib.hid (HN.out.step HT.out HFY.out own8 g8 e8)
          have h8 : u8.heap[wr.heap.size]? = some (.cells #[.int .i64 cls, .int .i64 fmt, .int .i64 hash, .bool fin, .slice fa F.length fc, .string B] 64) := (g8.block _ (by have := HFY.out.bel.size; simp at this ⊢; omega) (fun e => HNV.out e.symm)).trans ((heap_alloc_old _ _ (by have := HFY.out.bel.size; simp at this ⊢; omega)).trans (HROW.out _ HFY.out.bel))
          have h8l : u8.heap[w.heap.size + 1]? = some (.cells #[.slice la bs.length lc] 106 (0, 0)) := (g8.block _ (by have := HFY.out.bel.size; have := HLI.out; simp at this ⊢; simp at *; omega) (fun e => HNL.out e.symm)).trans ((heap_alloc_old _ _ (by have := HFY.out.bel.size; have := HLI.out; simp at *; omega)).trans ((HFY.out.bel.block _ HLI.out).trans HLR.out))
          have c8 : u8.cell? ⟨w.heap.size + 1, 0, none⟩ = some (.slice la bs.length lc) := by rw [cell_row _ _ _ _ _ _ h8l]; rfl
          have fz8 := frozen_of_row u8 (w.heap.size + 1) 0 _ _ h8l
          have HT8 := Lib.hid (tc6 h8)
          have HT9 : Hid (tc6P (u8.setCell ⟨w.heap.size + 1, 0, none⟩ (.slice va (bs.length + 1) vc)) wr.heap.size cls fmt hash fin (.slice fa F.length fc) B) := Lib.hid (tc6 ((heap_setCell_other _ _ _ _ HNW.out).trans h8))
          clear h8 h8l own8 g8 e8
          refine hK.out _ _ ?_ (fun hH5 => ?_)
          · (try dsimp only); (first | exact HT8.out | exact HT9.out | exact tc6 (HROW.out _ HB.out) | exact tc6 ((heap_alloc_old _ _ (by have := HFY.out.bel.size; simp at this ⊢; omega)).trans (HROW.out _ HFY.out.bel)))
          clear hK K
          clear hH4
          try simp only [Act.put, List.setIfInBounds_toArray, List.set_cons_zero, List.set_cons_succ]
          refine wpAnyH_take (i := 22) (oi := { dst := some 37, op := Op.nilCheck (Operand.tmp 15), type := 0, pos := "space.go:42", after := #[{ on := 0, ground := Ground.data }, { on := 0, ground := Ground.phase }, { on := 1, ground := Ground.phase }, { on := 2, ground := Ground.phase }, { on := 3, ground := Ground.phase }, { on := 4, ground := Ground.phase }, { on := 5, ground := Ground.phase }, { on := 6, ground := Ground.phase }, { on := 7, ground := Ground.phase }, { on := 8, ground := Ground.phase }, { on := 9, ground := Ground.phase }, { on := 10, ground := Ground.phase }, { on := 11, ground := Ground.phase }, { on := 12, ground := Ground.phase }, { on := 13, ground := Ground.phase }, { on := 14, ground := Ground.phase }, { on := 15, ground := Ground.phase }, { on := 16, ground := Ground.phase }, { on := 17, ground := Ground.phase }, { on := 18, ground := Ground.phase }, { on := 19, ground := Ground.phase }, { on := 20, ground := Ground.phase }, { on := 21, ground := Ground.phase }], guard := none }) (v := ?v18) rfl (by kernel_rfl) (by kernel_rfl) (by kernel_rfl) (fun _ _ _ h => h) (Or.inl ⟨by rfl, ?hy18⟩) (by assumption) ?_
          case hy18 => intro w hSw; (try dsimp only at hSw); go_simp; (try with_reducible rfl)
          try simp only [Act.put, List.setIfInBounds_toArray, List.set_cons_zero, List.set_cons_succ]
          refine wpAnyH_take (i := 23) (oi := { dst := some 38, op := Op.fieldAddr 106 (Operand.tmp 37) 0, type := 0, pos := "space.go:42", after := #[{ on := 22, ground := Ground.data }, { on := 0, ground := Ground.phase }, { on := 1, ground := Ground.phase }, { on := 2, ground := Ground.phase }, { on := 3, ground := Ground.phase }, { on := 4, ground := Ground.phase }, { on := 5, ground := Ground.phase }, { on := 6, ground := Ground.phase }, { on := 7, ground := Ground.phase }, { on := 8, ground := Ground.phase }, { on := 9, ground := Ground.phase }, { on := 10, ground := Ground.phase }, { on := 11, ground := Ground.phase }, { on := 12, ground := Ground.phase }, { on := 13, ground := Ground.phase }, { on := 14, ground := Ground.phase }, { on := 15, ground := Ground.phase }, { on := 16, ground := Ground.phase }, { on := 17, ground := Ground.phase }, { on := 18, ground := Ground.phase }, { on := 19, ground := Ground.phase }, { on := 20, ground := Ground.phase }, { on := 21, ground := Ground.phase }], guard := none }) (v := ?v19) rfl (by kernel_rfl) (by kernel_rfl) (by kernel_rfl) (fun _ _ _ h => h) (Or.inl ⟨by rfl, ?hy19⟩) (by assumption) ?_
          case hy19 => intro w hSw; (try dsimp only at hSw); go_simp; (try with_reducible rfl)
          try simp only [Act.put, List.setIfInBounds_toArray, List.set_cons_zero, List.set_cons_succ]
          refine wpAnyH_ready (rs := [24]) (by kernel_rfl) (by simp) ?_
          refine (AllReadyH.cons (o := { dst := none, op := Op.store 104 (Operand.tmp 38) (Operand.tmp 36), type := 0, pos := "space.go:42", after := #[{ on := 23, ground := Ground.data }, { on := 21, ground := Ground.data }, { on := 21, ground := Ground.chain }, { on := 0, ground := Ground.phase }, { on := 1, ground := Ground.phase }, { on := 2, ground := Ground.phase }, { on := 3, ground := Ground.phase }, { on := 4, ground := Ground.phase }, { on := 5, ground := Ground.phase }, { on := 6, ground := Ground.phase }, { on := 7, ground := Ground.phase }, { on := 8, ground := Ground.phase }, { on := 9, ground := Ground.phase }, { on := 10, ground := Ground.phase }, { on := 11, ground := Ground.phase }, { on := 12, ground := Ground.phase }, { on := 13, ground := Ground.phase }, { on := 14, ground := Ground.phase }, { on := 15, ground := Ground.phase }, { on := 16, ground := Ground.phase }, { on := 17, ground := Ground.phase }, { on := 18, ground := Ground.phase }, { on := 19, ground := Ground.phase }, { on := 20, ground := Ground.phase }, { on := 21, ground := Ground.phase }], guard := none }) rfl (fun K hK => ?_) AllReadyH.nil)
          go_simp
          refine hK.out _ _ ?_ (fun hH6 => ?_)
          · (try dsimp only); (first | exact HT8.out | exact HT9.out | exact tc6 (HROW.out _ HB.out) | exact tc6 ((heap_alloc_old _ _ (by have := HFY.out.bel.size; simp at this ⊢; omega)).trans (HROW.out _ HFY.out.bel)))
          clear hK K
          clear hH5
          try simp only [Act.put, List.setIfInBounds_toArray, List.set_cons_zero, List.set_cons_succ]
          refine wpAnyH_done (by kernel_rfl) ?_ _
          go_wp2_with fail
          exact ⟨⟨bs.length + 1, by omega, by simp, _, _, HST.out⟩, by simp only [intOf]; omega⟩
        · rw [if_pos (by rfl)]; refine wp_conv B hBl (.tmp 32) (by rfl) (by rfl) ?_
          intro ca cc u7 hy7 hyn7 hb7
          first | (have HFY := Lib.hid (HF.out.y hy7 hyn7 hb7); have HB := Lib.hid HFY.out.bel) | (have HY := Lib.hid ((Ml.mk HB.out).y hy7 hyn7 hb7); have HB := Lib.hid HY.out.bel)
          clear hy7 hyn7 hb7
          have c0 := (HB.out.cell (p := ⟨w.heap.size + 1, 0, none⟩) HLI.out).trans HC0.out
          refine hK.out _ _ ?_ (fun hH2 => ?_)
          · (try dsimp only); (first | exact HT8.out | exact HT9.out | exact tc6 (HROW.out _ HB.out) | exact tc6 ((heap_alloc_old _ _ (by have := HFY.out.bel.size; simp at this ⊢; omega)).trans (HROW.out _ HFY.out.bel)))
          clear hK K
          clear hH1
          try simp only [Act.put, List.setIfInBounds_toArray, List.set_cons_zero, List.set_cons_succ]
          refine wpAnyH_ready (rs := [15]) (by kernel_rfl) (by simp) ?_
          refine (AllReadyH.cons (o := { dst := some 30, op := Op.call { callee := Callee.value (Operand.func 61), args := #[Operand.tmp 29], argTypes := #[56] }, type := 56, pos := "space.go:42", after := #[{ on := 14, ground := Ground.data }], guard := none }) rfl (fun K hK => ?_) AllReadyH.nil)
          go_simp; go_at_call 61; (with_reducible refine (cl_Val _ _ F hFl (HRF.out _ HB.out)).mono ?_); rintro e u5 ⟨fv1, rfl, hf5, hfn5, hb5⟩
          obtain ⟨fa1, fc1, rfl⟩ := hf5.slice
          first | (have HFY := Lib.hid (HY.out.f hf5 hfn5 hb5); have HB := Lib.hid HFY.out.bel) | (have HF := Lib.hid ((Ml.mk HB.out).f hf5 hfn5 hb5); have HB := Lib.hid HF.out.bel)
          clear hf5 hfn5 hb5; dsimp only
          have c0 := (HB.out.cell (p := ⟨w.heap.size + 1, 0, none⟩) HLI.out).trans HC0.out
          refine hK.out _ _ ?_ (fun hH3 => ?_)
          · (try dsimp only); (first | exact HT8.out | exact HT9.out | exact tc6 (HROW.out _ HB.out) | exact tc6 ((heap_alloc_old _ _ (by have := HFY.out.bel.size; simp at this ⊢; omega)).trans (HROW.out _ HFY.out.bel)))
          clear hK K
          clear hH2
          try simp only [Act.put, List.setIfInBounds_toArray, List.set_cons_zero, List.set_cons_succ]
          refine wpAnyH_take (i := 19) (oi := { dst := some 34, op := Op.build 110 #[(0, Operand.tmp 21), (1, Operand.tmp 23), (2, Operand.tmp 25), (4, Operand.tmp 27), (5, Operand.tmp 30), (6, Operand.tmp 33)], type := 110, pos := "space.go:42", after := #[{ on := 6, ground := Ground.data }, { on := 8, ground := Ground.data }, { on := 10, ground := Ground.data }, { on := 12, ground := Ground.data }, { on := 15, ground := Ground.data }, { on := 18, ground := Ground.data }], guard := none }) (v := ?v20) rfl (by kernel_rfl) (by kernel_rfl) (by kernel_rfl) (fun _ _ _ h => h) (Or.inl ⟨by rfl, ?hy20⟩) (by assumption) ?_
          case hy20 => intro w hSw; (try dsimp only at hSw); go_simp; (try with_reducible rfl)
          try simp only [Act.put, List.setIfInBounds_toArray, List.set_cons_zero, List.set_cons_succ]
          refine wpAnyH_ready (rs := [20]) (by kernel_rfl) (by simp) ?_
          refine (AllReadyH.cons (o := { dst := some 35, op := Op.buildSlice 104 1 #[(0, Operand.tmp 34)], type := 104, pos := "space.go:42", after := #[{ on := 19, ground := Ground.data }], guard := none }) rfl (fun K hK => ?_) AllReadyH.nil)
          go_simp
          have c0 := fun x => (World.cell?_alloc_lt _ x _ (Nat.lt_of_lt_of_le HLI.out HB.out.size)).trans c0
          refine hK.out _ _ ?_ (fun hH4 => ?_)
          · (try dsimp only); (first | exact HT8.out | exact HT9.out | exact tc6 (HROW.out _ HB.out) | exact tc6 ((heap_alloc_old _ _ (by have := HFY.out.bel.size; simp at this ⊢; omega)).trans (HROW.out _ HFY.out.bel)))
          clear hK K
          clear hH3
          try simp only [Act.put, List.setIfInBounds_toArray, List.set_cons_zero, List.set_cons_succ]
          refine wpAnyH_ready (rs := [21]) (by kernel_rfl) (by simp) ?_
          refine (AllReadyH.cons (o := { dst := some 36, op := Op.call { callee := Callee.builtin Builtin.append, args := #[Operand.tmp 19, Operand.tmp 35], argTypes := #[104, 104] }, type := 104, pos := "space.go:42", after := #[{ on := 4, ground := Ground.data }, { on := 20, ground := Ground.data }, { on := 15, ground := Ground.chain }], guard := none }) rfl (fun K hK => ?_) AllReadyH.nil)
          rw [if_pos (by rfl)]; refine wp_appB (.tmp 19) (.tmp 35) (by rfl) (.slice la bs.length lc) bs.length _ (by rfl) (HLS.out _ (HFY.out.bel.alloc HFY.out.bel.size _)) ⟨_, 0, none⟩ 1 1 (by rfl) (Bd.cells ⟨cls, fmt, hash, 0, fin, .slice fa1 F.length fc1, F, .slice ca B.size cc, bytesOf B⟩) rfl (fun j u hu => by rw [Addr.add_lit, Nat.zero_add]; exact new_cell _ _ _ (by simpa [Bd.cells] using hu)) (one7 _ rfl rfl) (by omega) ?_
          intro v8 u8 own8 g8 e8
          obtain ⟨va, vc, rfl⟩ := own_sl own8
          have HST := Lib.hid (HN.out.step HT.out HFY.out own8 g8 e8)
          have h8 : u8.heap[wr.heap.size]? = some (.cells #[.int .i64 cls, .int .i64 fmt, .int .i64 hash, .bool fin, .slice fa F.length fc, .string B] 64) := (g8.block _ (by have := HFY.out.bel.size; simp at this ⊢; omega) (fun e => HNV.out e.symm)).trans ((heap_alloc_old _ _ (by have := HFY.out.bel.size; simp at this ⊢; omega)).trans (HROW.out _ HFY.out.bel))
          have h8l : u8.heap[w.heap.size + 1]? = some (.cells #[.slice la bs.length lc] 106 (0, 0)) := (g8.block _ (by have := HFY.out.bel.size; have := HLI.out; simp at this ⊢; simp at *; omega) (fun e => HNL.out e.symm)).trans ((heap_alloc_old _ _ (by have := HFY.out.bel.size; have := HLI.out; simp at *; omega)).trans ((HFY.out.bel.block _ HLI.out).trans HLR.out))
          have c8 : u8.cell? ⟨w.heap.size + 1, 0, none⟩ = some (.slice la bs.length lc) := by rw [cell_row _ _ _ _ _ _ h8l]; rfl
          have fz8 := frozen_of_row u8 (w.heap.size + 1) 0 _ _ h8l
          have HT8 := Lib.hid (tc6 h8)
          have HT9 : Hid (tc6P (u8.setCell ⟨w.heap.size + 1, 0, none⟩ (.slice va (bs.length + 1) vc)) wr.heap.size cls fmt hash fin (.slice fa F.length fc) B) := Lib.hid (tc6 ((heap_setCell_other _ _ _ _ HNW.out).trans h8))
          clear h8 h8l own8 g8 e8
          refine hK.out _ _ ?_ (fun hH5 => ?_)
          · (try dsimp only); (first | exact HT8.out | exact HT9.out | exact tc6 (HROW.out _ HB.out) | exact tc6 ((heap_alloc_old _ _ (by have := HFY.out.bel.size; simp at this ⊢; omega)).trans (HROW.out _ HFY.out.bel)))
          clear hK K
          clear hH4
          try simp only [Act.put, List.setIfInBounds_toArray, List.set_cons_zero, List.set_cons_succ]
          refine wpAnyH_take (i := 22) (oi := { dst := some 37, op := Op.nilCheck (Operand.tmp 15), type := 0, pos := "space.go:42", after := #[{ on := 0, ground := Ground.data }, { on := 0, ground := Ground.phase }, { on := 1, ground := Ground.phase }, { on := 2, ground := Ground.phase }, { on := 3, ground := Ground.phase }, { on := 4, ground := Ground.phase }, { on := 5, ground := Ground.phase }, { on := 6, ground := Ground.phase }, { on := 7, ground := Ground.phase }, { on := 8, ground := Ground.phase }, { on := 9, ground := Ground.phase }, { on := 10, ground := Ground.phase }, { on := 11, ground := Ground.phase }, { on := 12, ground := Ground.phase }, { on := 13, ground := Ground.phase }, { on := 14, ground := Ground.phase }, { on := 15, ground := Ground.phase }, { on := 16, ground := Ground.phase }, { on := 17, ground := Ground.phase }, { on := 18, ground := Ground.phase }, { on := 19, ground := Ground.phase }, { on := 20, ground := Ground.phase }, { on := 21, ground := Ground.phase }], guard := none }) (v := ?v21) rfl (by kernel_rfl) (by kernel_rfl) (by kernel_rfl) (fun _ _ _ h => h) (Or.inl ⟨by rfl, ?hy21⟩) (by assumption) ?_
          case hy21 => intro w hSw; (try dsimp only at hSw); go_simp; (try with_reducible rfl)
          try simp only [Act.put, List.setIfInBounds_toArray, List.set_cons_zero, List.set_cons_succ]
          refine wpAnyH_take (i := 23) (oi := { dst := some 38, op := Op.fieldAddr 106 (Operand.tmp 37) 0, type := 0, pos := "space.go:42", after := #[{ on := 22, ground := Ground.data }, { on := 0, ground := Ground.phase }, { on := 1, ground := Ground.phase }, { on := 2, ground := Ground.phase }, { on := 3, ground := Ground.phase }, { on := 4, ground := Ground.phase }, { on := 5, ground := Ground.phase }, { on := 6, ground := Ground.phase }, { on := 7, ground := Ground.phase }, { on := 8, ground := Ground.phase }, { on := 9, ground := Ground.phase }, { on := 10, ground := Ground.phase }, { on := 11, ground := Ground.phase }, { on := 12, ground := Ground.phase }, { on := 13, ground := Ground.phase }, { on := 14, ground := Ground.phase }, { on := 15, ground := Ground.phase }, { on := 16, ground := Ground.phase }, { on := 17, ground := Ground.phase }, { on := 18, ground := Ground.phase }, { on := 19, ground := Ground.phase }, { on := 20, ground := Ground.phase }, { on := 21, ground := Ground.phase }], guard := none }) (v := ?v22) rfl (by kernel_rfl) (by kernel_rfl) (by kernel_rfl) (fun _ _ _ h => h) (Or.inl ⟨by rfl, ?hy22⟩) (by assumption) ?_
          case hy22 => intro w hSw; (try dsimp only at hSw); go_simp; (try with_reducible rfl)
          try simp only [Act.put, List.setIfInBounds_toArray, List.set_cons_zero, List.set_cons_succ]
          refine wpAnyH_ready (rs := [24]) (by kernel_rfl) (by simp) ?_
          refine (AllReadyH.cons (o := { dst := none, op := Op.store 104 (Operand.tmp 38) (Operand.tmp 36), type := 0, pos := "space.go:42", after := #[{ on := 23, ground := Ground.data }, { on := 21, ground := Ground.data }, { on := 21, ground := Ground.chain }, { on := 0, ground := Ground.phase }, { on := 1, ground := Ground.phase }, { on := 2, ground := Ground.phase }, { on := 3, ground := Ground.phase }, { on := 4, ground := Ground.phase }, { on := 5, ground := Ground.phase }, { on := 6, ground := Ground.phase }, { on := 7, ground := Ground.phase }, { on := 8, ground := Ground.phase }, { on := 9, ground := Ground.phase }, { on := 10, ground := Ground.phase }, { on := 11, ground := Ground.phase }, { on := 12, ground := Ground.phase }, { on := 13, ground := Ground.phase }, { on := 14, ground := Ground.phase }, { on := 15, ground := Ground.phase }, { on := 16, ground := Ground.phase }, { on := 17, ground := Ground.phase }, { on := 18, ground := Ground.phase }, { on := 19, ground := Ground.phase }, { on := 20, ground := Ground.phase }, { on := 21, ground := Ground.phase }], guard := none }) rfl (fun K hK => ?_) AllReadyH.nil)
          go_simp
          refine hK.out _ _ ?_ (fun hH6 => ?_)
          · (try dsimp only); (first | exact HT8.out | exact HT9.out | exact tc6 (HROW.out _ HB.out) | exact tc6 ((heap_alloc_old _ _ (by have := HFY.out.bel.size; simp at this ⊢; omega)).trans (HROW.out _ HFY.out.bel)))
          clear hK K
          clear hH5
          try simp only [Act.put, List.setIfInBounds_toArray, List.set_cons_zero, List.set_cons_succ]
          refine wpAnyH_done (by kernel_rfl) ?_ _
          go_wp2_with fail
          exact ⟨⟨bs.length + 1, by omega, by simp, _, _, HST.out⟩, by simp only [intOf]; omega⟩
      · go_simp; go_at_call 61; (with_reducible refine (cl_Val _ _ F hFl (HRF.out _ HB.out)).mono ?_); rintro e u5 ⟨fv1, rfl, hf5, hfn5, hb5⟩
        obtain ⟨fa1, fc1, rfl⟩ := hf5.slice
        first | (have HFY := Lib.hid (HY.out.f hf5 hfn5 hb5); have HB := Lib.hid HFY.out.bel) | (have HF := Lib.hid ((Ml.mk HB.out).f hf5 hfn5 hb5); have HB := Lib.hid HF.out.bel)
        clear hf5 hfn5 hb5; dsimp only
        have c0 := (HB.out.cell (p := ⟨w.heap.size + 1, 0, none⟩) HLI.out).trans HC0.out
        refine hK.out _ _ ?_ (fun hH1 => ?_)
        · (try dsimp only); (first | exact HT8.out | exact HT9.out | exact tc6 (HROW.out _ HB.out) | exact tc6 ((heap_alloc_old _ _ (by have := HFY.out.bel.size; simp at this ⊢; omega)).trans (HROW.out _ HFY.out.bel)))
        clear hK K
        clear hH0
        try simp only [Act.put, List.setIfInBounds_toArray, List.set_cons_zero, List.set_cons_succ]
        refine wpAnyH_ready (rs := [4, 18]) (by kernel_rfl) (by simp) ?_
        refine (AllReadyH.cons (o := { dst := some 19, op := Op.load 104 (Operand.tmp 18), type := 104, pos := "space.go:42", after := #[{ on := 3, ground := Ground.data }], guard := none }) rfl (fun K hK => ?_) (AllReadyH.cons (o := { dst := some 33, op := Op.convert 9 108 (Operand.tmp 32), type := 108, pos := "space.go:42", after := #[{ on := 17, ground := Ground.data }], guard := none }) rfl (fun K hK => ?_) AllReadyH.nil))
        · go_simp
          refine hK.out _ _ ?_ (fun hH2 => ?_)
          · (try dsimp only); (first | exact HT8.out | exact HT9.out | exact tc6 (HROW.out _ HB.out) | exact tc6 ((heap_alloc_old _ _ (by have := HFY.out.bel.size; simp at this ⊢; omega)).trans (HROW.out _ HFY.out.bel)))
          clear hK K
          clear hH1
          try simp only [Act.put, List.setIfInBounds_toArray, List.set_cons_zero, List.set_cons_succ]
          refine wpAnyH_ready (rs := [18]) (by kernel_rfl) (by simp) ?_
          refine (AllReadyH.cons (o := { dst := some 33, op := Op.convert 9 108 (Operand.tmp 32), type := 108, pos := "space.go:42", after := #[{ on := 17, ground := Ground.data }], guard := none }) rfl (fun K hK => ?_) AllReadyH.nil)
          rw [if_pos (by rfl)]; refine wp_conv B hBl (.tmp 32) (by rfl) (by rfl) ?_
          intro ca cc u7 hy7 hyn7 hb7
          first | (have HFY := Lib.hid (HF.out.y hy7 hyn7 hb7); have HB := Lib.hid HFY.out.bel) | (have HY := Lib.hid ((Ml.mk HB.out).y hy7 hyn7 hb7); have HB := Lib.hid HY.out.bel)
          clear hy7 hyn7 hb7
          have c0 := (HB.out.cell (p := ⟨w.heap.size + 1, 0, none⟩) HLI.out).trans HC0.out
          refine hK.out _ _ ?_ (fun hH3 => ?_)
          · (try dsimp only); (first | exact HT8.out | exact HT9.out | exact tc6 (HROW.out _ HB.out) | exact tc6 ((heap_alloc_old _ _ (by have := HFY.out.bel.size; simp at this ⊢; omega)).trans (HROW.out _ HFY.out.bel)))
          clear hK K
          clear hH2
          try simp only [Act.put, List.setIfInBounds_toArray, List.set_cons_zero, List.set_cons_succ]
          refine wpAnyH_take (i := 19) (oi := { dst := some 34, op := Op.build 110 #[(0, Operand.tmp 21), (1, Operand.tmp 23), (2, Operand.tmp 25), (4, Operand.tmp 27), (5, Operand.tmp 30), (6, Operand.tmp 33)], type := 110, pos := "space.go:42", after := #[{ on := 6, ground := Ground.data }, { on := 8, ground := Ground.data }, { on := 10, ground := Ground.data }, { on := 12, ground := Ground.data }, { on := 15, ground := Ground.data }, { on := 18, ground := Ground.data }], guard := none }) (v := ?v23) rfl (by kernel_rfl) (by kernel_rfl) (by kernel_rfl) (fun _ _ _ h => h) (Or.inl ⟨by rfl, ?hy23⟩) (by assumption) ?_
          case hy23 => intro w hSw; (try dsimp only at hSw); go_simp; (try with_reducible rfl)
          try simp only [Act.put, List.setIfInBounds_toArray, List.set_cons_zero, List.set_cons_succ]
          refine wpAnyH_ready (rs := [20]) (by kernel_rfl) (by simp) ?_
          refine (AllReadyH.cons (o := { dst := some 35, op := Op.buildSlice 104 1 #[(0, Operand.tmp 34)], type := 104, pos := "space.go:42", after := #[{ on := 19, ground := Ground.data }], guard := none }) rfl (fun K hK => ?_) AllReadyH.nil)
          go_simp
          have c0 := fun x => (World.cell?_alloc_lt _ x _ (Nat.lt_of_lt_of_le HLI.out HB.out.size)).trans c0
          refine hK.out _ _ ?_ (fun hH4 => ?_)
          · (try dsimp only); (first | exact HT8.out | exact HT9.out | exact tc6 (HROW.out _ HB.out) | exact tc6 ((heap_alloc_old _ _ (by have := HFY.out.bel.size; simp at this ⊢; omega)).trans (HROW.out _ HFY.out.bel)))
          clear hK K
          clear hH3
          try simp only [Act.put, List.setIfInBounds_toArray, List.set_cons_zero, List.set_cons_succ]
          refine wpAnyH_ready (rs := [21]) (by kernel_rfl) (by simp) ?_
          refine (AllReadyH.cons (o := { dst := some 36, op := Op.call { callee := Callee.builtin Builtin.append, args := #[Operand.tmp 19, Operand.tmp 35], argTypes := #[104, 104] }, type := 104, pos := "space.go:42", after := #[{ on := 4, ground := Ground.data }, { on := 20, ground := Ground.data }, { on := 15, ground := Ground.chain }], guard := none }) rfl (fun K hK => ?_) AllReadyH.nil)
          rw [if_pos (by rfl)]; refine wp_appB (.tmp 19) (.tmp 35) (by rfl) (.slice la bs.length lc) bs.length _ (by rfl) (HLS.out _ (HFY.out.bel.alloc HFY.out.bel.size _)) ⟨_, 0, none⟩ 1 1 (by rfl) (Bd.cells ⟨cls, fmt, hash, 0, fin, .slice fa1 F.length fc1, F, .slice ca B.size cc, bytesOf B⟩) rfl (fun j u hu => by rw [Addr.add_lit, Nat.zero_add]; exact new_cell _ _ _ (by simpa [Bd.cells] using hu)) (one7 _ rfl rfl) (by omega) ?_
          intro v8 u8 own8 g8 e8
          obtain ⟨va, vc, rfl⟩ := own_sl own8
          have HST := Lib.hid (HN.out.step HT.out HFY.out own8 g8 e8)
          have h8 : u8.heap[wr.heap.size]? = some (.cells #[.int .i64 cls, .int .i64 fmt, .int .i64 hash, .bool fin, .slice fa F.length fc, .string B] 64) := (g8.block _ (by have := HFY.out.bel.size; simp at this ⊢; omega) (fun e => HNV.out e.symm)).trans ((heap_alloc_old _ _ (by have := HFY.out.bel.size; simp at this ⊢; omega)).trans (HROW.out _ HFY.out.bel))
          have h8l : u8.heap[w.heap.size + 1]? = some (.cells #[.slice la bs.length lc] 106 (0, 0)) := (g8.block _ (by have := HFY.out.bel.size; have := HLI.out; simp at this ⊢; simp at *; omega) (fun e => HNL.out e.symm)).trans ((heap_alloc_old _ _ (by have := HFY.out.bel.size; have := HLI.out; simp at *; omega)).trans ((HFY.out.bel.block _ HLI.out).trans HLR.out))
          have c8 : u8.cell? ⟨w.heap.size + 1, 0, none⟩ = some (.slice la bs.length lc) := by rw [cell_row _ _ _ _ _ _ h8l]; rfl
          have fz8 := frozen_of_row u8 (w.heap.size + 1) 0 _ _ h8l
          have HT8 := Lib.hid (tc6 h8)
          have HT9 : Hid (tc6P (u8.setCell ⟨w.heap.size + 1, 0, none⟩ (.slice va (bs.length + 1) vc)) wr.heap.size cls fmt hash fin (.slice fa F.length fc) B) := Lib.hid (tc6 ((heap_setCell_other _ _ _ _ HNW.out).trans h8))
          clear h8 h8l own8 g8 e8
          refine hK.out _ _ ?_ (fun hH5 => ?_)
          · (try dsimp only); (first | exact HT8.out | exact HT9.out | exact tc6 (HROW.out _ HB.out) | exact tc6 ((heap_alloc_old _ _ (by have := HFY.out.bel.size; simp at this ⊢; omega)).trans (HROW.out _ HFY.out.bel)))
          clear hK K
          clear hH4
          try simp only [Act.put, List.setIfInBounds_toArray, List.set_cons_zero, List.set_cons_succ]
          refine wpAnyH_take (i := 22) (oi := { dst := some 37, op := Op.nilCheck (Operand.tmp 15), type := 0, pos := "space.go:42", after := #[{ on := 0, ground := Ground.data }, { on := 0, ground := Ground.phase }, { on := 1, ground := Ground.phase }, { on := 2, ground := Ground.phase }, { on := 3, ground := Ground.phase }, { on := 4, ground := Ground.phase }, { on := 5, ground := Ground.phase }, { on := 6, ground := Ground.phase }, { on := 7, ground := Ground.phase }, { on := 8, ground := Ground.phase }, { on := 9, ground := Ground.phase }, { on := 10, ground := Ground.phase }, { on := 11, ground := Ground.phase }, { on := 12, ground := Ground.phase }, { on := 13, ground := Ground.phase }, { on := 14, ground := Ground.phase }, { on := 15, ground := Ground.phase }, { on := 16, ground := Ground.phase }, { on := 17, ground := Ground.phase }, { on := 18, ground := Ground.phase }, { on := 19, ground := Ground.phase }, { on := 20, ground := Ground.phase }, { on := 21, ground := Ground.phase }], guard := none }) (v := ?v24) rfl (by kernel_rfl) (by kernel_rfl) (by kernel_rfl) (fun _ _ _ h => h) (Or.inl ⟨by rfl, ?hy24⟩) (by assumption) ?_
          case hy24 => intro w hSw; (try dsimp only at hSw); go_simp; (try with_reducible rfl)
          try simp only [Act.put, List.setIfInBounds_toArray, List.set_cons_zero, List.set_cons_succ]
          refine wpAnyH_take (i := 23) (oi := { dst := some 38, op := Op.fieldAddr 106 (Operand.tmp 37) 0, type := 0, pos := "space.go:42", after := #[{ on := 22, ground := Ground.data }, { on := 0, ground := Ground.phase }, { on := 1, ground := Ground.phase }, { on := 2, ground := Ground.phase }, { on := 3, ground := Ground.phase }, { on := 4, ground := Ground.phase }, { on := 5, ground := Ground.phase }, { on := 6, ground := Ground.phase }, { on := 7, ground := Ground.phase }, { on := 8, ground := Ground.phase }, { on := 9, ground := Ground.phase }, { on := 10, ground := Ground.phase }, { on := 11, ground := Ground.phase }, { on := 12, ground := Ground.phase }, { on := 13, ground := Ground.phase }, { on := 14, ground := Ground.phase }, { on := 15, ground := Ground.phase }, { on := 16, ground := Ground.phase }, { on := 17, ground := Ground.phase }, { on := 18, ground := Ground.phase }, { on := 19, ground := Ground.phase }, { on := 20, ground := Ground.phase }, { on := 21, ground := Ground.phase }], guard := none }) (v := ?v25) rfl (by kernel_rfl) (by kernel_rfl) (by kernel_rfl) (fun _ _ _ h => h) (Or.inl ⟨by rfl, ?hy25⟩) (by assumption) ?_
          case hy25 => intro w hSw; (try dsimp only at hSw); go_simp; (try with_reducible rfl)
          try simp only [Act.put, List.setIfInBounds_toArray, List.set_cons_zero, List.set_cons_succ]
          refine wpAnyH_ready (rs := [24]) (by kernel_rfl) (by simp) ?_
          refine (AllReadyH.cons (o := { dst := none, op := Op.store 104 (Operand.tmp 38) (Operand.tmp 36), type := 0, pos := "space.go:42", after := #[{ on := 23, ground := Ground.data }, { on := 21, ground := Ground.data }, { on := 21, ground := Ground.chain }, { on := 0, ground := Ground.phase }, { on := 1, ground := Ground.phase }, { on := 2, ground := Ground.phase }, { on := 3, ground := Ground.phase }, { on := 4, ground := Ground.phase }, { on := 5, ground := Ground.phase }, { on := 6, ground := Ground.phase }, { on := 7, ground := Ground.phase }, { on := 8, ground := Ground.phase }, { on := 9, ground := Ground.phase }, { on := 10, ground := Ground.phase }, { on := 11, ground := Ground.phase }, { on := 12, ground := Ground.phase }, { on := 13, ground := Ground.phase }, { on := 14, ground := Ground.phase }, { on := 15, ground := Ground.phase }, { on := 16, ground := Ground.phase }, { on := 17, ground := Ground.phase }, { on := 18, ground := Ground.phase }, { on := 19, ground := Ground.phase }, { on := 20, ground := Ground.phase }, { on := 21, ground := Ground.phase }], guard := none }) rfl (fun K hK => ?_) AllReadyH.nil)
          go_simp
          refine hK.out _ _ ?_ (fun hH6 => ?_)
          · (try dsimp only); (first | exact HT8.out | exact HT9.out | exact tc6 (HROW.out _ HB.out) | exact tc6 ((heap_alloc_old _ _ (by have := HFY.out.bel.size; simp at this ⊢; omega)).trans (HROW.out _ HFY.out.bel)))
          clear hK K
          clear hH5
          try simp only [Act.put, List.setIfInBounds_toArray, List.set_cons_zero, List.set_cons_succ]
          refine wpAnyH_done (by kernel_rfl) ?_ _
          go_wp2_with fail
          exact ⟨⟨bs.length + 1, by omega, by simp, _, _, HST.out⟩, by simp only [intOf]; omega⟩
        · rw [if_pos (by rfl)]; refine wp_conv B hBl (.tmp 32) (by rfl) (by rfl) ?_
          intro ca cc u7 hy7 hyn7 hb7
          first | (have HFY := Lib.hid (HF.out.y hy7 hyn7 hb7); have HB := Lib.hid HFY.out.bel) | (have HY := Lib.hid ((Ml.mk HB.out).y hy7 hyn7 hb7); have HB := Lib.hid HY.out.bel)
          clear hy7 hyn7 hb7
          have c0 := (HB.out.cell (p := ⟨w.heap.size + 1, 0, none⟩) HLI.out).trans HC0.out
          refine hK.out _ _ ?_ (fun hH2 => ?_)
          · (try dsimp only); (first | exact HT8.out | exact HT9.out | exact tc6 (HROW.out _ HB.out) | exact tc6 ((heap_alloc_old _ _ (by have := HFY.out.bel.size; simp at this ⊢; omega)).trans (HROW.out _ HFY.out.bel)))
          clear hK K
          clear hH1
          try simp only [Act.put, List.setIfInBounds_toArray, List.set_cons_zero, List.set_cons_succ]
          refine wpAnyH_take (i := 19) (oi := { dst := some 34, op := Op.build 110 #[(0, Operand.tmp 21), (1, Operand.tmp 23), (2, Operand.tmp 25), (4, Operand.tmp 27), (5, Operand.tmp 30), (6, Operand.tmp 33)], type := 110, pos := "space.go:42", after := #[{ on := 6, ground := Ground.data }, { on := 8, ground := Ground.data }, { on := 10, ground := Ground.data }, { on := 12, ground := Ground.data }, { on := 15, ground := Ground.data }, { on := 18, ground := Ground.data }], guard := none }) (v := ?v26) rfl (by kernel_rfl) (by kernel_rfl) (by kernel_rfl) (fun _ _ _ h => h) (Or.inl ⟨by rfl, ?hy26⟩) (by assumption) ?_
          case hy26 => intro w hSw; (try dsimp only at hSw); go_simp; (try with_reducible rfl)
          try simp only [Act.put, List.setIfInBounds_toArray, List.set_cons_zero, List.set_cons_succ]
          refine wpAnyH_ready (rs := [4, 20]) (by kernel_rfl) (by simp) ?_
          refine (AllReadyH.cons (o := { dst := some 19, op := Op.load 104 (Operand.tmp 18), type := 104, pos := "space.go:42", after := #[{ on := 3, ground := Ground.data }], guard := none }) rfl (fun K hK => ?_) (AllReadyH.cons (o := { dst := some 35, op := Op.buildSlice 104 1 #[(0, Operand.tmp 34)], type := 104, pos := "space.go:42", after := #[{ on := 19, ground := Ground.data }], guard := none }) rfl (fun K hK => ?_) AllReadyH.nil))
          · go_simp
            refine hK.out _ _ ?_ (fun hH3 => ?_)
            · (try dsimp only); (first | exact HT8.out | exact HT9.out | exact tc6 (HROW.out _ HB.out) | exact tc6 ((heap_alloc_old _ _ (by have := HFY.out.bel.size; simp at this ⊢; omega)).trans (HROW.out _ HFY.out.bel)))
            clear hK K
            clear hH2
            try simp only [Act.put, List.setIfInBounds_toArray, List.set_cons_zero, List.set_cons_succ]
            refine wpAnyH_ready (rs := [20]) (by kernel_rfl) (by simp) ?_
            refine (AllReadyH.cons (o := { dst := some 35, op := Op.buildSlice 104 1 #[(0, Operand.tmp 34)], type := 104, pos := "space.go:42", after := #[{ on := 19, ground := Ground.data }], guard := none }) rfl (fun K hK => ?_) AllReadyH.nil)
            go_simp
            have c0 := fun x => (World.cell?_alloc_lt _ x _ (Nat.lt_of_lt_of_le HLI.out HB.out.size)).trans c0
            refine hK.out _ _ ?_ (fun hH4 => ?_)
            · (try dsimp only); (first | exact HT8.out | exact HT9.out | exact tc6 (HROW.out _ HB.out) | exact tc6 ((heap_alloc_old _ _ (by have := HFY.out.bel.size; simp at this ⊢; omega)).trans (HROW.out _ HFY.out.bel)))
            clear hK K
            clear hH3
            try simp only [Act.put, List.setIfInBounds_toArray, List.set_cons_zero, List.set_cons_succ]
            refine wpAnyH_ready (rs := [21]) (by kernel_rfl) (by simp) ?_
            refine (AllReadyH.cons (o := { dst := some 36, op := Op.call { callee := Callee.builtin Builtin.append, args := #[Operand.tmp 19, Operand.tmp 35], argTypes := #[104, 104] }, type := 104, pos := "space.go:42", after := #[{ on := 4, ground := Ground.data }, { on := 20, ground := Ground.data }, { on := 15, ground := Ground.chain }], guard := none }) rfl (fun K hK => ?_) AllReadyH.nil)
            rw [if_pos (by rfl)]; refine wp_appB (.tmp 19) (.tmp 35) (by rfl) (.slice la bs.length lc) bs.length _ (by rfl) (HLS.out _ (HFY.out.bel.alloc HFY.out.bel.size _)) ⟨_, 0, none⟩ 1 1 (by rfl) (Bd.cells ⟨cls, fmt, hash, 0, fin, .slice fa1 F.length fc1, F, .slice ca B.size cc, bytesOf B⟩) rfl (fun j u hu => by rw [Addr.add_lit, Nat.zero_add]; exact new_cell _ _ _ (by simpa [Bd.cells] using hu)) (one7 _ rfl rfl) (by omega) ?_
            intro v8 u8 own8 g8 e8
            obtain ⟨va, vc, rfl⟩ := own_sl own8
            have HST := Lib.hid (HN.out.step HT.out HFY.out own8 g8 e8)
            have h8 : u8.heap[wr.heap.size]? = some (.cells #[.int .i64 cls, .int .i64 fmt, .int .i64 hash, .bool fin, .slice fa F.length fc, .string B] 64) := (g8.block _ (by have := HFY.out.bel.size; simp at this ⊢; omega) (fun e => HNV.out e.symm)).trans ((heap_alloc_old _ _ (by have := HFY.out.bel.size; simp at this ⊢; omega)).trans (HROW.out _ HFY.out.bel))
            have h8l : u8.heap[w.heap.size + 1]? = some (.cells #[.slice la bs.length lc] 106 (0, 0)) := (g8.block _ (by have := HFY.out.bel.size; have := HLI.out; simp at this ⊢; simp at *; omega) (fun e => HNL.out e.symm)).trans ((heap_alloc_old _ _ (by have := HFY.out.bel.size; have := HLI.out; simp at *; omega)).trans ((HFY.out.bel.block _ HLI.out).trans HLR.out))
            have c8 : u8.cell? ⟨w.heap.size + 1, 0, none⟩ = some (.slice la bs.length lc) := by rw [cell_row _ _ _ _ _ _ h8l]; rfl
            have fz8 := frozen_of_row u8 (w.heap.size + 1) 0 _ _ h8l
            have HT8 := Lib.hid (tc6 h8)
            have HT9 : Hid (tc6P (u8.setCell ⟨w.heap.size + 1, 0, none⟩ (.slice va (bs.length + 1) vc)) wr.heap.size cls fmt hash fin (.slice fa F.length fc) B) := Lib.hid (tc6 ((heap_setCell_other _ _ _ _ HNW.out).trans h8))
            clear h8 h8l own8 g8 e8
            refine hK.out _ _ ?_ (fun hH5 => ?_)
            · (try dsimp only); (first | exact HT8.out | exact HT9.out | exact tc6 (HROW.out _ HB.out) | exact tc6 ((heap_alloc_old _ _ (by have := HFY.out.bel.size; simp at this ⊢; omega)).trans (HROW.out _ HFY.out.bel)))
            clear hK K
            clear hH4
            try simp only [Act.put, List.setIfInBounds_toArray, List.set_cons_zero, List.set_cons_succ]
            refine wpAnyH_take (i := 22) (oi := { dst := some 37, op := Op.nilCheck (Operand.tmp 15), type := 0, pos := "space.go:42", after := #[{ on := 0, ground := Ground.data }, { on := 0, ground := Ground.phase }, { on := 1, ground := Ground.phase }, { on := 2, ground := Ground.phase }, { on := 3, ground := Ground.phase }, { on := 4, ground := Ground.phase }, { on := 5, ground := Ground.phase }, { on := 6, ground := Ground.phase }, { on := 7, ground := Ground.phase }, { on := 8, ground := Ground.phase }, { on := 9, ground := Ground.phase }, { on := 10, ground := Ground.phase }, { on := 11, ground := Ground.phase }, { on := 12, ground := Ground.phase }, { on := 13, ground := Ground.phase }, { on := 14, ground := Ground.phase }, { on := 15, ground := Ground.phase }, { on := 16, ground := Ground.phase }, { on := 17, ground := Ground.phase }, { on := 18, ground := Ground.phase }, { on := 19, ground := Ground.phase }, { on := 20, ground := Ground.phase }, { on := 21, ground := Ground.phase }], guard := none }) (v := ?v27) rfl (by kernel_rfl) (by kernel_rfl) (by kernel_rfl) (fun _ _ _ h => h) (Or.inl ⟨by rfl, ?hy27⟩) (by assumption) ?_
            case hy27 => intro w hSw; (try dsimp only at hSw); go_simp; (try with_reducible rfl)
            try simp only [Act.put, List.setIfInBounds_toArray, List.set_cons_zero, List.set_cons_succ]
            refine wpAnyH_take (i := 23) (oi := { dst := some 38, op := Op.fieldAddr 106 (Operand.tmp 37) 0, type := 0, pos := "space.go:42", after := #[{ on := 22, ground := Ground.data }, { on := 0, ground := Ground.phase }, { on := 1, ground := Ground.phase }, { on := 2, ground := Ground.phase }, { on := 3, ground := Ground.phase }, { on := 4, ground := Ground.phase }, { on := 5, ground := Ground.phase }, { on := 6, ground := Ground.phase }, { on := 7, ground := Ground.phase }, { on := 8, ground := Ground.phase }, { on := 9, ground := Ground.phase }, { on := 10, ground := Ground.phase }, { on := 11, ground := Ground.phase }, { on := 12, ground := Ground.phase }, { on := 13, ground := Ground.phase }, { on := 14, ground := Ground.phase }, { on := 15, ground := Ground.phase }, { on := 16, ground := Ground.phase }, { on := 17, ground := Ground.phase }, { on := 18, ground := Ground.phase }, { on := 19, ground := Ground.phase }, { on := 20, ground := Ground.phase }, { on := 21, ground := Ground.phase }], guard := none }) (v := ?v28) rfl (by kernel_rfl) (by kernel_rfl) (by kernel_rfl) (fun _ _ _ h => h) (Or.inl ⟨by rfl, ?hy28⟩) (by assumption) ?_
            case hy28 => intro w hSw; (try dsimp only at hSw); go_simp; (try with_reducible rfl)
            try simp only [Act.put, List.setIfInBounds_toArray, List.set_cons_zero, List.set_cons_succ]
            refine wpAnyH_ready (rs := [24]) (by kernel_rfl) (by simp) ?_
            refine (AllReadyH.cons (o := { dst := none, op := Op.store 104 (Operand.tmp 38) (Operand.tmp 36), type := 0, pos := "space.go:42", after := #[{ on := 23, ground := Ground.data }, { on := 21, ground := Ground.data }, { on := 21, ground := Ground.chain }, { on := 0, ground := Ground.phase }, { on := 1, ground := Ground.phase }, { on := 2, ground := Ground.phase }, { on := 3, ground := Ground.phase }, { on := 4, ground := Ground.phase }, { on := 5, ground := Ground.phase }, { on := 6, ground := Ground.phase }, { on := 7, ground := Ground.phase }, { on := 8, ground := Ground.phase }, { on := 9, ground := Ground.phase }, { on := 10, ground := Ground.phase }, { on := 11, ground := Ground.phase }, { on := 12, ground := Ground.phase }, { on := 13, ground := Ground.phase }, { on := 14, ground := Ground.phase }, { on := 15, ground := Ground.phase }, { on := 16, ground := Ground.phase }, { on := 17, ground := Ground.phase }, { on := 18, ground := Ground.phase }, { on := 19, ground := Ground.phase }, { on := 20, ground := Ground.phase }, { on := 21, ground := Ground.phase }], guard := none }) rfl (fun K hK => ?_) AllReadyH.nil)
            go_simp
            refine hK.out _ _ ?_ (fun hH6 => ?_)
            · (try dsimp only); (first | exact HT8.out | exact HT9.out | exact tc6 (HROW.out _ HB.out) | exact tc6 ((heap_alloc_old _ _ (by have := HFY.out.bel.size; simp at this ⊢; omega)).trans (HROW.out _ HFY.out.bel)))
            clear hK K
            clear hH5
            try simp only [Act.put, List.setIfInBounds_toArray, List.set_cons_zero, List.set_cons_succ]
            refine wpAnyH_done (by kernel_rfl) ?_ _
            go_wp2_with fail
            exact ⟨⟨bs.length + 1, by omega, by simp, _, _, HST.out⟩, by simp only [intOf]; omega⟩
          · go_simp
            have c0 := fun x => (World.cell?_alloc_lt _ x _ (Nat.lt_of_lt_of_le HLI.out HB.out.size)).trans c0
            refine hK.out _ _ ?_ (fun hH3 => ?_)
            · (try dsimp only); (first | exact HT8.out | exact HT9.out | exact tc6 (HROW.out _ HB.out) | exact tc6 ((heap_alloc_old _ _ (by have := HFY.out.bel.size; simp at this ⊢; omega)).trans (HROW.out _ HFY.out.bel)))
            clear hK K
            clear hH2
            try simp only [Act.put, List.setIfInBounds_toArray, List.set_cons_zero, List.set_cons_succ]
            refine wpAnyH_ready (rs := [4]) (by kernel_rfl) (by simp) ?_
            refine (AllReadyH.cons (o := { dst := some 19, op := Op.load 104 (Operand.tmp 18), type := 104, pos := "space.go:42", after := #[{ on := 3, ground := Ground.data }], guard := none }) rfl (fun K hK => ?_) AllReadyH.nil)
            go_simp
            refine hK.out _ _ ?_ (fun hH4 => ?_)
            · (try dsimp only); (first | exact HT8.out | exact HT9.out | exact tc6 (HROW.out _ HB.out) | exact tc6 ((heap_alloc_old _ _ (by have := HFY.out.bel.size; simp at this ⊢; omega)).trans (HROW.out _ HFY.out.bel)))
            clear hK K
            clear hH3
            try simp only [Act.put, List.setIfInBounds_toArray, List.set_cons_zero, List.set_cons_succ]
            refine wpAnyH_ready (rs := [21]) (by kernel_rfl) (by simp) ?_
            refine (AllReadyH.cons (o := { dst := some 36, op := Op.call { callee := Callee.builtin Builtin.append, args := #[Operand.tmp 19, Operand.tmp 35], argTypes := #[104, 104] }, type := 104, pos := "space.go:42", after := #[{ on := 4, ground := Ground.data }, { on := 20, ground := Ground.data }, { on := 15, ground := Ground.chain }], guard := none }) rfl (fun K hK => ?_) AllReadyH.nil)
            rw [if_pos (by rfl)]; refine wp_appB (.tmp 19) (.tmp 35) (by rfl) (.slice la bs.length lc) bs.length _ (by rfl) (HLS.out _ (HFY.out.bel.alloc HFY.out.bel.size _)) ⟨_, 0, none⟩ 1 1 (by rfl) (Bd.cells ⟨cls, fmt, hash, 0, fin, .slice fa1 F.length fc1, F, .slice ca B.size cc, bytesOf B⟩) rfl (fun j u hu => by rw [Addr.add_lit, Nat.zero_add]; exact new_cell _ _ _ (by simpa [Bd.cells] using hu)) (one7 _ rfl rfl) (by omega) ?_
            intro v8 u8 own8 g8 e8
            obtain ⟨va, vc, rfl⟩ := own_sl own8
            have HST := Lib.hid (HN.out.step HT.out HFY.out own8 g8 e8)
            have h8 : u8.heap[wr.heap.size]? = some (.cells #[.int .i64 cls, .int .i64 fmt, .int .i64 hash, .bool fin, .slice fa F.length fc, .string B] 64) := (g8.block _ (by have := HFY.out.bel.size; simp at this ⊢; omega) (fun e => HNV.out e.symm)).trans ((heap_alloc_old _ _ (by have := HFY.out.bel.size; simp at this ⊢; omega)).trans (HROW.out _ HFY.out.bel))
            have h8l : u8.heap[w.heap.size + 1]? = some (.cells #[.slice la bs.length lc] 106 (0, 0)) := (g8.block _ (by have := HFY.out.bel.size; have := HLI.out; simp at this ⊢; simp at *; omega) (fun e => HNL.out e.symm)).trans ((heap_alloc_old _ _ (by have := HFY.out.bel.size; have := HLI.out; simp at *; omega)).trans ((HFY.out.bel.block _ HLI.out).trans HLR.out))
            have c8 : u8.cell? ⟨w.heap.size + 1, 0, none⟩ = some (.slice la bs.length lc) := by rw [cell_row _ _ _ _ _ _ h8l]; rfl
            have fz8 := frozen_of_row u8 (w.heap.size + 1) 0 _ _ h8l
            have HT8 := Lib.hid (tc6 h8)
            have HT9 : Hid (tc6P (u8.setCell ⟨w.heap.size + 1, 0, none⟩ (.slice va (bs.length + 1) vc)) wr.heap.size cls fmt hash fin (.slice fa F.length fc) B) := Lib.hid (tc6 ((heap_setCell_other _ _ _ _ HNW.out).trans h8))
            clear h8 h8l own8 g8 e8
            refine hK.out _ _ ?_ (fun hH5 => ?_)
            · (try dsimp only); (first | exact HT8.out | exact HT9.out | exact tc6 (HROW.out _ HB.out) | exact tc6 ((heap_alloc_old _ _ (by have := HFY.out.bel.size; simp at this ⊢; omega)).trans (HROW.out _ HFY.out.bel)))
            clear hK K
            clear hH4
            try simp only [Act.put, List.setIfInBounds_toArray, List.set_cons_zero, List.set_cons_succ]
            refine wpAnyH_take (i := 22) (oi := { dst := some 37, op := Op.nilCheck (Operand.tmp 15), type := 0, pos := "space.go:42", after := #[{ on := 0, ground := Ground.data }, { on := 0, ground := Ground.phase }, { on := 1, ground := Ground.phase }, { on := 2, ground := Ground.phase }, { on := 3, ground := Ground.phase }, { on := 4, ground := Ground.phase }, { on := 5, ground := Ground.phase }, { on := 6, ground := Ground.phase }, { on := 7, ground := Ground.phase }, { on := 8, ground := Ground.phase }, { on := 9, ground := Ground.phase }, { on := 10, ground := Ground.phase }, { on := 11, ground := Ground.phase }, { on := 12, ground := Ground.phase }, { on := 13, ground := Ground.phase }, { on := 14, ground := Ground.phase }, { on := 15, ground := Ground.phase }, { on := 16, ground := Ground.phase }, { on := 17, ground := Ground.phase }, { on := 18, ground := Ground.phase }, { on := 19, ground := Ground.phase }, { on := 20, ground := Ground.phase }, { on := 21, ground := Ground.phase }], guard := none }) (v := ?v29) rfl (by kernel_rfl) (by kernel_rfl) (by kernel_rfl) (fun _ _ _ h => h) (Or.inl ⟨by rfl, ?hy29⟩) (by assumption) ?_
            case hy29 => intro w hSw; (try dsimp only at hSw); go_simp; (try with_reducible rfl)
            try simp only [Act.put, List.setIfInBounds_toArray, List.set_cons_zero, List.set_cons_succ]
            refine wpAnyH_take (i := 23) (oi := { dst := some 38, op := Op.fieldAddr 106 (Operand.tmp 37) 0, type := 0, pos := "space.go:42", after := #[{ on := 22, ground := Ground.data }, { on := 0, ground := Ground.phase }, { on := 1, ground := Ground.phase }, { on := 2, ground := Ground.phase }, { on := 3, ground := Ground.phase }, { on := 4, ground := Ground.phase }, { on := 5, ground := Ground.phase }, { on := 6, ground := Ground.phase }, { on := 7, ground := Ground.phase }, { on := 8, ground := Ground.phase }, { on := 9, ground := Ground.phase }, { on := 10, ground := Ground.phase }, { on := 11, ground := Ground.phase }, { on := 12, ground := Ground.phase }, { on := 13, ground := Ground.phase }, { on := 14, ground := Ground.phase }, { on := 15, ground := Ground.phase }, { on := 16, ground := Ground.phase }, { on := 17, ground := Ground.phase }, { on := 18, ground := Ground.phase }, { on := 19, ground := Ground.phase }, { on := 20, ground := Ground.phase }, { on := 21, ground := Ground.phase }], guard := none }) (v := ?v30) rfl (by kernel_rfl) (by kernel_rfl) (by kernel_rfl) (fun _ _ _ h => h) (Or.inl ⟨by rfl, ?hy30⟩) (by assumption) ?_
            case hy30 => intro w hSw; (try dsimp only at hSw); go_simp; (try with_reducible rfl)
            try simp only [Act.put, List.setIfInBounds_toArray, List.set_cons_zero, List.set_cons_succ]
            refine wpAnyH_ready (rs := [24]) (by kernel_rfl) (by simp) ?_
            refine (AllReadyH.cons (o := { dst := none, op := Op.store 104 (Operand.tmp 38) (Operand.tmp 36), type := 0, pos := "space.go:42", after := #[{ on := 23, ground := Ground.data }, { on := 21, ground := Ground.data }, { on := 21, ground := Ground.chain }, { on := 0, ground := Ground.phase }, { on := 1, ground := Ground.phase }, { on := 2, ground := Ground.phase }, { on := 3, ground := Ground.phase }, { on := 4, ground := Ground.phase }, { on := 5, ground := Ground.phase }, { on := 6, ground := Ground.phase }, { on := 7, ground := Ground.phase }, { on := 8, ground := Ground.phase }, { on := 9, ground := Ground.phase }, { on := 10, ground := Ground.phase }, { on := 11, ground := Ground.phase }, { on := 12, ground := Ground.phase }, { on := 13, ground := Ground.phase }, { on := 14, ground := Ground.phase }, { on := 15, ground := Ground.phase }, { on := 16, ground := Ground.phase }, { on := 17, ground := Ground.phase }, { on := 18, ground := Ground.phase }, { on := 19, ground := Ground.phase }, { on := 20, ground := Ground.phase }, { on := 21, ground := Ground.phase }], guard := none }) rfl (fun K hK => ?_) AllReadyH.nil)
            go_simp
            refine hK.out _ _ ?_ (fun hH6 => ?_)
            · (try dsimp only); (first | exact HT8.out | exact HT9.out | exact tc6 (HROW.out _ HB.out) | exact tc6 ((heap_alloc_old _ _ (by have := HFY.out.bel.size; simp at this ⊢; omega)).trans (HROW.out _ HFY.out.bel)))
            clear hK K
            clear hH5
            try simp only [Act.put, List.setIfInBounds_toArray, List.set_cons_zero, List.set_cons_succ]
            refine wpAnyH_done (by kernel_rfl) ?_ _
            go_wp2_with fail
            exact ⟨⟨bs.length + 1, by omega, by simp, _, _, HST.out⟩, by simp only [intOf]; omega⟩
      · rw [if_pos (by rfl)]; refine wp_conv B hBl (.tmp 32) (by rfl) (by rfl) ?_
        intro ca cc u7 hy7 hyn7 hb7
        first | (have HFY := Lib.hid (HF.out.y hy7 hyn7 hb7); have HB := Lib.hid HFY.out.bel) | (have HY := Lib.hid ((Ml.mk HB.out).y hy7 hyn7 hb7); have HB := Lib.hid HY.out.bel)
        clear hy7 hyn7 hb7
        have c0 := (HB.out.cell (p := ⟨w.heap.size + 1, 0, none⟩) HLI.out).trans HC0.out
        refine hK.out _ _ ?_ (fun hH1 => ?_)
        · (try dsimp only); (first | exact HT8.out | exact HT9.out | exact tc6 (HROW.out _ HB.out) | exact tc6 ((heap_alloc_old _ _ (by have := HFY.out.bel.size; simp at this ⊢; omega)).trans (HROW.out _ HFY.out.bel)))
        clear hK K
        clear hH0
        try simp only [Act.put, List.setIfInBounds_toArray, List.set_cons_zero, List.set_cons_succ]
        refine wpAnyH_ready (rs := [4, 15]) (by kernel_rfl) (by simp) ?_
        refine (AllReadyH.cons (o := { dst := some 19, op := Op.load 104 (Operand.tmp 18), type := 104, pos := "space.go:42", after := #[{ on := 3, ground := Ground.data }], guard := none }) rfl (fun K hK => ?_) (AllReadyH.cons (o := { dst := some 30, op := Op.call { callee := Callee.value (Operand.func 61), args := #[Operand.tmp 29], argTypes := #[56] }, type := 56, pos := "space.go:42", after := #[{ on := 14, ground := Ground.data }], guard := none }) rfl (fun K hK => ?_) AllReadyH.nil))
        · go_simp
          refine hK.out _ _ ?_ (fun hH2 => ?_)
          · (try dsimp only); (first | exact HT8.out | exact HT9.out | exact tc6 (HROW.out _ HB.out) | exact tc6 ((heap_alloc_old _ _ (by have := HFY.out.bel.size; simp at this ⊢; omega)).trans (HROW.out _ HFY.out.bel)))
          clear hK K
          clear hH1
          try simp only [Act.put, List.setIfInBounds_toArray, List.set_cons_zero, List.set_cons_succ]
          refine wpAnyH_ready (rs := [15]) (by kernel_rfl) (by simp) ?_
          refine (AllReadyH.cons (o := { dst := some 30, op := Op.call { callee := Callee.value (Operand.func 61), args := #[Operand.tmp 29], argTypes := #[56] }, type := 56, pos := "space.go:42", after := #[{ on := 14, ground := Ground.data }], guard := none }) rfl (fun K hK => ?_) AllReadyH.nil)
          go_simp; go_at_call 61; (with_reducible refine (cl_Val _ _ F hFl (HRF.out _ HB.out)).mono ?_); rintro e u5 ⟨fv1, rfl, hf5, hfn5, hb5⟩
          obtain ⟨fa1, fc1, rfl⟩ := hf5.slice
          first | (have HFY := Lib.hid (HY.out.f hf5 hfn5 hb5); have HB := Lib.hid HFY.out.bel) | (have HF := Lib.hid ((Ml.mk HB.out).f hf5 hfn5 hb5); have HB := Lib.hid HF.out.bel)
          clear hf5 hfn5 hb5; dsimp only
          have c0 := (HB.out.cell (p := ⟨w.heap.size + 1, 0, none⟩) HLI.out).trans HC0.out
          refine hK.out _ _ ?_ (fun hH3 => ?_)
          · (try dsimp only); (first | exact HT8.out | exact HT9.out | exact tc6 (HROW.out _ HB.out) | exact tc6 ((heap_alloc_old _ _ (by have := HFY.out.bel.size; simp at this ⊢; omega)).trans (HROW.out _ HFY.out.bel)))
          clear hK K
          clear hH2
          try simp only [Act.put, List.setIfInBounds_toArray, List.set_cons_zero, List.set_cons_succ]
          refine wpAnyH_take (i := 19) (oi := { dst := some 34, op := Op.build 110 #[(0, Operand.tmp 21), (1, Operand.tmp 23), (2, Operand.tmp 25), (4, Operand.tmp 27), (5, Operand.tmp 30), (6, Operand.tmp 33)], type := 110, pos := "space.go:42", after := #[{ on := 6, ground := Ground.data }, { on := 8, ground := Ground.data }, { on := 10, ground := Ground.data }, { on := 12, ground := Ground.data }, { on := 15, ground := Ground.data }, { on := 18, ground := Ground.data }], guard := none }) (v := ?v31) rfl (by kernel_rfl) (by kernel_rfl) (by kernel_rfl) (fun _ _ _ h => h) (Or.inl ⟨by rfl, ?hy31⟩) (by assumption) ?_
          case hy31 => intro w hSw; (try dsimp only at hSw); go_simp; (try with_reducible rfl)
          try simp only [Act.put, List.setIfInBounds_toArray, List.set_cons_zero, List.set_cons_succ]
          refine wpAnyH_ready (rs := [20]) (by kernel_rfl) (by simp) ?_
          refine (AllReadyH.cons (o := { dst := some 35, op := Op.buildSlice 104 1 #[(0, Operand.tmp 34)], type := 104, pos := "space.go:42", after := #[{ on := 19, ground := Ground.data }], guard := none }) rfl (fun K hK => ?_) AllReadyH.nil)
          go_simp
          have c0 := fun x => (World.cell?_alloc_lt _ x _ (Nat.lt_of_lt_of_le HLI.out HB.out.size)).trans c0
          refine hK.out _ _ ?_ (fun hH4 => ?_)
          · (try dsimp only); (first | exact HT8.out | exact HT9.out | exact tc6 (HROW.out _ HB.out) | exact tc6 ((heap_alloc_old _ _ (by have := HFY.out.bel.size; simp at this ⊢; omega)).trans (HROW.out _ HFY.out.bel)))
          clear hK K
          clear hH3
          try simp only [Act.put, List.setIfInBounds_toArray, List.set_cons_zero, List.set_cons_succ]
          refine wpAnyH_ready (rs := [21]) (by kernel_rfl) (by simp) ?_
          refine (AllReadyH.cons (o := { dst := some 36, op := Op.call { callee := Callee.builtin Builtin.append, args := #[Operand.tmp 19, Operand.tmp 35], argTypes := #[104, 104] }, type := 104, pos := "space.go:42", after := #[{ on := 4, ground := Ground.data }, { on := 20, ground := Ground.data }, { on := 15, ground := Ground.chain }], guard := none }) rfl (fun K hK => ?_) AllReadyH.nil)
          rw [if_pos (by rfl)]; refine wp_appB (.tmp 19) (.tmp 35) (by rfl) (.slice la bs.length lc) bs.length _ (by rfl) (HLS.out _ (HFY.out.bel.alloc HFY.out.bel.size _)) ⟨_, 0, none⟩ 1 1 (by rfl) (Bd.cells ⟨cls, fmt, hash, 0, fin, .slice fa1 F.length fc1, F, .slice ca B.size cc, bytesOf B⟩) rfl (fun j u hu => by rw [Addr.add_lit, Nat.zero_add]; exact new_cell _ _ _ (by simpa [Bd.cells] using hu)) (one7 _ rfl rfl) (by omega) ?_
          intro v8 u8 own8 g8 e8
          obtain ⟨va, vc, rfl⟩ := own_sl own8
          have HST := Lib.hid (HN.out.step HT.out HFY.out own8 g8 e8)
          have h8 : u8.heap[wr.heap.size]? = some (.cells #[.int .i64 cls, .int .i64 fmt, .int .i64 hash, .bool fin, .slice fa F.length fc, .string B] 64) := (g8.block _ (by have := HFY.out.bel.size; simp at this ⊢; omega) (fun e => HNV.out e.symm)).trans ((heap_alloc_old _ _ (by have := HFY.out.bel.size; simp at this ⊢; omega)).trans (HROW.out _ HFY.out.bel))
          have h8l : u8.heap[w.heap.size + 1]? = some (.cells #[.slice la bs.length lc] 106 (0, 0)) := (g8.block _ (by have := HFY.out.bel.size; have := HLI.out; simp at this ⊢; simp at *; omega) (fun e => HNL.out e.symm)).trans ((heap_alloc_old _ _ (by have := HFY.out.bel.size; have := HLI.out; simp at *; omega)).trans ((HFY.out.bel.block _ HLI.out).trans HLR.out))
          have c8 : u8.cell? ⟨w.heap.size + 1, 0, none⟩ = some (.slice la bs.length lc) := by rw [cell_row _ _ _ _ _ _ h8l]; rfl
          have fz8 := frozen_of_row u8 (w.heap.size + 1) 0 _ _ h8l
          have HT8 := Lib.hid (tc6 h8)
          have HT9 : Hid (tc6P (u8.setCell ⟨w.heap.size + 1, 0, none⟩ (.slice va (bs.length + 1) vc)) wr.heap.size cls fmt hash fin (.slice fa F.length fc) B) := Lib.hid (tc6 ((heap_setCell_other _ _ _ _ HNW.out).trans h8))
          clear h8 h8l own8 g8 e8
          refine hK.out _ _ ?_ (fun hH5 => ?_)
          · (try dsimp only); (first | exact HT8.out | exact HT9.out | exact tc6 (HROW.out _ HB.out) | exact tc6 ((heap_alloc_old _ _ (by have := HFY.out.bel.size; simp at this ⊢; omega)).trans (HROW.out _ HFY.out.bel)))
          clear hK K
          clear hH4
          try simp only [Act.put, List.setIfInBounds_toArray, List.set_cons_zero, List.set_cons_succ]
          refine wpAnyH_take (i := 22) (oi := { dst := some 37, op := Op.nilCheck (Operand.tmp 15), type := 0, pos := "space.go:42", after := #[{ on := 0, ground := Ground.data }, { on := 0, ground := Ground.phase }, { on := 1, ground := Ground.phase }, { on := 2, ground := Ground.phase }, { on := 3, ground := Ground.phase }, { on := 4, ground := Ground.phase }, { on := 5, ground := Ground.phase }, { on := 6, ground := Ground.phase }, { on := 7, ground := Ground.phase }, { on := 8, ground := Ground.phase }, { on := 9, ground := Ground.phase }, { on := 10, ground := Ground.phase }, { on := 11, ground := Ground.phase }, { on := 12, ground := Ground.phase }, { on := 13, ground := Ground.phase }, { on := 14, ground := Ground.phase }, { on := 15, ground := Ground.phase }, { on := 16, ground := Ground.phase }, { on := 17, ground := Ground.phase }, { on := 18, ground := Ground.phase }, { on := 19, ground := Ground.phase }, { on := 20, ground := Ground.phase }, { on := 21, ground := Ground.phase }], guard := none }) (v := ?v32) rfl (by kernel_rfl) (by kernel_rfl) (by kernel_rfl) (fun _ _ _ h => h) (Or.inl ⟨by rfl, ?hy32⟩) (by assumption) ?_
          case hy32 => intro w hSw; (try dsimp only at hSw); go_simp; (try with_reducible rfl)
          try simp only [Act.put, List.setIfInBounds_toArray, List.set_cons_zero, List.set_cons_succ]
          refine wpAnyH_take (i := 23) (oi := { dst := some 38, op := Op.fieldAddr 106 (Operand.tmp 37) 0, type := 0, pos := "space.go:42", after := #[{ on := 22, ground := Ground.data }, { on := 0, ground := Ground.phase }, { on := 1, ground := Ground.phase }, { on := 2, ground := Ground.phase }, { on := 3, ground := Ground.phase }, { on := 4, ground := Ground.phase }, { on := 5, ground := Ground.phase }, { on := 6, ground := Ground.phase }, { on := 7, ground := Ground.phase }, { on := 8, ground := Ground.phase }, { on := 9, ground := Ground.phase }, { on := 10, ground := Ground.phase }, { on := 11, ground := Ground.phase }, { on := 12, ground := Ground.phase }, { on := 13, ground := Ground.phase }, { on := 14, ground := Ground.phase }, { on := 15, ground := Ground.phase }, { on := 16, ground := Ground.phase }, { on := 17, ground := Ground.phase }, { on := 18, ground := Ground.phase }, { on := 19, ground := Ground.phase }, { on := 20, ground := Ground.phase }, { on := 21, ground := Ground.phase }], guard := none }) (v := ?v33) rfl (by kernel_rfl) (by kernel_rfl) (by kernel_rfl) (fun _ _ _ h => h) (Or.inl ⟨by rfl, ?hy33⟩) (by assumption) ?_
          case hy33 => intro w hSw; (try dsimp only at hSw); go_simp; (try with_reducible rfl)
          try simp only [Act.put, List.setIfInBounds_toArray, List.set_cons_zero, List.set_cons_succ]
          refine wpAnyH_ready (rs := [24]) (by kernel_rfl) (by simp) ?_
          refine (AllReadyH.cons (o := { dst := none, op := Op.store 104 (Operand.tmp 38) (Operand.tmp 36), type := 0, pos := "space.go:42", after := #[{ on := 23, ground := Ground.data }, { on := 21, ground := Ground.data }, { on := 21, ground := Ground.chain }, { on := 0, ground := Ground.phase }, { on := 1, ground := Ground.phase }, { on := 2, ground := Ground.phase }, { on := 3, ground := Ground.phase }, { on := 4, ground := Ground.phase }, { on := 5, ground := Ground.phase }, { on := 6, ground := Ground.phase }, { on := 7, ground := Ground.phase }, { on := 8, ground := Ground.phase }, { on := 9, ground := Ground.phase }, { on := 10, ground := Ground.phase }, { on := 11, ground := Ground.phase }, { on := 12, ground := Ground.phase }, { on := 13, ground := Ground.phase }, { on := 14, ground := Ground.phase }, { on := 15, ground := Ground.phase }, { on := 16, ground := Ground.phase }, { on := 17, ground := Ground.phase }, { on := 18, ground := Ground.phase }, { on := 19, ground := Ground.phase }, { on := 20, ground := Ground.phase }, { on := 21, ground := Ground.phase }], guard := none }) rfl (fun K hK => ?_) AllReadyH.nil)
          go_simp
          refine hK.out _ _ ?_ (fun hH6 => ?_)
          · (try dsimp only); (first | exact HT8.out | exact HT9.out | exact tc6 (HROW.out _ HB.out) | exact tc6 ((heap_alloc_old _ _ (by have := HFY.out.bel.size; simp at this ⊢; omega)).trans (HROW.out _ HFY.out.bel)))
          clear hK K
          clear hH5
          try simp only [Act.put, List.setIfInBounds_toArray, List.set_cons_zero, List.set_cons_succ]
          refine wpAnyH_done (by kernel_rfl) ?_ _
          go_wp2_with fail
          exact ⟨⟨bs.length + 1, by omega, by simp, _, _, HST.out⟩, by simp only [intOf]; omega⟩
        · go_simp; go_at_call 61; (with_reducible refine (cl_Val _ _ F hFl (HRF.out _ HB.out)).mono ?_); rintro e u5 ⟨fv1, rfl, hf5, hfn5, hb5⟩
          obtain ⟨fa1, fc1, rfl⟩ := hf5.slice
          first | (have HFY := Lib.hid (HY.out.f hf5 hfn5 hb5); have HB := Lib.hid HFY.out.bel) | (have HF := Lib.hid ((Ml.mk HB.out).f hf5 hfn5 hb5); have HB := Lib.hid HF.out.bel)
          clear hf5 hfn5 hb5; dsimp only
          have c0 := (HB.out.cell (p := ⟨w.heap.size + 1, 0, none⟩) HLI.out).trans HC0.out
          refine hK.out _ _ ?_ (fun hH2 => ?_)
          · (try dsimp only); (first | exact HT8.out | exact HT9.out | exact tc6 (HROW.out _ HB.out) | exact tc6 ((heap_alloc_old _ _ (by have := HFY.out.bel.size; simp at this ⊢; omega)).trans (HROW.out _ HFY.out.bel)))
          clear hK K
          clear hH1
          try simp only [Act.put, List.setIfInBounds_toArray, List.set_cons_zero, List.set_cons_succ]
          refine wpAnyH_take (i := 19) (oi := { dst := some 34, op := Op.build 110 #[(0, Operand.tmp 21), (1, Operand.tmp 23), (2, Operand.tmp 25), (4, Operand.tmp 27), (5, Operand.tmp 30), (6, Operand.tmp 33)], type := 110, pos := "space.go:42", after := #[{ on := 6, ground := Ground.data }, { on := 8, ground := Ground.data }, { on := 10, ground := Ground.data }, { on := 12, ground := Ground.data }, { on := 15, ground := Ground.data }, { on := 18, ground := Ground.data }], guard := none }) (v := ?v34) rfl (by kernel_rfl) (by kernel_rfl) (by kernel_rfl) (fun _ _ _ h => h) (Or.inl ⟨by rfl, ?hy34⟩) (by assumption) ?_
          case hy34 => intro w hSw; (try dsimp only at hSw); go_simp; (try with_reducible rfl)
          try simp only [Act.put, List.setIfInBounds_toArray, List.set_cons_zero, List.set_cons_succ]
          refine wpAnyH_ready (rs := [4, 20]) (by kernel_rfl) (by simp) ?_
          refine (AllReadyH.cons (o := { dst := some 19, op := Op.load 104 (Operand.tmp 18), type := 104, pos := "space.go:42", after := #[{ on := 3, ground := Ground.data }], guard := none }) rfl (fun K hK => ?_) (AllReadyH.cons (o := { dst := some 35, op := Op.buildSlice 104 1 #[(0, Operand.tmp 34)], type := 104, pos := "space.go:42", after := #[{ on := 19, ground := Ground.data }], guard := none }) rfl (fun K hK => ?_) AllReadyH.nil))
          · go_simp
            refine hK.out _ _ ?_ (fun hH3 => ?_)
            · (try dsimp only); (first | exact HT8.out | exact HT9.out | exact tc6 (HROW.out _ HB.out) | exact tc6 ((heap_alloc_old _ _ (by have := HFY.out.bel.size; simp at this ⊢; omega)).trans (HROW.out _ HFY.out.bel)))
            clear hK K
            clear hH2
            try simp only [Act.put, List.setIfInBounds_toArray, List.set_cons_zero, List.set_cons_succ]
            refine wpAnyH_ready (rs := [20]) (by kernel_rfl) (by simp) ?_
            refine (AllReadyH.cons (o := { dst := some 35, op := Op.buildSlice 104 1 #[(0, Operand.tmp 34)], type := 104, pos := "space.go:42", after := #[{ on := 19, ground := Ground.data }], guard := none }) rfl (fun K hK => ?_) AllReadyH.nil)
            go_simp
            have c0 := fun x => (World.cell?_alloc_lt _ x _ (Nat.lt_of_lt_of_le HLI.out HB.out.size)).trans c0
            refine hK.out _ _ ?_ (fun hH4 => ?_)
            · (try dsimp only); (first | exact HT8.out | exact HT9.out | exact tc6 (HROW.out _ HB.out) | exact tc6 ((heap_alloc_old _ _ (by have := HFY.out.bel.size; simp at this ⊢; omega)).trans (HROW.out _ HFY.out.bel)))
            clear hK K
            clear hH3
            try simp only [Act.put, List.setIfInBounds_toArray, List.set_cons_zero, List.set_cons_succ]
            refine wpAnyH_ready (rs := [21]) (by kernel_rfl) (by simp) ?_
            refine (AllReadyH.cons (o := { dst := some 36, op := Op.call { callee := Callee.builtin Builtin.append, args := #[Operand.tmp 19, Operand.tmp 35], argTypes := #[104, 104] }, type := 104, pos := "space.go:42", after := #[{ on := 4, ground := Ground.data }, { on := 20, ground := Ground.data }, { on := 15, ground := Ground.chain }], guard := none }) rfl (fun K hK => ?_) AllReadyH.nil)
            rw [if_pos (by rfl)]; refine wp_appB (.tmp 19) (.tmp 35) (by rfl) (.slice la bs.length lc) bs.length _ (by rfl) (HLS.out _ (HFY.out.bel.alloc HFY.out.bel.size _)) ⟨_, 0, none⟩ 1 1 (by rfl) (Bd.cells ⟨cls, fmt, hash, 0, fin, .slice fa1 F.length fc1, F, .slice ca B.size cc, bytesOf B⟩) rfl (fun j u hu => by rw [Addr.add_lit, Nat.zero_add]; exact new_cell _ _ _ (by simpa [Bd.cells] using hu)) (one7 _ rfl rfl) (by omega) ?_
            intro v8 u8 own8 g8 e8
            obtain ⟨va, vc, rfl⟩ := own_sl own8
            have HST := Lib.hid (HN.out.step HT.out HFY.out own8 g8 e8)
            have h8 : u8.heap[wr.heap.size]? = some (.cells #[.int .i64 cls, .int .i64 fmt, .int .i64 hash, .bool fin, .slice fa F.length fc, .string B] 64) := (g8.block _ (by have := HFY.out.bel.size; simp at this ⊢; omega) (fun e => HNV.out e.symm)).trans ((heap_alloc_old _ _ (by have := HFY.out.bel.size; simp at this ⊢; omega)).trans (HROW.out _ HFY.out.bel))
            have h8l : u8.heap[w.heap.size + 1]? = some (.cells #[.slice la bs.length lc] 106 (0, 0)) := (g8.block _ (by have := HFY.out.bel.size; have := HLI.out; simp at this ⊢; simp at *; omega) (fun e => HNL.out e.symm)).trans ((heap_alloc_old _ _ (by have := HFY.out.bel.size; have := HLI.out; simp at *; omega)).trans ((HFY.out.bel.block _ HLI.out).trans HLR.out))
            have c8 : u8.cell? ⟨w.heap.size + 1, 0, none⟩ = some (.slice la bs.length lc) := by rw [cell_row _ _ _ _ _ _ h8l]; rfl
            have fz8 := frozen_of_row u8 (w.heap.size + 1) 0 _ _ h8l
            have HT8 := Lib.hid (tc6 h8)
            have HT9 : Hid (tc6P (u8.setCell ⟨w.heap.size + 1, 0, none⟩ (.slice va (bs.length + 1) vc)) wr.heap.size cls fmt hash fin (.slice fa F.length fc) B) := Lib.hid (tc6 ((heap_setCell_other _ _ _ _ HNW.out).trans h8))
            clear h8 h8l own8 g8 e8
            refine hK.out _ _ ?_ (fun hH5 => ?_)
            · (try dsimp only); (first | exact HT8.out | exact HT9.out | exact tc6 (HROW.out _ HB.out) | exact tc6 ((heap_alloc_old _ _ (by have := HFY.out.bel.size; simp at this ⊢; omega)).trans (HROW.out _ HFY.out.bel)))
            clear hK K
            clear hH4
            try simp only [Act.put, List.setIfInBounds_toArray, List.set_cons_zero, List.set_cons_succ]
            refine wpAnyH_take (i := 22) (oi := { dst := some 37, op := Op.nilCheck (Operand.tmp 15), type := 0, pos := "space.go:42", after := #[{ on := 0, ground := Ground.data }, { on := 0, ground := Ground.phase }, { on := 1, ground := Ground.phase }, { on := 2, ground := Ground.phase }, { on := 3, ground := Ground.phase }, { on := 4, ground := Ground.phase }, { on := 5, ground := Ground.phase }, { on := 6, ground := Ground.phase }, { on := 7, ground := Ground.phase }, { on := 8, ground := Ground.phase }, { on := 9, ground := Ground.phase }, { on := 10, ground := Ground.phase }, { on := 11, ground := Ground.phase }, { on := 12, ground := Ground.phase }, { on := 13, ground := Ground.phase }, { on := 14, ground := Ground.phase }, { on := 15, ground := Ground.phase }, { on := 16, ground := Ground.phase }, { on := 17, ground := Ground.phase }, { on := 18, ground := Ground.phase }, { on := 19, ground := Ground.phase }, { on := 20, ground := Ground.phase }, { on := 21, ground := Ground.phase }], guard := none }) (v := ?v35) rfl (by kernel_rfl) (by kernel_rfl) (by kernel_rfl) (fun _ _ _ h => h) (Or.inl ⟨by rfl, ?hy35⟩) (by assumption) ?_
            case hy35 => intro w hSw; (try dsimp only at hSw); go_simp; (try with_reducible rfl)
            try simp only [Act.put, List.setIfInBounds_toArray, List.set_cons_zero, List.set_cons_succ]
            refine wpAnyH_take (i := 23) (oi := { dst := some 38, op := Op.fieldAddr 106 (Operand.tmp 37) 0, type := 0, pos := "space.go:42", after := #[{ on := 22, ground := Ground.data }, { on := 0, ground := Ground.phase }, { on := 1, ground := Ground.phase }, { on := 2, ground := Ground.phase }, { on := 3, ground := Ground.phase }, { on := 4, ground := Ground.phase }, { on := 5, ground := Ground.phase }, { on := 6, ground := Ground.phase }, { on := 7, ground := Ground.phase }, { on := 8, ground := Ground.phase }, { on := 9, ground := Ground.phase }, { on := 10, ground := Ground.phase }, { on := 11, ground := Ground.phase }, { on := 12, ground := Ground.phase }, { on := 13, ground := Ground.phase }, { on := 14, ground := Ground.phase }, { on := 15, ground := Ground.phase }, { on := 16, ground := Ground.phase }, { on := 17, ground := Ground.phase }, { on := 18, ground := Ground.phase }, { on := 19, ground := Ground.phase }, { on := 20, ground := Ground.phase }, { on := 21, ground := Ground.phase }], guard := none }) (v := ?v36) rfl (by kernel_rfl) (by kernel_rfl) (by kernel_rfl) (fun _ _ _ h => h) (Or.inl ⟨by rfl, ?hy36⟩) (by assumption) ?_
            case hy36 => intro w hSw; (try dsimp only at hSw); go_simp; (try with_reducible rfl)
            try simp only [Act.put, List.setIfInBounds_toArray, List.set_cons_zero, List.set_cons_succ]
            refine wpAnyH_ready (rs := [24]) (by kernel_rfl) (by simp) ?_
            refine (AllReadyH.cons (o := { dst := none, op := Op.store 104 (Operand.tmp 38) (Operand.tmp 36), type := 0, pos := "space.go:42", after := #[{ on := 23, ground := Ground.data }, { on := 21, ground := Ground.data }, { on := 21, ground := Ground.chain }, { on := 0, ground := Ground.phase }, { on := 1, ground := Ground.phase }, { on := 2, ground := Ground.phase }, { on := 3, ground := Ground.phase }, { on := 4, ground := Ground.phase }, { on := 5, ground := Ground.phase }, { on := 6, ground := Ground.phase }, { on := 7, ground := Ground.phase }, { on := 8, ground := Ground.phase }, { on := 9, ground := Ground.phase }, { on := 10, ground := Ground.phase }, { on := 11, ground := Ground.phase }, { on := 12, ground := Ground.phase }, { on := 13, ground := Ground.phase }, { on := 14, ground := Ground.phase }, { on := 15, ground := Ground.phase }, { on := 16, ground := Ground.phase }, { on := 17, ground := Ground.phase }, { on := 18, ground := Ground.phase }, { on := 19, ground := Ground.phase }, { on := 20, ground := Ground.phase }, { on := 21, ground := Ground.phase }], guard := none }) rfl (fun K hK => ?_) AllReadyH.nil)
            go_simp
            refine hK.out _ _ ?_ (fun hH6 => ?_)
            · (try dsimp only); (first | exact HT8.out | exact HT9.out | exact tc6 (HROW.out _ HB.out) | exact tc6 ((heap_alloc_old _ _ (by have := HFY.out.bel.size; simp at this ⊢; omega)).trans (HROW.out _ HFY.out.bel)))
            clear hK K
            clear hH5
            try simp only [Act.put, List.setIfInBounds_toArray, List.set_cons_zero, List.set_cons_succ]
            refine wpAnyH_done (by kernel_rfl) ?_ _
            go_wp2_with fail
            exact ⟨⟨bs.length + 1, by omega, by simp, _, _, HST.out⟩, by simp only [intOf]; omega⟩
          · go_simp
            have c0 := fun x => (World.cell?_alloc_lt _ x _ (Nat.lt_of_lt_of_le HLI.out HB.out.size)).trans c0
            refine hK.out _ _ ?_ (fun hH3 => ?_)
            · (try dsimp only); (first | exact HT8.out | exact HT9.out | exact tc6 (HROW.out _ HB.out) | exact tc6 ((heap_alloc_old _ _ (by have := HFY.out.bel.size; simp at this ⊢; omega)).trans (HROW.out _ HFY.out.bel)))
            clear hK K
            clear hH2
            try simp only [Act.put, List.setIfInBounds_toArray, List.set_cons_zero, List.set_cons_succ]
            refine wpAnyH_ready (rs := [4]) (by kernel_rfl) (by simp) ?_
            refine (AllReadyH.cons (o := { dst := some 19, op := Op.load 104 (Operand.tmp 18), type := 104, pos := "space.go:42", after := #[{ on := 3, ground := Ground.data }], guard := none }) rfl (fun K hK => ?_) AllReadyH.nil)
            go_simp
            refine hK.out _ _ ?_ (fun hH4 => ?_)
            · (try dsimp only); (first | exact HT8.out | exact HT9.out | exact tc6 (HROW.out _ HB.out) | exact tc6 ((heap_alloc_old _ _ (by have := HFY.out.bel.size; simp at this ⊢; omega)).trans (HROW.out _ HFY.out.bel)))
            clear hK K
            clear hH3
            try simp only [Act.put, List.setIfInBounds_toArray, List.set_cons_zero, List.set_cons_succ]
            refine wpAnyH_ready (rs := [21]) (by kernel_rfl) (by simp) ?_
            refine (AllReadyH.cons (o := { dst := some 36, op := Op.call { callee := Callee.builtin Builtin.append, args := #[Operand.tmp 19, Operand.tmp 35], argTypes := #[104, 104] }, type := 104, pos := "space.go:42", after := #[{ on := 4, ground := Ground.data }, { on := 20, ground := Ground.data }, { on := 15, ground := Ground.chain }], guard := none }) rfl (fun K hK => ?_) AllReadyH.nil)
            rw [if_pos (by rfl)]; refine wp_appB (.tmp 19) (.tmp 35) (by rfl) (.slice la bs.length lc) bs.length _ (by rfl) (HLS.out _ (HFY.out.bel.alloc HFY.out.bel.size _)) ⟨_, 0, none⟩ 1 1 (by rfl) (Bd.cells ⟨cls, fmt, hash, 0, fin, .slice fa1 F.length fc1, F, .slice ca B.size cc, bytesOf B⟩) rfl (fun j u hu => by rw [Addr.add_lit, Nat.zero_add]; exact new_cell _ _ _ (by simpa [Bd.cells] using hu)) (one7 _ rfl rfl) (by omega) ?_
            intro v8 u8 own8 g8 e8
            obtain ⟨va, vc, rfl⟩ := own_sl own8
            have HST := Lib.hid (HN.out.step HT.out HFY.out own8 g8 e8)
            have h8 : u8.heap[wr.heap.size]? = some (.cells #[.int .i64 cls, .int .i64 fmt, .int .i64 hash, .bool fin, .slice fa F.length fc, .string B] 64) := (g8.block _ (by have := HFY.out.bel.size; simp at this ⊢; omega) (fun e => HNV.out e.symm)).trans ((heap_alloc_old _ _ (by have := HFY.out.bel.size; simp at this ⊢; omega)).trans (HROW.out _ HFY.out.bel))
            have h8l : u8.heap[w.heap.size + 1]? = some (.cells #[.slice la bs.length lc] 106 (0, 0)) := (g8.block _ (by have := HFY.out.bel.size; have := HLI.out; simp at this ⊢; simp at *; omega) (fun e => HNL.out e.symm)).trans ((heap_alloc_old _ _ (by have := HFY.out.bel.size; have := HLI.out; simp at *; omega)).trans ((HFY.out.bel.block _ HLI.out).trans HLR.out))
            have c8 : u8.cell? ⟨w.heap.size + 1, 0, none⟩ = some (.slice la bs.length lc) := by rw [cell_row _ _ _ _ _ _ h8l]; rfl
            have fz8 := frozen_of_row u8 (w.heap.size + 1) 0 _ _ h8l
            have HT8 := Lib.hid (tc6 h8)
            have HT9 : Hid (tc6P (u8.setCell ⟨w.heap.size + 1, 0, none⟩ (.slice va (bs.length + 1) vc)) wr.heap.size cls fmt hash fin (.slice fa F.length fc) B) := Lib.hid (tc6 ((heap_setCell_other _ _ _ _ HNW.out).trans h8))
            clear h8 h8l own8 g8 e8
            refine hK.out _ _ ?_ (fun hH5 => ?_)
            · (try dsimp only); (first | exact HT8.out | exact HT9.out | exact tc6 (HROW.out _ HB.out) | exact tc6 ((heap_alloc_old _ _ (by have := HFY.out.bel.size; simp at this ⊢; omega)).trans (HROW.out _ HFY.out.bel)))
            clear hK K
            clear hH4
            try simp only [Act.put, List.setIfInBounds_toArray, List.set_cons_zero, List.set_cons_succ]
            refine wpAnyH_take (i := 22) (oi := { dst := some 37, op := Op.nilCheck (Operand.tmp 15), type := 0, pos := "space.go:42", after := #[{ on := 0, ground := Ground.data }, { on := 0, ground := Ground.phase }, { on := 1, ground := Ground.phase }, { on := 2, ground := Ground.phase }, { on := 3, ground := Ground.phase }, { on := 4, ground := Ground.phase }, { on := 5, ground := Ground.phase }, { on := 6, ground := Ground.phase }, { on := 7, ground := Ground.phase }, { on := 8, ground := Ground.phase }, { on := 9, ground := Ground.phase }, { on := 10, ground := Ground.phase }, { on := 11, ground := Ground.phase }, { on := 12, ground := Ground.phase }, { on := 13, ground := Ground.phase }, { on := 14, ground := Ground.phase }, { on := 15, ground := Ground.phase }, { on := 16, ground := Ground.phase }, { on := 17, ground := Ground.phase }, { on := 18, ground := Ground.phase }, { on := 19, ground := Ground.phase }, { on := 20, ground := Ground.phase }, { on := 21, ground := Ground.phase }], guard := none }) (v := ?v37) rfl (by kernel_rfl) (by kernel_rfl) (by kernel_rfl) (fun _ _ _ h => h) (Or.inl ⟨by rfl, ?hy37⟩) (by assumption) ?_
            case hy37 => intro w hSw; (try dsimp only at hSw); go_simp; (try with_reducible rfl)
            try simp only [Act.put, List.setIfInBounds_toArray, List.set_cons_zero, List.set_cons_succ]
            refine wpAnyH_take (i := 23) (oi := { dst := some 38, op := Op.fieldAddr 106 (Operand.tmp 37) 0, type := 0, pos := "space.go:42", after := #[{ on := 22, ground := Ground.data }, { on := 0, ground := Ground.phase }, { on := 1, ground := Ground.phase }, { on := 2, ground := Ground.phase }, { on := 3, ground := Ground.phase }, { on := 4, ground := Ground.phase }, { on := 5, ground := Ground.phase }, { on := 6, ground := Ground.phase }, { on := 7, ground := Ground.phase }, { on := 8, ground := Ground.phase }, { on := 9, ground := Ground.phase }, { on := 10, ground := Ground.phase }, { on := 11, ground := Ground.phase }, { on := 12, ground := Ground.phase }, { on := 13, ground := Ground.phase }, { on := 14, ground := Ground.phase }, { on := 15, ground := Ground.phase }, { on := 16, ground := Ground.phase }, { on := 17, ground := Ground.phase }, { on := 18, ground := Ground.phase }, { on := 19, ground := Ground.phase }, { on := 20, ground := Ground.phase }, { on := 21, ground := Ground.phase }], guard := none }) (v := ?v38) rfl (by kernel_rfl) (by kernel_rfl) (by kernel_rfl) (fun _ _ _ h => h) (Or.inl ⟨by rfl, ?hy38⟩) (by assumption) ?_
            case hy38 => intro w hSw; (try dsimp only at hSw); go_simp; (try with_reducible rfl)
            try simp only [Act.put, List.setIfInBounds_toArray, List.set_cons_zero, List.set_cons_succ]
            refine wpAnyH_ready (rs := [24]) (by kernel_rfl) (by simp) ?_
            refine (AllReadyH.cons (o := { dst := none, op := Op.store 104 (Operand.tmp 38) (Operand.tmp 36), type := 0, pos := "space.go:42", after := #[{ on := 23, ground := Ground.data }, { on := 21, ground := Ground.data }, { on := 21, ground := Ground.chain }, { on := 0, ground := Ground.phase }, { on := 1, ground := Ground.phase }, { on := 2, ground := Ground.phase }, { on := 3, ground := Ground.phase }, { on := 4, ground := Ground.phase }, { on := 5, ground := Ground.phase }, { on := 6, ground := Ground.phase }, { on := 7, ground := Ground.phase }, { on := 8, ground := Ground.phase }, { on := 9, ground := Ground.phase }, { on := 10, ground := Ground.phase }, { on := 11, ground := Ground.phase }, { on := 12, ground := Ground.phase }, { on := 13, ground := Ground.phase }, { on := 14, ground := Ground.phase }, { on := 15, ground := Ground.phase }, { on := 16, ground := Ground.phase }, { on := 17, ground := Ground.phase }, { on := 18, ground := Ground.phase }, { on := 19, ground := Ground.phase }, { on := 20, ground := Ground.phase }, { on := 21, ground := Ground.phase }], guard := none }) rfl (fun K hK => ?_) AllReadyH.nil)
            go_simp
            refine hK.out _ _ ?_ (fun hH6 => ?_)
            · (try dsimp only); (first | exact HT8.out | exact HT9.out | exact tc6 (HROW.out _ HB.out) | exact tc6 ((heap_alloc_old _ _ (by have := HFY.out.bel.size; simp at this ⊢; omega)).trans (HROW.out _ HFY.out.bel)))
            clear hK K
            clear hH5
            try simp only [Act.put, List.setIfInBounds_toArray, List.set_cons_zero, List.set_cons_succ]
            refine wpAnyH_done (by kernel_rfl) ?_ _
            go_wp2_with fail
            exact ⟨⟨bs.length + 1, by omega, by simp, _, _, HST.out⟩, by simp only [intOf]; omega⟩

    · obtain rfl : k = L.length := by omega
      have HN := Lib.hid hN
      clear hN
      go_wp2_with fail
      go_ret
      exact ⟨rfl, _, _, HN.out⟩
end
end Go.Proofs.YtoklohfpkaiidaaGreat.Obj
