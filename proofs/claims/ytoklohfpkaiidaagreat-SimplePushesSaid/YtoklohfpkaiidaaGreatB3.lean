/- The first world. -/
import Derived.Test.YtoklohfpkaiidaaGreatB2
namespace Go.Proofs.YtoklohfpkaiidaaGreat.Obj
open Go.Proofs.YtoklohfpkaiidaaGreat.Gen Go.Proofs.YtoklohfpkaiidaaGreat.Base Go.ChangeShapes Go.WideShapes Go.ChangeAt Go.RowKit
set_option linter.unusedVariables false
section
variable {w w1 wr u : World} {lv : Value} {L : List Th} {k b : Nat}
theorem setRow_new' (X : World) (cs cs' : Array Value) (t : TypeId) {b : Nat} (hb : b = X.heap.size) : (X.alloc (.cells cs t)).setRow b cs' = X.alloc (.cells cs' t) := by
  subst hb; exact World.setRow_alloc_new ..
theorem heap_new' (X : World) (o : Obj) {b : Nat} (hb : b = X.heap.size) : (X.alloc o).heap[b]? = some o := by
  subst hb; exact heap_alloc_new _ _
theorem z16 (u : World) : Sem.run Tryz.prog (zeroValue 87) u = .ok (.agg #[.int .i64 0, .int .i64 0, .int .i64 0, .int .i64 0, .int .i64 0, .int .i64 0, .int .i64 0, .int .i64 0, .int .i64 0, .int .i64 0, .int .i64 0, .int .i64 0, .int .i64 0, .int .i64 0, .int .i64 0, .int .i64 0]) u := by kernel_rfl
/-- So many things of the first world are there. -/
structure Fs (w1 wr : World) (b : Nat) (k : Nat) (lv : Value) (L : List Th) : Prop where
  lb : LB w1 wr b 30 lv L 0
  pl : L.map Th.pl = (List.range k).map firstT
theorem Fs.len (h : Fs w1 wr b k lv L) : L.length = k := by
  have := congrArg List.length h.pl
  simpa using this
theorem Fs.step {v' : Value} {t : Th} (h : Fs w1 wr b L.length lv L) (hl : LB w1 u b 30 v' (L ++ [t]) 0) (ht : t.pl = firstT L.length) : Fs w1 u b (L.length + 1) v' (L ++ [t]) :=
  ⟨hl, by rw [List.map_append, h.pl, List.range_succ, List.map_append]; simp [ht]⟩
theorem new_cellN (w : World) (c : Array Value) (t : TypeId) {s i : Nat} {v : Value} (hs : s = w.heap.size) (h : c[i]? = some v) : (w.alloc (.cells c t)).cell? ⟨s, i, none⟩ = some v := by
  subst hs; exact new_cell w c t h
theorem wpl_appT {ops : Array Oper} {rest : List Oper} {w : World} {o : Oper} {a : Act} {Q : Exit → Act → World → Prop} (hgd : o.guard = none) (s x : Operand)
    (ho : o.op = .call { callee := .builtin .append, args := #[s, x], argTypes := #[22, 22] })
    (v : Value) (n : Nat) (xs : List Value) (hs : a.eval s = v) (hown : w.ownsRow 0 64 6 v n xs) (ad : Addr) (m c : Nat) (hx : a.eval x = .slice (some ad) m c) (ys : List Value) (hl : ys.length = m * 6) (hc : ∀ j u, ys[j]? = some u → w.cell? (ad.add j) = some u) (h1 : ∀ u ∈ ys, u.oneCell' = true) (hn : n + m ≤ 1000000)
    (h : ∀ v' w', w'.ownsRow 0 64 6 v' (n + m) (xs ++ ys) → w.grownBy w' v.ownBlock → (v'.ownBlock = v.ownBlock ∨ v'.ownBlock = some w.heap.size) → wpList Tryz.prog ops Q rest (a.put o.dst v') w') : wpList Tryz.prog ops Q (o :: rest) a w :=
  wpList_plain hgd fun _ hK => wp_appT s x ho v n xs hs hown ad m c hx ys hl hc h1 hn fun v' w' q1 q2 q3 => hK _ _ (h v' w' q1 q2 q3)
theorem bel4 {X : World} (hX : Below wr.heap.size wr X) (hB : Below X.heap.size X u) (o : Obj) (v v2 : Value) (j j2 : Nat) : Below wr.heap.size wr (((u.setCell ⟨wr.heap.size, j, none⟩ v).setCell ⟨wr.heap.size, j2, none⟩ v2).alloc o) := by
  have h1 := hX.trans (hB.mono hX.size)
  exact ((h1.setCell (p := ⟨wr.heap.size, j, none⟩) (Nat.le_refl _) v).setCell (p := ⟨wr.heap.size, j2, none⟩) (Nat.le_refl _) v2).alloc (by simpa using h1.size) o
theorem new_F1 {w wr uz : World} {la : Option Addr} {lc n : Nat} (hlt : wr.heap.size < uz.heap.size) (h3 : w.heap.size + 3 < uz.heap.size) (hne : (Value.slice la n lc).ownBlock ≠ some uz.heap.size) :
    RowV (((uz.setCell ⟨wr.heap.size, 0, none⟩ (.int .i64 15)).setCell ⟨wr.heap.size, 4, none⟩ (.slice (some ⟨uz.heap.size, 0, none⟩) 1 1)).alloc (.cells #[.bool false, .int .i64 0] 54)) 54 2 (.slice (some ⟨uz.heap.size, 0, none⟩) 1 1) 1 (vals [(false, 0)]) ∧
    (∀ k, blk (.slice (some ⟨uz.heap.size, 0, none⟩) 1 1) 1 = some k → k ≠ w.heap.size + 3 ∧ (Value.slice la n lc).ownBlock ≠ some k) ∧ ∃ a c, Value.slice (some ⟨uz.heap.size, 0, none⟩) 1 1 = .slice a 1 c ∧ 1 ≤ c ∧ (c : Int) ≤ 9223372036854775807 := by
  refine ⟨.inr ⟨by omega, rfl, uz.heap.size, 1, #[.bool false, .int .i64 0], (0, 0), rfl, ?_, .inl rfl, Nat.le_refl _, by unfold maxLen; omega, rfl, rfl⟩, fun k hk => ?_, _, _, rfl, by omega, by omega⟩
  · exact heap_new' _ _ (by simp)
  · obtain rfl : uz.heap.size = k := by simpa [blk, Value.ownBlock] using hk
    exact ⟨by omega, hne⟩
theorem z3 (u : World) : Sem.run Tryz.prog (zeroValue 88) u = .ok (.agg #[.string ByteArray.empty, .string ByteArray.empty, .string ByteArray.empty]) u := by kernel_rfl
theorem ix0 (u : World) : Sem.run Tryz.prog (Instr.index 88 (.agg #[.string ⟨#[108, 111, 115, 116]⟩, .string ⟨#[98, 111, 111, 108]⟩, .string ⟨#[98, 97, 99, 107]⟩]) (.int .i64 0)) u = .ok (.string ⟨#[108, 111, 115, 116]⟩) u := by kernel_rfl
theorem ix1 (u : World) : Sem.run Tryz.prog (Instr.index 88 (.agg #[.string ⟨#[108, 111, 115, 116]⟩, .string ⟨#[98, 111, 111, 108]⟩, .string ⟨#[98, 97, 99, 107]⟩]) (.int .i64 1)) u = .ok (.string ⟨#[98, 111, 111, 108]⟩) u := by kernel_rfl
theorem ix2 (u : World) : Sem.run Tryz.prog (Instr.index 88 (.agg #[.string ⟨#[108, 111, 115, 116]⟩, .string ⟨#[98, 111, 111, 108]⟩, .string ⟨#[98, 97, 99, 107]⟩]) (.int .i64 2)) u = .ok (.string ⟨#[98, 97, 99, 107]⟩) u := by kernel_rfl
/-- A world's things, in new memory. -/
structure Ld (w u : World) (lv : Value) (L : List Th) : Prop where
  bel : Below w.heap.size w u
  ls : u.ownsRow 0 64 6 lv L.length (L.flatMap Th.cells)
  fs : ∀ t ∈ L, RowV u 54 2 t.fv t.F.length (vals t.F)
  fc : ∀ t ∈ L, ∃ a c, t.fv = .slice a t.F.length c ∧ t.F.length ≤ c ∧ (c : Int) ≤ 9223372036854775807
  nl : ∀ k, lv.ownBlock = some k → w.heap.size ≤ k
  nf : ∀ t ∈ L, ∀ k, blk t.fv t.F.length = some k → lv.ownBlock ≠ some k
theorem RowV.type {e t : TypeId} {s n : Nat} {v : Value} {xs : List Value} (h : RowV u e s v n xs) {k : Nat} (hk : blk v n = some k) {cs : Array Value} {fz : Nat × Nat} (hr : u.heap[k]? = some (.cells cs t fz)) : t = e := by
  unfold blk at hk
  split at hk
  · cases hk
  · rcases h with ⟨h, _⟩ | ⟨_, _, g, cap, cur, fz, rfl, h5, _⟩
    · omega
    · obtain rfl : g = k := by simpa [Value.ownBlock] using hk
      rw [h5] at hr
      injection hr with hr
      injection hr with _ h2
      exact h2.symm
theorem Ld.of {b : Nat} {cs cs' : Array Value} {last : Int} (h : LB w1 u b 30 lv L last) (hz : u.heap[w.heap.size]? = some (.cells cs 30 (0, 0))) (hs : w.heap.size < w1.heap.size) (hb : Below w.heap.size w w1) : Ld w (u.setRow w.heap.size cs') lv L := by
  have hfar : ∀ k, k ≠ w.heap.size → (u.setRow w.heap.size cs').heap[k]? = u.heap[k]? := fun k hk => setRow_other u _ k _ hk
  have hw := hb.size
  refine ⟨?_, owns_at h.ls fun k hk => hfar k (by have := h.nl k hk; omega), fun t ht => (h.fs t ht).keep fun k hk => hfar k fun e => ?_, h.fc, fun k hk => Nat.le_trans hw (h.nl k hk), fun t ht k hk => (h.nf t ht k hk).2⟩
  · have h1 := hb.trans (h.bel.mono hw)
    exact ⟨h1.os, h1.tape, h1.output, by simpa [World.setRow] using h1.size, fun k hk => (hfar k (by omega)).trans (h1.block k hk)⟩
  · subst e
    have := (h.fs t ht).type hk hz
    revert this; decide
theorem nil_F (U : World) (lv : Value) (b : Nat) : RowV U 54 2 (.slice none 0 0) ([] : List V).length (vals []) ∧ (∀ k, blk (.slice none 0 0) ([] : List V).length = some k → k ≠ b ∧ lv.ownBlock ≠ some k) ∧ ∃ a c, Value.slice none 0 0 = .slice a ([] : List V).length c ∧ ([] : List V).length ≤ c ∧ (c : Int) ≤ 9223372036854775807 :=
  ⟨.inl ⟨rfl, rfl, _, _, rfl⟩, fun _ hk => by simp [blk] at hk, _, _, rfl, Nat.le_refl _, by omega⟩
theorem bel3 {X : World} (hX : Below wr.heap.size wr X) (hB : Below X.heap.size X u) : Below wr.heap.size wr u ∧ (∀ o, Below wr.heap.size wr (u.alloc o)) ∧ ∀ o v j, Below wr.heap.size wr ((u.setCell ⟨wr.heap.size, j, none⟩ v).alloc o) := by
  have h1 := hX.trans (hB.mono hX.size)
  exact ⟨h1, fun o => h1.alloc h1.size o, fun o v j => (h1.setCell (p := ⟨wr.heap.size, j, none⟩) (Nat.le_refl _) v).alloc (by simpa using h1.size) o⟩
theorem new_F5 {w wr uz : World} {la : Option Addr} {lc n : Nat} (s f : Int) (hlt : wr.heap.size < uz.heap.size) (h3 : w.heap.size + 3 < uz.heap.size) (hne : (Value.slice la n lc).ownBlock ≠ some uz.heap.size) :
    RowV ((uz.setCell ⟨wr.heap.size, 4, none⟩ (.slice (some ⟨uz.heap.size, 0, none⟩) 5 5)).alloc (.cells #[.bool true, .int .i64 0, .bool true, .int .i64 0, .bool true, .int .i64 0, .bool false, .int .i64 s, .bool false, .int .i64 f] 54)) 54 2 (.slice (some ⟨uz.heap.size, 0, none⟩) 5 5) 5 (vals [(true, 0), (true, 0), (true, 0), (false, s), (false, f)]) ∧
    (∀ k, blk (.slice (some ⟨uz.heap.size, 0, none⟩) 5 5) 5 = some k → k ≠ w.heap.size + 3 ∧ (Value.slice la n lc).ownBlock ≠ some k) ∧ ∃ a c, Value.slice (some ⟨uz.heap.size, 0, none⟩) 5 5 = .slice a 5 c ∧ 5 ≤ c ∧ (c : Int) ≤ 9223372036854775807 := by
  refine ⟨.inr ⟨by omega, rfl, uz.heap.size, 5, #[.bool true, .int .i64 0, .bool true, .int .i64 0, .bool true, .int .i64 0, .bool false, .int .i64 s, .bool false, .int .i64 f], (0, 0), rfl, ?_, .inl rfl, Nat.le_refl _, by unfold maxLen; omega, rfl, rfl⟩, fun k hk => ?_, _, _, rfl, by omega, by omega⟩
  · exact heap_new' _ _ (by simp)
  · obtain rfl : uz.heap.size = k := by simpa [blk, Value.ownBlock] using hk
    exact ⟨by omega, hne⟩
theorem Fs.start (w1 : World) : Fs w1 (w1.alloc (.cells #[.slice none 0 0, .slice none 0 0, .int .i64 0, .int .i64 0, .int .i64 0, .slice none 0 0, .slice none 0 0, .slice none 0 0, .string ByteArray.empty, .string ByteArray.empty, .int .i64 0, .int .i64 0, .slice none 0 0] 30)) w1.heap.size 0 (.slice none 0 0) [] := by
  refine ⟨⟨(Below.refl _ _).alloc (Nat.le_refl _) _, Nat.le_refl _, heap_alloc_new _ _, World.ownsRow_nil _ _ _ _, ?_, ?_, ?_, ?_, ?_⟩, rfl⟩
  all_goals simp [Value.ownBlock]
theorem Fs.start' (w1 : World) {b : Nat} (hb : b = w1.heap.size) : Fs w1 (w1.alloc (.cells #[.slice none 0 0, .slice none 0 0, .int .i64 0, .int .i64 0, .int .i64 0, .slice none 0 0, .slice none 0 0, .slice none 0 0, .string ByteArray.empty, .string ByteArray.empty, .int .i64 0, .int .i64 0, .slice none 0 0] 30)) b 0 (.slice none 0 0) [] := by subst hb; exact Fs.start w1
set_option maxRecDepth 100000 in
set_option maxHeartbeats 8000000 in
theorem fs_First (w : World) : Calls Tryz.prog 17 #[] w fun e w' => ∃ la lc L, e = .returned (.agg #[.slice la L.length lc, .slice none 0 0, .int .i64 23, .int .i64 0, .int .i64 0, .slice none 0 0, .slice none 0 0, .slice none 0 0, .string ByteArray.empty, .string ByteArray.empty, .int .i64 0, .int .i64 0, .slice none 0 0]) ∧ Ld w w' (.slice la L.length lc) L ∧ L.map Th.pl = (List.range 23).map firstT := by
  have hz := z16
  have hzt := zT
  have hz3 := z3
  go_enter Tryz.func17, Tryz.ntmps17
  go_wp2_with (first
    | (with_reducible refine wpList_buildTo (o := ⟨some 6, _, _, _, _, _⟩) rfl _ _ rfl (some 6) rfl szA (by kernel_rfl) ?_)
    | (with_reducible refine wpList_buildTo (o := ⟨some 7, _, _, _, _, _⟩) rfl _ _ rfl (some 7) rfl fmA (by kernel_rfl) ?_)
    | (refine wpList_store_row rfl 87 (Operand.tmp 1) (Operand.tmp 6) rfl (w.heap.size + 1) szA rfl rfl _ _ (heap_new' _ _ (by simp)) (info16 0) rfl (by kernel_rfl) ?_; rw [setRow_new' _ _ _ _ (by simp)])
    | (refine wpList_store_row rfl 87 (Operand.tmp 2) (Operand.tmp 7) rfl (w.heap.size + 2) fmA rfl rfl _ _ (heap_new' _ _ (by simp)) (info16 0) rfl (by kernel_rfl) ?_; rw [setRow_new' _ _ _ _ (by simp)]))
  go_loopw [4] (fun v4 wr => ∃ k : Nat, k ≤ 23 ∧ v4 = .int .i64 k ∧ ∃ lv L, Fs (((w.alloc (.cells #[.slice none 0 0, .slice none 0 0, .int .i64 0, .int .i64 0, .int .i64 0, .slice none 0 0, .slice none 0 0, .slice none 0 0, .string ByteArray.empty, .string ByteArray.empty, .int .i64 0, .int .i64 0, .slice none 0 0] 30)).alloc (.cells szA 87)).alloc (.cells fmA 87)) wr (w.heap.size + 3) k lv L) (fun v4 wr => 23 - (intOf v4).toNat)
  case atStart => exact ⟨0, by omega, rfl, _, _, Fs.start' (((w.alloc (.cells #[.slice none 0 0, .slice none 0 0, .int .i64 0, .int .i64 0, .int .i64 0, .slice none 0 0, .slice none 0 0, .slice none 0 0, .string ByteArray.empty, .string ByteArray.empty, .int .i64 0, .int .i64 0, .slice none 0 0] 30)).alloc (.cells szA 87)).alloc (.cells fmA 87)) (by simp)⟩
  case round =>
    obtain ⟨k, hk, rfl, lv, L, hFs⟩ := hrel
    obtain ⟨la, lc, rfl⟩ := own_sl hFs.lb.ls
    obtain rfl : k = L.length := hFs.len.symm
    have HF := Lib.hid hFs
    have hblt := hFs.lb.lt
    have c0w := hFs.lb.c0
    clear hFs
    by_cases h23 : L.length < 23
    · have t0 : (L.length : Int) < 23 := by omega
      by_cases a3 : L.length < 3
      · have q3 : (L.length : Int) < 3 := by omega
        go_upto_region 15 with (refine wpList_store_row rfl 64 (Operand.tmp 5) (Operand.tmp 14) rfl wr.heap.size _ rfl rfl _ _ (heap_alloc_new wr _) info6 rfl rfl ?_; rw [World.setRow_alloc_new])
        have HUB : Hid (Below wr.heap.size wr (wr.alloc (.cells #[.int .i64 (3 + (L.length : Int)), .int .i64 1, .int .i64 ((L.length : Int) + 1), .bool false, .slice none 0 0, .string ByteArray.empty] 64))) := Lib.hid ((Below.refl _ wr).alloc (Nat.le_refl _) _)
        have HTR : Hid ((wr.alloc (.cells #[.int .i64 (3 + (L.length : Int)), .int .i64 1, .int .i64 ((L.length : Int) + 1), .bool false, .slice none 0 0, .string ByteArray.empty] 64)).heap[wr.heap.size]? = some (.cells #[.int .i64 (3 + (L.length : Int)), .int .i64 1, .int .i64 ((L.length : Int) + 1), .bool false, .slice none 0 0, .string ByteArray.empty] 64 (0, 0))) := Lib.hid (heap_alloc_new wr _)
        have HFR := Lib.hid (nil_F (wr.alloc (.cells #[.int .i64 (3 + (L.length : Int)), .int .i64 1, .int .i64 ((L.length : Int) + 1), .bool false, .slice none 0 0, .string ByteArray.empty] 64)) (.slice la L.length lc) (w.heap.size + 3))
        have HLU := Lib.hid (HF.out.lb.more HUB.out)
        have c0 := HLU.out.c0
        have hne1 : w.heap.size + 3 ≠ wr.heap.size := Nat.ne_of_lt hblt
        have hne2 : wr.heap.size ≠ w.heap.size + 3 := fun e => hne1 e.symm
        have c0a := fun x => (World.cell?_alloc_lt _ x _ HLU.out.lt).trans HLU.out.c0
        clear c0w
        go_wp2_with (first
          | (refine wpList_load_row rfl 64 (Operand.tmp 5) (by rfl) wr.heap.size (by rfl) _ _ (0, 0) _ HTR.out Tryz.underlying64 rfl info6 ?_)
          | (at_builtin; refine wpl_appT rfl (.tmp 54) (.tmp 56) (by rfl) (.slice la L.length lc) L.length _ (by rfl) (World.ownsRow.alloc HLU.out.ls _) ⟨_, 0, none⟩ 1 1 (by rfl) (Th.cells ⟨3 + (L.length : Int), 1, (L.length : Int) + 1, false, .slice none 0 0, [], ByteArray.empty⟩) rfl (fun j u hu => by rw [Addr.add_lit, Nat.zero_add]; exact new_cellN _ _ _ (by first | rfl | simp) (by simpa [Th.cells] using hu)) (one6 _ rfl) (by omega) ?_))
        intro v8 u8 own8 g8 e8
        obtain ⟨va, vc, rfl⟩ := own_slT own8
        have HP := Lib.hid (HLU.out.push ⟨3 + (L.length : Int), 1, (L.length : Int) + 1, false, .slice none 0 0, [], ByteArray.empty⟩ HFR.out.1 HFR.out.2 own8 g8 (by simpa using e8))
        have h8 : u8.heap[w.heap.size + 3]? = _ := (g8.block _ (by have := HLU.out.lt; simp at this ⊢; omega) (fun e => HLU.out.nb e.symm)).trans ((heap_alloc_old _ _ HLU.out.lt).trans HLU.out.row)
        have c8 : u8.cell? ⟨w.heap.size + 3, 0, none⟩ = some (.slice la L.length lc) := by rw [cell_row _ _ _ _ _ _ h8]; rfl
        have fz8 := frozen_of_row u8 (w.heap.size + 3) 0 _ _ h8
        clear h8 own8 g8 e8
        go_wp2_with fail
        exact ⟨⟨L.length + 1, by omega, by simp, _, _, HF.out.step HP.out (by unfold firstT; rw [if_pos (by omega)]; rfl)⟩, by simp only [intOf]; omega⟩

      · by_cases a19 : L.length < 19
        · have q3 : ¬ (L.length : Int) < 3 := by omega
          have q19 : (L.length : Int) < 19 := by omega
          obtain ⟨j, hj⟩ : ∃ j, L.length = j + 3 := ⟨L.length - 3, by omega⟩
          have hjs : (L.length : Int) - 3 = (j : Int) := by omega
          have j16 : (j : Int) < 16 := by omega
          have hwj : IntKind.i64.wrap (j : Int) = (j : Int) := IntWalk.i64_in _ ⟨by omega, by omega⟩
          have j0 : (0 : Int) ≤ (j : Int) := by omega
          obtain ⟨s, hs⟩ : ∃ s, szL.getD j 0 = s := ⟨_, rfl⟩
          obtain ⟨f, hf⟩ : ∃ f, fmL.getD j 0 = f := ⟨_, rfl⟩
          have HJ := Lib.hid (And.intro hj (And.intro hs hf))
          have HX : Hid (Below wr.heap.size wr ((wr.alloc (.cells #[.int .i64 10, .int .i64 1, .int .i64 ((L.length : Int) + 1), .bool false, .slice none 0 0, .string ByteArray.empty] 64)).drew)) := Lib.hid (below_drew ((Below.refl _ wr).alloc (Nat.le_refl _) _))
          have HA : Hid (∀ u, Below wr.heap.size wr u → u.cell? ⟨w.heap.size + 1, j, none⟩ = some (.int .i64 s) ∧ u.cell? ⟨w.heap.size + 2, j, none⟩ = some (.int .i64 f)) := Lib.hid fun u hb => by
            have hbb := HF.out.lb.more hb
            have r1 : u.heap[w.heap.size + 1]? = some (.cells szA 87 (0, 0)) := (hbb.bel.block (w.heap.size + 1) (by simp)).trans (by rw [heap_alloc_old _ _ (by simp)]; exact heap_new' _ _ (by simp))
            have r2 : u.heap[w.heap.size + 2]? = some (.cells fmA 87 (0, 0)) := (hbb.bel.block (w.heap.size + 2) (by simp)).trans (heap_new' _ _ (by simp))
            exact ⟨by rw [cell_row _ _ _ _ _ _ r1, szA_at (by omega), hs], by rw [cell_row _ _ _ _ _ _ r2, fmA_at (by omega), hf]⟩
          have HB : Hid (Below ((wr.alloc (.cells #[.int .i64 10, .int .i64 1, .int .i64 ((L.length : Int) + 1), .bool false, .slice none 0 0, .string ByteArray.empty] 64)).drew).heap.size ((wr.alloc (.cells #[.int .i64 10, .int .i64 1, .int .i64 ((L.length : Int) + 1), .bool false, .slice none 0 0, .string ByteArray.empty] 64)).drew) ((wr.alloc (.cells #[.int .i64 10, .int .i64 1, .int .i64 ((L.length : Int) + 1), .bool false, .slice none 0 0, .string ByteArray.empty] 64)).drew)) := Lib.hid (Below.refl _ _)
          clear hj hs hf
          go_upto_region 12 with (refine wpList_store_row rfl 64 (Operand.tmp 5) (Operand.tmp 14) rfl wr.heap.size _ rfl rfl _ _ (heap_alloc_new wr _) info6 rfl rfl ?_; rw [World.setRow_alloc_new])
          refine wp_region_held_drew (S := (fun w' => w'.cell? ⟨w.heap.size + 1, j, none⟩ = some (.int .i64 s) ∧ w'.cell? ⟨w.heap.size + 2, j, none⟩ = some (.int .i64 f))) (by kernel_rfl) ?_ (fun hH0 => ?_)
          · (try dsimp only); exact HA.out _ HX.out
          refine wpAnyH_take (i := 3) (oi := { dst := some 31, op := Op.move (Operand.tmp 4), type := 3, pos := "law.go:91", after := #[], guard := none }) (v := ?v1) rfl (by kernel_rfl) (by kernel_rfl) (by kernel_rfl) (fun _ _ _ h => h) (Or.inl ⟨by rfl, ?hy1⟩) (by assumption) ?_
          case hy1 => intro w hSw; (try dsimp only at hSw); go_simp; (try with_reducible rfl)
          try simp only [Act.put, List.setIfInBounds_toArray, List.set_cons_zero, List.set_cons_succ]
          refine wpAnyH_take (i := 4) (oi := { dst := some 32, op := Op.binOp BinOp.sub 3 (Operand.tmp 31) (Operand.const (Value.int IntKind.i64 3)) 3, type := 3, pos := "law.go:91", after := #[{ on := 3, ground := Ground.data }], guard := none }) (v := ?v2) rfl (by kernel_rfl) (by kernel_rfl) (by kernel_rfl) (fun _ _ _ h => h) (Or.inl ⟨by rfl, ?hy2⟩) (by assumption) ?_
          case hy2 => intro w hSw; (try dsimp only at hSw); go_simp; (try with_reducible rfl)
          try simp only [Act.put, List.setIfInBounds_toArray, List.set_cons_zero, List.set_cons_succ]
          refine wpAnyH_take (i := 5) (oi := { dst := some 33, op := Op.indexAddr 87 (Operand.tmp 1) (Operand.tmp 32), type := 0, pos := "law.go:91", after := #[{ on := 4, ground := Ground.data }], guard := none }) (v := ?v3) rfl (by kernel_rfl) (by kernel_rfl) (by kernel_rfl) (fun _ _ _ h => h) (Or.inl ⟨by rfl, ?hy3⟩) (by assumption) ?_
          case hy3 => intro w hSw; (try dsimp only at hSw); go_simp; (try with_reducible rfl)
          try simp only [Act.put, List.setIfInBounds_toArray, List.set_cons_zero, List.set_cons_succ]
          refine wpAnyH_take (i := 6) (oi := { dst := some 34, op := Op.load 3 (Operand.tmp 33), type := 3, pos := "law.go:91", after := #[{ on := 5, ground := Ground.data }], guard := none }) (v := ?v4) rfl (by kernel_rfl) (by kernel_rfl) (by kernel_rfl) (fun _ _ _ h => h) (Or.inl ⟨by rfl, ?hy4⟩) (by assumption) ?_
          case hy4 => intro w hSw; (try dsimp only at hSw); go_simp; (try with_reducible rfl)
          try simp only [Act.put, List.setIfInBounds_toArray, List.set_cons_zero, List.set_cons_succ]
          refine wpAnyH_take (i := 8) (oi := { dst := some 36, op := Op.move (Operand.tmp 4), type := 3, pos := "law.go:91", after := #[], guard := none }) (v := ?v5) rfl (by kernel_rfl) (by kernel_rfl) (by kernel_rfl) (fun _ _ _ h => h) (Or.inl ⟨by rfl, ?hy5⟩) (by assumption) ?_
          case hy5 => intro w hSw; (try dsimp only at hSw); go_simp; (try with_reducible rfl)
          try simp only [Act.put, List.setIfInBounds_toArray, List.set_cons_zero, List.set_cons_succ]
          refine wpAnyH_take (i := 9) (oi := { dst := some 37, op := Op.binOp BinOp.sub 3 (Operand.tmp 36) (Operand.const (Value.int IntKind.i64 3)) 3, type := 3, pos := "law.go:91", after := #[{ on := 8, ground := Ground.data }], guard := none }) (v := ?v6) rfl (by kernel_rfl) (by kernel_rfl) (by kernel_rfl) (fun _ _ _ h => h) (Or.inl ⟨by rfl, ?hy6⟩) (by assumption) ?_
          case hy6 => intro w hSw; (try dsimp only at hSw); go_simp; (try with_reducible rfl)
          try simp only [Act.put, List.setIfInBounds_toArray, List.set_cons_zero, List.set_cons_succ]
          refine wpAnyH_take (i := 10) (oi := { dst := some 38, op := Op.indexAddr 87 (Operand.tmp 2) (Operand.tmp 37), type := 0, pos := "law.go:91", after := #[{ on := 9, ground := Ground.data }], guard := none }) (v := ?v7) rfl (by kernel_rfl) (by kernel_rfl) (by kernel_rfl) (fun _ _ _ h => h) (Or.inl ⟨by rfl, ?hy7⟩) (by assumption) ?_
          case hy7 => intro w hSw; (try dsimp only at hSw); go_simp; (try with_reducible rfl)
          try simp only [Act.put, List.setIfInBounds_toArray, List.set_cons_zero, List.set_cons_succ]
          refine wpAnyH_take (i := 11) (oi := { dst := some 39, op := Op.load 3 (Operand.tmp 38), type := 3, pos := "law.go:91", after := #[{ on := 10, ground := Ground.data }], guard := none }) (v := ?v8) rfl (by kernel_rfl) (by kernel_rfl) (by kernel_rfl) (fun _ _ _ h => h) (Or.inl ⟨by rfl, ?hy8⟩) (by assumption) ?_
          case hy8 => intro w hSw; (try dsimp only at hSw); go_simp; (try with_reducible rfl)
          try simp only [Act.put, List.setIfInBounds_toArray, List.set_cons_zero, List.set_cons_succ]
          refine wpAnyH_ready (rs := [0]) (by kernel_rfl) (by simp) ?_
          refine AllReadyH.cons (o := { dst := some 28, op := Op.call { callee := Callee.value (Operand.func 22), args := #[Operand.const (Value.int IntKind.i64 0)], argTypes := #[3] }, type := 54, pos := "law.go:91", after := #[], guard := none }) rfl (fun K hK => ?_) AllReadyH.nil
          go_simp; go_at_call 22; (with_reducible refine (nl_Obj _ _).mono ?_); rintro e ua ⟨rfl, hbua⟩
          have HB := Lib.hid (HB.out.trans (hbua.mono HB.out.size)); clear hbua; dsimp only
          refine hK.out _ _ ?_ (fun hH1 => ?_)
          · (try dsimp only); (first | exact HA.out _ (bel3 HX.out HB.out).1 | exact HA.out _ ((bel3 HX.out HB.out).2.1 _) | exact HA.out _ ((bel3 HX.out HB.out).2.2 _ _ _))
          clear hK K
          clear hH0
          try simp only [Act.put, List.setIfInBounds_toArray, List.set_cons_zero, List.set_cons_succ]
          refine wpAnyH_ready (rs := [1]) (by kernel_rfl) (by simp) ?_
          refine AllReadyH.cons (o := { dst := some 29, op := Op.call { callee := Callee.value (Operand.func 22), args := #[Operand.const (Value.int IntKind.i64 0)], argTypes := #[3] }, type := 54, pos := "law.go:91", after := #[{ on := 0, ground := Ground.chain }], guard := none }) rfl (fun K hK => ?_) AllReadyH.nil
          go_simp; go_at_call 22; (with_reducible refine (nl_Obj _ _).mono ?_); rintro e ub ⟨rfl, hbub⟩
          have HB := Lib.hid (HB.out.trans (hbub.mono HB.out.size)); clear hbub; dsimp only
          refine hK.out _ _ ?_ (fun hH2 => ?_)
          · (try dsimp only); (first | exact HA.out _ (bel3 HX.out HB.out).1 | exact HA.out _ ((bel3 HX.out HB.out).2.1 _) | exact HA.out _ ((bel3 HX.out HB.out).2.2 _ _ _))
          clear hK K
          clear hH1
          try simp only [Act.put, List.setIfInBounds_toArray, List.set_cons_zero, List.set_cons_succ]
          refine wpAnyH_ready (rs := [2]) (by kernel_rfl) (by simp) ?_
          refine AllReadyH.cons (o := { dst := some 30, op := Op.call { callee := Callee.value (Operand.func 22), args := #[Operand.const (Value.int IntKind.i64 0)], argTypes := #[3] }, type := 54, pos := "law.go:91", after := #[{ on := 1, ground := Ground.chain }], guard := none }) rfl (fun K hK => ?_) AllReadyH.nil
          go_simp; go_at_call 22; (with_reducible refine (nl_Obj _ _).mono ?_); rintro e uc ⟨rfl, hbuc⟩
          have HB := Lib.hid (HB.out.trans (hbuc.mono HB.out.size)); clear hbuc; dsimp only
          refine hK.out _ _ ?_ (fun hH3 => ?_)
          · (try dsimp only); (first | exact HA.out _ (bel3 HX.out HB.out).1 | exact HA.out _ ((bel3 HX.out HB.out).2.1 _) | exact HA.out _ ((bel3 HX.out HB.out).2.2 _ _ _))
          clear hK K
          clear hH2
          try simp only [Act.put, List.setIfInBounds_toArray, List.set_cons_zero, List.set_cons_succ]
          refine wpAnyH_ready (rs := [7]) (by kernel_rfl) (by simp) ?_
          refine AllReadyH.cons (o := { dst := some 35, op := Op.call { callee := Callee.value (Operand.func 19), args := #[Operand.tmp 34], argTypes := #[3] }, type := 54, pos := "law.go:91", after := #[{ on := 6, ground := Ground.data }, { on := 2, ground := Ground.chain }], guard := none }) rfl (fun K hK => ?_) AllReadyH.nil
          go_simp; go_at_call 19; (with_reducible refine (nl_Num _ _).mono ?_); rintro e ud ⟨rfl, hbud⟩
          have HB := Lib.hid (HB.out.trans (hbud.mono HB.out.size)); clear hbud; dsimp only
          refine hK.out _ _ ?_ (fun hH4 => ?_)
          · (try dsimp only); (first | exact HA.out _ (bel3 HX.out HB.out).1 | exact HA.out _ ((bel3 HX.out HB.out).2.1 _) | exact HA.out _ ((bel3 HX.out HB.out).2.2 _ _ _))
          clear hK K
          clear hH3
          try simp only [Act.put, List.setIfInBounds_toArray, List.set_cons_zero, List.set_cons_succ]
          refine wpAnyH_ready (rs := [12]) (by kernel_rfl) (by simp) ?_
          refine AllReadyH.cons (o := { dst := some 40, op := Op.call { callee := Callee.value (Operand.func 19), args := #[Operand.tmp 39], argTypes := #[3] }, type := 54, pos := "law.go:91", after := #[{ on := 11, ground := Ground.data }, { on := 7, ground := Ground.chain }], guard := none }) rfl (fun K hK => ?_) AllReadyH.nil
          go_simp; go_at_call 19; (with_reducible refine (nl_Num _ _).mono ?_); rintro e uz ⟨rfl, hbuz⟩
          have HB := Lib.hid (HB.out.trans (hbuz.mono HB.out.size)); clear hbuz; dsimp only
          refine hK.out _ _ ?_ (fun hH5 => ?_)
          · (try dsimp only); (first | exact HA.out _ (bel3 HX.out HB.out).1 | exact HA.out _ ((bel3 HX.out HB.out).2.1 _) | exact HA.out _ ((bel3 HX.out HB.out).2.2 _ _ _))
          clear hK K
          clear hH4
          try simp only [Act.put, List.setIfInBounds_toArray, List.set_cons_zero, List.set_cons_succ]
          refine wpAnyH_ready (rs := [13]) (by kernel_rfl) (by simp) ?_
          refine AllReadyH.cons (o := { dst := some 41, op := Op.buildSlice 56 5 #[(0, Operand.tmp 28), (1, Operand.tmp 29), (2, Operand.tmp 30), (3, Operand.tmp 35), (4, Operand.tmp 40)], type := 56, pos := "law.go:91", after := #[{ on := 0, ground := Ground.data }, { on := 1, ground := Ground.data }, { on := 2, ground := Ground.data }, { on := 7, ground := Ground.data }, { on := 12, ground := Ground.data }], guard := none }) rfl (fun K hK => ?_) AllReadyH.nil
          have dr := (HB.out.block wr.heap.size (by simp)).trans (heap_alloc_new wr (.cells #[.int .i64 10, .int .i64 1, .int .i64 ((L.length : Int) + 1), .bool false, .slice none 0 0, .string ByteArray.empty] 64))
          have dlt : wr.heap.size < uz.heap.size := (Array.getElem?_eq_some_iff.1 dr).1
          have d4 : ∀ x, (uz.alloc x).cell? ⟨wr.heap.size, 4, none⟩ = some (.slice none 0 0) := fun x => (World.cell?_alloc_lt _ _ _ dlt).trans (by rw [cell_row _ _ _ _ _ _ dr]; rfl)
          have df : ∀ x, (uz.alloc x).frozen? ⟨wr.heap.size, 4, none⟩ = false := fun x => frozen_of_row _ _ _ _ _ ((heap_alloc_old _ _ dlt).trans dr)
          have HDR := Lib.hid dr
          clear dr
          go_simp
          refine hK.out _ _ ?_ (fun hH6 => ?_)
          · (try dsimp only); (first | exact HA.out _ (bel3 HX.out HB.out).1 | exact HA.out _ ((bel3 HX.out HB.out).2.1 _) | exact HA.out _ ((bel3 HX.out HB.out).2.2 _ _ _))
          clear hK K
          clear hH5
          try simp only [Act.put, List.setIfInBounds_toArray, List.set_cons_zero, List.set_cons_succ]
          refine wpAnyH_take (i := 14) (oi := { dst := some 42, op := Op.fieldAddr 64 (Operand.tmp 5) 4, type := 0, pos := "law.go:91", after := #[{ on := 0, ground := Ground.phase }, { on := 1, ground := Ground.phase }, { on := 2, ground := Ground.phase }, { on := 3, ground := Ground.phase }, { on := 4, ground := Ground.phase }, { on := 5, ground := Ground.phase }, { on := 6, ground := Ground.phase }, { on := 7, ground := Ground.phase }, { on := 8, ground := Ground.phase }, { on := 9, ground := Ground.phase }, { on := 10, ground := Ground.phase }, { on := 11, ground := Ground.phase }, { on := 12, ground := Ground.phase }, { on := 13, ground := Ground.phase }], guard := none }) (v := ?v15) rfl (by kernel_rfl) (by kernel_rfl) (by kernel_rfl) (fun _ _ _ h => h) (Or.inl ⟨by rfl, ?hy15⟩) (by assumption) ?_
          case hy15 => intro w hSw; (try dsimp only at hSw); go_simp; (try with_reducible rfl)
          try simp only [Act.put, List.setIfInBounds_toArray, List.set_cons_zero, List.set_cons_succ]
          refine wpAnyH_ready (rs := [15]) (by kernel_rfl) (by simp) ?_
          refine AllReadyH.cons (o := { dst := none, op := Op.store 56 (Operand.tmp 42) (Operand.tmp 41), type := 0, pos := "law.go:91", after := #[{ on := 14, ground := Ground.data }, { on := 13, ground := Ground.data }, { on := 12, ground := Ground.chain }, { on := 0, ground := Ground.phase }, { on := 1, ground := Ground.phase }, { on := 2, ground := Ground.phase }, { on := 3, ground := Ground.phase }, { on := 4, ground := Ground.phase }, { on := 5, ground := Ground.phase }, { on := 6, ground := Ground.phase }, { on := 7, ground := Ground.phase }, { on := 8, ground := Ground.phase }, { on := 9, ground := Ground.phase }, { on := 10, ground := Ground.phase }, { on := 11, ground := Ground.phase }, { on := 12, ground := Ground.phase }, { on := 13, ground := Ground.phase }], guard := none }) rfl (fun K hK => ?_) AllReadyH.nil
          go_simp
          refine hK.out _ _ ?_ (fun hH7 => ?_)
          · (try dsimp only); (first | exact HA.out _ (bel3 HX.out HB.out).1 | exact HA.out _ ((bel3 HX.out HB.out).2.1 _) | exact HA.out _ ((bel3 HX.out HB.out).2.2 _ _ _))
          clear hK K
          clear hH6
          try simp only [Act.put, List.setIfInBounds_toArray, List.set_cons_zero, List.set_cons_succ]
          refine wpAnyH_done (by kernel_rfl) ?_ _
          have HLT5 := Lib.hid dlt
          have HUB : Hid (Below wr.heap.size wr ((uz.setCell ⟨wr.heap.size, 4, none⟩ (.slice (some ⟨uz.heap.size, 0, none⟩) 5 5)).alloc (.cells #[.bool true, .int .i64 0, .bool true, .int .i64 0, .bool true, .int .i64 0, .bool false, .int .i64 s, .bool false, .int .i64 f] 54))) := Lib.hid ((bel3 HX.out HB.out).2.2 _ _ _)
          have HTR : Hid (((uz.setCell ⟨wr.heap.size, 4, none⟩ (.slice (some ⟨uz.heap.size, 0, none⟩) 5 5)).alloc (.cells #[.bool true, .int .i64 0, .bool true, .int .i64 0, .bool true, .int .i64 0, .bool false, .int .i64 s, .bool false, .int .i64 f] 54)).heap[wr.heap.size]? = some (.cells #[.int .i64 10, .int .i64 1, .int .i64 ((L.length : Int) + 1), .bool false, .slice (some ⟨uz.heap.size, 0, none⟩) 5 5, .string ByteArray.empty] 64 (0, 0))) := Lib.hid ((heap_alloc_old _ _ (by simpa using HLT5.out)).trans (heap_setCell_same _ wr.heap.size 4 _ _ _ HDR.out))
          have HFR := Lib.hid (new_F5 (w := w) (wr := wr) (uz := uz) (la := la) (lc := lc) (n := L.length) s f HLT5.out (by have := HF.out.lb.lt; omega) (fun e => by have := (HF.out.lb.ls.lt _ e).2; have := HLT5.out; omega))
          have HLU := Lib.hid (HF.out.lb.more HUB.out)
          have c0 := HLU.out.c0
          have hne1 : w.heap.size + 3 ≠ wr.heap.size := Nat.ne_of_lt hblt
          have hne2 : wr.heap.size ≠ w.heap.size + 3 := fun e => hne1 e.symm
          have czu := (HF.out.lb.more (bel3 HX.out HB.out).1).c0
          have czx := fun o => (HF.out.lb.more ((bel3 HX.out HB.out).2.1 o)).c0
          have c0a := fun x => (World.cell?_alloc_lt _ x _ HLU.out.lt).trans HLU.out.c0
          clear c0w d4 df
          go_wp2_with (first
            | (refine wpList_load_row rfl 64 (Operand.tmp 5) (by rfl) wr.heap.size (by rfl) _ _ (0, 0) _ HTR.out Tryz.underlying64 rfl info6 ?_)
            | (at_builtin; refine wpl_appT rfl (.tmp 54) (.tmp 56) (by rfl) (.slice la L.length lc) L.length _ (by rfl) (World.ownsRow.alloc HLU.out.ls _) ⟨_, 0, none⟩ 1 1 (by rfl) (Th.cells ⟨10, 1, (L.length : Int) + 1, false, .slice (some ⟨uz.heap.size, 0, none⟩) 5 5, [(true, 0), (true, 0), (true, 0), (false, s), (false, f)], ByteArray.empty⟩) rfl (fun j u hu => by rw [Addr.add_lit, Nat.zero_add]; exact new_cellN _ _ _ (by first | rfl | simp) (by simpa [Th.cells] using hu)) (one6 _ rfl) (by omega) ?_))
          intro v8 u8 own8 g8 e8
          obtain ⟨va, vc, rfl⟩ := own_slT own8
          have HP := Lib.hid (HLU.out.push ⟨10, 1, (L.length : Int) + 1, false, .slice (some ⟨uz.heap.size, 0, none⟩) 5 5, [(true, 0), (true, 0), (true, 0), (false, s), (false, f)], ByteArray.empty⟩ HFR.out.1 HFR.out.2 own8 g8 (by simpa using e8))
          have h8 : u8.heap[w.heap.size + 3]? = _ := (g8.block _ (by have := HLU.out.lt; simp at this ⊢; omega) (fun e => HLU.out.nb e.symm)).trans ((heap_alloc_old _ _ HLU.out.lt).trans HLU.out.row)
          have c8 : u8.cell? ⟨w.heap.size + 3, 0, none⟩ = some (.slice la L.length lc) := by rw [cell_row _ _ _ _ _ _ h8]; rfl
          have fz8 := frozen_of_row u8 (w.heap.size + 3) 0 _ _ h8
          clear h8 own8 g8 e8
          go_wp2_with fail
          exact ⟨⟨L.length + 1, by omega, by simp, _, _, HF.out.step HP.out (by unfold firstT; rw [if_neg (by have := HJ.out.1; omega), if_pos (by omega)]; obtain ⟨h1, h2, h3⟩ := HJ.out; rw [show L.length - 3 = j by omega, h2, h3]; rfl)⟩, by simp only [intOf]; omega⟩
        · have q3 : ¬ (L.length : Int) < 3 := by omega
          have q19 : ¬ (L.length : Int) < 19 := by omega
          by_cases a22 : L.length < 22
          · have q22 : (L.length : Int) < 22 := by omega
            rcases (show L.length = 19 ∨ L.length = 20 ∨ L.length = 21 by omega) with a0 | a1 | a2
            · have hjs : (L.length : Int) - 19 = 0 := by omega
              have hwi : IntKind.i64.wrap (0 : Int) = 0 := by rfl
              have hix := ix0
              have HQ := Lib.hid a0
              clear a0
              go_upto_region 14 with (refine wpList_store_row rfl 64 (Operand.tmp 5) (Operand.tmp 14) rfl wr.heap.size _ rfl rfl _ _ (heap_alloc_new wr _) info6 rfl rfl ?_; rw [World.setRow_alloc_new])
              refine wp_region_held_drew (S := (fun w' => True)) (by kernel_rfl) ?_ (fun hH0 => ?_)
              · (try dsimp only); (first | done | trivial)
              refine wpAnyH_take (i := 0) (oi := { dst := some 46, op := Op.build 88 #[(0, Operand.const (Value.string { data := #[108, 111, 115, 116] })), (1, Operand.const (Value.string { data := #[98, 111, 111, 108] })), (2, Operand.const (Value.string { data := #[98, 97, 99, 107] }))], type := 88, pos := "law.go:93", after := #[{ on := 7, ground := Ground.gcOnly Departure.lateStores }], guard := none }) (v := ?v17) rfl (by kernel_rfl) (by kernel_rfl) (by kernel_rfl) (fun _ _ _ h => h) (Or.inl ⟨by rfl, ?hy17⟩) (by assumption) ?_
              case hy17 => intro w hSw; (try dsimp only at hSw); go_simp; (try with_reducible rfl)
              try simp only [Act.put, List.setIfInBounds_toArray, List.set_cons_zero, List.set_cons_succ]
              refine wpAnyH_take (i := 1) (oi := { dst := some 47, op := Op.move (Operand.tmp 4), type := 3, pos := "law.go:93", after := #[{ on := 7, ground := Ground.gcOnly Departure.lateStores }], guard := none }) (v := ?v18) rfl (by kernel_rfl) (by kernel_rfl) (by kernel_rfl) (fun _ _ _ h => h) (Or.inl ⟨by rfl, ?hy18⟩) (by assumption) ?_
              case hy18 => intro w hSw; (try dsimp only at hSw); go_simp; (try with_reducible rfl)
              try simp only [Act.put, List.setIfInBounds_toArray, List.set_cons_zero, List.set_cons_succ]
              refine wpAnyH_take (i := 2) (oi := { dst := some 48, op := Op.binOp BinOp.sub 3 (Operand.tmp 47) (Operand.const (Value.int IntKind.i64 19)) 3, type := 3, pos := "law.go:93", after := #[{ on := 1, ground := Ground.data }, { on := 7, ground := Ground.gcOnly Departure.lateStores }], guard := none }) (v := ?v19) rfl (by kernel_rfl) (by kernel_rfl) (by kernel_rfl) (fun _ _ _ h => h) (Or.inl ⟨by rfl, ?hy19⟩) (by assumption) ?_
              case hy19 => intro w hSw; (try dsimp only at hSw); go_simp; (try with_reducible rfl)
              try simp only [Act.put, List.setIfInBounds_toArray, List.set_cons_zero, List.set_cons_succ]
              refine wpAnyH_take (i := 3) (oi := { dst := some 49, op := Op.index 88 (Operand.tmp 46) (Operand.tmp 48), type := 9, pos := "law.go:93", after := #[{ on := 0, ground := Ground.data }, { on := 2, ground := Ground.data }, { on := 7, ground := Ground.gcOnly Departure.lateStores }], guard := none }) (v := ?v20) rfl (by kernel_rfl) (by kernel_rfl) (by kernel_rfl) (fun _ _ _ h => h) (Or.inl ⟨by rfl, ?hy20⟩) (by assumption) ?_
              case hy20 => intro w hSw; (try dsimp only at hSw); go_simp; (try with_reducible rfl)
              try simp only [Act.put, List.setIfInBounds_toArray, List.set_cons_zero, List.set_cons_succ]
              refine wpAnyH_take (i := 4) (oi := { dst := some 50, op := Op.fieldAddr 64 (Operand.tmp 5) 0, type := 0, pos := "law.go:93", after := #[{ on := 0, ground := Ground.textOnly Departure.lateStores }, { on := 1, ground := Ground.textOnly Departure.lateStores }, { on := 2, ground := Ground.textOnly Departure.lateStores }, { on := 3, ground := Ground.textOnly Departure.lateStores }], guard := none }) (v := ?v21) rfl (by kernel_rfl) (by kernel_rfl) (by kernel_rfl) (fun _ _ _ h => h) (Or.inl ⟨by rfl, ?hy21⟩) (by assumption) ?_
              case hy21 => intro w hSw; (try dsimp only at hSw); go_simp; (try with_reducible rfl)
              try simp only [Act.put, List.setIfInBounds_toArray, List.set_cons_zero, List.set_cons_succ]
              refine wpAnyH_ready (rs := [5]) (by kernel_rfl) (by simp) ?_
              refine AllReadyH.cons (o := { dst := none, op := Op.store 3 (Operand.tmp 50) (Operand.const (Value.int IntKind.i64 9)), type := 0, pos := "law.go:93", after := #[{ on := 4, ground := Ground.data }, { on := 0, ground := Ground.textOnly Departure.lateStores }, { on := 1, ground := Ground.textOnly Departure.lateStores }, { on := 2, ground := Ground.textOnly Departure.lateStores }, { on := 3, ground := Ground.textOnly Departure.lateStores }], guard := none }) rfl (fun K hK => ?_) AllReadyH.nil
              go_simp
              refine hK.out _ _ ?_ (fun hH1 => ?_)
              · (try dsimp only); (first | done | trivial)
              clear hK K
              clear hH0
              try simp only [Act.put, List.setIfInBounds_toArray, List.set_cons_zero, List.set_cons_succ]
              refine wpAnyH_take (i := 6) (oi := { dst := some 51, op := Op.fieldAddr 64 (Operand.tmp 5) 1, type := 0, pos := "law.go:93", after := #[{ on := 0, ground := Ground.textOnly Departure.lateStores }, { on := 1, ground := Ground.textOnly Departure.lateStores }, { on := 2, ground := Ground.textOnly Departure.lateStores }, { on := 3, ground := Ground.textOnly Departure.lateStores }, { on := 4, ground := Ground.phase }, { on := 5, ground := Ground.phase }], guard := none }) (v := ?v23) rfl (by kernel_rfl) (by kernel_rfl) (by kernel_rfl) (fun _ _ _ h => h) (Or.inl ⟨by rfl, ?hy23⟩) (by assumption) ?_
              case hy23 => intro w hSw; (try dsimp only at hSw); go_simp; (try with_reducible rfl)
              try simp only [Act.put, List.setIfInBounds_toArray, List.set_cons_zero, List.set_cons_succ]
              refine wpAnyH_ready (rs := [7]) (by kernel_rfl) (by simp) ?_
              refine AllReadyH.cons (o := { dst := none, op := Op.store 3 (Operand.tmp 51) (Operand.const (Value.int IntKind.i64 3)), type := 0, pos := "law.go:93", after := #[{ on := 6, ground := Ground.data }, { on := 5, ground := Ground.chain }, { on := 0, ground := Ground.textOnly Departure.lateStores }, { on := 1, ground := Ground.textOnly Departure.lateStores }, { on := 2, ground := Ground.textOnly Departure.lateStores }, { on := 3, ground := Ground.textOnly Departure.lateStores }, { on := 4, ground := Ground.phase }, { on := 5, ground := Ground.phase }], guard := none }) rfl (fun K hK => ?_) AllReadyH.nil
              go_simp
              refine hK.out _ _ ?_ (fun hH2 => ?_)
              · (try dsimp only); (first | done | trivial)
              clear hK K
              clear hH1
              try simp only [Act.put, List.setIfInBounds_toArray, List.set_cons_zero, List.set_cons_succ]
              refine wpAnyH_take (i := 8) (oi := { dst := some 52, op := Op.fieldAddr 64 (Operand.tmp 5) 5, type := 0, pos := "law.go:93", after := #[{ on := 0, ground := Ground.phase }, { on := 1, ground := Ground.phase }, { on := 2, ground := Ground.phase }, { on := 3, ground := Ground.phase }, { on := 4, ground := Ground.phase }, { on := 5, ground := Ground.phase }, { on := 6, ground := Ground.phase }, { on := 7, ground := Ground.phase }], guard := none }) (v := ?v25) rfl (by kernel_rfl) (by kernel_rfl) (by kernel_rfl) (fun _ _ _ h => h) (Or.inl ⟨by rfl, ?hy25⟩) (by assumption) ?_
              case hy25 => intro w hSw; (try dsimp only at hSw); go_simp; (try with_reducible rfl)
              try simp only [Act.put, List.setIfInBounds_toArray, List.set_cons_zero, List.set_cons_succ]
              refine wpAnyH_ready (rs := [9]) (by kernel_rfl) (by simp) ?_
              refine AllReadyH.cons (o := { dst := none, op := Op.store 9 (Operand.tmp 52) (Operand.tmp 49), type := 0, pos := "law.go:93", after := #[{ on := 8, ground := Ground.data }, { on := 3, ground := Ground.data }, { on := 7, ground := Ground.chain }, { on := 0, ground := Ground.phase }, { on := 1, ground := Ground.phase }, { on := 2, ground := Ground.phase }, { on := 3, ground := Ground.phase }, { on := 4, ground := Ground.phase }, { on := 5, ground := Ground.phase }, { on := 6, ground := Ground.phase }, { on := 7, ground := Ground.phase }], guard := none }) rfl (fun K hK => ?_) AllReadyH.nil
              go_simp
              refine hK.out _ _ ?_ (fun hH3 => ?_)
              · (try dsimp only); (first | done | trivial)
              clear hK K
              clear hH2
              try simp only [Act.put, List.setIfInBounds_toArray, List.set_cons_zero, List.set_cons_succ]
              refine wpAnyH_done (by kernel_rfl) ?_ _
              have HUB : Hid (Below wr.heap.size wr (wr.alloc (.cells #[.int .i64 9, .int .i64 3, .int .i64 ((L.length : Int) + 1), .bool false, .slice none 0 0, .string ⟨#[108, 111, 115, 116]⟩] 64))) := Lib.hid ((Below.refl _ wr).alloc (Nat.le_refl _) _)
              have HTR : Hid ((wr.alloc (.cells #[.int .i64 9, .int .i64 3, .int .i64 ((L.length : Int) + 1), .bool false, .slice none 0 0, .string ⟨#[108, 111, 115, 116]⟩] 64)).heap[wr.heap.size]? = some (.cells #[.int .i64 9, .int .i64 3, .int .i64 ((L.length : Int) + 1), .bool false, .slice none 0 0, .string ⟨#[108, 111, 115, 116]⟩] 64 (0, 0))) := Lib.hid (heap_alloc_new wr _)
              have HFR := Lib.hid (nil_F (wr.alloc (.cells #[.int .i64 9, .int .i64 3, .int .i64 ((L.length : Int) + 1), .bool false, .slice none 0 0, .string ⟨#[108, 111, 115, 116]⟩] 64)) (.slice la L.length lc) (w.heap.size + 3))
              have HLU := Lib.hid (HF.out.lb.more HUB.out)
              have c0 := HLU.out.c0
              have hne1 : w.heap.size + 3 ≠ wr.heap.size := Nat.ne_of_lt hblt
              have hne2 : wr.heap.size ≠ w.heap.size + 3 := fun e => hne1 e.symm
              have c0a := fun x => (World.cell?_alloc_lt _ x _ HLU.out.lt).trans HLU.out.c0
              clear c0w
              go_wp2_with (first
                | (refine wpList_load_row rfl 64 (Operand.tmp 5) (by rfl) wr.heap.size (by rfl) _ _ (0, 0) _ HTR.out Tryz.underlying64 rfl info6 ?_)
                | (at_builtin; refine wpl_appT rfl (.tmp 54) (.tmp 56) (by rfl) (.slice la L.length lc) L.length _ (by rfl) (World.ownsRow.alloc HLU.out.ls _) ⟨_, 0, none⟩ 1 1 (by rfl) (Th.cells ⟨9, 3, (L.length : Int) + 1, false, .slice none 0 0, [], ⟨#[108, 111, 115, 116]⟩⟩) rfl (fun j u hu => by rw [Addr.add_lit, Nat.zero_add]; exact new_cellD _ _ _ (by first | rfl | simp) (by simpa [Th.cells] using hu)) (one6 _ rfl) (by omega) ?_))
              intro v8 u8 own8 g8 e8
              have g8 := grown_undrew g8
              obtain ⟨va, vc, rfl⟩ := own_slT own8
              have HP := Lib.hid (HLU.out.push ⟨9, 3, (L.length : Int) + 1, false, .slice none 0 0, [], ⟨#[108, 111, 115, 116]⟩⟩ HFR.out.1 HFR.out.2 own8 g8 (by simpa using e8))
              have h8 : u8.heap[w.heap.size + 3]? = _ := (g8.block _ (by have := HLU.out.lt; simp at this ⊢; omega) (fun e => HLU.out.nb e.symm)).trans ((heap_alloc_old _ _ HLU.out.lt).trans HLU.out.row)
              have c8 : u8.cell? ⟨w.heap.size + 3, 0, none⟩ = some (.slice la L.length lc) := by rw [cell_row _ _ _ _ _ _ h8]; rfl
              have fz8 := frozen_of_row u8 (w.heap.size + 3) 0 _ _ h8
              clear h8 own8 g8 e8
              go_wp2_with fail
              exact ⟨⟨L.length + 1, by omega, by simp, _, _, HF.out.step HP.out (by unfold firstT; have := HQ.out; rw [if_neg (by omega), if_neg (by omega), if_pos (by omega), this]; rfl)⟩, by simp only [intOf]; omega⟩
            · have hjs : (L.length : Int) - 19 = 1 := by omega
              have hwi : IntKind.i64.wrap (1 : Int) = 1 := by rfl
              have hix := ix1
              have HQ := Lib.hid a1
              clear a1
              go_upto_region 14 with (refine wpList_store_row rfl 64 (Operand.tmp 5) (Operand.tmp 14) rfl wr.heap.size _ rfl rfl _ _ (heap_alloc_new wr _) info6 rfl rfl ?_; rw [World.setRow_alloc_new])
              refine wp_region_held_drew (S := (fun w' => True)) (by kernel_rfl) ?_ (fun hH0 => ?_)
              · (try dsimp only); (first | done | trivial)
              refine wpAnyH_take (i := 0) (oi := { dst := some 46, op := Op.build 88 #[(0, Operand.const (Value.string { data := #[108, 111, 115, 116] })), (1, Operand.const (Value.string { data := #[98, 111, 111, 108] })), (2, Operand.const (Value.string { data := #[98, 97, 99, 107] }))], type := 88, pos := "law.go:93", after := #[{ on := 7, ground := Ground.gcOnly Departure.lateStores }], guard := none }) (v := ?v27) rfl (by kernel_rfl) (by kernel_rfl) (by kernel_rfl) (fun _ _ _ h => h) (Or.inl ⟨by rfl, ?hy27⟩) (by assumption) ?_
              case hy27 => intro w hSw; (try dsimp only at hSw); go_simp; (try with_reducible rfl)
              try simp only [Act.put, List.setIfInBounds_toArray, List.set_cons_zero, List.set_cons_succ]
              refine wpAnyH_take (i := 1) (oi := { dst := some 47, op := Op.move (Operand.tmp 4), type := 3, pos := "law.go:93", after := #[{ on := 7, ground := Ground.gcOnly Departure.lateStores }], guard := none }) (v := ?v28) rfl (by kernel_rfl) (by kernel_rfl) (by kernel_rfl) (fun _ _ _ h => h) (Or.inl ⟨by rfl, ?hy28⟩) (by assumption) ?_
              case hy28 => intro w hSw; (try dsimp only at hSw); go_simp; (try with_reducible rfl)
              try simp only [Act.put, List.setIfInBounds_toArray, List.set_cons_zero, List.set_cons_succ]
              refine wpAnyH_take (i := 2) (oi := { dst := some 48, op := Op.binOp BinOp.sub 3 (Operand.tmp 47) (Operand.const (Value.int IntKind.i64 19)) 3, type := 3, pos := "law.go:93", after := #[{ on := 1, ground := Ground.data }, { on := 7, ground := Ground.gcOnly Departure.lateStores }], guard := none }) (v := ?v29) rfl (by kernel_rfl) (by kernel_rfl) (by kernel_rfl) (fun _ _ _ h => h) (Or.inl ⟨by rfl, ?hy29⟩) (by assumption) ?_
              case hy29 => intro w hSw; (try dsimp only at hSw); go_simp; (try with_reducible rfl)
              try simp only [Act.put, List.setIfInBounds_toArray, List.set_cons_zero, List.set_cons_succ]
              refine wpAnyH_take (i := 3) (oi := { dst := some 49, op := Op.index 88 (Operand.tmp 46) (Operand.tmp 48), type := 9, pos := "law.go:93", after := #[{ on := 0, ground := Ground.data }, { on := 2, ground := Ground.data }, { on := 7, ground := Ground.gcOnly Departure.lateStores }], guard := none }) (v := ?v30) rfl (by kernel_rfl) (by kernel_rfl) (by kernel_rfl) (fun _ _ _ h => h) (Or.inl ⟨by rfl, ?hy30⟩) (by assumption) ?_
              case hy30 => intro w hSw; (try dsimp only at hSw); go_simp; (try with_reducible rfl)
              try simp only [Act.put, List.setIfInBounds_toArray, List.set_cons_zero, List.set_cons_succ]
              refine wpAnyH_take (i := 4) (oi := { dst := some 50, op := Op.fieldAddr 64 (Operand.tmp 5) 0, type := 0, pos := "law.go:93", after := #[{ on := 0, ground := Ground.textOnly Departure.lateStores }, { on := 1, ground := Ground.textOnly Departure.lateStores }, { on := 2, ground := Ground.textOnly Departure.lateStores }, { on := 3, ground := Ground.textOnly Departure.lateStores }], guard := none }) (v := ?v31) rfl (by kernel_rfl) (by kernel_rfl) (by kernel_rfl) (fun _ _ _ h => h) (Or.inl ⟨by rfl, ?hy31⟩) (by assumption) ?_
              case hy31 => intro w hSw; (try dsimp only at hSw); go_simp; (try with_reducible rfl)
              try simp only [Act.put, List.setIfInBounds_toArray, List.set_cons_zero, List.set_cons_succ]
              refine wpAnyH_ready (rs := [5]) (by kernel_rfl) (by simp) ?_
              refine AllReadyH.cons (o := { dst := none, op := Op.store 3 (Operand.tmp 50) (Operand.const (Value.int IntKind.i64 9)), type := 0, pos := "law.go:93", after := #[{ on := 4, ground := Ground.data }, { on := 0, ground := Ground.textOnly Departure.lateStores }, { on := 1, ground := Ground.textOnly Departure.lateStores }, { on := 2, ground := Ground.textOnly Departure.lateStores }, { on := 3, ground := Ground.textOnly Departure.lateStores }], guard := none }) rfl (fun K hK => ?_) AllReadyH.nil
              go_simp
              refine hK.out _ _ ?_ (fun hH1 => ?_)
              · (try dsimp only); (first | done | trivial)
              clear hK K
              clear hH0
              try simp only [Act.put, List.setIfInBounds_toArray, List.set_cons_zero, List.set_cons_succ]
              refine wpAnyH_take (i := 6) (oi := { dst := some 51, op := Op.fieldAddr 64 (Operand.tmp 5) 1, type := 0, pos := "law.go:93", after := #[{ on := 0, ground := Ground.textOnly Departure.lateStores }, { on := 1, ground := Ground.textOnly Departure.lateStores }, { on := 2, ground := Ground.textOnly Departure.lateStores }, { on := 3, ground := Ground.textOnly Departure.lateStores }, { on := 4, ground := Ground.phase }, { on := 5, ground := Ground.phase }], guard := none }) (v := ?v33) rfl (by kernel_rfl) (by kernel_rfl) (by kernel_rfl) (fun _ _ _ h => h) (Or.inl ⟨by rfl, ?hy33⟩) (by assumption) ?_
              case hy33 => intro w hSw; (try dsimp only at hSw); go_simp; (try with_reducible rfl)
              try simp only [Act.put, List.setIfInBounds_toArray, List.set_cons_zero, List.set_cons_succ]
              refine wpAnyH_ready (rs := [7]) (by kernel_rfl) (by simp) ?_
              refine AllReadyH.cons (o := { dst := none, op := Op.store 3 (Operand.tmp 51) (Operand.const (Value.int IntKind.i64 3)), type := 0, pos := "law.go:93", after := #[{ on := 6, ground := Ground.data }, { on := 5, ground := Ground.chain }, { on := 0, ground := Ground.textOnly Departure.lateStores }, { on := 1, ground := Ground.textOnly Departure.lateStores }, { on := 2, ground := Ground.textOnly Departure.lateStores }, { on := 3, ground := Ground.textOnly Departure.lateStores }, { on := 4, ground := Ground.phase }, { on := 5, ground := Ground.phase }], guard := none }) rfl (fun K hK => ?_) AllReadyH.nil
              go_simp
              refine hK.out _ _ ?_ (fun hH2 => ?_)
              · (try dsimp only); (first | done | trivial)
              clear hK K
              clear hH1
              try simp only [Act.put, List.setIfInBounds_toArray, List.set_cons_zero, List.set_cons_succ]
              refine wpAnyH_take (i := 8) (oi := { dst := some 52, op := Op.fieldAddr 64 (Operand.tmp 5) 5, type := 0, pos := "law.go:93", after := #[{ on := 0, ground := Ground.phase }, { on := 1, ground := Ground.phase }, { on := 2, ground := Ground.phase }, { on := 3, ground := Ground.phase }, { on := 4, ground := Ground.phase }, { on := 5, ground := Ground.phase }, { on := 6, ground := Ground.phase }, { on := 7, ground := Ground.phase }], guard := none }) (v := ?v35) rfl (by kernel_rfl) (by kernel_rfl) (by kernel_rfl) (fun _ _ _ h => h) (Or.inl ⟨by rfl, ?hy35⟩) (by assumption) ?_
              case hy35 => intro w hSw; (try dsimp only at hSw); go_simp; (try with_reducible rfl)
              try simp only [Act.put, List.setIfInBounds_toArray, List.set_cons_zero, List.set_cons_succ]
              refine wpAnyH_ready (rs := [9]) (by kernel_rfl) (by simp) ?_
              refine AllReadyH.cons (o := { dst := none, op := Op.store 9 (Operand.tmp 52) (Operand.tmp 49), type := 0, pos := "law.go:93", after := #[{ on := 8, ground := Ground.data }, { on := 3, ground := Ground.data }, { on := 7, ground := Ground.chain }, { on := 0, ground := Ground.phase }, { on := 1, ground := Ground.phase }, { on := 2, ground := Ground.phase }, { on := 3, ground := Ground.phase }, { on := 4, ground := Ground.phase }, { on := 5, ground := Ground.phase }, { on := 6, ground := Ground.phase }, { on := 7, ground := Ground.phase }], guard := none }) rfl (fun K hK => ?_) AllReadyH.nil
              go_simp
              refine hK.out _ _ ?_ (fun hH3 => ?_)
              · (try dsimp only); (first | done | trivial)
              clear hK K
              clear hH2
              try simp only [Act.put, List.setIfInBounds_toArray, List.set_cons_zero, List.set_cons_succ]
              refine wpAnyH_done (by kernel_rfl) ?_ _
              have HUB : Hid (Below wr.heap.size wr (wr.alloc (.cells #[.int .i64 9, .int .i64 3, .int .i64 ((L.length : Int) + 1), .bool false, .slice none 0 0, .string ⟨#[98, 111, 111, 108]⟩] 64))) := Lib.hid ((Below.refl _ wr).alloc (Nat.le_refl _) _)
              have HTR : Hid ((wr.alloc (.cells #[.int .i64 9, .int .i64 3, .int .i64 ((L.length : Int) + 1), .bool false, .slice none 0 0, .string ⟨#[98, 111, 111, 108]⟩] 64)).heap[wr.heap.size]? = some (.cells #[.int .i64 9, .int .i64 3, .int .i64 ((L.length : Int) + 1), .bool false, .slice none 0 0, .string ⟨#[98, 111, 111, 108]⟩] 64 (0, 0))) := Lib.hid (heap_alloc_new wr _)
              have HFR := Lib.hid (nil_F (wr.alloc (.cells #[.int .i64 9, .int .i64 3, .int .i64 ((L.length : Int) + 1), .bool false, .slice none 0 0, .string ⟨#[98, 111, 111, 108]⟩] 64)) (.slice la L.length lc) (w.heap.size + 3))
              have HLU := Lib.hid (HF.out.lb.more HUB.out)
              have c0 := HLU.out.c0
              have hne1 : w.heap.size + 3 ≠ wr.heap.size := Nat.ne_of_lt hblt
              have hne2 : wr.heap.size ≠ w.heap.size + 3 := fun e => hne1 e.symm
              have c0a := fun x => (World.cell?_alloc_lt _ x _ HLU.out.lt).trans HLU.out.c0
              clear c0w
              go_wp2_with (first
                | (refine wpList_load_row rfl 64 (Operand.tmp 5) (by rfl) wr.heap.size (by rfl) _ _ (0, 0) _ HTR.out Tryz.underlying64 rfl info6 ?_)
                | (at_builtin; refine wpl_appT rfl (.tmp 54) (.tmp 56) (by rfl) (.slice la L.length lc) L.length _ (by rfl) (World.ownsRow.alloc HLU.out.ls _) ⟨_, 0, none⟩ 1 1 (by rfl) (Th.cells ⟨9, 3, (L.length : Int) + 1, false, .slice none 0 0, [], ⟨#[98, 111, 111, 108]⟩⟩) rfl (fun j u hu => by rw [Addr.add_lit, Nat.zero_add]; exact new_cellD _ _ _ (by first | rfl | simp) (by simpa [Th.cells] using hu)) (one6 _ rfl) (by omega) ?_))
              intro v8 u8 own8 g8 e8
              have g8 := grown_undrew g8
              obtain ⟨va, vc, rfl⟩ := own_slT own8
              have HP := Lib.hid (HLU.out.push ⟨9, 3, (L.length : Int) + 1, false, .slice none 0 0, [], ⟨#[98, 111, 111, 108]⟩⟩ HFR.out.1 HFR.out.2 own8 g8 (by simpa using e8))
              have h8 : u8.heap[w.heap.size + 3]? = _ := (g8.block _ (by have := HLU.out.lt; simp at this ⊢; omega) (fun e => HLU.out.nb e.symm)).trans ((heap_alloc_old _ _ HLU.out.lt).trans HLU.out.row)
              have c8 : u8.cell? ⟨w.heap.size + 3, 0, none⟩ = some (.slice la L.length lc) := by rw [cell_row _ _ _ _ _ _ h8]; rfl
              have fz8 := frozen_of_row u8 (w.heap.size + 3) 0 _ _ h8
              clear h8 own8 g8 e8
              go_wp2_with fail
              exact ⟨⟨L.length + 1, by omega, by simp, _, _, HF.out.step HP.out (by unfold firstT; have := HQ.out; rw [if_neg (by omega), if_neg (by omega), if_pos (by omega), this]; rfl)⟩, by simp only [intOf]; omega⟩
            · have hjs : (L.length : Int) - 19 = 2 := by omega
              have hwi : IntKind.i64.wrap (2 : Int) = 2 := by rfl
              have hix := ix2
              have HQ := Lib.hid a2
              clear a2
              go_upto_region 14 with (refine wpList_store_row rfl 64 (Operand.tmp 5) (Operand.tmp 14) rfl wr.heap.size _ rfl rfl _ _ (heap_alloc_new wr _) info6 rfl rfl ?_; rw [World.setRow_alloc_new])
              refine wp_region_held_drew (S := (fun w' => True)) (by kernel_rfl) ?_ (fun hH0 => ?_)
              · (try dsimp only); (first | done | trivial)
              refine wpAnyH_take (i := 0) (oi := { dst := some 46, op := Op.build 88 #[(0, Operand.const (Value.string { data := #[108, 111, 115, 116] })), (1, Operand.const (Value.string { data := #[98, 111, 111, 108] })), (2, Operand.const (Value.string { data := #[98, 97, 99, 107] }))], type := 88, pos := "law.go:93", after := #[{ on := 7, ground := Ground.gcOnly Departure.lateStores }], guard := none }) (v := ?v37) rfl (by kernel_rfl) (by kernel_rfl) (by kernel_rfl) (fun _ _ _ h => h) (Or.inl ⟨by rfl, ?hy37⟩) (by assumption) ?_
              case hy37 => intro w hSw; (try dsimp only at hSw); go_simp; (try with_reducible rfl)
              try simp only [Act.put, List.setIfInBounds_toArray, List.set_cons_zero, List.set_cons_succ]
              refine wpAnyH_take (i := 1) (oi := { dst := some 47, op := Op.move (Operand.tmp 4), type := 3, pos := "law.go:93", after := #[{ on := 7, ground := Ground.gcOnly Departure.lateStores }], guard := none }) (v := ?v38) rfl (by kernel_rfl) (by kernel_rfl) (by kernel_rfl) (fun _ _ _ h => h) (Or.inl ⟨by rfl, ?hy38⟩) (by assumption) ?_
              case hy38 => intro w hSw; (try dsimp only at hSw); go_simp; (try with_reducible rfl)
              try simp only [Act.put, List.setIfInBounds_toArray, List.set_cons_zero, List.set_cons_succ]
              refine wpAnyH_take (i := 2) (oi := { dst := some 48, op := Op.binOp BinOp.sub 3 (Operand.tmp 47) (Operand.const (Value.int IntKind.i64 19)) 3, type := 3, pos := "law.go:93", after := #[{ on := 1, ground := Ground.data }, { on := 7, ground := Ground.gcOnly Departure.lateStores }], guard := none }) (v := ?v39) rfl (by kernel_rfl) (by kernel_rfl) (by kernel_rfl) (fun _ _ _ h => h) (Or.inl ⟨by rfl, ?hy39⟩) (by assumption) ?_
              case hy39 => intro w hSw; (try dsimp only at hSw); go_simp; (try with_reducible rfl)
              try simp only [Act.put, List.setIfInBounds_toArray, List.set_cons_zero, List.set_cons_succ]
              refine wpAnyH_take (i := 3) (oi := { dst := some 49, op := Op.index 88 (Operand.tmp 46) (Operand.tmp 48), type := 9, pos := "law.go:93", after := #[{ on := 0, ground := Ground.data }, { on := 2, ground := Ground.data }, { on := 7, ground := Ground.gcOnly Departure.lateStores }], guard := none }) (v := ?v40) rfl (by kernel_rfl) (by kernel_rfl) (by kernel_rfl) (fun _ _ _ h => h) (Or.inl ⟨by rfl, ?hy40⟩) (by assumption) ?_
              case hy40 => intro w hSw; (try dsimp only at hSw); go_simp; (try with_reducible rfl)
              try simp only [Act.put, List.setIfInBounds_toArray, List.set_cons_zero, List.set_cons_succ]
              refine wpAnyH_take (i := 4) (oi := { dst := some 50, op := Op.fieldAddr 64 (Operand.tmp 5) 0, type := 0, pos := "law.go:93", after := #[{ on := 0, ground := Ground.textOnly Departure.lateStores }, { on := 1, ground := Ground.textOnly Departure.lateStores }, { on := 2, ground := Ground.textOnly Departure.lateStores }, { on := 3, ground := Ground.textOnly Departure.lateStores }], guard := none }) (v := ?v41) rfl (by kernel_rfl) (by kernel_rfl) (by kernel_rfl) (fun _ _ _ h => h) (Or.inl ⟨by rfl, ?hy41⟩) (by assumption) ?_
              case hy41 => intro w hSw; (try dsimp only at hSw); go_simp; (try with_reducible rfl)
              try simp only [Act.put, List.setIfInBounds_toArray, List.set_cons_zero, List.set_cons_succ]
              refine wpAnyH_ready (rs := [5]) (by kernel_rfl) (by simp) ?_
              refine AllReadyH.cons (o := { dst := none, op := Op.store 3 (Operand.tmp 50) (Operand.const (Value.int IntKind.i64 9)), type := 0, pos := "law.go:93", after := #[{ on := 4, ground := Ground.data }, { on := 0, ground := Ground.textOnly Departure.lateStores }, { on := 1, ground := Ground.textOnly Departure.lateStores }, { on := 2, ground := Ground.textOnly Departure.lateStores }, { on := 3, ground := Ground.textOnly Departure.lateStores }], guard := none }) rfl (fun K hK => ?_) AllReadyH.nil
              go_simp
              refine hK.out _ _ ?_ (fun hH1 => ?_)
              · (try dsimp only); (first | done | trivial)
              clear hK K
              clear hH0
              try simp only [Act.put, List.setIfInBounds_toArray, List.set_cons_zero, List.set_cons_succ]
              refine wpAnyH_take (i := 6) (oi := { dst := some 51, op := Op.fieldAddr 64 (Operand.tmp 5) 1, type := 0, pos := "law.go:93", after := #[{ on := 0, ground := Ground.textOnly Departure.lateStores }, { on := 1, ground := Ground.textOnly Departure.lateStores }, { on := 2, ground := Ground.textOnly Departure.lateStores }, { on := 3, ground := Ground.textOnly Departure.lateStores }, { on := 4, ground := Ground.phase }, { on := 5, ground := Ground.phase }], guard := none }) (v := ?v43) rfl (by kernel_rfl) (by kernel_rfl) (by kernel_rfl) (fun _ _ _ h => h) (Or.inl ⟨by rfl, ?hy43⟩) (by assumption) ?_
              case hy43 => intro w hSw; (try dsimp only at hSw); go_simp; (try with_reducible rfl)
              try simp only [Act.put, List.setIfInBounds_toArray, List.set_cons_zero, List.set_cons_succ]
              refine wpAnyH_ready (rs := [7]) (by kernel_rfl) (by simp) ?_
              refine AllReadyH.cons (o := { dst := none, op := Op.store 3 (Operand.tmp 51) (Operand.const (Value.int IntKind.i64 3)), type := 0, pos := "law.go:93", after := #[{ on := 6, ground := Ground.data }, { on := 5, ground := Ground.chain }, { on := 0, ground := Ground.textOnly Departure.lateStores }, { on := 1, ground := Ground.textOnly Departure.lateStores }, { on := 2, ground := Ground.textOnly Departure.lateStores }, { on := 3, ground := Ground.textOnly Departure.lateStores }, { on := 4, ground := Ground.phase }, { on := 5, ground := Ground.phase }], guard := none }) rfl (fun K hK => ?_) AllReadyH.nil
              go_simp
              refine hK.out _ _ ?_ (fun hH2 => ?_)
              · (try dsimp only); (first | done | trivial)
              clear hK K
              clear hH1
              try simp only [Act.put, List.setIfInBounds_toArray, List.set_cons_zero, List.set_cons_succ]
              refine wpAnyH_take (i := 8) (oi := { dst := some 52, op := Op.fieldAddr 64 (Operand.tmp 5) 5, type := 0, pos := "law.go:93", after := #[{ on := 0, ground := Ground.phase }, { on := 1, ground := Ground.phase }, { on := 2, ground := Ground.phase }, { on := 3, ground := Ground.phase }, { on := 4, ground := Ground.phase }, { on := 5, ground := Ground.phase }, { on := 6, ground := Ground.phase }, { on := 7, ground := Ground.phase }], guard := none }) (v := ?v45) rfl (by kernel_rfl) (by kernel_rfl) (by kernel_rfl) (fun _ _ _ h => h) (Or.inl ⟨by rfl, ?hy45⟩) (by assumption) ?_
              case hy45 => intro w hSw; (try dsimp only at hSw); go_simp; (try with_reducible rfl)
              try simp only [Act.put, List.setIfInBounds_toArray, List.set_cons_zero, List.set_cons_succ]
              refine wpAnyH_ready (rs := [9]) (by kernel_rfl) (by simp) ?_
              refine AllReadyH.cons (o := { dst := none, op := Op.store 9 (Operand.tmp 52) (Operand.tmp 49), type := 0, pos := "law.go:93", after := #[{ on := 8, ground := Ground.data }, { on := 3, ground := Ground.data }, { on := 7, ground := Ground.chain }, { on := 0, ground := Ground.phase }, { on := 1, ground := Ground.phase }, { on := 2, ground := Ground.phase }, { on := 3, ground := Ground.phase }, { on := 4, ground := Ground.phase }, { on := 5, ground := Ground.phase }, { on := 6, ground := Ground.phase }, { on := 7, ground := Ground.phase }], guard := none }) rfl (fun K hK => ?_) AllReadyH.nil
              go_simp
              refine hK.out _ _ ?_ (fun hH3 => ?_)
              · (try dsimp only); (first | done | trivial)
              clear hK K
              clear hH2
              try simp only [Act.put, List.setIfInBounds_toArray, List.set_cons_zero, List.set_cons_succ]
              refine wpAnyH_done (by kernel_rfl) ?_ _
              have HUB : Hid (Below wr.heap.size wr (wr.alloc (.cells #[.int .i64 9, .int .i64 3, .int .i64 ((L.length : Int) + 1), .bool false, .slice none 0 0, .string ⟨#[98, 97, 99, 107]⟩] 64))) := Lib.hid ((Below.refl _ wr).alloc (Nat.le_refl _) _)
              have HTR : Hid ((wr.alloc (.cells #[.int .i64 9, .int .i64 3, .int .i64 ((L.length : Int) + 1), .bool false, .slice none 0 0, .string ⟨#[98, 97, 99, 107]⟩] 64)).heap[wr.heap.size]? = some (.cells #[.int .i64 9, .int .i64 3, .int .i64 ((L.length : Int) + 1), .bool false, .slice none 0 0, .string ⟨#[98, 97, 99, 107]⟩] 64 (0, 0))) := Lib.hid (heap_alloc_new wr _)
              have HFR := Lib.hid (nil_F (wr.alloc (.cells #[.int .i64 9, .int .i64 3, .int .i64 ((L.length : Int) + 1), .bool false, .slice none 0 0, .string ⟨#[98, 97, 99, 107]⟩] 64)) (.slice la L.length lc) (w.heap.size + 3))
              have HLU := Lib.hid (HF.out.lb.more HUB.out)
              have c0 := HLU.out.c0
              have hne1 : w.heap.size + 3 ≠ wr.heap.size := Nat.ne_of_lt hblt
              have hne2 : wr.heap.size ≠ w.heap.size + 3 := fun e => hne1 e.symm
              have c0a := fun x => (World.cell?_alloc_lt _ x _ HLU.out.lt).trans HLU.out.c0
              clear c0w
              go_wp2_with (first
                | (refine wpList_load_row rfl 64 (Operand.tmp 5) (by rfl) wr.heap.size (by rfl) _ _ (0, 0) _ HTR.out Tryz.underlying64 rfl info6 ?_)
                | (at_builtin; refine wpl_appT rfl (.tmp 54) (.tmp 56) (by rfl) (.slice la L.length lc) L.length _ (by rfl) (World.ownsRow.alloc HLU.out.ls _) ⟨_, 0, none⟩ 1 1 (by rfl) (Th.cells ⟨9, 3, (L.length : Int) + 1, false, .slice none 0 0, [], ⟨#[98, 97, 99, 107]⟩⟩) rfl (fun j u hu => by rw [Addr.add_lit, Nat.zero_add]; exact new_cellD _ _ _ (by first | rfl | simp) (by simpa [Th.cells] using hu)) (one6 _ rfl) (by omega) ?_))
              intro v8 u8 own8 g8 e8
              have g8 := grown_undrew g8
              obtain ⟨va, vc, rfl⟩ := own_slT own8
              have HP := Lib.hid (HLU.out.push ⟨9, 3, (L.length : Int) + 1, false, .slice none 0 0, [], ⟨#[98, 97, 99, 107]⟩⟩ HFR.out.1 HFR.out.2 own8 g8 (by simpa using e8))
              have h8 : u8.heap[w.heap.size + 3]? = _ := (g8.block _ (by have := HLU.out.lt; simp at this ⊢; omega) (fun e => HLU.out.nb e.symm)).trans ((heap_alloc_old _ _ HLU.out.lt).trans HLU.out.row)
              have c8 : u8.cell? ⟨w.heap.size + 3, 0, none⟩ = some (.slice la L.length lc) := by rw [cell_row _ _ _ _ _ _ h8]; rfl
              have fz8 := frozen_of_row u8 (w.heap.size + 3) 0 _ _ h8
              clear h8 own8 g8 e8
              go_wp2_with fail
              exact ⟨⟨L.length + 1, by omega, by simp, _, _, HF.out.step HP.out (by unfold firstT; have := HQ.out; rw [if_neg (by omega), if_neg (by omega), if_pos (by omega), this]; rfl)⟩, by simp only [intOf]; omega⟩
          · have q22 : ¬ (L.length : Int) < 22 := by omega
            have HQ : Hid (L.length = 22) := Lib.hid (by omega)
            have HX : Hid (Below wr.heap.size wr (wr.alloc (.cells #[.int .i64 10, .int .i64 1, .int .i64 ((L.length : Int) + 1), .bool false, .slice none 0 0, .string ByteArray.empty] 64))) := Lib.hid ((Below.refl _ wr).alloc (Nat.le_refl _) _)
            go_upto_region 15 with (first
              | (refine wpList_store_row rfl 64 (Operand.tmp 5) (Operand.tmp 14) rfl wr.heap.size _ rfl rfl _ _ (heap_alloc_new wr _) info6 rfl rfl ?_; rw [World.setRow_alloc_new])
              | (go_at_call 19; (with_reducible refine (nl_Num _ _).mono ?_); rintro e uz ⟨rfl, hbz⟩
                 have HBZ := Lib.hid hbz
                 have dr := (hbz.block wr.heap.size (by simp)).trans (heap_alloc_new wr (.cells #[.int .i64 10, .int .i64 1, .int .i64 ((L.length : Int) + 1), .bool false, .slice none 0 0, .string ByteArray.empty] 64))
                 have dlt : wr.heap.size < uz.heap.size := (Array.getElem?_eq_some_iff.1 dr).1
                 have d4 : uz.cell? ⟨wr.heap.size, 4, none⟩ = some (.slice none 0 0) := by rw [cell_row _ _ _ _ _ _ dr]; rfl
                 have d0 : uz.cell? ⟨wr.heap.size, 0, none⟩ = some (.int .i64 10) := by rw [cell_row _ _ _ _ _ _ dr]; rfl
                 have df4 := frozen_of_row uz wr.heap.size 4 _ _ dr
                 have df0 := frozen_of_row uz wr.heap.size 0 _ _ dr
                 have d4a := fun x => (World.cell?_alloc_lt uz x ⟨wr.heap.size, 4, none⟩ dlt).trans d4
                 have d0a := fun x => (World.cell?_alloc_lt uz x ⟨wr.heap.size, 0, none⟩ dlt).trans d0
                 have df4a : ∀ x, (uz.alloc x).frozen? ⟨wr.heap.size, 4, none⟩ = false := fun x => frozen_of_row _ _ _ _ _ ((heap_alloc_old _ _ dlt).trans dr)
                 have df0a : ∀ x, (uz.alloc x).frozen? ⟨wr.heap.size, 0, none⟩ = false := fun x => frozen_of_row _ _ _ _ _ ((heap_alloc_old _ _ dlt).trans dr)
                 have HDR := Lib.hid dr
                 clear dr hbz
                 dsimp only))
            have HLT5 := Lib.hid dlt
            have HUB : Hid (Below wr.heap.size wr (((uz.setCell ⟨wr.heap.size, 0, none⟩ (.int .i64 15)).setCell ⟨wr.heap.size, 4, none⟩ (.slice (some ⟨uz.heap.size, 0, none⟩) 1 1)).alloc (.cells #[.bool false, .int .i64 0] 54))) := Lib.hid (bel4 HX.out HBZ.out _ _ _ _ _)
            have HTR : Hid ((((uz.setCell ⟨wr.heap.size, 0, none⟩ (.int .i64 15)).setCell ⟨wr.heap.size, 4, none⟩ (.slice (some ⟨uz.heap.size, 0, none⟩) 1 1)).alloc (.cells #[.bool false, .int .i64 0] 54)).heap[wr.heap.size]? = some (.cells #[.int .i64 15, .int .i64 1, .int .i64 ((L.length : Int) + 1), .bool false, .slice (some ⟨uz.heap.size, 0, none⟩) 1 1, .string ByteArray.empty] 64 (0, 0))) := Lib.hid ((heap_alloc_old _ _ (by simpa using HLT5.out)).trans (heap_setCell_same _ wr.heap.size 4 _ _ _ (heap_setCell_same _ wr.heap.size 0 _ _ _ HDR.out)))
            have HFR := Lib.hid (new_F1 (w := w) (wr := wr) (uz := uz) (la := la) (lc := lc) (n := L.length) HLT5.out (by have := HF.out.lb.lt; omega) (fun e => by have := (HF.out.lb.ls.lt _ e).2; have := HLT5.out; omega))
            have HLU := Lib.hid (HF.out.lb.more HUB.out)
            have c0 := HLU.out.c0
            have hne1 : w.heap.size + 3 ≠ wr.heap.size := Nat.ne_of_lt hblt
            have hne2 : wr.heap.size ≠ w.heap.size + 3 := fun e => hne1 e.symm
            have c0a := fun x => (World.cell?_alloc_lt _ x _ HLU.out.lt).trans HLU.out.c0
            clear c0w d4 d0 df4 df0 d4a d0a df4a df0a
            go_wp2_with (first
              | (refine wpList_load_row rfl 64 (Operand.tmp 5) (by rfl) wr.heap.size (by rfl) _ _ (0, 0) _ HTR.out Tryz.underlying64 rfl info6 ?_)
              | (at_builtin; refine wpl_appT rfl (.tmp 54) (.tmp 56) (by rfl) (.slice la L.length lc) L.length _ (by rfl) (World.ownsRow.alloc HLU.out.ls _) ⟨_, 0, none⟩ 1 1 (by rfl) (Th.cells ⟨15, 1, (L.length : Int) + 1, false, .slice (some ⟨uz.heap.size, 0, none⟩) 1 1, [(false, 0)], ByteArray.empty⟩) rfl (fun j u hu => by rw [Addr.add_lit, Nat.zero_add]; exact new_cellN _ _ _ (by first | rfl | simp) (by simpa [Th.cells] using hu)) (one6 _ rfl) (by omega) ?_))
            intro v8 u8 own8 g8 e8
            obtain ⟨va, vc, rfl⟩ := own_slT own8
            have HP := Lib.hid (HLU.out.push ⟨15, 1, (L.length : Int) + 1, false, .slice (some ⟨uz.heap.size, 0, none⟩) 1 1, [(false, 0)], ByteArray.empty⟩ HFR.out.1 HFR.out.2 own8 g8 (by simpa using e8))
            have h8 : u8.heap[w.heap.size + 3]? = _ := (g8.block _ (by have := HLU.out.lt; simp at this ⊢; omega) (fun e => HLU.out.nb e.symm)).trans ((heap_alloc_old _ _ HLU.out.lt).trans HLU.out.row)
            have c8 : u8.cell? ⟨w.heap.size + 3, 0, none⟩ = some (.slice la L.length lc) := by rw [cell_row _ _ _ _ _ _ h8]; rfl
            have fz8 := frozen_of_row u8 (w.heap.size + 3) 0 _ _ h8
            clear h8 own8 g8 e8
            go_wp2_with fail
            exact ⟨⟨L.length + 1, by omega, by simp, _, _, HF.out.step HP.out (by unfold firstT; rw [if_neg (by have := HQ.out; omega), if_neg (by have := HQ.out; omega), if_neg (by have := HQ.out; omega)]; rfl)⟩, by simp only [intOf]; omega⟩

    · have n23 : ¬ (L.length : Int) < 23 := by omega
      have e23 : L.length = 23 := by omega
      have HPL := Lib.hid (show L.map Th.pl = (List.range 23).map firstT by rw [HF.out.pl, e23])
      have HL2 := Lib.hid (HF.out.lb.set2 23)
      have c2 := HF.out.lb.c2
      have fz2 := frozen_of_row wr (w.heap.size + 3) 2 _ _ HF.out.lb.row
      have HZ : Hid ((wr.setCell ⟨w.heap.size + 3, 2, none⟩ (.int .i64 23)).heap[w.heap.size]? = some (.cells #[.slice none 0 0, .slice none 0 0, .int .i64 0, .int .i64 0, .int .i64 0, .slice none 0 0, .slice none 0 0, .slice none 0 0, .string ByteArray.empty, .string ByteArray.empty, .int .i64 0, .int .i64 0, .slice none 0 0] 30 (0, 0))) := Lib.hid ((HL2.out.bel.block w.heap.size (by simp; omega)).trans (by rw [heap_alloc_old _ _ (by simp; omega), heap_alloc_old _ _ (by simp)]; exact heap_alloc_new _ _))
      clear e23 c0w
      go_wp2_with (first
        | (refine wpList_load_row rfl 30 (Operand.tmp 3) (by rfl) (w.heap.size + 3) (by rfl) _ _ (0, 0) _ HL2.out.row Tryz.underlying30 rfl info13 ?_)
        | (refine wpList_store_row rfl 30 (Operand.tmp 0) (Operand.tmp 60) rfl w.heap.size _ rfl rfl _ _ HZ.out info13 rfl (by simp [Value.oneCell']) ?_))
      refine bodyPost_ret (v := .agg #[.slice la L.length lc, .slice none 0 0, .int .i64 23, .int .i64 0, .int .i64 0, .slice none 0 0, .slice none 0 0, .slice none 0 0, .string ByteArray.empty, .string ByteArray.empty, .int .i64 0, .int .i64 0, .slice none 0 0]) ?_ rfl ⟨la, lc, L, rfl, ?_, HPL.out⟩
      · exact results_cell_row rfl _ _ w.heap.size _ #[.slice la L.length lc, .slice none 0 0, .int .i64 23, .int .i64 0, .int .i64 0, .slice none 0 0, .slice none 0 0, .slice none 0 0, .string ByteArray.empty, .string ByteArray.empty, .int .i64 0, .int .i64 0, .slice none 0 0] _ _ (by rfl) (setRow_heap _ _ _ _ _ _ HZ.out) Tryz.underlying30 rfl info13
      · exact Ld.of HL2.out HZ.out (by simp; omega) ((((Below.refl _ w).alloc (Nat.le_refl _) _).alloc (by simp) _).alloc (by simp; omega) _)
end
end Go.Proofs.YtoklohfpkaiidaaGreat.Obj
