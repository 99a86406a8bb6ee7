/- So many Nil values: slices.Repeat. -/
import Derived.Test.YtoklohfpkaiidaaGreatMk1
namespace Go.Proofs.YtoklohfpkaiidaaGreat.Obj
open Go.Proofs.YtoklohfpkaiidaaGreat.Gen Go.Proofs.YtoklohfpkaiidaaGreat.Base Go.ChangeShapes Go.WideShapes Go.ChangeAt Go.RowKit
set_option linter.unusedVariables false
theorem run_copyV (w : World) (ty : TypeId) (g o dLen dCap : Nat) (a : Addr) (sLen sCap : Nat) (cur : Array Value) (cs : List Value)
    (hg : w.heap[g]? = some (.cells cur 54 (0, 0))) (hn : cs.length = Nat.min sLen dLen * 2)
    (hsrc : ∀ j v, cs[j]? = some v → w.cell? (a.add j) = some v) (hfit : o + cs.length ≤ cur.size) (h1 : ∀ v ∈ cs, v.oneCell' = true) :
    Sem.run Tryz.prog (Builtin.copy_ #[56, 56] ty #[.slice (some ⟨g, o, none⟩) dLen dCap, .slice (some a) sLen sCap]) w =
      .ok (goInt (Nat.min sLen dLen)) (w.setRow g (cur.toList.take o ++ cs ++ cur.toList.drop (o + cs.length)).toArray) := by
  have hl := run_loadCells_list (P := Tryz.prog) w a cs hsrc
  have hst := run_storeCells_at Tryz.prog g o 54 cs 0 cur w hg (by simpa using hfit) h1
  have hs := info2
  have hu := Tryz.underlying56
  cases hq : Tryz.prog.info? 54 with
  | none => simp [hq] at hs
  | some i =>
    have hi : i.size = 2 := by simpa [hq] using hs
    simp [Builtin.copy_, run_underlying hu, Builtin.lenOf, Builtin.firstCells, sizeOf, typeInfo, hq, hi, ← hn, hl, hst]
theorem wp_copyV {w : World} {o : Oper} {a : Act} {K : Act → World → Prop} {Q : Exit → Act → World → Prop} (d s : Operand)
    (ho : o.op = .call { callee := .builtin .copy, args := #[d, s], argTypes := #[56, 56] })
    (g off dLen dCap : Nat) (ad : Addr) (sLen sCap : Nat) (hd : a.eval d = .slice (some ⟨g, off, none⟩) dLen dCap) (hs : a.eval s = .slice (some ad) sLen sCap)
    (cur : Array Value) (hg : w.heap[g]? = some (.cells cur 54 (0, 0))) (cs : List Value) (hn : cs.length = Nat.min sLen dLen * 2)
    (hsrc : ∀ j v, cs[j]? = some v → w.cell? (ad.add j) = some v) (hfit : off + cs.length ≤ cur.size) (h1 : ∀ v ∈ cs, v.oneCell' = true)
    (h : K (a.put o.dst (goInt (Nat.min sLen dLen))) (w.setRow g (cur.toList.take off ++ cs ++ cur.toList.drop (off + cs.length)).toArray)) : o.wp Tryz.prog a w K Q := by
  have hrun := run_copyV w o.type g off dLen dCap ad sLen sCap cur cs hg hn hsrc hfit h1
  unfold Oper.wp
  simp [execOp, ho, resolve, invoke, builtin, hd, hs, hrun, Result.andThen]
  show K _ _
  simpa using h
theorem wpl_copyV {ops : Array Oper} {rest : List Oper} {w : World} {o : Oper} {a : Act} {Q : Exit → Act → World → Prop} (hgd : o.guard = none) (d s : Operand)
    (ho : o.op = .call { callee := .builtin .copy, args := #[d, s], argTypes := #[56, 56] })
    (g off dLen dCap : Nat) (ad : Addr) (sLen sCap : Nat) (hd : a.eval d = .slice (some ⟨g, off, none⟩) dLen dCap) (hs : a.eval s = .slice (some ad) sLen sCap)
    (cur : Array Value) (hg : w.heap[g]? = some (.cells cur 54 (0, 0))) (cs : List Value) (hn : cs.length = Nat.min sLen dLen * 2)
    (hsrc : ∀ j v, cs[j]? = some v → w.cell? (ad.add j) = some v) (hfit : off + cs.length ≤ cur.size) (h1 : ∀ v ∈ cs, v.oneCell' = true)
    (h : wpList Tryz.prog ops Q rest (a.put o.dst (goInt (Nat.min sLen dLen))) (w.setRow g (cur.toList.take off ++ cs ++ cur.toList.drop (off + cs.length)).toArray)) : wpList Tryz.prog ops Q (o :: rest) a w :=
  wpList_plain hgd fun _ hK => wp_copyV d s ho g off dLen dCap ad sLen sCap hd hs cur hg cs hn hsrc hfit h1 (hK _ _ h)
def nilF (n : Nat) : List V := List.replicate n (true, 0)
/-- So many are laid, the others not yet. -/
def Ps (k n : Nat) : List V := nilF k ++ List.replicate (n - k) (false, 0)
theorem nilF_len (n : Nat) : (nilF n).length = n := by simp [nilF]
theorem Ps_len {k n : Nat} (h : k ≤ n) : (Ps k n).length = n := by simp [Ps, nilF]; omega
theorem vals_append (F G : List V) : vals (F ++ G) = vals F ++ vals G := by simp [vals]
theorem Ps_splice {k n : Nat} (h : k ≤ n) (m : Nat) (hm : k + m ≤ n) : (vals (Ps k n)).take (k * 2) ++ vals (nilF m) ++ (vals (Ps k n)).drop (k * 2 + (vals (nilF m)).length) = vals (Ps (k + m) n) := by
  have e : n - k = m + (n - (k + m)) := by omega
  unfold Ps
  rw [vals_append, vals_append, vals_len, nilF_len, List.take_left' (by rw [vals_len, nilF_len]), ← List.drop_drop, List.drop_left' (by rw [vals_len, nilF_len])]
  have e2 : nilF (k + m) = nilF k ++ nilF m := by unfold nilF; rw [List.replicate_append_replicate]
  rw [e2, vals_append, e, ← List.replicate_append_replicate, vals_append, List.drop_left' (by rw [vals_len, List.length_replicate])]
theorem Ps_splice0 {n : Nat} (m : Nat) (hm : m ≤ n) : (vals (Ps 0 n)).take 0 ++ vals (nilF m) ++ (vals (Ps 0 n)).drop (0 + (vals (nilF m)).length) = vals (Ps m n) := by
  have := Ps_splice (Nat.zero_le n) m (by omega)
  simpa using this
theorem made_v (n : Nat) : madeCells (Value.cells (.agg #[.bool false, .int .i64 0])) (n * 2) = (vals (Ps 0 n)).toArray := by
  have e : Ps 0 n = List.replicate n (false, 0) := by simp [Ps, nilF]
  rw [e]
  apply Array.ext
  · simp [size_madeCells, vals_len]
  · intro i h1 h2
    have hi : i < n * 2 := by simpa [size_madeCells] using h1
    have hz := flat_at vcells 2 (fun _ => rfl) (List.replicate n ((false, 0) : V)) (i / 2) (false, 0) (by rw [List.getElem?_replicate, if_pos (by omega)]) (i % 2) (by omega)
    rw [show i / 2 * 2 + i % 2 = i by omega] at hz
    have hz2 : (vals (List.replicate n ((false, 0) : V)))[i]? = (vcells (false, 0))[i % 2]? := hz
    have hs : i < (vals (List.replicate n ((false, 0) : V))).length := by rw [vals_len, List.length_replicate]; exact hi
    rw [List.getElem?_eq_getElem hs] at hz2
    rcases Nat.mod_two_eq_zero_or_one i with hm | hm <;> rw [hm] at hz2 <;> simp [vcells] at hz2 <;> simp [madeCells, Value.cells, hm, hz2]
theorem mk_v (n : Nat) (hn : n ≤ 65536) (w : World) : Sem.run Tryz.prog (Instr.makeSlice 56 (.int .i64 (n : Int)) (.int .i64 (n : Int))) w = .ok (.slice (some ⟨w.heap.size, 0, none⟩) n n) (w.alloc (.cells (vals (Ps 0 n)).toArray 54)) := by
  obtain ⟨ti, hti, hz0, hz1, hz2⟩ := info_parts infoV
  have h := run_make (P := Tryz.prog) w 56 54 ti (.agg #[.bool false, .int .i64 0]) Tryz.underlying56 hti hz0 .i64 .i64 n n (by omega) (by omega) (by rw [hz2]; omega) (by omega)
  rw [hz1, Int.toNat_natCast, made_v] at h
  exact h
theorem rep_src {w : World} {g n : Nat} (hx : ∀ j v, (vcells (true, 0))[j]? = some v → w.cell? ⟨g, j, none⟩ = some v) {j : Nat} {v : Value} (hj : (vals (nilF (Nat.min 1 n)))[j]? = some v) : w.cell? ⟨g, j, none⟩ = some v := by
  rcases Nat.eq_zero_or_pos n with h | h
  · subst h; simp [nilF, vals] at hj
  · rw [show Nat.min 1 n = 1 from Nat.min_eq_left h] at hj
    exact hx j v hj
theorem Ps_src {w : World} {g k n m : Nat} (hr : w.heap[g]? = some (.cells (vals (Ps k n)).toArray 54 (0, 0))) (hm : m ≤ k) {j : Nat} {v : Value} (hj : (vals (nilF m))[j]? = some v) : w.cell? ((⟨g, 0, none⟩ : Addr).add j) = some v := by
  rw [Addr.add_lit, Nat.zero_add, cell_row w g j _ _ _ hr]
  obtain ⟨h1, h2⟩ := List.getElem?_eq_some_iff.1 hj
  rw [vals_len, nilF_len] at h1
  have e2 : nilF k = nilF m ++ nilF (k - m) := by unfold nilF; rw [List.replicate_append_replicate]; congr 1; omega
  have : (vals (Ps k n))[j]? = some v := by
    unfold Ps
    rw [vals_append, e2, vals_append, List.append_assoc, List.getElem?_append_left (by rw [vals_len, nilF_len]; exact h1), hj]
  simpa using this
set_option maxHeartbeats 2000000 in
set_option maxRecDepth 100000 in
theorem sl_Repeat (n g : Nat) (hn : n ≤ 60000) (w : World) (hx : ∀ j v, (vcells (true, 0))[j]? = some v → w.cell? ⟨g, j, none⟩ = some v) : Calls Tryz.prog 175 #[.slice (some ⟨g, 0, none⟩) 1 1, .int .i64 (n : Int)] w fun e w' => e = .returned (.slice (some ⟨w.heap.size, 0, none⟩) n n) ∧ w'.heap[w.heap.size]? = some (.cells (vals (nilF n)).toArray 54 (0, 0)) ∧ Below w.heap.size w w' := by
  have hmul := bi_Mul n (by omega)
  have hmk := mk_v n (by omega)
  have hw := wrap_u64 n (by omega)
  have hgl : g < w.heap.size := World.block_lt_of_cell? _ _ (hx 0 _ rfl)
  have hR0 : (w.alloc (.cells (vals (Ps 0 n)).toArray 54)).heap[w.heap.size]? = some (.cells (vals (Ps 0 n)).toArray 54 (0, 0)) := heap_alloc_new w _
  have HR0 := Lib.hid hR0
  have HB0 : Hid (Below w.heap.size w (w.alloc (.cells (vals (Ps 0 n)).toArray 54))) := Lib.hid ((Below.refl _ _).alloc (Nat.le_refl _) _)
  have hm1 : Nat.min 1 n ≤ n := Nat.min_le_right _ _
  have hm2 : n ≠ 0 → 0 < Nat.min 1 n := fun h => by rw [show Nat.min 1 n = 1 from Nat.min_eq_left (by omega)]; omega
  have hcp := run_copyV (w.alloc (.cells (vals (Ps 0 n)).toArray 54)) 3 w.heap.size 0 n n ⟨g, 0, none⟩ 1 1 (vals (Ps 0 n)).toArray (vals (nilF (Nat.min 1 n))) hR0 (by rw [vals_len, nilF_len]) (fun j v hj => by rw [Addr.add_lit, Nat.zero_add]; exact (World.cell?_alloc_lt w (.cells (vals (Ps 0 n)).toArray 54) _ hgl).trans (rep_src hx hj)) (by rw [vals_len, nilF_len, List.size_toArray, vals_len, Ps_len (Nat.zero_le _)]; omega) (vals_one _)
  rw [World.setRow_alloc_new, show (vals (Ps 0 n)).toArray.toList = vals (Ps 0 n) from rfl, Ps_splice0 (Nat.min 1 n) (Nat.min_le_right _ _)] at hcp
  generalize Nat.min 1 n = k0 at *
  have HR1 := Lib.hid (heap_alloc_new w (.cells (vals (Ps k0 n)).toArray 54))
  have HB1 : Hid (Below w.heap.size w (w.alloc (.cells (vals (Ps k0 n)).toArray 54))) := Lib.hid ((Below.refl _ _).alloc (Nat.le_refl _) _)
  clear hR0 hx
  go_enter Tryz.func175, Tryz.ntmps175
  go_wp2_with (go_at_call 176; (with_reducible refine (hmul _).mono ?_); rintro e w2 ⟨rfl, rfl⟩; dsimp only)
  go_loopw [8] (fun v8 wr => ∃ k : Nat, k ≤ n ∧ v8 = .int .i64 k ∧ (n ≠ 0 → 0 < k) ∧ wr.heap[w.heap.size]? = some (.cells (vals (Ps k n)).toArray 54 (0, 0)) ∧ Below w.heap.size w wr) (fun v8 wr => n - (intOf v8).toNat)
  case atStart => exact ⟨k0, hm1, rfl, hm2, HR1.out, HB1.out⟩
  case round =>
    obtain ⟨k, hk, rfl, hpos, hr, hb⟩ := hrel
    clear hcp hm1 hm2 HR1 HB1 HR0 HB0
    by_cases hlt : k < n
    · have hk0 : 0 < k := hpos (by omega)
      have t1 : (k : Int) < (n : Int) := by omega
      have t0 : (0 : Int) ≤ (k : Int) := by omega
      have HR := Lib.hid hr; have HB := Lib.hid hb
      have hnk : ¬ n = k := by omega
      have hmk1 : Nat.min k (n - k) ≤ k := Nat.min_le_left _ _
      have hmk2 : Nat.min k (n - k) ≤ n - k := Nat.min_le_right _ _
      have hmk3 : 0 < Nat.min k (n - k) := Nat.lt_min.2 ⟨hk0, by omega⟩
      have hwr : IntKind.i64.wrap ((k : Int) + (Nat.min k (n - k) : Nat)) = (k : Int) + (Nat.min k (n - k) : Nat) := IntWalk.i64_in _ ⟨by omega, by omega⟩
      clear hr hb hpos
      go_upto_region 9 with fail
      refine wp_region_held_drew (S := (fun w' => True)) (by kernel_rfl) ?_ (fun hH0 => ?_)
      · (try dsimp only); (first | done | trivial)
      refine wpAnyH_take (i := 0) (oi := { dst := some 38, op := Op.move (Operand.tmp 8), type := 3, pos := "slices.go:528", after := #[], guard := none }) (v := ?v1) rfl (by kernel_rfl) (by kernel_rfl) (by kernel_rfl) (fun _ _ _ h => h) (Or.inl ⟨by rfl, ?hy1⟩) (by assumption) ?_
      case hy1 => intro w hSw; (try dsimp only at hSw); go_simp; (try with_reducible rfl)
      try simp only [Act.put, List.setIfInBounds_toArray, List.set_cons_zero, List.set_cons_succ]
      refine wpAnyH_take (i := 1) (oi := { dst := some 39, op := Op.move (Operand.tmp 7), type := 56, pos := "slices.go:528", after := #[], guard := none }) (v := ?v2) rfl (by kernel_rfl) (by kernel_rfl) (by kernel_rfl) (fun _ _ _ h => h) (Or.inl ⟨by rfl, ?hy2⟩) (by assumption) ?_
      case hy2 => intro w hSw; (try dsimp only at hSw); go_simp; (try with_reducible rfl)
      try simp only [Act.put, List.setIfInBounds_toArray, List.set_cons_zero, List.set_cons_succ]
      refine wpAnyH_take (i := 2) (oi := { dst := some 40, op := Op.move (Operand.tmp 8), type := 3, pos := "slices.go:528", after := #[], guard := none }) (v := ?v3) rfl (by kernel_rfl) (by kernel_rfl) (by kernel_rfl) (fun _ _ _ h => h) (Or.inl ⟨by rfl, ?hy3⟩) (by assumption) ?_
      case hy3 => intro w hSw; (try dsimp only at hSw); go_simp; (try with_reducible rfl)
      try simp only [Act.put, List.setIfInBounds_toArray, List.set_cons_zero, List.set_cons_succ]
      refine wpAnyH_take (i := 3) (oi := { dst := some 41, op := Op.slice 56 (Operand.tmp 39) (some (Operand.tmp 40)) none none, type := 56, pos := "slices.go:528", after := #[{ on := 1, ground := Ground.data }, { on := 2, ground := Ground.data }], guard := none }) (v := ?v4) rfl (by kernel_rfl) (by kernel_rfl) (by kernel_rfl) (fun _ _ _ h => h) (Or.inl ⟨by rfl, ?hy4⟩) (by assumption) ?_
      case hy4 => intro w hSw; (try dsimp only at hSw); go_simp; (try with_reducible rfl)
      try simp only [Act.put, List.setIfInBounds_toArray, List.set_cons_zero, List.set_cons_succ]
      refine wpAnyH_take (i := 4) (oi := { dst := some 42, op := Op.move (Operand.tmp 7), type := 56, pos := "slices.go:528", after := #[], guard := none }) (v := ?v5) rfl (by kernel_rfl) (by kernel_rfl) (by kernel_rfl) (fun _ _ _ h => h) (Or.inl ⟨by rfl, ?hy5⟩) (by assumption) ?_
      case hy5 => intro w hSw; (try dsimp only at hSw); go_simp; (try with_reducible rfl)
      try simp only [Act.put, List.setIfInBounds_toArray, List.set_cons_zero, List.set_cons_succ]
      refine wpAnyH_take (i := 5) (oi := { dst := some 43, op := Op.move (Operand.tmp 8), type := 3, pos := "slices.go:528", after := #[], guard := none }) (v := ?v6) rfl (by kernel_rfl) (by kernel_rfl) (by kernel_rfl) (fun _ _ _ h => h) (Or.inl ⟨by rfl, ?hy6⟩) (by assumption) ?_
      case hy6 => intro w hSw; (try dsimp only at hSw); go_simp; (try with_reducible rfl)
      try simp only [Act.put, List.setIfInBounds_toArray, List.set_cons_zero, List.set_cons_succ]
      refine wpAnyH_take (i := 6) (oi := { dst := some 44, op := Op.slice 56 (Operand.tmp 42) none (some (Operand.tmp 43)) none, type := 56, pos := "slices.go:528", after := #[{ on := 4, ground := Ground.data }, { on := 5, ground := Ground.data }], guard := none }) (v := ?v7) rfl (by kernel_rfl) (by kernel_rfl) (by kernel_rfl) (fun _ _ _ h => h) (Or.inl ⟨by rfl, ?hy7⟩) (by assumption) ?_
      case hy7 => intro w hSw; (try dsimp only at hSw); go_simp; (try with_reducible rfl)
      try simp only [Act.put, List.setIfInBounds_toArray, List.set_cons_zero, List.set_cons_succ]
      refine wpAnyH_ready (rs := [7]) (by kernel_rfl) (by simp) ?_
      refine AllReadyH.cons (o := { dst := some 45, op := Op.call { callee := Callee.builtin Builtin.copy, args := #[Operand.tmp 41, Operand.tmp 44], argTypes := #[56, 56] }, type := 3, pos := "slices.go:528", after := #[{ on := 3, ground := Ground.data }, { on := 6, ground := Ground.data }], guard := none }) rfl (fun K hK => ?_) AllReadyH.nil
      rw [if_pos (by rfl)]; refine wp_copyV (.tmp 41) (.tmp 44) (by rfl) w.heap.size (k * 2) (n - k) (n - k) ⟨w.heap.size, 0, none⟩ k n (by simp [Act.eval, hnk]) (by simp [Act.eval]) (vals (Ps k n)).toArray HR.out (vals (nilF (Nat.min k (n - k)))) (by rw [vals_len, nilF_len]) (fun j v hj => Ps_src HR.out hmk1 hj) (by rw [vals_len, nilF_len, List.size_toArray, vals_len, Ps_len hk]; omega) (vals_one _) ?_
      rw [show (vals (Ps k n)).toArray.toList = vals (Ps k n) from rfl, Ps_splice hk _ (by omega)]
      have HR2 := Lib.hid (setRow_heap wr.drew w.heap.size _ (vals (Ps (k + Nat.min k (n - k)) n)).toArray _ _ HR.out)
      have HB2 : Hid (Below w.heap.size w (wr.drew.setRow w.heap.size (vals (Ps (k + Nat.min k (n - k)) n)).toArray)) := Lib.hid (below_setRow (below_drew HB.out) (Nat.le_refl _) _)
      refine hK.out _ _ ?_ (fun hH1 => ?_)
      · (try dsimp only); (first | done | trivial)
      clear hK K
      clear hH0
      try simp only [Act.put, List.setIfInBounds_toArray, List.set_cons_zero, List.set_cons_succ]
      refine wpAnyH_take (i := 8) (oi := { dst := some 46, op := Op.binOp BinOp.add 3 (Operand.tmp 38) (Operand.tmp 45) 3, type := 3, pos := "slices.go:528", after := #[{ on := 0, ground := Ground.data }, { on := 7, ground := Ground.data }], guard := none }) (v := ?v9) rfl (by kernel_rfl) (by kernel_rfl) (by kernel_rfl) (fun _ _ _ h => h) (Or.inl ⟨by rfl, ?hy9⟩) (by assumption) ?_
      case hy9 => intro w hSw; (try dsimp only at hSw); go_simp; (try with_reducible rfl)
      try simp only [Act.put, List.setIfInBounds_toArray, List.set_cons_zero, List.set_cons_succ]
      refine wpAnyH_take (i := 9) (oi := { dst := some 8, op := Op.assign (Operand.tmp 46), type := 3, pos := "slices.go:528", after := #[{ on := 8, ground := Ground.data }, { on := 7, ground := Ground.chain }, { on := 0, ground := Ground.phase }, { on := 1, ground := Ground.phase }, { on := 2, ground := Ground.phase }, { on := 3, ground := Ground.phase }, { on := 4, ground := Ground.phase }, { on := 5, ground := Ground.phase }, { on := 6, ground := Ground.phase }, { on := 7, ground := Ground.phase }, { on := 8, ground := Ground.phase }], guard := none }) (v := ?v10) rfl (by kernel_rfl) (by kernel_rfl) (by kernel_rfl) (fun _ _ _ h => h) (Or.inl ⟨by rfl, ?hy10⟩) (by assumption) ?_
      case hy10 => intro w hSw; (try dsimp only at hSw); go_simp; (try with_reducible rfl)
      try simp only [Act.put, List.setIfInBounds_toArray, List.set_cons_zero, List.set_cons_succ]
      refine wpAnyH_done (by kernel_rfl) ?_ _
      go_wp2_with fail
      exact ⟨⟨k + Nat.min k (n - k), by omega, by simp [hwr], fun _ => by omega, HR2.out, HB2.out⟩, by simp only [intOf, hwr]; omega⟩

    · obtain rfl : k = n := by omega
      have hf : vals (Ps k k) = vals (nilF k) := by unfold Ps; rw [Nat.sub_self, List.replicate_zero, List.append_nil]
      rw [hf] at hr
      have HR := Lib.hid hr; have HB := Lib.hid hb
      clear hr hb
      go_wp2_with fail
      go_ret
      exact ⟨rfl, HR.out, HB.out⟩
end Go.Proofs.YtoklohfpkaiidaaGreat.Obj
