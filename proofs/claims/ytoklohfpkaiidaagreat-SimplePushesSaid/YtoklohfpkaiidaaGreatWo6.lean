/- A row of values in new memory. -/
import Derived.Test.YtoklohfpkaiidaaGreatWo5
import Derived.Test.YtoklohfpkaiidaaGreatOb6
namespace Go.Proofs.YtoklohfpkaiidaaGreat.Obj
open Go.Proofs.YtoklohfpkaiidaaGreat.Gen Go.Proofs.YtoklohfpkaiidaaGreat.Base Go.ChangeShapes Go.WideShapes Go.ChangeAt Go.RowKit
set_option linter.unusedVariables false
theorem infoV : (Tryz.prog.info? 54).map (fun i => (i.zero, i.size, i.bytes)) = some (some (.agg #[.bool false, .int .i64 0]), 2, 16) := by kernel_rfl
theorem nilV_some (ad : Addr) (n c : Nat) (u : World) : Sem.run Tryz.prog (binOp .eql 56 (.slice (some ad) n c) (.slice none 0 0)) u = .ok (.bool false) u := by kernel_rfl
theorem nilV_none (n c : Nat) (u : World) : Sem.run Tryz.prog (binOp .eql 56 (.slice none n c) (.slice none 0 0)) u = .ok (.bool true) u := by kernel_rfl
theorem vals_one (F : List V) : ∀ u ∈ vals F, u.oneCell' = true := fun u hu => by
  obtain ⟨p, _, hp⟩ := List.mem_flatMap.1 hu
  simp only [vcells, List.mem_cons, List.not_mem_nil, or_false] at hp
  rcases hp with rfl | rfl <;> rfl
theorem own_empty (w : World) : (w.alloc (.cells #[] 54)).ownsRow 0 54 2 (.slice (some ⟨w.heap.size, 0, none⟩) 0 0) 0 [] := ⟨rfl, .inr ⟨w.heap.size, 0, #[], rfl, Nat.zero_le _, heap_alloc_new w _, Nat.le_refl _, by unfold maxLen; omega, rfl, rfl⟩⟩
theorem own_sl {w : World} {base : Nat} {e : TypeId} {s n : Nat} {v : Value} {xs : List Value} (h : w.ownsRow base e s v n xs) : ∃ a c, v = .slice a n c := by
  obtain ⟨_, ⟨h1, h2⟩ | ⟨g, cap, cur, h3, h4⟩⟩ := h
  · exact ⟨none, 0, by rw [h1, h2]⟩
  · exact ⟨_, cap, h3⟩
/-- So many values more at the end of a row of one's own. -/
theorem wpl_appV {ops : Array Oper} {rest : List Oper} {w : World} {o : Oper} {a : Act} {Q : Exit → Act → World → Prop} (hgd : o.guard = none) (s x : Operand)
    (ho : o.op = .call { callee := .builtin .append, args := #[s, x], argTypes := #[56, 56] })
    (v : Value) (n : Nat) (xs : List Value) (hs : a.eval s = v) (hown : w.ownsRow 0 54 2 v n xs) (ad : Addr) (m c : Nat) (hx : a.eval x = .slice (some ad) m c) (ys : List Value) (hl : ys.length = m * 2) (hc : ∀ j u, ys[j]? = some u → w.cell? (ad.add j) = some u) (h1 : ∀ u ∈ ys, u.oneCell' = true) (hn : n + m ≤ 1000000)
    (h : ∀ v' w', w'.ownsRow 0 54 2 v' (n + m) (xs ++ ys) → w.grownBy w' v.ownBlock → (v'.ownBlock = v.ownBlock ∨ v'.ownBlock = some w.heap.size) → wpList Tryz.prog ops Q rest (a.put o.dst v') w') : wpList Tryz.prog ops Q (o :: rest) a w := by
  refine wpList_plain hgd fun _ hK => ?_
  obtain ⟨i0, hi, hz0, hz1, hz2⟩ := info_parts infoV
  obtain ⟨v', w', hr, h2, h3, _, h5⟩ := run_append_own_at (P := Tryz.prog) (w := w) 0 56 o.type 54 i0 (.agg #[.bool false, .int .i64 0]) 2 16 Tryz.underlying56 hi hz0 hz1 hz2 rfl (by decide) v n xs hown ad m c ys hl hc h1 (by unfold maxLen; omega) (by omega) (Nat.zero_le _)
  unfold Oper.wp execOp
  simp only [ho, resolve, invoke, builtin, Sem.run_bind, Sem.run_pure, Result.andThen_ok, List.map_toArray, List.map_cons, List.map_nil, hs, hx, hr]
  exact hK _ _ (h v' w' h2 h3 h5)
set_option maxHeartbeats 1000000 in
set_option maxRecDepth 100000 in
theorem cl_Val (w : World) (fv : Value) (F : List V) (hF : F.length ≤ 100000) (hr : RowR w 2 fv F.length (vals F)) :
    Calls Tryz.prog 61 #[fv] w fun e w' => ∃ v, e = .returned v ∧ RowV w' 54 2 v F.length (vals F) ∧ (∀ k, blk v F.length = some k → w.heap.size ≤ k) ∧ Below w.heap.size w w' := by
  obtain ⟨hx, a, c, rfl, hlc, hcm, hcell⟩ := hr
  cases a with
  | none =>
    have h0 : F = [] := by
      rcases Nat.eq_zero_or_pos F.length with h | h
      · exact List.eq_nil_of_length_eq_zero h
      · obtain ⟨b, o, e, _⟩ := hcell 0 (by omega); cases e
    subst h0
    clear hcell hx
    have hnn := nilV_none
    go_enter Tryz.func61, Tryz.ntmps61
    go_wp2_with fail
    go_ret
    exact ⟨_, rfl, .inl ⟨rfl, rfl, none, 0, rfl⟩, fun k hk => by simp [blk] at hk, Below.refl _ _⟩
  | some ad =>
    have hcc : ∀ j u, (vals F)[j]? = some u → w.cell? (ad.add j) = some u := fun j u hu => by
      have hj := (List.getElem?_eq_some_iff.1 hu).1
      obtain ⟨b, o, e, hc⟩ := hcell j (by omega)
      simp only [Option.some.injEq] at e
      subst e
      rw [Addr.add_lit, hc, hu]
    have HCC := Lib.hid hcc
    have hns := nilV_some
    clear hcell hcc
    go_enter Tryz.func61, Tryz.ntmps61
    go_wp2_with (at_builtin; refine wpl_appV rfl (.tmp 5) (.tmp 6) (by rfl) _ 0 [] (by rfl) (own_empty w) ad F.length c (by rfl) (vals F) (by rw [vals_len]) (fun j u hu => (World.cell?_alloc_lt w _ _ (World.block_lt_of_cell? _ _ (HCC.out j u hu))).trans (HCC.out j u hu)) (vals_one F) (by omega) ?_)
    intro v' w1 own1 g1 e1
    have hb1 : Below w.heap.size w w1 := Below.grown ((Below.refl _ _).alloc (Nat.le_refl _) (.cells #[] 54)) g1 (by simp) (fun k hk => by simp [Value.ownBlock] at hk; omega)
    obtain ⟨av, cv, rfl⟩ := own_sl own1
    have HO := Lib.hid own1; have HB := Lib.hid hb1
    have HE : Hid (∀ k, (Value.slice av F.length cv).ownBlock = some k → w.heap.size ≤ k) := Lib.hid fun k hk => by
      rcases e1 with e | e
      · rw [e] at hk; simp [Value.ownBlock] at hk; omega
      · rw [e] at hk; simp at hk; omega
    clear own1 g1 e1 hb1 hns
    go_wp2_with fail
    go_ret
    refine ⟨.slice av F.length cv, rfl, ?_, fun k hk => HE.out k ?_, HB.out⟩
    · have := HO.out
      rcases Nat.eq_zero_or_pos F.length with h | h
      · exact .inl ⟨h, by rw [List.eq_nil_of_length_eq_zero h]; rfl, av, cv, by rw [h]⟩
      · exact .own h this
    · unfold blk at hk
      split at hk
      · cases hk
      · exact hk
end Go.Proofs.YtoklohfpkaiidaaGreat.Obj
