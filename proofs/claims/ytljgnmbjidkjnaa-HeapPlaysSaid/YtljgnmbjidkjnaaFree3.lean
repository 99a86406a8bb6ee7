/- list of package free. -/
import Derived.Test.YtljgnmbjidkjnaaFree2
import Derived.BigRegion
import Derived.Deep.RegionLaw
namespace Go.Proofs.Ytljgnmbjidkjnaa.Fr
open Go.Proofs.Ytljgnmbjidkjnaa.Gen Go.Proofs.Ytljgnmbjidkjnaa.Base Go.Proofs.Ytljgnmbjidkjnaa.Bt Go.ChangeShapes Go.WideShapes Go.ChangeAt Go.RowKit
set_option linter.unusedVariables false
theorem infoI : (Try.prog.info? 3).map (fun i => (i.zero, i.size, i.bytes)) = some (some (.int .i64 0), 1, 8) := by kernel_rfl
/-- One number more at the end of a row of one's own: the row stays in its block, or lies in a new one. -/
theorem wp_app1 {w : World} {o : Oper} {a : Act} {K : Act → World → Prop} {Q : Exit → Act → World → Prop} (s x : Operand)
    (ho : o.op = .call { callee := .builtin .append, args := #[s, x], argTypes := #[49, 49] })
    (v : Value) (n : Nat) (xs : List Value) (hs : a.eval s = v) (hown : w.ownsRow 0 3 1 v n xs) (ad : Addr) (c : Nat) (y : Int) (hx : a.eval x = .slice (some ad) 1 c) (hy : w.cell? ad = some (.int .i64 y)) (hn : n ≤ 1000000)
    (h : ∀ v' w', w'.ownsRow 0 3 1 v' (n + 1) (xs ++ [.int .i64 y]) → w.grownBy w' v.ownBlock → (v'.ownBlock = v.ownBlock ∨ v'.ownBlock = some w.heap.size) → K (a.put o.dst v') w') : o.wp Try.prog a w K Q := by
  obtain ⟨i0, hi, hz0, hz1, hz2⟩ := info_parts infoI
  obtain ⟨v', w', hr, h2, h3, _, h5⟩ := run_append_own_at (P := Try.prog) (w := w) 0 49 o.type 3 i0 (.int .i64 0) 1 8 Try.underlying49 hi hz0 hz1 hz2 rfl (by decide) v n xs hown ad 1 c [.int .i64 y] rfl
    (fun j u hj => by
      match j, hj with
      | 0, hj => simp at hj; subst hj; simpa [Addr.add] using hy)
    (fun u hu => by simp at hu; subst hu; rfl) (by unfold maxLen; omega) (by omega) (Nat.zero_le _)
  unfold Oper.wp execOp
  simp only [ho, resolve, invoke, builtin, Sem.run_bind, Sem.run_pure, Result.andThen_ok, List.map_toArray, List.map_cons, List.map_nil, hs, hx, hr]
  exact h v' w' h2 h3 h5
theorem own_form {w : World} {base : Nat} {e : TypeId} {size : Nat} {v : Value} {n : Nat} {xs : List Value} (h : w.ownsRow base e size v n xs) (hn : 0 < n) : ∃ g cap, v = .slice (some ⟨g, 0, none⟩) n cap ∧ n ≤ cap ∧ cap ≤ 9223372036854775807 := by
  obtain ⟨_, h2 | ⟨g, cap, cur, h3, h4, h5, h6, h7, _⟩⟩ := h
  · omega
  · exact ⟨g, cap, h3, h6, by unfold maxLen at h7; omega⟩
theorem list_none (w : World) (B : FB) (x : Int) :
    Calls Try.prog 68 #[.pointer (some ⟨B.r, 0, none⟩), .int .i64 x, .int .i64 0] w fun e w' => e = .returned (.tuple #[]) ∧ w = w' := by
  go_enter Try.func68, Try.ntmps68
  go_wp2
  refine bodyPost_ret (results_none rfl _ _ _) rfl ?_
  exact ⟨rfl, rfl⟩
/-- Behind an append to list j, and behind the store of what came out. -/
theorem list_end {w w2 w3 : World} {B : FB} {F : FS} {j : Nat} {V v' : Value} {x : Int} {c : Obj} (h : Fr w2 B F) (hn : Nx B w B w2) (hj : j < 18) (hV : B.vs j = V) (hg : (w2.alloc c).drew.grownBy w3 V.ownBlock)
    (ho : w3.ownsRow 0 3 1 v' ((F.ls j).length + 1) (ints (F.ls j) ++ [.int .i64 x])) (hvo : v'.ownBlock = V.ownBlock ∨ v'.ownBlock = some (w2.alloc c).drew.heap.size) :
    Fr (w3.setCell ⟨B.r, 3 + j, none⟩ v') { B with vs := upd B.vs j v' } { F with ls := upd F.ls j (F.ls j ++ [x]) } ∧ Nx B w { B with vs := upd B.vs j v' } (w3.setCell ⟨B.r, 3 + j, none⟩ v') := by
  subst hV
  have hsz : (w2.alloc c).drew.heap.size = w2.heap.size + 1 := by simp
  have hkp : ∀ k, k < w2.heap.size → (B.vs j).ownBlock ≠ some k → w3.heap[k]? = w2.heap[k]? := fun k hk hne => by
    rw [hg.block k (by omega) (fun e => hne e.symm)]
    exact heap_alloc_old _ _ hk
  have hnew : ∀ k, v'.ownBlock = some k → (B.vs j).ownBlock = some k ∨ k = w2.heap.size + 1 := fun k hk => by
    rcases hvo with e | e
    · exact .inl (by rw [← e]; exact hk)
    · exact .inr (by rw [e] at hk; simpa [hsz] using hk.symm)
  refine ⟨h.newList j hj (fun k hk hne => hkp k (h.mine_lt hk) hne) v' _ ?_ ?_ ?_, ?_⟩
  · simpa [ints] using ho
  · intro k hk
    rcases hnew k hk with e | e
    · exact h.dl j k hj e
    · have a1 := h.mine_lt (k := B.r) (.inl rfl)
      have a2 := h.mine_lt (k := B.bo) (.inr (.inl rfl))
      have a3 := h.mine_lt (k := B.bl) (.inr (.inr (.inl rfl)))
      have a4 := h.mine_lt (k := B.bb) (.inr (.inr (.inr (.inl rfl))))
      omega
  · intro i k hi hij hk hk'
    rcases hnew k hk' with e | e
    · exact h.dd i j k hi hj hij hk e
    · have := h.mine_lt (k := k) (.inr (.inr (.inr (.inr ⟨i, hi, hk⟩))))
      omega
  · refine ⟨?_, ?_, ?_, ?_, ?_, ?_, hn.r⟩
    · exact hg.os.trans hn.os
    · exact hg.tape.trans hn.tape
    · exact hg.output.trans hn.output
    · have := hg.size; have := hn.size; simp at *; omega
    · intro k hk hm
      rw [heap_setCell_other _ _ _ _ (fun e => hm (.inl e))]
      have h1 := hn.size
      rw [hkp k (by omega) (fun e => hm (.inr (.inr (.inr (.inr ⟨j, hj, e⟩)))))]
      exact hn.block k hk hm
    · intro k hk
      have h1 := hn.size
      rcases mine_upd hk with e | e
      · exact .inl e
      · rcases hnew k e with e | e
        · exact .inl (.inr (.inr (.inr (.inr ⟨j, hj, e⟩))))
        · exact .inr (by omega)
set_option maxHeartbeats 2000000 in
theorem list_any (w : World) (B : FB) (F : FS) (a n : Nat) (h : Fr w B F) (h1 : 1 ≤ n) (h2 : a + n ≤ F.opn.length) (h3 : (F.ls (kindOf n)).length ≤ 1000000) :
    Calls Try.prog 68 #[.pointer (some ⟨B.r, 0, none⟩), .int .i64 a, .int .i64 n] w
      fun e w' => e = .returned (.tuple #[]) ∧ ∃ B', Fr w' B' { F with lng := F.lng.set a n, bgn := F.bgn.set (a + n - 1) a, ls := upd F.ls (kindOf n) (F.ls (kindOf n) ++ [(a : Int)]) } ∧ Nx B w B' w' := by
  have hle := h.le
  have c1 := h.c1
  have c2 := h.c2
  have f1 := h.fi a
  have f2 := h.fb (a + n - 1)
  have i1 := h.ci a (by omega)
  have i2 := h.cb (a + n - 1) (by omega)
  have hne : B.bl ≠ B.bb := h.d6
  have hset := Lib.hid ((h.setLng a n).setBgn (a + n - 1) a)
  have HN := Lib.hid (((Nx.refl B w).setCell B.bl a (.int .i64 n) (.inr (.inr (.inl rfl)))).setCell B.bb (a + n - 1) (.int .i64 a) (.inr (.inr (.inr (.inl rfl)))))
  have t0 : ¬ (n : Int) = 0 := by omega
  have t1 : (a : Int) < (F.opn.length : Int) := by omega
  have t2 : (a : Int) + (n : Int) - 1 < (F.opn.length : Int) := by omega
  have t3 : (0 : Int) ≤ (a : Int) + (n : Int) - 1 := by omega
  have t4 : ((a : Int) + (n : Int) - 1).toNat = a + n - 1 := by omega
  have wf1 : IntKind.i64.wrap ((a : Int) + (n : Int)) = (a : Int) + (n : Int) := IntWalk.i64_in _ ⟨by omega, by omega⟩
  have wf2 : IntKind.i64.wrap ((a : Int) + (n : Int) - 1) = (a : Int) + (n : Int) - 1 := IntWalk.i64_in _ ⟨by omega, by omega⟩
  generalize (F.lng[a]?.getD 0) = V1 at *
  generalize (F.bgn[a + n - 1]?.getD 0) = V2 at *
  go_enter Try.func68, Try.ntmps68
  go_upto_region 1 with fail
  go_region
  change Exit.then _ _ _ _ ((w.setCell ⟨B.bl, a, none⟩ (.int .i64 n)).setCell ⟨B.bb, a + n - 1, none⟩ (.int .i64 a)).drew
  have hF1 : Fr ((w.setCell ⟨B.bl, a, none⟩ (.int .i64 n)).setCell ⟨B.bb, a + n - 1, none⟩ (.int .i64 a)).drew B { F with lng := F.lng.set a n, bgn := F.bgn.set (a + n - 1) a } := hset.out.keep fun _ _ => rfl
  have hN1 := Lib.hid (Nx.drew HN.out)
  generalize ((w.setCell ⟨B.bl, a, none⟩ (.int .i64 n)).setCell ⟨B.bb, a + n - 1, none⟩ (.int .i64 a)).drew = w1 at *
  have hk : kindOf n ≤ 17 := kind_le (by omega)
  have hL := bits_len n w1 (by omega)
  generalize hkk : kindOf n = kk at *
  obtain ⟨la, cap, hvs, hcap1, hcap2⟩ := hF1.form kk (by omega)
  have k0 := hF1.cl kk (by omega)
  have f0 := hF1.fz (3 + kk)
  have hown := hF1.ls kk (by omega)
  have hml : ∀ k, mine B k → k < w1.heap.size := fun k hk => hF1.mine_lt hk
  rw [hvs] at k0 hown
  dsimp only at k0 hown hcap1
  have wf3 : IntKind.u64.wrap (n : Int) = (n : Int) := IntWalk.u64_in _ ⟨by omega, by omega⟩
  have HF1 := Lib.hid hF1; have HML := Lib.hid hml; have HVS := Lib.hid hvs
  clear hF1 hset HN i1 i2 f1 f2 c1 c2 hml hvs
  go_wp2_with (go_at_call 78; refine hL.mono ?_; rintro e w2 ⟨rfl, e2⟩; subst e2; dsimp only)
  have b1 : (kk : Int) < 18 := by omega
  have b0 : (0 : Int) ≤ (kk : Int) := by omega
  have k0a := keep_alloc (.cells #[.int .i64 (a : Int)] 3) k0
  go_upto_region 3 with fail
  go_region_law (rw [if_pos (by rfl)]; refine wp_app1 (.tmp 36) (.tmp 38) (by rfl) (.slice la (F.ls kk).length cap) _ (ints (F.ls kk)) (by rfl) (owns_keep hown fun k hk => heap_alloc_old _ _ (hown.lt k hk).2) ⟨w2.heap.size, 0, none⟩ 1 a (by rfl) (new_cell _ _ _ rfl) h3 ?_; intro v' w3 hown' hgrow hvo; obtain ⟨g1, cap1, rfl, hc1, hc2⟩ := own_form hown' (by omega); have f3 : w3.frozen? ⟨B.r, 3 + kk, none⟩ = false := (by rw [World.frozen?_of_block (hgrow.block B.r (by have := HML.out B.r (.inl rfl); simp; omega) (fun e => (HF1.out.dl kk B.r (by omega) (by rw [HVS.out]; exact e.symm)).1 rfl)), ← f0]; exact World.frozen?_of_block (heap_alloc_old _ _ (HML.out B.r (.inl rfl)))); have k3 : w3.cell? ⟨B.r, 3 + kk, none⟩ = some (.slice la (F.ls kk).length cap) := hgrow.cell (keep_alloc _ k0) (fun e => (HF1.out.dl kk B.r (by omega) (by rw [HVS.out]; exact e.symm)).1 rfl))
  all_goals
    go_end0
    refine ⟨rfl, { B with vs := upd B.vs kk (.slice (some ⟨g1, 0, none⟩) ((F.ls kk).length + 1) cap1) }, ?_⟩
    rw [hkk]
    exact list_end HF1.out hN1.out (by omega) HVS.out hgrow hown' hvo
end Go.Proofs.Ytljgnmbjidkjnaa.Fr
