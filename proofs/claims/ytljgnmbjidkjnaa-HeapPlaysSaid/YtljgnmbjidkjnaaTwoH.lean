/- Two rows of numbers of one's own beside a heap. -/
import Derived.Test.YtljgnmbjidkjnaaFld
namespace Go.Proofs.Ytljgnmbjidkjnaa.Hp
open Go.Proofs.Ytljgnmbjidkjnaa.Gen Go.Proofs.Ytljgnmbjidkjnaa.Base Go.Proofs.Ytljgnmbjidkjnaa.Fr Go.ChangeShapes Go.WideShapes Go.ChangeAt Go.RowKit
set_option linter.unusedVariables false
/-- A row of numbers of one's own, in new memory, beside the heap. -/
structure BesH (W : Nat) (u : World) (X : HB) (v : Value) (xs : List Int) : Prop where
  row : u.ownsRow 0 3 1 v xs.length (ints xs)
  apart : ∀ k, v.ownBlock = some k → W ≤ k ∧ ¬ own X k
theorem BesH.lt {W : Nat} {u : World} {X : HB} {v : Value} {xs : List Int} (h : BesH W u X v xs) {k : Nat} (hk : v.ownBlock = some k) : k < u.heap.size := (h.row.lt k hk).2
theorem BesH.nil (W : Nat) (u : World) (X : HB) : BesH W u X (.slice none 0 0) [] := ⟨⟨rfl, .inl ⟨rfl, rfl⟩⟩, fun k hk => by simp [Value.ownBlock] at hk⟩
theorem BesH.nx {W : Nat} {u u' : World} {X X' : HB} {v : Value} {xs : List Int} (h : BesH W u X v xs) (hn : HNx X u X' u') : BesH W u' X' v xs :=
  ⟨owns_keep h.row fun k hk => hn.block k (h.lt hk) (h.apart k hk).2, fun k hk => ⟨(h.apart k hk).1, fun hm => by
    rcases hn.own k hm with h1 | h1
    · exact (h.apart k hk).2 h1
    · have := h.lt hk; omega⟩⟩
theorem BesH.keep {W : Nat} {u u' : World} {X : HB} {v : Value} {xs : List Int} (h : BesH W u X v xs) (hb : ∀ k, k < u.heap.size → v.ownBlock = some k → u'.heap[k]? = u.heap[k]?) : BesH W u' X v xs :=
  ⟨owns_keep h.row fun k hk => hb k (h.lt hk) hk, h.apart⟩
theorem BesH.form {W : Nat} {u : World} {X : HB} {v : Value} {xs : List Int} (h : BesH W u X v xs) : ∃ a cap, v = .slice a xs.length cap ∧ xs.length ≤ cap ∧ cap ≤ 9223372036854775807 ∧ ∀ i, i < xs.length → ∃ g, a = some ⟨g, 0, none⟩ ∧ u.cell? ⟨g, i, none⟩ = some (.int .i64 (xs[i]?.getD 0)) := by
  rcases Nat.eq_zero_or_pos xs.length with h0 | h0
  · obtain ⟨_, ⟨h1, h2⟩ | ⟨g, cap, cur, h3, h4, h5, h6, h7, _⟩⟩ := h.row
    · exact ⟨none, 0, by rw [h1, h0], by omega, by omega, fun i hi => by omega⟩
    · exact ⟨_, cap, h3, h6, by unfold maxLen at h7; omega, fun i hi => by omega⟩
  · obtain ⟨g, cap, hv, hc, hc2⟩ := own_form h.row h0
    have hr := h.row
    rw [hv] at hr
    obtain ⟨hcell, _, _⟩ := own_cells hr
    exact ⟨_, cap, hv, hc, hc2, fun i hi => ⟨g, rfl, hcell i hi⟩⟩
theorem BesH.cells {W : Nat} {u : World} {X : HB} {g n cap : Nat} {xs : List Int} (h : BesH W u X (.slice (some ⟨g, 0, none⟩) n cap) xs) {i : Nat} (hi : i < xs.length) : u.cell? ⟨g, i, none⟩ = some (.int .i64 (xs[i]?.getD 0)) := by
  obtain ⟨a, c, hv, -, -, hf⟩ := h.form
  obtain ⟨g', rfl, cx⟩ := hf i hi
  obtain ⟨e, -, -⟩ := Value.slice.inj hv
  obtain rfl : g = g' := by simpa using e
  exact cx
/-- What other rows of one's own know of a row that grew. -/
def Ap (v z : Value) : Prop := ∀ k, v.ownBlock = some k → z.ownBlock ≠ some k
theorem Ap.symm {v z : Value} (h : Ap v z) : Ap z v := fun k hk hk' => h k hk' hk
theorem Ap.nil (z : Value) : Ap (.slice none 0 0) z := fun k hk => by simp [Value.ownBlock] at hk
/-- A row has grown, by itself or into a new block; all else stands. -/
structure Grew (W : Nat) (u : World) (v : Value) (u' : World) (v' : Value) : Prop where
  below : Below W u u'
  old : ∀ k, k < u.heap.size → v.ownBlock ≠ some k → u'.heap[k]? = u.heap[k]?
  new : ∀ k, v'.ownBlock = some k → v.ownBlock = some k ∨ u.heap.size ≤ k
theorem Grew.of {W : Nat} {u u' : World} {v v' : Value} (hW : W ≤ u.heap.size) (hb : ∀ k, v.ownBlock = some k → W ≤ k) (hg : u.grownBy u' v.ownBlock) (hv : v'.ownBlock = v.ownBlock ∨ v'.ownBlock = some u.heap.size) : Grew W u v u' v' :=
  ⟨Below.grown (Below.refl W u) hg (by omega) hb, fun k hk hne => hg.block k hk fun e => hne e.symm, fun k hk => by
    rcases hv with e | e
    · exact .inl (by rw [← e]; exact hk)
    · rw [e] at hk; simp at hk; exact .inr (by omega)⟩
theorem Grew.ofAlloc {W : Nat} {u u' : World} {c : Obj} {v v' : Value} (hW : W ≤ u.heap.size) (hb : ∀ k, v.ownBlock = some k → W ≤ k) (hg : (u.alloc c).grownBy u' v.ownBlock) (hv : v'.ownBlock = v.ownBlock ∨ v'.ownBlock = some (u.alloc c).heap.size) : Grew W u v u' v' :=
  ⟨Below.grown ((Below.refl W u).alloc hW c) hg (by simp; omega) hb, fun k hk hne => by
    rw [hg.block k (by simp; omega) (fun e => hne e.symm)]; exact heap_alloc_old _ _ hk, fun k hk => by
    rcases hv with e | e
    · exact .inl (by rw [← e]; exact hk)
    · rw [e] at hk; simp at hk; exact .inr (by omega)⟩
section
variable {W : Nat} {u u' : World} {X : HB} {ws : List Int} {l bg : List Bool} {v v' z : Value} {xs ys zs : List Int}
theorem Grew.hp (h : Grew W u v u' v') (hA : HpAt u X ws l bg) (hb : BesH W u X v xs) : HpAt u' X ws l bg := hA.keep fun k hk => h.old k (hA.lt hk) fun e => (hb.apart k e).2 hk
theorem Grew.other (h : Grew W u v u' v') (hz : BesH W u X z zs) (ha : Ap v z) : BesH W u' X z zs := hz.keep fun k hk e => h.old k hk fun e' => ha k e' e
theorem Grew.ap (h : Grew W u v u' v') (hz : BesH W u X z zs) (ha : Ap v z) : Ap v' z := fun k hk hk' => by
  rcases h.new k hk with e | e
  · exact ha k e hk'
  · have := hz.lt hk'; omega
theorem Grew.self (h : Grew W u v u' v') (hW : W ≤ u.heap.size) (hA : HpAt u X ws l bg) (hb : BesH W u X v xs) (ho : u'.ownsRow 0 3 1 v' (xs.length + ys.length) (ints xs ++ ints ys)) : BesH W u' X v' (xs ++ ys) :=
  ⟨by simpa [ints] using ho, fun k hk => by
    rcases h.new k hk with e | e
    · exact hb.apart k e
    · exact ⟨by omega, fun hm => by have := hA.lt hm; omega⟩⟩
end
/-- Two rows of numbers beside a heap. -/
structure TwoH (W : Nat) (u : World) (X : HB) (ws : List Int) (l bg : List Bool) (va : Value) (xs : List Int) (vb : Value) (ys : List Int) : Prop where
  hp : HpAt u X ws l bg
  a : BesH W u X va xs
  b : BesH W u X vb ys
  ab : Ap va vb
section
variable {W : Nat} {u u' : World} {X X' : HB} {ws ws' : List Int} {l l' bg bg' : List Bool} {va vb : Value} {xs ys : List Int}
theorem TwoH.nx (h : TwoH W u X ws l bg va xs vb ys) (hA : HpAt u' X' ws' l' bg') (hn : HNx X u X' u') : TwoH W u' X' ws' l' bg' va xs vb ys := ⟨hA, h.a.nx hn, h.b.nx hn, h.ab⟩
theorem TwoH.drewN (h : TwoH W u X ws l bg va xs vb ys) (q : Nat) : TwoH W (u.drewN q) X ws l bg va xs vb ys :=
  ⟨h.hp.keep fun _ _ => rfl, h.a.keep fun _ _ _ => rfl, h.b.keep fun _ _ _ => rfl, h.ab⟩
theorem TwoH.swap (h : TwoH W u X ws l bg va xs vb ys) : TwoH W u X ws l bg vb ys va xs := ⟨h.hp, h.b, h.a, h.ab.symm⟩
theorem TwoH.app {va' : Value} {zs : List Int} (h : TwoH W u X ws l bg va xs vb ys) (hg : Grew W u va u' va') (hW : W ≤ u.heap.size) (ho : u'.ownsRow 0 3 1 va' (xs.length + zs.length) (ints xs ++ ints zs)) : TwoH W u' X ws l bg va' (xs ++ zs) vb ys :=
  ⟨hg.hp h.hp h.a, hg.self hW h.hp h.a ho, hg.other h.b h.ab, hg.ap h.b h.ab⟩
end
theorem wpl_app1 {ops : Array Oper} {rest : List Oper} {o : Oper} {a : Act} {w : World} {Q : Exit → Act → World → Prop} (hgd : o.guard = none) (s x : Operand)
    (ho : o.op = .call { callee := .builtin .append, args := #[s, x], argTypes := #[49, 49] })
    (v : Value) (n : Nat) (xs : List Value) (hs : a.eval s = v) (hown : w.ownsRow 0 3 1 v n xs) (ad : Addr) (c : Nat) (y : Int) (hx : a.eval x = .slice (some ad) 1 c) (hy : w.cell? ad = some (.int .i64 y)) (hn : n ≤ 1000000)
    (h : ∀ v' w', w'.ownsRow 0 3 1 v' (n + 1) (xs ++ [.int .i64 y]) → w.grownBy w' v.ownBlock → (v'.ownBlock = v.ownBlock ∨ v'.ownBlock = some w.heap.size) → wpList Try.prog ops Q rest (a.put o.dst v') w') : wpList Try.prog ops Q (o :: rest) a w :=
  wpList_plain hgd fun _ hK => wp_app1 s x ho v n xs hs hown ad c y hx hy hn fun v' w' h1 h2 h3 => hK _ _ (h v' w' h1 h2 h3)
/-- The objects' places, and their hashes, as the rows hold them. -/
def atL (T : List (Nat × Nat × Nat)) : List Int := T.map fun p => (p.1 : Int) + 1
def haL (T : List (Nat × Nat × Nat)) : List Int := T.map fun p => (p.2.2 : Int)
section
variable {T : List (Nat × Nat × Nat)}
theorem atL_len (T : List (Nat × Nat × Nat)) : (atL T).length = T.length := List.length_map ..
theorem haL_len (T : List (Nat × Nat × Nat)) : (haL T).length = T.length := List.length_map ..
theorem atL_at {q a s h : Nat} (e : T[q]? = some (a, s, h)) : (atL T)[q]?.getD 0 = (a : Int) + 1 := by simp [atL, e]
theorem haL_at {q a s h : Nat} (e : T[q]? = some (a, s, h)) : (haL T)[q]?.getD 0 = (h : Int) := by simp [haL, e]
theorem atL_snoc (a s h : Nat) : atL T ++ [(a : Int) + 1] = atL (T ++ [(a, s, h)]) := by simp [atL]
theorem haL_snoc (a s h : Nat) : haL T ++ [(h : Int)] = haL (T ++ [(a, s, h)]) := by simp [haL]
theorem atL_cut (T : List (Nat × Nat × Nat)) (k : Nat) : (atL T).take k ++ (atL T).drop (k + 1) = atL (T.eraseIdx k) := by
  simp [atL, List.eraseIdx_eq_take_drop_succ, List.map_take, List.map_drop]
theorem haL_cut (T : List (Nat × Nat × Nat)) (k : Nat) : (haL T).take k ++ (haL T).drop (k + 1) = haL (T.eraseIdx k) := by
  simp [haL, List.eraseIdx_eq_take_drop_succ, List.map_take, List.map_drop]
end
theorem atL_le {T : List (Nat × Nat × Nat)} {k : Nat} (h : k ≤ T.length) : ((atL T).take k).length = k ∧ ((atL T).drop k).length = T.length - k ∧ ((haL T).take k).length = k ∧ ((haL T).drop k).length = T.length - k := by
  simp [atL, haL]; omega
/-- Two rows, and a third that grows. -/
structure C1 (w u : World) (X : HB) (ws : List Int) (l bg : List Bool) (va : Value) (xs : List Int) (vb : Value) (ys : List Int) (v : Value) (zs : List Int) : Prop where
  hp : HpAt u X ws l bg
  own : HOwn w u X
  a : BesH w.heap.size u X va xs
  b : BesH w.heap.size u X vb ys
  c : BesH w.heap.size u X v zs
  ca : Ap v va
  cb : Ap v vb
section
variable {w u u' : World} {X : HB} {ws : List Int} {l bg : List Bool} {va vb v v' : Value} {xs ys zs qs : List Int}
theorem C1.swap (h : C1 w u X ws l bg va xs vb ys v zs) : C1 w u X ws l bg vb ys va xs v zs := ⟨h.hp, h.own, h.b, h.a, h.c, h.cb, h.ca⟩
theorem cut_1 (hT : TwoH w.heap.size u X ws l bg va xs vb ys) (hO : HOwn w u X) (zs : List Int) (ho : u'.ownsRow 0 3 1 v' (0 + zs.length) ([] ++ ints zs)) (hg : u.grownBy u' (Value.slice none 0 0).ownBlock) (hv : v'.ownBlock = (Value.slice none 0 0).ownBlock ∨ v'.ownBlock = some u.heap.size) : C1 w u' X ws l bg va xs vb ys v' zs := by
  have hW := hO.below.size
  have hb := BesH.nil w.heap.size u X
  have G : Grew w.heap.size u (.slice none 0 0) u' v' := Grew.of hW (fun k hk => (hb.apart k hk).1) hg hv
  exact ⟨G.hp hT.hp hb, ⟨hO.below.trans G.below, hO.own⟩, G.other hT.a (Ap.nil _), G.other hT.b (Ap.nil _), G.self (xs := []) hW hT.hp hb ho, G.ap hT.a (Ap.nil _), G.ap hT.b (Ap.nil _)⟩
theorem cut_2 (h : C1 w u X ws l bg va xs vb ys v zs) (qs : List Int) (ho : u'.ownsRow 0 3 1 v' (zs.length + qs.length) (ints zs ++ ints qs)) (hg : u.grownBy u' v.ownBlock) (hv : v'.ownBlock = v.ownBlock ∨ v'.ownBlock = some u.heap.size) : TwoH w.heap.size u' X ws l bg v' (zs ++ qs) vb ys ∧ HOwn w u' X := by
  have hW := h.own.below.size
  have G : Grew w.heap.size u v u' v' := Grew.of hW (fun k hk => (h.c.apart k hk).1) hg hv
  exact ⟨⟨G.hp h.hp h.c, G.self hW h.hp h.c ho, G.other h.b h.cb, G.ap h.b h.cb⟩, ⟨h.own.below.trans G.below, h.own.own⟩⟩
/-- What a reslice from k on, and one up to k, hand to an append. -/
theorem cut_from {W : Nat} {g n cap : Nat} (h : BesH W u X (.slice (some ⟨g, 0, none⟩) n cap) xs) (k : Nat) {ao : Option Addr} (h1 : cap ≠ k → ao = some ⟨g, k, none⟩) (h2 : cap = k → ∃ ad, ao = some ad) (hn : xs.length ≤ cap) : ∃ ad, ao = some ad ∧ ∀ j, j < (xs.drop k).length → u.cell? (ad.add j) = some (.int .i64 ((xs.drop k)[j]?.getD 0)) := by
  by_cases c : cap = k
  · obtain ⟨ad, e⟩ := h2 c
    exact ⟨ad, e, fun j hj => by simp at hj; omega⟩
  · refine ⟨_, h1 c, fun j hj => ?_⟩
    simp at hj
    rw [Addr.add_lit, h.cells (i := k + j) (by omega), List.getElem?_drop]
theorem cut_to {W : Nat} {g n cap : Nat} (h : BesH W u X (.slice (some ⟨g, 0, none⟩) n cap) xs) (k : Nat) (hk : k ≤ xs.length) : ∃ ad, some (⟨g, 0, none⟩ : Addr) = some ad ∧ ∀ j, j < (xs.take k).length → u.cell? (ad.add j) = some (.int .i64 ((xs.take k)[j]?.getD 0)) := by
  refine ⟨_, rfl, fun j hj => ?_⟩
  simp at hj
  rw [Addr.add_lit, Nat.zero_add, h.cells (i := j) (by omega), List.getElem?_take, if_pos (by omega)]
end
section
variable {i : Nat} {ws : List Int} {l bg : List Bool} {T : List (Nat × Nat × Nat)}
theorem mk_at (hK : Kp i ws l bg T) {a s : Nat} (hle : a + 3 + s ≤ 600) (C E H : Int) (h j x : Nat) (hj : j ≤ s) :
    (fldW (mkW ws a s (Hd.hput s 1 0 0 false true) C H E) a h j)[x]?.getD 0 = if a + 3 ≤ x ∧ x < a + 3 + j then 100 * (h : Int) + (x - (a + 3) : Nat) else if x = a then Hd.hput s 1 0 0 false true else if x = a + 1 then C else if x = a + 2 then H else if a + 3 ≤ x ∧ x < a + 3 + s then E else ws[x]?.getD 0 := by
  rw [fldW_at _ _ _ _ _ (by rw [mkW_len, hK.lw]; omega), mkW_at _ _ _ _ _ _ _ _ (by rw [hK.lw]; omega)]
theorem mk_done (hK : Kp i ws l bg T) (hi : i < 40) {a m s : Nat} (hb : Best (Run l) (3 + s) a m) (ha : a ≤ 11 * i) (hs : s ≤ 8) (C E : Int) :
    Kp (i + 1) (fldW (mkW ws a s (Hd.hput s 1 0 0 false true) C (Wd.wi i) E) a i s) (setR l a (3 + s) false) (bg.set a true) (T ++ [(a, s, i)]) := by
  have hle := hb.run.le
  have hf := hb.fits
  rw [hK.ll] at hle
  have hat := fun x => mk_at hK (a := a) (s := s) (by omega) C E (Wd.wi i) i s x (Nat.le_refl _)
  refine hK.make hi hb ha hs hi (by rw [fldW_len, mkW_len, hK.lw]) ?_ ?_ (fun j hj => ?_) (fun x hx => ?_)
  · rw [hat, if_neg (by omega), if_pos rfl]
  · rw [hat, if_neg (by omega), if_neg (by omega), if_neg (by omega), if_pos rfl]
  · rw [hat, if_pos (by omega), show a + 3 + j - (a + 3) = j by omega]
  · rw [hat, if_neg (by omega), if_neg (by omega), if_neg (by omega), if_neg (by omega), if_neg (by omega)]
theorem mk_fld (hK : Kp i ws l bg T) {a m s : Nat} (hb : Best (Run l) (3 + s) a m) (hs : s ≤ 8) (C E H : Int) (h j : Nat) (hj : j ≤ s) :
    Fld (fldW (mkW ws a s (Hd.hput s 1 0 0 false true) C H E) a h j) (bg.set a true) a s := by
  have hle := hb.run.le
  have hf := hb.fits
  rw [hK.ll] at hle
  have hbb : hasB (bg.set a true) ((a : Int) + 1) = true := by
    rw [hasB_nat _ _ (by simp [hK.lb]; omega), o_setl (by rw [hK.lb]; omega), if_pos rfl]
  have e := head_at (ws := fldW (mkW ws a s (Hd.hput s 1 0 0 false true) C H E) a h j) hbb (by rw [fldW_len, mkW_len, hK.lw]; omega)
  rw [mk_at hK (by omega) _ _ _ _ _ _ hj, if_neg (by omega), if_pos rfl] at e
  have e1 := Hd.fmt_put (s : Int) (f := 1) 0 0 false true 0 (by omega) (by omega)
  have e2 := Hd.siz_put (s := (s : Int)) 1 0 0 false true 0 (by omega) (by omega)
  simp only [Int.zero_mul, Int.add_zero] at e1 e2
  exact ⟨hbb, by rw [e]; exact e1, by rw [e]; exact e2, by simp [hK.lb]; omega⟩
/-- The lowest of those that are left goes. -/
theorem Kp.next {q a s h : Nat} (hK : Kp i ws l bg (T.drop q)) (hq : T[q]? = some (a, s, h)) : Kp i ws (setR l a (3 + s) true) (bg.set a false) (T.drop (q + 1)) := by
  have := hK.drop (k := 0) (by rw [List.getElem?_drop]; exact hq)
  rwa [List.eraseIdx_zero, List.tail_drop] at this
end
end Go.Proofs.Ytljgnmbjidkjnaa.Hp
