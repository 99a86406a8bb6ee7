/- The reference's own answer of chapter 5: a new row of objects in the place of the old one; so many objects more at the end of a row. -/
/- The reference's own answer of chapter 5: SetMark where it goes. -/
/- The reference's own answer of chapter 5: Drop. -/
/- The reference's own answer of chapter 5: Make where it may not, or where there is no room. -/
/- The reference's own answer of chapter 5: an object that is being made; where it goes. -/
import Derived.Test.YtljgnmbjidkjnaaRefO
import Derived.Deep.RegionHeld3
namespace Go.Proofs.Ytljgnmbjidkjnaa.Rf5
open Go.Proofs.Ytljgnmbjidkjnaa.Gen Go.Proofs.Ytljgnmbjidkjnaa.Base Go.Proofs.Ytljgnmbjidkjnaa.Fr Go.Proofs.Ytljgnmbjidkjnaa.Hp Go.Proofs.Ytljgnmbjidkjnaa.Rf4 Go.ChangeShapes Go.WideShapes Go.ChangeAt Go.RowKit
set_option linter.unusedVariables false
/-- Two objects have no memory in common. -/
def Apt (o o' : Ob) : Prop := ∀ k, o.fv.ownBlock = some k ∨ o.bv.ownBlock = some k → o'.fv.ownBlock ≠ some k ∧ o'.bv.ownBlock ≠ some k
theorem Apt.symm {o o' : Ob} (h : Apt o o') : Apt o' o := fun k hk => ⟨fun e => by
    rcases hk with hk | hk
    · exact (h k (.inl e)).1 hk
    · exact (h k (.inl e)).2 hk, fun e => by
    rcases hk with hk | hk
    · exact (h k (.inr e)).1 hk
    · exact (h k (.inr e)).2 hk⟩
/-- What the objects' own rows know of one another, and of the rest. -/
structure Rws (w : World) (h r g : Nat) (obs : List Ob) : Prop where
  fs : ∀ o ∈ obs, w.ownsRow 0 28 1 o.fv o.F.length (o.F.map (Value.int .u32))
  bs : ∀ o ∈ obs, w.ownsRow 0 5 1 o.bv o.B.length (o.B.map (Value.int .u8))
  n4 : ∀ o ∈ obs, ∀ k, o.fv.ownBlock = some k ∨ o.bv.ownBlock = some k → k ≠ h ∧ k ≠ r ∧ k ≠ g
  ap : obs.Pairwise Apt
  n6 : ∀ o ∈ obs, ∀ k, o.fv.ownBlock = some k → o.bv.ownBlock ≠ some k
  srt : obs.Pairwise fun p q => p.pos < q.pos
  hi : ∀ o ∈ obs, 1 ≤ o.pos ∧ o.pos ≤ 65536
  few : obs.length ≤ 65536
section
variable {w w' : World} {h r g : Nat} {lv v : Value} {obs obs' : List Ob} {l : List Bool}
theorem R5.rws (hR : R5 w h r g lv obs l) : Rws w h r g obs :=
  ⟨hR.fs, hR.bs, fun o ho k hk => ⟨(hR.n4 o ho k hk).1, (hR.n4 o ho k hk).2.1, (hR.n4 o ho k hk).2.2.1⟩,
    List.pairwise_iff_getElem.2 fun i j hi hj hij k hk => hR.n5 i j _ _ (List.getElem?_eq_getElem hi) (List.getElem?_eq_getElem hj) (by omega) k hk, hR.n6, hR.srt, hR.hi, hR.few⟩
theorem Rws.n5 (hW : Rws w h r g obs) (q q' : Nat) (o o' : Ob) (ho : obs[q]? = some o) (ho' : obs[q']? = some o') (hne : q ≠ q') : Apt o o' := by
  obtain ⟨h1, e1⟩ := List.getElem?_eq_some_iff.1 ho
  obtain ⟨h2, e2⟩ := List.getElem?_eq_some_iff.1 ho'
  have hs := List.pairwise_iff_getElem.1 hW.ap
  rcases Nat.lt_or_ge q q' with c | c
  · have := hs q q' h1 h2 c; rwa [e1, e2] at this
  · have := hs q' q h2 h1 (by omega); rw [e1, e2] at this; exact this.symm
theorem Rws.keep (hW : Rws w h r g obs) (hb : ∀ o ∈ obs, ∀ k, o.fv.ownBlock = some k ∨ o.bv.ownBlock = some k → w'.heap[k]? = w.heap[k]?) : Rws w' h r g obs :=
  { hW with
    fs := fun o ho => owns_keep (hW.fs o ho) fun k hk => hb o ho k (.inl hk)
    bs := fun o ho => owns_keep (hW.bs o ho) fun k hk => hb o ho k (.inr hk) }
theorem Rws.erase (hW : Rws w h r g obs) (q : Nat) : Rws w h r g (obs.eraseIdx q) :=
  have hm : ∀ o ∈ obs.eraseIdx q, o ∈ obs := fun o ho => List.mem_of_mem_eraseIdx ho
  ⟨fun o ho => hW.fs o (hm o ho), fun o ho => hW.bs o (hm o ho), fun o ho => hW.n4 o (hm o ho), hW.ap.sublist (List.eraseIdx_sublist ..), fun o ho => hW.n6 o (hm o ho),
    hW.srt.sublist (List.eraseIdx_sublist ..), fun o ho => hW.hi o (hm o ho), by have := hW.few; have := (List.eraseIdx_sublist obs q).length_le; omega⟩
/-- One more, where it belongs. -/
theorem Rws.ins (hW : Rws w h r g obs) (k : Nat) (o : Ob) (f1 : w.ownsRow 0 28 1 o.fv o.F.length (o.F.map (Value.int .u32))) (f2 : w.ownsRow 0 5 1 o.bv o.B.length (o.B.map (Value.int .u8)))
    (f3 : ∀ k, o.fv.ownBlock = some k ∨ o.bv.ownBlock = some k → k ≠ h ∧ k ≠ r ∧ k ≠ g) (f4 : ∀ p ∈ obs, Apt o p) (f5 : ∀ k, o.fv.ownBlock = some k → o.bv.ownBlock ≠ some k)
    (f6 : ∀ p ∈ obs.take k, p.pos < o.pos) (f7 : ∀ p ∈ obs.drop k, o.pos < p.pos) (f8 : 1 ≤ o.pos ∧ o.pos ≤ 65536) (f9 : obs.length < 65536) : Rws w h r g (obs.take k ++ o :: obs.drop k) := by
  have hm : ∀ p ∈ obs.take k ++ o :: obs.drop k, p = o ∨ p ∈ obs := fun p hp => by
    rcases List.mem_append.1 hp with e | e
    · exact .inr (List.mem_of_mem_take e)
    · rcases List.mem_cons.1 e with e | e
      · exact .inl e
      · exact .inr (List.mem_of_mem_drop e)
  have pw : ∀ R : Ob → Ob → Prop, obs.Pairwise R → (∀ p ∈ obs.take k, R p o) → (∀ p ∈ obs.drop k, R o p) → (obs.take k ++ o :: obs.drop k).Pairwise R := fun R hR h1 h2 => by
    have e := hR
    rw [← List.take_append_drop k obs, List.pairwise_append] at e
    rw [List.pairwise_append, List.pairwise_cons]
    refine ⟨e.1, ⟨h2, e.2.1⟩, fun p hp q hq => ?_⟩
    rcases List.mem_cons.1 hq with rfl | hq
    · exact h1 p hp
    · exact e.2.2 p hp q hq
  exact
  { fs := fun p hp => by
      rcases hm p hp with rfl | e
      · exact f1
      · exact hW.fs p e
    bs := fun p hp => by
      rcases hm p hp with rfl | e
      · exact f2
      · exact hW.bs p e
    n4 := fun p hp => by
      rcases hm p hp with rfl | e
      · exact f3
      · exact hW.n4 p e
    ap := pw _ hW.ap (fun p hp => (f4 p (List.mem_of_mem_take hp)).symm) (fun p hp => f4 p (List.mem_of_mem_drop hp))
    n6 := fun p hp => by
      rcases hm p hp with rfl | e
      · exact f5
      · exact hW.n6 p e
    srt := pw _ hW.srt f6 f7
    hi := fun p hp => by
      rcases hm p hp with rfl | e
      · exact f8
      · exact hW.hi p e
    few := by simp; omega }
/-- A new row of objects is laid in the place of the old one. -/
theorem R5.newL (hR : R5 w h r g lv obs l) (hW : Rws w h r g obs') (hv : w.ownsRow 0 47 9 v obs'.length (cellsL obs'))
    (n3 : v.ownBlock ≠ some h ∧ v.ownBlock ≠ some r ∧ v.ownBlock ≠ some g) (n4 : ∀ o ∈ obs', ∀ k, o.fv.ownBlock = some k ∨ o.bv.ownBlock = some k → v.ownBlock ≠ some k) : R5 (w.setCell ⟨h, 0, none⟩ v) h r g v obs' l where
  row := by rw [heap_setCell_same w h 0 _ _ _ hR.row]; rfl
  fr := R4.far hR.fr hR.n1 hR.n2
  ls := own_far hv n3.1
  fs := fun o ho => own_far (hW.fs o ho) fun e => (hW.n4 o ho h (.inl e)).1 rfl
  bs := fun o ho => own_far (hW.bs o ho) fun e => (hW.n4 o ho h (.inr e)).1 rfl
  n1 := hR.n1
  n2 := hR.n2
  n3 := n3
  n4 := fun o ho k hk => ⟨(hW.n4 o ho k hk).1, (hW.n4 o ho k hk).2.1, (hW.n4 o ho k hk).2.2, n4 o ho k hk⟩
  n5 := fun q q' o o' h1 h2 h3 => hW.n5 q q' o o' h1 h2 h3
  n6 := hW.n6
  srt := hW.srt
  hi := hW.hi
  few := hW.few
/-- Another chapter 4. -/
theorem R5.newF (hR : R5 w h r g lv obs l) {l' : List Bool} (hG : G4 g w w') (hF : R4 w' r g l') : R5 w' h r g lv obs l' :=
  have hk : ∀ {e : TypeId} {size n : Nat} {v : Value} {xs : List Value}, w.ownsRow 0 e size v n xs → v.ownBlock ≠ some g → w'.ownsRow 0 e size v n xs := fun hh hne => owns_keep hh fun k hk => hG.block k (hh.lt k hk).2 fun e => hne (by rw [hk, e])
  { hR with
    row := (hG.block h (Array.getElem?_eq_some_iff.1 hR.row).1 hR.n2).trans hR.row
    fr := hF
    ls := hk hR.ls hR.n3.2.2
    fs := fun o ho => hk (hR.fs o ho) fun e => (hR.n4 o ho g (.inl e)).2.2.1 rfl
    bs := fun o ho => hk (hR.bs o ho) fun e => (hR.n4 o ho g (.inr e)).2.2.1 rfl }
/-- What the reference has of its own. -/
def own5 (h r g : Nat) (lv : Value) (obs : List Ob) (k : Nat) : Prop := k = h ∨ k = r ∨ k = g ∨ lv.ownBlock = some k ∨ ∃ o ∈ obs, o.fv.ownBlock = some k ∨ o.bv.ownBlock = some k
theorem R5.lt (hR : R5 w h r g lv obs l) {k : Nat} (hk : own5 h r g lv obs k) : k < w.heap.size := by
  rcases hk with rfl | rfl | rfl | e | ⟨o, ho, e | e⟩
  · exact (Array.getElem?_eq_some_iff.1 hR.row).1
  · exact hR.fr.lt.1
  · exact hR.fr.lt.2
  · exact (hR.ls.lt k e).2
  · exact ((hR.fs o ho).lt k e).2
  · exact ((hR.bs o ho).lt k e).2
theorem R5.keep (hR : R5 w h r g lv obs l) (hb : ∀ k, own5 h r g lv obs k → w'.heap[k]? = w.heap[k]?) : R5 w' h r g lv obs l :=
  { hR with
    row := (hb h (.inl rfl)).trans hR.row
    fr := hR.fr.keep fun k hk => by
      rcases hk with rfl | rfl
      · exact hb _ (.inr (.inl rfl))
      · exact hb _ (.inr (.inr (.inl rfl)))
    ls := owns_keep hR.ls fun k hk => hb k (.inr (.inr (.inr (.inl hk))))
    fs := fun o ho => owns_keep (hR.fs o ho) fun k hk => hb k (.inr (.inr (.inr (.inr ⟨o, ho, .inl hk⟩))))
    bs := fun o ho => owns_keep (hR.bs o ho) fun k hk => hb k (.inr (.inr (.inr (.inr ⟨o, ho, .inr hk⟩)))) }
end
/-- What a call does: what is its own before may change; what is its own behind it was so, or is new. -/
structure Nx5 (P : Nat → Prop) (w : World) (P' : Nat → Prop) (w' : World) : Prop where
  os : w'.os = w.os
  tape : w'.tape = w.tape
  output : w'.output = w.output
  size : w.heap.size ≤ w'.heap.size
  block : ∀ k, k < w.heap.size → ¬ P k → w'.heap[k]? = w.heap[k]?
  own : ∀ k, P' k → P k ∨ w.heap.size ≤ k
section
variable {P P' P'' : Nat → Prop} {w w' w'' : World}
theorem Nx5.refl (P : Nat → Prop) (w : World) : Nx5 P w P w := ⟨rfl, rfl, rfl, Nat.le_refl _, fun _ _ _ => rfl, fun _ h => .inl h⟩
theorem Nx5.trans (a : Nx5 P w P' w') (b : Nx5 P' w' P'' w'') : Nx5 P w P'' w'' :=
  ⟨b.os.trans a.os, b.tape.trans a.tape, b.output.trans a.output, Nat.le_trans a.size b.size,
   fun k hk hn => (b.block k (Nat.lt_of_lt_of_le hk a.size) fun hp => by rcases a.own k hp with c | c; exact hn c; omega).trans (a.block k hk hn),
   fun k hk => by
     rcases b.own k hk with c | c
     · exact a.own k c
     · have := a.size; exact .inr (by omega)⟩
theorem Nx5.ofBelow (P : Nat → Prop) (h : Below w.heap.size w w') : Nx5 P w P w' := ⟨h.os, h.tape, h.output, h.size, fun k hk _ => h.block k hk, fun _ h => .inl h⟩
theorem Nx5.ofG4 {g : Nat} (hp : P g) (hP : ∀ k, P' k → P k) (h : G4 g w w') : Nx5 P w P' w' := ⟨h.os, h.tape, h.output, h.size, fun k hk hn => h.block k hk fun e => hn (e ▸ hp), fun k hk => .inl (hP k hk)⟩
theorem Nx5.set (h : Nx5 P w P' w') {g : Nat} (hg : P g ∨ w.heap.size ≤ g) (i : Nat) (v : Value) : Nx5 P w P' (w'.setCell ⟨g, i, none⟩ v) :=
  ⟨h.os, h.tape, h.output, by simpa using h.size, fun k hk hn => (heap_setCell_other _ _ _ _ fun e => by
    have e : k = g := e
    rcases hg with c | c
    · exact hn (e ▸ c)
    · omega).trans (h.block k hk hn), h.own⟩
end
/-- What an append reads: so many objects, the address asked for where there is one. -/
def SrcO (w : World) (ao : Option Addr) (m : Nat) (xs : List Value) : Prop := xs.length = m * 9 ∧ (0 < m → ∃ ad, ao = some ad ∧ ∀ j u, xs[j]? = some u → w.cell? (ad.add j) = some u)
theorem infoO : (Try.prog.info? 47).map (fun i => (i.zero, i.size, i.bytes)) = some (some (.agg z9), 9, 104) := by kernel_rfl
theorem cellsL_one (obs : List Ob) (h1 : ∀ o ∈ obs, (∃ a n c, o.fv = .slice a n c) ∧ ∃ a n c, o.bv = .slice a n c) : ∀ u ∈ cellsL obs, u.oneCell' = true := fun u hu => by
  obtain ⟨o, ho, hu⟩ := List.mem_flatMap.1 hu
  obtain ⟨⟨a, n, c, e⟩, ⟨a2, n2, c2, e2⟩⟩ := h1 o ho
  simp only [Ob.cells, e, e2, List.mem_cons, List.not_mem_nil, or_false] at hu
  rcases hu with rfl | rfl | rfl | rfl | rfl | rfl | rfl | rfl | rfl <;> rfl
/-- So many objects more at the end of a row of one's own. -/
theorem run_appO (w : World) (ty : TypeId) (v : Value) (n : Nat) (xs : List Value) (hown : w.ownsRow 0 47 9 v n xs) (ao : Option Addr) (m c : Nat) (ys : List Value) (hs : SrcO w ao m ys) (h1 : ∀ u ∈ ys, u.oneCell' = true) (hn : n + m ≤ 1000000) :
    ∃ v' w', (Builtin.append_ #[40, 40] ty #[v, .slice ao m c]).run Try.prog w = .ok v' w' ∧ w'.ownsRow 0 47 9 v' (n + m) (xs ++ ys) ∧ w.grownBy w' v.ownBlock ∧ (v'.ownBlock = v.ownBlock ∨ v'.ownBlock = some w.heap.size) := by
  obtain ⟨i0, hi, hz0, hz1, hz2⟩ := info_parts infoO
  rcases Nat.eq_zero_or_pos m with h0 | h0
  · subst h0
    obtain rfl : ys = [] := List.eq_nil_of_length_eq_zero (by simpa using hs.1)
    cases ao with
    | none =>
      refine ⟨v, w, ?_, by simpa using hown, World.grownBy.refl w _, .inl rfl⟩
      rcases hown.2 with ⟨rfl, rfl⟩ | ⟨g, cap, cur, rfl, _, _, hnc, _⟩
      · simp [Builtin.append_, run_underlying Try.underlying40, sizeOf, typeInfo, hi, Builtin.lenOf, Builtin.firstCells]
      · simp [Builtin.append_, run_underlying Try.underlying40, sizeOf, typeInfo, hi, Builtin.lenOf, Builtin.firstCells, hnc, storeCells]
    | some ad =>
      obtain ⟨v', w', hr, h2, h3, _, h5⟩ := run_append_own_at (P := Try.prog) (w := w) 0 40 ty 47 i0 (.agg z9) 9 104 Try.underlying40 hi hz0 hz1 hz2 rfl (by decide) v n xs hown ad 0 c [] (by simp) (fun j u hj => by simp at hj) h1 (by unfold maxLen; omega) (by omega) (Nat.zero_le _)
      exact ⟨v', w', hr, h2, h3, h5⟩
  · obtain ⟨ad, rfl, hc⟩ := hs.2 h0
    obtain ⟨v', w', hr, h2, h3, _, h5⟩ := run_append_own_at (P := Try.prog) (w := w) 0 40 ty 47 i0 (.agg z9) 9 104 Try.underlying40 hi hz0 hz1 hz2 rfl (by decide) v n xs hown ad m c ys hs.1 hc h1 (by unfold maxLen; omega) (by omega) (Nat.zero_le _)
    exact ⟨v', w', hr, h2, h3, h5⟩
theorem wp_appO {w : World} {o : Oper} {a : Act} {K : Act → World → Prop} {Q : Exit → Act → World → Prop} (s x : Operand)
    (ho : o.op = .call { callee := .builtin .append, args := #[s, x], argTypes := #[40, 40] })
    (v : Value) (n : Nat) (xs : List Value) (hs : a.eval s = v) (hown : w.ownsRow 0 47 9 v n xs) (ao : Option Addr) (m c : Nat) (hx : a.eval x = .slice ao m c) (ys : List Value) (hsrc : SrcO w ao m ys) (h1 : ∀ u ∈ ys, u.oneCell' = true) (hn : n + m ≤ 1000000)
    (h : ∀ v' w', w'.ownsRow 0 47 9 v' (n + m) (xs ++ ys) → w.grownBy w' v.ownBlock → (v'.ownBlock = v.ownBlock ∨ v'.ownBlock = some w.heap.size) → K (a.put o.dst v') w') : o.wp Try.prog a w K Q := by
  obtain ⟨v', w', hr, h2, h3, h5⟩ := run_appO w o.type v n xs hown ao m c ys hsrc h1 hn
  unfold Oper.wp execOp
  simp only [ho, resolve, invoke, builtin, Sem.run_bind, Sem.run_pure, Result.andThen_ok, List.map_toArray, List.map_cons, List.map_nil, hs, hx, hr]
  exact h v' w' h2 h3 h5
end Go.Proofs.Ytljgnmbjidkjnaa.Rf5

namespace Go.Proofs.Ytljgnmbjidkjnaa.Rf5
open Go.Proofs.Ytljgnmbjidkjnaa.Gen Go.Proofs.Ytljgnmbjidkjnaa.Base Go.Proofs.Ytljgnmbjidkjnaa.Fr Go.Proofs.Ytljgnmbjidkjnaa.Hp Go.Proofs.Ytljgnmbjidkjnaa.Rf4 Go.ChangeShapes Go.WideShapes Go.ChangeAt Go.RowKit
set_option linter.unusedVariables false
section
variable {w w' : World} {h r g : Nat} {lv : Value} {obs : List Ob} {l : List Bool}
set_option maxHeartbeats 4000000 in
set_option maxRecDepth 100000 in
theorem r5_SetMark_yes (hR : R5 w h r g lv obs l) (x : Int) (hx : (Lit.int .i64 x).wf = true) {q : Nat} {o : Ob} (ho : obs[q]? = some o) (hp : (o.pos : Int) = x) (cl : Int) (c0 : 0 ≤ cl) (c1 : cl ≤ 2) (fb : Bool) :
    Calls Try.prog 24 #[.pointer (some ⟨h, 0, none⟩), .int .i64 x, .int .i64 cl, .bool fb] w fun e w' => e = .returned (.bool true) ∧ (∃ gl c, lv = .slice (some ⟨gl, 0, none⟩) obs.length c ∧ G4 gl w w') ∧ R5 w' h r g lv (obs.set q { o with col := cl, fin := fb }) l := by
  have hfind := r5_find hR x hx
  obtain ⟨k0, -⟩ := hR.c0
  obtain ⟨a, cap, hlv, hcap, hc⟩ := own_obs hR.ls
  obtain ⟨gl, rfl, hcell⟩ := hc q o ho
  have hql := (List.getElem?_eq_some_iff.1 ho).1
  have hfew := hR.few
  have hls := hR.ls
  have hne : gl ≠ h := fun e => hR.n3.1 (by rw [hlv, e]; rfl)
  have HS := Lib.hid ((hR.putL ho hlv (j := 7) (u := .int .i64 cl) (o' := { o with col := cl }) (by omega) rfl rfl rfl rfl rfl rfl).putL (o := { o with col := cl }) (by rw [List.getElem?_set_self hql]) (by rw [List.length_set]; exact hlv) (j := 8) (u := .bool fb) (o' := { o with col := cl, fin := fb }) (by omega) rfl rfl rfl rfl rfl rfl)
  have k7 := hcell 7 _ (by omega) rfl
  have k8 := hcell 8 _ (by omega) rfl
  rw [hlv] at hls
  have fz7 := own_live hls (q * 9 + 7)
  have fz8 := own_live hls (q * 9 + 8)
  rw [hlv] at k0
  have HLV := Lib.hid hlv; have HR := Lib.hid hR; have HO := Lib.hid ho
  have HG : Hid (G4 gl w ((w.setCell ⟨gl, q * 9 + 7, none⟩ (.int .i64 cl)).setCell ⟨gl, q * 9 + 8, none⟩ (.bool fb))) := Lib.hid (((G4.refl gl w).set _ _).set _ _)
  have t1 : (q : Int) < (obs.length : Int) := by omega
  have t0 : (0 : Int) ≤ (q : Int) := by omega
  have t2 : ¬ (q : Int) < 0 := by omega
  have t3 : ¬ cl < 0 := by omega
  have t4 : ¬ 2 < cl := by omega
  clear hR hc hcell hls hlv ho
  go_enter Try.func24, Try.ntmps24
  go_wp2_with fail
  refine hfind.mono ?_
  rintro e u1 ⟨i, rfl, hi, rfl⟩
  obtain rfl := idx_eq HR.out hi HO.out hp
  clear hi hfind hp
  dsimp only
  go_upto_region 4 with fail
  refine wp_region_held_drew (S := (fun w' => w'.cell? ⟨h, 0, none⟩ = some (.slice (some ⟨gl, 0, none⟩) obs.length cap))) (by kernel_rfl) ?_ (fun hH0 => ?_)
  · (try dsimp only); exact k0
  refine wpAnyH_take (i := 0) (oi := { dst := some 23, op := Op.move (Operand.tmp 0), type := 26, pos := "ref.go:152", after := #[], guard := none }) (v := ?v1) rfl (by kernel_rfl) (by kernel_rfl) (by kernel_rfl) (fun _ _ _ h => h) (Or.inl ⟨by rfl, ?hy1⟩) (by assumption) ?_
  case hy1 => intro w hSw; (try dsimp only at hSw); go_simp; (try with_reducible rfl)
  try simp only [Act.put, List.setIfInBounds_toArray, List.set_cons_zero, List.set_cons_succ]
  refine wpAnyH_take (i := 1) (oi := { dst := some 24, op := Op.nilCheck (Operand.tmp 23), type := 0, pos := "ref.go:152", after := #[{ on := 0, ground := Ground.data }], guard := none }) (v := ?v2) rfl (by kernel_rfl) (by kernel_rfl) (by kernel_rfl) (fun _ _ _ h => h) (Or.inl ⟨by rfl, ?hy2⟩) (by assumption) ?_
  case hy2 => intro w hSw; (try dsimp only at hSw); go_simp; (try with_reducible rfl)
  try simp only [Act.put, List.setIfInBounds_toArray, List.set_cons_zero, List.set_cons_succ]
  refine wpAnyH_take (i := 2) (oi := { dst := some 25, op := Op.fieldAddr 43 (Operand.tmp 24) 0, type := 0, pos := "ref.go:152", after := #[{ on := 1, ground := Ground.data }], guard := none }) (v := ?v3) rfl (by kernel_rfl) (by kernel_rfl) (by kernel_rfl) (fun _ _ _ h => h) (Or.inl ⟨by rfl, ?hy3⟩) (by assumption) ?_
  case hy3 => intro w hSw; (try dsimp only at hSw); go_simp; (try with_reducible rfl)
  try simp only [Act.put, List.setIfInBounds_toArray, List.set_cons_zero, List.set_cons_succ]
  refine wpAnyH_take (i := 3) (oi := { dst := some 26, op := Op.load 40 (Operand.tmp 25), type := 40, pos := "ref.go:152", after := #[{ on := 2, ground := Ground.data }], guard := none }) (v := ?v4) rfl (by kernel_rfl) (by kernel_rfl) (by kernel_rfl) (fun _ _ _ h => h) (Or.inl ⟨by rfl, ?hy4⟩) (by assumption) ?_
  case hy4 => intro w hSw; (try dsimp only at hSw); go_simp; (try with_reducible rfl)
  try simp only [Act.put, List.setIfInBounds_toArray, List.set_cons_zero, List.set_cons_succ]
  refine wpAnyH_take (i := 4) (oi := { dst := some 27, op := Op.move (Operand.tmp 9), type := 3, pos := "ref.go:152", after := #[], guard := none }) (v := ?v5) rfl (by kernel_rfl) (by kernel_rfl) (by kernel_rfl) (fun _ _ _ h => h) (Or.inl ⟨by rfl, ?hy5⟩) (by assumption) ?_
  case hy5 => intro w hSw; (try dsimp only at hSw); go_simp; (try with_reducible rfl)
  try simp only [Act.put, List.setIfInBounds_toArray, List.set_cons_zero, List.set_cons_succ]
  refine wpAnyH_take (i := 5) (oi := { dst := some 28, op := Op.move (Operand.tmp 0), type := 26, pos := "ref.go:152", after := #[], guard := none }) (v := ?v6) rfl (by kernel_rfl) (by kernel_rfl) (by kernel_rfl) (fun _ _ _ h => h) (Or.inl ⟨by rfl, ?hy6⟩) (by assumption) ?_
  case hy6 => intro w hSw; (try dsimp only at hSw); go_simp; (try with_reducible rfl)
  try simp only [Act.put, List.setIfInBounds_toArray, List.set_cons_zero, List.set_cons_succ]
  refine wpAnyH_take (i := 6) (oi := { dst := some 29, op := Op.nilCheck (Operand.tmp 28), type := 0, pos := "ref.go:152", after := #[{ on := 5, ground := Ground.data }], guard := none }) (v := ?v7) rfl (by kernel_rfl) (by kernel_rfl) (by kernel_rfl) (fun _ _ _ h => h) (Or.inl ⟨by rfl, ?hy7⟩) (by assumption) ?_
  case hy7 => intro w hSw; (try dsimp only at hSw); go_simp; (try with_reducible rfl)
  try simp only [Act.put, List.setIfInBounds_toArray, List.set_cons_zero, List.set_cons_succ]
  refine wpAnyH_take (i := 7) (oi := { dst := some 30, op := Op.fieldAddr 43 (Operand.tmp 29) 0, type := 0, pos := "ref.go:152", after := #[{ on := 6, ground := Ground.data }], guard := none }) (v := ?v8) rfl (by kernel_rfl) (by kernel_rfl) (by kernel_rfl) (fun _ _ _ h => h) (Or.inl ⟨by rfl, ?hy8⟩) (by assumption) ?_
  case hy8 => intro w hSw; (try dsimp only at hSw); go_simp; (try with_reducible rfl)
  try simp only [Act.put, List.setIfInBounds_toArray, List.set_cons_zero, List.set_cons_succ]
  refine wpAnyH_take (i := 8) (oi := { dst := some 31, op := Op.load 40 (Operand.tmp 30), type := 40, pos := "ref.go:152", after := #[{ on := 7, ground := Ground.data }], guard := none }) (v := ?v9) rfl (by kernel_rfl) (by kernel_rfl) (by kernel_rfl) (fun _ _ _ h => h) (Or.inl ⟨by rfl, ?hy9⟩) (by assumption) ?_
  case hy9 => intro w hSw; (try dsimp only at hSw); go_simp; (try with_reducible rfl)
  try simp only [Act.put, List.setIfInBounds_toArray, List.set_cons_zero, List.set_cons_succ]
  refine wpAnyH_take (i := 9) (oi := { dst := some 32, op := Op.move (Operand.tmp 9), type := 3, pos := "ref.go:152", after := #[{ on := 14, ground := Ground.gcOnly Departure.lateStores }], guard := none }) (v := ?v10) rfl (by kernel_rfl) (by kernel_rfl) (by kernel_rfl) (fun _ _ _ h => h) (Or.inl ⟨by rfl, ?hy10⟩) (by assumption) ?_
  case hy10 => intro w hSw; (try dsimp only at hSw); go_simp; (try with_reducible rfl)
  try simp only [Act.put, List.setIfInBounds_toArray, List.set_cons_zero, List.set_cons_succ]
  refine wpAnyH_take (i := 10) (oi := { dst := some 33, op := Op.move (Operand.tmp 2), type := 3, pos := "ref.go:152", after := #[], guard := none }) (v := ?v11) rfl (by kernel_rfl) (by kernel_rfl) (by kernel_rfl) (fun _ _ _ h => h) (Or.inl ⟨by rfl, ?hy11⟩) (by assumption) ?_
  case hy11 => intro w hSw; (try dsimp only at hSw); go_simp; (try with_reducible rfl)
  try simp only [Act.put, List.setIfInBounds_toArray, List.set_cons_zero, List.set_cons_succ]
  refine wpAnyH_take (i := 11) (oi := { dst := some 34, op := Op.move (Operand.tmp 3), type := 4, pos := "ref.go:152", after := #[{ on := 14, ground := Ground.gcOnly Departure.lateStores }], guard := none }) (v := ?v12) rfl (by kernel_rfl) (by kernel_rfl) (by kernel_rfl) (fun _ _ _ h => h) (Or.inl ⟨by rfl, ?hy12⟩) (by assumption) ?_
  case hy12 => intro w hSw; (try dsimp only at hSw); go_simp; (try with_reducible rfl)
  try simp only [Act.put, List.setIfInBounds_toArray, List.set_cons_zero, List.set_cons_succ]
  refine wpAnyH_take (i := 12) (oi := { dst := some 35, op := Op.indexAddr 40 (Operand.tmp 26) (Operand.tmp 27), type := 0, pos := "ref.go:152", after := #[{ on := 3, ground := Ground.data }, { on := 4, ground := Ground.data }, { on := 0, ground := Ground.phase }, { on := 1, ground := Ground.phase }, { on := 2, ground := Ground.phase }, { on := 3, ground := Ground.phase }, { on := 4, ground := Ground.phase }, { on := 5, ground := Ground.textOnly Departure.lateStores }, { on := 6, ground := Ground.textOnly Departure.lateStoresUnsure }, { on := 7, ground := Ground.textOnly Departure.lateStoresUnsure }, { on := 8, ground := Ground.phase }, { on := 9, ground := Ground.textOnly Departure.lateStores }, { on := 10, ground := Ground.phase }, { on := 11, ground := Ground.textOnly Departure.lateStores }], guard := none }) (v := ?v13) rfl (by kernel_rfl) (by kernel_rfl) (by kernel_rfl) (fun _ _ _ h => h) (Or.inl ⟨by rfl, ?hy13⟩) (by assumption) ?_
  case hy13 => intro w hSw; (try dsimp only at hSw); go_simp; (try with_reducible rfl)
  try simp only [Act.put, List.setIfInBounds_toArray, List.set_cons_zero, List.set_cons_succ]
  refine wpAnyH_take (i := 13) (oi := { dst := some 36, op := Op.fieldAddr 47 (Operand.tmp 35) 7, type := 0, pos := "ref.go:152", after := #[{ on := 12, ground := Ground.data }, { on := 0, ground := Ground.phase }, { on := 1, ground := Ground.phase }, { on := 2, ground := Ground.phase }, { on := 3, ground := Ground.phase }, { on := 4, ground := Ground.phase }, { on := 5, ground := Ground.textOnly Departure.lateStores }, { on := 6, ground := Ground.textOnly Departure.lateStoresUnsure }, { on := 7, ground := Ground.textOnly Departure.lateStoresUnsure }, { on := 8, ground := Ground.phase }, { on := 9, ground := Ground.textOnly Departure.lateStores }, { on := 10, ground := Ground.phase }, { on := 11, ground := Ground.textOnly Departure.lateStores }], guard := none }) (v := ?v14) rfl (by kernel_rfl) (by kernel_rfl) (by kernel_rfl) (fun _ _ _ h => h) (Or.inl ⟨by rfl, ?hy14⟩) (by assumption) ?_
  case hy14 => intro w hSw; (try dsimp only at hSw); go_simp; (try with_reducible rfl)
  try simp only [Act.put, List.setIfInBounds_toArray, List.set_cons_zero, List.set_cons_succ]
  refine wpAnyH_ready (rs := [14]) (by kernel_rfl) (by simp) ?_
  refine AllReadyH.cons (o := { dst := none, op := Op.store 3 (Operand.tmp 36) (Operand.tmp 33), type := 0, pos := "ref.go:152", after := #[{ on := 13, ground := Ground.data }, { on := 10, ground := Ground.data }, { on := 0, ground := Ground.phase }, { on := 1, ground := Ground.phase }, { on := 2, ground := Ground.phase }, { on := 3, ground := Ground.phase }, { on := 4, ground := Ground.phase }, { on := 5, ground := Ground.textOnly Departure.lateStores }, { on := 6, ground := Ground.textOnly Departure.lateStoresUnsure }, { on := 7, ground := Ground.textOnly Departure.lateStoresUnsure }, { on := 8, ground := Ground.phase }, { on := 9, ground := Ground.textOnly Departure.lateStores }, { on := 10, ground := Ground.phase }, { on := 11, ground := Ground.textOnly Departure.lateStores }], guard := none }) rfl (fun K hK => ?_) AllReadyH.nil
  go_simp
  refine hK.out _ _ ?_ (fun hH1 => ?_)
  · (try dsimp only); (first | exact k0 | (go_simp; done) | simp [k0, hne])
  clear hK K
  clear hH0
  try simp only [Act.put, List.setIfInBounds_toArray, List.set_cons_zero, List.set_cons_succ]
  refine wpAnyH_take (i := 15) (oi := { dst := some 37, op := Op.indexAddr 40 (Operand.tmp 31) (Operand.tmp 32), type := 0, pos := "ref.go:152", after := #[{ on := 8, ground := Ground.data }, { on := 9, ground := Ground.data }, { on := 0, ground := Ground.phase }, { on := 1, ground := Ground.phase }, { on := 2, ground := Ground.phase }, { on := 3, ground := Ground.phase }, { on := 4, ground := Ground.phase }, { on := 5, ground := Ground.phase }, { on := 6, ground := Ground.phase }, { on := 7, ground := Ground.phase }, { on := 8, ground := Ground.phase }, { on := 9, ground := Ground.phase }, { on := 10, ground := Ground.phase }, { on := 11, ground := Ground.phase }, { on := 12, ground := Ground.phase }, { on := 13, ground := Ground.phase }, { on := 14, ground := Ground.phase }], guard := none }) (v := ?v16) rfl (by kernel_rfl) (by kernel_rfl) (by kernel_rfl) (fun _ _ _ h => h) (Or.inl ⟨by rfl, ?hy16⟩) (by assumption) ?_
  case hy16 => intro w hSw; (try dsimp only at hSw); go_simp; (try with_reducible rfl)
  try simp only [Act.put, List.setIfInBounds_toArray, List.set_cons_zero, List.set_cons_succ]
  refine wpAnyH_take (i := 16) (oi := { dst := some 38, op := Op.fieldAddr 47 (Operand.tmp 37) 8, type := 0, pos := "ref.go:152", after := #[{ on := 15, ground := Ground.data }, { on := 0, ground := Ground.phase }, { on := 1, ground := Ground.phase }, { on := 2, ground := Ground.phase }, { on := 3, ground := Ground.phase }, { on := 4, ground := Ground.phase }, { on := 5, ground := Ground.phase }, { on := 6, ground := Ground.phase }, { on := 7, ground := Ground.phase }, { on := 8, ground := Ground.phase }, { on := 9, ground := Ground.phase }, { on := 10, ground := Ground.phase }, { on := 11, ground := Ground.phase }, { on := 12, ground := Ground.phase }, { on := 13, ground := Ground.phase }, { on := 14, ground := Ground.phase }], guard := none }) (v := ?v17) rfl (by kernel_rfl) (by kernel_rfl) (by kernel_rfl) (fun _ _ _ h => h) (Or.inl ⟨by rfl, ?hy17⟩) (by assumption) ?_
  case hy17 => intro w hSw; (try dsimp only at hSw); go_simp; (try with_reducible rfl)
  try simp only [Act.put, List.setIfInBounds_toArray, List.set_cons_zero, List.set_cons_succ]
  refine wpAnyH_ready (rs := [17]) (by kernel_rfl) (by simp) ?_
  refine AllReadyH.cons (o := { dst := none, op := Op.store 4 (Operand.tmp 38) (Operand.tmp 34), type := 0, pos := "ref.go:152", after := #[{ on := 16, ground := Ground.data }, { on := 11, ground := Ground.data }, { on := 14, ground := Ground.chain }, { on := 0, ground := Ground.phase }, { on := 1, ground := Ground.phase }, { on := 2, ground := Ground.phase }, { on := 3, ground := Ground.phase }, { on := 4, ground := Ground.phase }, { on := 5, ground := Ground.phase }, { on := 6, ground := Ground.phase }, { on := 7, ground := Ground.phase }, { on := 8, ground := Ground.phase }, { on := 9, ground := Ground.phase }, { on := 10, ground := Ground.phase }, { on := 11, ground := Ground.phase }, { on := 12, ground := Ground.phase }, { on := 13, ground := Ground.phase }, { on := 14, ground := Ground.phase }], guard := none }) rfl (fun K hK => ?_) AllReadyH.nil
  go_simp
  refine hK.out _ _ ?_ (fun hH2 => ?_)
  · (try dsimp only); (first | exact k0 | (go_simp; done) | simp [k0, hne])
  clear hK K
  clear hH1
  try simp only [Act.put, List.setIfInBounds_toArray, List.set_cons_zero, List.set_cons_succ]
  refine wpAnyH_done (by kernel_rfl) ?_ _
  go_wp2_with fail
  go_ret
  exact ⟨rfl, ⟨gl, cap, HLV.out, ⟨HG.out.os, HG.out.tape, HG.out.output, HG.out.size, HG.out.block⟩⟩, by have := HS.out; rw [List.set_set] at this; exact this.keep fun _ _ => rfl⟩
end
end Go.Proofs.Ytljgnmbjidkjnaa.Rf5

namespace Go.Proofs.Ytljgnmbjidkjnaa.Rf5
open Go.Proofs.Ytljgnmbjidkjnaa.Gen Go.Proofs.Ytljgnmbjidkjnaa.Base Go.Proofs.Ytljgnmbjidkjnaa.Fr Go.Proofs.Ytljgnmbjidkjnaa.Hp Go.Proofs.Ytljgnmbjidkjnaa.Rf4 Go.ChangeShapes Go.WideShapes Go.ChangeAt Go.RowKit
set_option linter.unusedVariables false
/-- A row that is new since u, nothing else changed. -/
structure Fre (u u' : World) (v : Value) : Prop where
  below : Below u.heap.size u u'
  new : ∀ k, v.ownBlock = some k → u.heap.size ≤ k
theorem Fre.start (u : World) : Fre u u (.slice none 0 0) := ⟨Below.refl _ _, fun k hk => by simp [Value.ownBlock] at hk⟩
theorem Fre.start1 (u : World) : Fre u u.drew (.slice none 0 0) := ⟨⟨rfl, rfl, rfl, Nat.le_refl _, fun _ _ => rfl⟩, fun k hk => by simp [Value.ownBlock] at hk⟩
theorem Fre.app {u u' u'' : World} {v v' : Value} (h : Fre u u' v) (hg : u'.grownBy u'' v.ownBlock) (hv : v'.ownBlock = v.ownBlock ∨ v'.ownBlock = some u'.heap.size) : Fre u u'' v' :=
  ⟨Below.grown h.below hg h.below.size h.new, fun k hk => by
    rcases hv with e | e
    · exact h.new k (by rw [← e]; exact hk)
    · rw [e] at hk; simp at hk; have := h.below.size; omega⟩
theorem cellsL_append (a b : List Ob) : cellsL (a ++ b) = cellsL a ++ cellsL b := by simp [cellsL]
theorem cellsL_take (obs : List Ob) (k : Nat) (u : Value) (h : u ∈ cellsL (obs.take k)) : u ∈ cellsL obs := by
  obtain ⟨o, ho, hu⟩ := List.mem_flatMap.1 h; exact List.mem_flatMap.2 ⟨o, List.mem_of_mem_take ho, hu⟩
theorem cellsL_drop (obs : List Ob) (k : Nat) (u : Value) (h : u ∈ cellsL (obs.drop k)) : u ∈ cellsL obs := by
  obtain ⟨o, ho, hu⟩ := List.mem_flatMap.1 h; exact List.mem_flatMap.2 ⟨o, List.mem_of_mem_drop ho, hu⟩
section
variable {w w' : World} {h r g : Nat} {lv : Value} {obs : List Ob} {l : List Bool}
theorem SrcO.of_own {a : Option Addr} {n c : Nat} {xs : List Value} (hh : w.ownsRow 0 47 9 (.slice a n c) n xs) : SrcO w a n xs := by
  refine ⟨hh.1, fun hn => ?_⟩
  obtain ⟨g', cap, hv, _, hlt⟩ := hh.form hn
  have hA : a = some ⟨g', 0, none⟩ := by injection hv
  subst hA
  exact ⟨_, rfl, hh.cells (g := g') rfl⟩
theorem SrcO.to {a : Option Addr} {n k m : Nat} (hh : SrcO w a n (cellsL obs)) (hk : k ≤ n) (hm : m = k) : SrcO w a m (cellsL (obs.take k)) := by
  subst hm
  have hl := hh.1
  rw [cellsL_len] at hl
  have e : cellsL obs = cellsL (obs.take m) ++ cellsL (obs.drop m) := by rw [← cellsL_append, List.take_append_drop]
  have hl2 : (cellsL (obs.take m)).length = m * 9 := by rw [cellsL_len, List.length_take, Nat.min_eq_left (by omega)]
  refine ⟨hl2, fun h0 => ?_⟩
  obtain ⟨ad, h1, h2⟩ := hh.2 (by omega)
  refine ⟨ad, h1, fun j u hu => h2 j u ?_⟩
  rw [e, List.getElem?_append_left (List.getElem?_eq_some_iff.1 hu).1]; exact hu
theorem SrcO.from {g' n k m cap : Nat} {ao : Option Addr} (hh : SrcO w (some ⟨g', 0, none⟩) n (cellsL obs)) (hk : k ≤ n) (hc : n ≤ cap) (hn : n = obs.length) (hm : m = n - k) (h1 : cap ≠ k → ao = some ⟨g', k * 9, none⟩) : SrcO w ao m (cellsL (obs.drop k)) := by
  subst hm
  have e : cellsL obs = cellsL (obs.take k) ++ cellsL (obs.drop k) := by rw [← cellsL_append, List.take_append_drop]
  have hl2 : (cellsL (obs.take k)).length = k * 9 := by rw [cellsL_len, List.length_take, Nat.min_eq_left (by omega)]
  refine ⟨by rw [cellsL_len, List.length_drop, hn], fun h0 => ?_⟩
  obtain ⟨ad, h2, h3⟩ := hh.2 (by omega)
  cases h2
  refine ⟨_, h1 (by omega), fun j u hu => ?_⟩
  have := h3 (k * 9 + j) u (by rw [e, List.getElem?_append_right (by omega), hl2, Nat.add_sub_cancel_left]; exact hu)
  rw [Addr.add_lit] at this ⊢
  rwa [Nat.zero_add] at this
theorem R5.one (hR : R5 w h r g lv obs l) : ∀ u ∈ cellsL obs, u.oneCell' = true := cellsL_one obs fun o ho => by
  obtain ⟨a, c, e⟩ := own_slice (hR.fs o ho)
  obtain ⟨a2, c2, e2⟩ := own_slice (hR.bs o ho)
  exact ⟨⟨_, _, _, e⟩, ⟨_, _, _, e2⟩⟩
theorem dropped {u1 u3 : World} {v : Value} {P : Nat → Prop} {obs' : List Ob} (hR : R5 u1 h r g lv obs l) (hN : Nx5 P w (own5 h r g lv obs) u1) (hF : Fre u1 u3 v) (hO : u3.ownsRow 0 47 9 v obs'.length (cellsL obs')) (hW : Rws u1 h r g obs') (hs : ∀ o ∈ obs', o ∈ obs) :
    ∃ lv', R5 (u3.setCell ⟨h, 0, none⟩ v) h r g lv' obs' l ∧ Nx5 P w (own5 h r g lv' obs') (u3.setCell ⟨h, 0, none⟩ v) := by
  have hR3 := hR.keep (w' := u3) fun k hk => hF.below.block k (hR.lt hk)
  have hin : ∀ o ∈ obs', ∀ k, o.fv.ownBlock = some k ∨ o.bv.ownBlock = some k → own5 h r g lv obs k := fun o ho k hk => .inr (.inr (.inr (.inr ⟨o, hs o ho, hk⟩)))
  have hW3 : Rws u3 h r g obs' := hW.keep fun o ho k hk => hF.below.block k (hR.lt (hin o ho k hk))
  have far : ∀ k, own5 h r g lv obs k → v.ownBlock ≠ some k := fun k hk e => by have := hF.new k e; have := hR.lt hk; omega
  refine ⟨v, (hR3.newL hW3 hO ⟨far _ (.inl rfl), far _ (.inr (.inl rfl)), far _ (.inr (.inr (.inl rfl)))⟩ fun o ho k hk => far k (hin o ho k hk)), ?_⟩
  have h1 : Nx5 (own5 h r g lv obs) u1 (own5 h r g v obs') u3 := ⟨hF.below.os, hF.below.tape, hF.below.output, hF.below.size, fun k hk _ => hF.below.block k hk, fun k hk => by
    rcases hk with e | e | e | e | ⟨o, ho, e⟩
    · exact .inl (.inl e)
    · exact .inl (.inr (.inl e))
    · exact .inl (.inr (.inr (.inl e)))
    · exact .inr (hF.new k e)
    · exact .inl (hin o ho k e)⟩
  have h2 := hN.trans (h1.set (.inl (.inl rfl)) 0 v)
  exact ⟨h2.os, h2.tape, h2.output, h2.size, h2.block, h2.own⟩
set_option maxHeartbeats 2000000 in
theorem r5_Drop_no (hR : R5 w h r g lv obs l) (x : Int) (hx : (Lit.int .i64 x).wf = true) (hno : ∀ (q : Nat) p, obs[q]? = some p → (p.pos : Int) ≠ x) :
    Calls Try.prog 16 #[.pointer (some ⟨h, 0, none⟩), .int .i64 x] w fun e w' => e = .returned (.bool false) ∧ w = w' := by
  have hfind := r5_find hR x hx
  have HNO := Lib.hid hno
  clear hR hno
  go_enter Try.func16, Try.ntmps16
  go_wp2_with fail
  refine hfind.mono ?_
  rintro e u1 ⟨i, rfl, hi, rfl⟩
  clear hfind
  rcases hi with ⟨rfl, _⟩ | ⟨q, p, rfl, ho, hp⟩
  · dsimp only
    go_wp2_with fail
    go_ret
    exact ⟨rfl, rfl⟩
  · exact absurd hp (HNO.out q p ho)
set_option maxHeartbeats 4000000 in
set_option maxRecDepth 100000 in
theorem r5_Drop_yes (hR : R5 w h r g lv obs l) (x : Int) (hx : (Lit.int .i64 x).wf = true) {q : Nat} {p : Ob} (ho : obs[q]? = some p) (hp : (p.pos : Int) = x) (A : Nat) (hA : p.pos = A + 1) (hw1 : 1 ≤ p.wds) (hw2 : A + p.wds ≤ l.length) (hfree : ∀ i, A ≤ i → i < A + p.wds → o l i = false) :
    Calls Try.prog 16 #[.pointer (some ⟨h, 0, none⟩), .int .i64 x] w fun e w' => e = .returned (.bool true) ∧ ∃ lv', R5 w' h r g lv' (obs.eraseIdx q) (setR l A p.wds true) ∧ Nx5 (own5 h r g lv obs) w (own5 h r g lv' (obs.eraseIdx q)) w' := by
  have hfind := r5_find hR x hx
  have hgive := r4_Give (w := w.drew) (hR.fr.keep fun _ _ => rfl) A p.wds hw1 hw2 hfree
  obtain ⟨k0, k1⟩ := hR.c0
  obtain ⟨a, cap, hlv, hcap, hc⟩ := own_obs hR.ls
  obtain ⟨gl, rfl, hcell⟩ := hc q p ho
  have hql := (List.getElem?_eq_some_iff.1 ho).1
  have hfew := hR.few
  have hll := hR.fr.len
  have kw := hcell 1 _ (by omega) rfl
  have hlh : h < w.heap.size := hR.lt (.inl rfl)
  have hng : lv.ownBlock ≠ some g := hR.n3.2.2
  rw [hlv] at hng
  rw [hlv] at k0
  have HS4 : Hid (∀ u1, G4 g w.drew u1 → (fun w' => w'.cell? ⟨h, 0, none⟩ = some (.slice (some ⟨gl, 0, none⟩) obs.length cap) ∧ w'.cell? ⟨h, 1, none⟩ = some (.pointer (some ⟨r, 0, none⟩)) ∧ w'.cell? ⟨gl, q * 9 + 1, none⟩ = some (.int .i64 p.wds)) u1) := Lib.hid fun u1 hG =>
    have kk : ∀ b i, b < w.heap.size → b ≠ g → u1.cell? ⟨b, i, none⟩ = w.cell? ⟨b, i, none⟩ := fun b i h1 h2 => World.cell?_of_block (hG.block b h1 h2)
    ⟨(kk h 0 hlh hR.n2).trans k0, (kk h 1 hlh hR.n2).trans k1, (kk gl _ (hR.lt (.inr (.inr (.inr (.inl (by rw [hlv]; rfl)))))) (fun e => hng (by rw [e]; rfl))).trans kw⟩
  have wx : IntKind.i64.wrap (x - 1) = (A : Int) := by rw [IntWalk.i64_in _ ⟨by have := hR.hi p (List.mem_of_getElem? ho); omega, by have := hR.hi p (List.mem_of_getElem? ho); omega⟩]; omega
  have HLV := Lib.hid hlv; have HR := Lib.hid hR; have HO := Lib.hid ho
  have t1 : (q : Int) < (obs.length : Int) := by omega
  have t0 : (0 : Int) ≤ (q : Int) := by omega
  have t2 : ¬ (q : Int) < 0 := by omega
  clear hR hc hcell hlv ho hA hfree hng
  go_enter Try.func16, Try.ntmps16
  go_wp2_with fail
  refine hfind.mono ?_
  rintro e u0 ⟨i, rfl, hi, rfl⟩
  obtain rfl := idx_eq HR.out hi HO.out hp
  clear hi hfind hp
  dsimp only
  go_upto_region 4 with fail
  refine wp_region_held_drew (S := (fun w' => w'.cell? ⟨h, 0, none⟩ = some (.slice (some ⟨gl, 0, none⟩) obs.length cap) ∧ w'.cell? ⟨h, 1, none⟩ = some (.pointer (some ⟨r, 0, none⟩)) ∧ w'.cell? ⟨gl, q * 9 + 1, none⟩ = some (.int .i64 p.wds))) (by kernel_rfl) ?_ (fun hH0 => ?_)
  · (try dsimp only); exact ⟨k0, k1, kw⟩
  refine wpAnyH_take (i := 0) (oi := { dst := some 11, op := Op.move (Operand.tmp 0), type := 26, pos := "ref.go:78", after := #[], guard := none }) (v := ?v1) rfl (by kernel_rfl) (by kernel_rfl) (by kernel_rfl) (fun _ _ _ h => h) (Or.inl ⟨by rfl, ?hy1⟩) (by assumption) ?_
  case hy1 => intro w hSw; (try dsimp only at hSw); go_simp; (try with_reducible rfl)
  try simp only [Act.put, List.setIfInBounds_toArray, List.set_cons_zero, List.set_cons_succ]
  refine wpAnyH_take (i := 1) (oi := { dst := some 12, op := Op.nilCheck (Operand.tmp 11), type := 0, pos := "ref.go:78", after := #[{ on := 0, ground := Ground.data }], guard := none }) (v := ?v2) rfl (by kernel_rfl) (by kernel_rfl) (by kernel_rfl) (fun _ _ _ h => h) (Or.inl ⟨by rfl, ?hy2⟩) (by assumption) ?_
  case hy2 => intro w hSw; (try dsimp only at hSw); go_simp; (try with_reducible rfl)
  try simp only [Act.put, List.setIfInBounds_toArray, List.set_cons_zero, List.set_cons_succ]
  refine wpAnyH_take (i := 2) (oi := { dst := some 13, op := Op.fieldAddr 43 (Operand.tmp 12) 1, type := 0, pos := "ref.go:78", after := #[{ on := 1, ground := Ground.data }], guard := none }) (v := ?v3) rfl (by kernel_rfl) (by kernel_rfl) (by kernel_rfl) (fun _ _ _ h => h) (Or.inl ⟨by rfl, ?hy3⟩) (by assumption) ?_
  case hy3 => intro w hSw; (try dsimp only at hSw); go_simp; (try with_reducible rfl)
  try simp only [Act.put, List.setIfInBounds_toArray, List.set_cons_zero, List.set_cons_succ]
  refine wpAnyH_take (i := 3) (oi := { dst := some 14, op := Op.load 41 (Operand.tmp 13), type := 41, pos := "ref.go:78", after := #[{ on := 2, ground := Ground.data }], guard := none }) (v := ?v4) rfl (by kernel_rfl) (by kernel_rfl) (by kernel_rfl) (fun _ _ _ h => h) (Or.inl ⟨by rfl, ?hy4⟩) (by assumption) ?_
  case hy4 => intro w hSw; (try dsimp only at hSw); go_simp; (try with_reducible rfl)
  try simp only [Act.put, List.setIfInBounds_toArray, List.set_cons_zero, List.set_cons_succ]
  refine wpAnyH_take (i := 4) (oi := { dst := some 15, op := Op.move (Operand.tmp 1), type := 3, pos := "ref.go:78", after := #[], guard := none }) (v := ?v5) rfl (by kernel_rfl) (by kernel_rfl) (by kernel_rfl) (fun _ _ _ h => h) (Or.inl ⟨by rfl, ?hy5⟩) (by assumption) ?_
  case hy5 => intro w hSw; (try dsimp only at hSw); go_simp; (try with_reducible rfl)
  try simp only [Act.put, List.setIfInBounds_toArray, List.set_cons_zero, List.set_cons_succ]
  refine wpAnyH_take (i := 5) (oi := { dst := some 16, op := Op.binOp BinOp.sub 3 (Operand.tmp 15) (Operand.const (Value.int IntKind.i64 1)) 3, type := 3, pos := "ref.go:78", after := #[{ on := 4, ground := Ground.data }], guard := none }) (v := ?v6) rfl (by kernel_rfl) (by kernel_rfl) (by kernel_rfl) (fun _ _ _ h => h) (Or.inl ⟨by rfl, ?hy6⟩) (by assumption) ?_
  case hy6 => intro w hSw; (try dsimp only at hSw); go_simp; (try with_reducible rfl)
  try simp only [Act.put, List.setIfInBounds_toArray, List.set_cons_zero, List.set_cons_succ]
  refine wpAnyH_take (i := 6) (oi := { dst := some 17, op := Op.move (Operand.tmp 0), type := 26, pos := "ref.go:78", after := #[], guard := none }) (v := ?v7) rfl (by kernel_rfl) (by kernel_rfl) (by kernel_rfl) (fun _ _ _ h => h) (Or.inl ⟨by rfl, ?hy7⟩) (by assumption) ?_
  case hy7 => intro w hSw; (try dsimp only at hSw); go_simp; (try with_reducible rfl)
  try simp only [Act.put, List.setIfInBounds_toArray, List.set_cons_zero, List.set_cons_succ]
  refine wpAnyH_take (i := 7) (oi := { dst := some 18, op := Op.nilCheck (Operand.tmp 17), type := 0, pos := "ref.go:78", after := #[{ on := 6, ground := Ground.data }], guard := none }) (v := ?v8) rfl (by kernel_rfl) (by kernel_rfl) (by kernel_rfl) (fun _ _ _ h => h) (Or.inl ⟨by rfl, ?hy8⟩) (by assumption) ?_
  case hy8 => intro w hSw; (try dsimp only at hSw); go_simp; (try with_reducible rfl)
  try simp only [Act.put, List.setIfInBounds_toArray, List.set_cons_zero, List.set_cons_succ]
  refine wpAnyH_take (i := 8) (oi := { dst := some 19, op := Op.fieldAddr 43 (Operand.tmp 18) 0, type := 0, pos := "ref.go:78", after := #[{ on := 7, ground := Ground.data }], guard := none }) (v := ?v9) rfl (by kernel_rfl) (by kernel_rfl) (by kernel_rfl) (fun _ _ _ h => h) (Or.inl ⟨by rfl, ?hy9⟩) (by assumption) ?_
  case hy9 => intro w hSw; (try dsimp only at hSw); go_simp; (try with_reducible rfl)
  try simp only [Act.put, List.setIfInBounds_toArray, List.set_cons_zero, List.set_cons_succ]
  refine wpAnyH_take (i := 9) (oi := { dst := some 20, op := Op.load 40 (Operand.tmp 19), type := 40, pos := "ref.go:78", after := #[{ on := 8, ground := Ground.data }], guard := none }) (v := ?v10) rfl (by kernel_rfl) (by kernel_rfl) (by kernel_rfl) (fun _ _ _ h => h) (Or.inl ⟨by rfl, ?hy10⟩) (by assumption) ?_
  case hy10 => intro w hSw; (try dsimp only at hSw); go_simp; (try with_reducible rfl)
  try simp only [Act.put, List.setIfInBounds_toArray, List.set_cons_zero, List.set_cons_succ]
  refine wpAnyH_take (i := 10) (oi := { dst := some 21, op := Op.move (Operand.tmp 5), type := 3, pos := "ref.go:78", after := #[], guard := none }) (v := ?v11) rfl (by kernel_rfl) (by kernel_rfl) (by kernel_rfl) (fun _ _ _ h => h) (Or.inl ⟨by rfl, ?hy11⟩) (by assumption) ?_
  case hy11 => intro w hSw; (try dsimp only at hSw); go_simp; (try with_reducible rfl)
  try simp only [Act.put, List.setIfInBounds_toArray, List.set_cons_zero, List.set_cons_succ]
  refine wpAnyH_take (i := 11) (oi := { dst := some 22, op := Op.indexAddr 40 (Operand.tmp 20) (Operand.tmp 21), type := 0, pos := "ref.go:78", after := #[{ on := 9, ground := Ground.data }, { on := 10, ground := Ground.data }], guard := none }) (v := ?v12) rfl (by kernel_rfl) (by kernel_rfl) (by kernel_rfl) (fun _ _ _ h => h) (Or.inl ⟨by rfl, ?hy12⟩) (by assumption) ?_
  case hy12 => intro w hSw; (try dsimp only at hSw); go_simp; (try with_reducible rfl)
  try simp only [Act.put, List.setIfInBounds_toArray, List.set_cons_zero, List.set_cons_succ]
  refine wpAnyH_take (i := 12) (oi := { dst := some 23, op := Op.fieldAddr 47 (Operand.tmp 22) 1, type := 0, pos := "ref.go:78", after := #[{ on := 11, ground := Ground.data }], guard := none }) (v := ?v13) rfl (by kernel_rfl) (by kernel_rfl) (by kernel_rfl) (fun _ _ _ h => h) (Or.inl ⟨by rfl, ?hy13⟩) (by assumption) ?_
  case hy13 => intro w hSw; (try dsimp only at hSw); go_simp; (try with_reducible rfl)
  try simp only [Act.put, List.setIfInBounds_toArray, List.set_cons_zero, List.set_cons_succ]
  refine wpAnyH_take (i := 13) (oi := { dst := some 24, op := Op.load 3 (Operand.tmp 23), type := 3, pos := "ref.go:78", after := #[{ on := 12, ground := Ground.data }], guard := none }) (v := ?v14) rfl (by kernel_rfl) (by kernel_rfl) (by kernel_rfl) (fun _ _ _ h => h) (Or.inl ⟨by rfl, ?hy14⟩) (by assumption) ?_
  case hy14 => intro w hSw; (try dsimp only at hSw); go_simp; (try with_reducible rfl)
  try simp only [Act.put, List.setIfInBounds_toArray, List.set_cons_zero, List.set_cons_succ]
  refine wpAnyH_ready (rs := [14]) (by kernel_rfl) (by simp) ?_
  refine AllReadyH.cons (o := { dst := some 25, op := Op.call { callee := Callee.value (Operand.func 57), args := #[Operand.tmp 14, Operand.tmp 16, Operand.tmp 24], argTypes := #[41, 3, 3] }, type := 4, pos := "ref.go:78", after := #[{ on := 3, ground := Ground.data }, { on := 5, ground := Ground.data }, { on := 13, ground := Ground.data }], guard := none }) rfl (fun K hK => ?_) AllReadyH.nil
  go_simp; go_at_call 57; with_reducible refine hgive.mono ?_; rintro e u1 ⟨rfl, hF, hG⟩; have hS4 := HS4.out u1 hG; dsimp only
  refine hK.out _ _ ?_ (fun hH1 => ?_)
  · (try dsimp only); exact hS4
  clear hK K
  clear hH0
  try simp only [Act.put, List.setIfInBounds_toArray, List.set_cons_zero, List.set_cons_succ]
  refine wpAnyH_done (by kernel_rfl) ?_ _
  have HR1 : Hid (R5 u1 h r g lv obs (setR l A p.wds true)) := Lib.hid (R5.newF (w := w.drew) (HR.out.keep fun _ _ => rfl) hG hF)
  have HNG : Hid (Nx5 (own5 h r g lv obs) w (own5 h r g lv obs) u1) := Lib.hid (Nx5.ofG4 (.inr (.inr (.inl rfl))) (fun _ hk => hk) ⟨hG.os, hG.tape, hG.output, hG.size, hG.block⟩)
  clear hS4 HS4 hG hF hgive kw k0 k1 wx HR
  obtain ⟨k0, -⟩ := HR1.out.c0
  rw [HLV.out] at k0
  have hlh : h < u1.heap.size := HR1.out.lt (.inl rfl)
  have HSRC : Hid (∀ u, Below u1.heap.size u1 u → SrcO u (some ⟨gl, 0, none⟩) obs.length (cellsL obs)) := Lib.hid fun u hb => by
    have := (HR1.out.keep (w' := u) fun k hk => hb.block k (HR1.out.lt hk)).ls
    rw [HLV.out] at this
    exact SrcO.of_own this
  have HONE : Hid (∀ u ∈ cellsL obs, u.oneCell' = true) := Lib.hid HR1.out.one
  obtain ⟨q1, hq1, hskw⟩ : ∃ q1 : Nat, q1 = q + 1 ∧ IntKind.i64.wrap ((q : Int) + 1) = (q1 : Int) := ⟨q + 1, rfl, by rw [IntWalk.i64_in _ ⟨by omega, by omega⟩]; omega⟩
  have hsk1 : 0 ≤ (q1 : Int) ∧ (q1 : Int) ≤ (obs.length : Int) := by omega
  have hq2 : q1 ≤ obs.length := by omega
  have HQ1 := Lib.hid hq1
  have hqc : q ≤ cap := by omega
  have hqc2 : q1 ≤ cap := by omega
  clear hq1
  obtain ⟨AO, hAO⟩ : ∃ AO, (if cap = q1 then some (⟨gl, 0, none⟩ : Addr) else some ⟨gl, q1 * 9, none⟩) = AO := ⟨_, rfl⟩
  have HAO := Lib.hid hAO
  have HFIN : Hid (∀ u3 v n, n = q + (obs.length - q1) → Fre u1 u3 v → u3.ownsRow 0 47 9 v n ([] ++ cellsL (obs.take q) ++ cellsL (obs.drop q1)) → ∃ lv', R5 (u3.setCell ⟨h, 0, none⟩ v) h r g lv' (obs.eraseIdx q) (setR l A p.wds true) ∧ Nx5 (own5 h r g lv obs) w (own5 h r g lv' (obs.eraseIdx q)) (u3.setCell ⟨h, 0, none⟩ v)) := Lib.hid fun u3 v n hn hF hO => by
    have el : n = (obs.eraseIdx q).length := by rw [List.length_eraseIdx, if_pos hql, hn, HQ1.out]; omega
    have ec : [] ++ cellsL (obs.take q) ++ cellsL (obs.drop q1) = cellsL (obs.eraseIdx q) := by rw [List.nil_append, ← cellsL_append, HQ1.out, List.eraseIdx_eq_take_drop_succ]
    rw [el, ec] at hO
    exact dropped HR1.out HNG.out hF hO (HR1.out.rws.erase q) (fun o ho => List.mem_of_mem_eraseIdx ho)
  go_upto_region 5 with fail
  refine wp_region_held_drew (S := (fun w' => True)) (by kernel_rfl) ?_ (fun hH0 => ?_)
  · (try dsimp only); (first | done | trivial)
  refine wpAnyH_take (i := 0) (oi := { dst := some 26, op := Op.move (Operand.tmp 0), type := 26, pos := "ref.go:79", after := #[], guard := none }) (v := ?v16) rfl (by kernel_rfl) (by kernel_rfl) (by kernel_rfl) (fun _ _ _ h => h) (Or.inl ⟨by rfl, ?hy16⟩) (by assumption) ?_
  case hy16 => intro w hSw; (try dsimp only at hSw); go_simp; (try simp only [hskw, if_pos hsk1, Int.toNat_natCast, hAO]); (try with_reducible rfl)
  try simp only [Act.put, List.setIfInBounds_toArray, List.set_cons_zero, List.set_cons_succ]
  refine wpAnyH_take (i := 1) (oi := { dst := some 27, op := Op.move (Operand.tmp 0), type := 26, pos := "ref.go:79", after := #[], guard := none }) (v := ?v17) rfl (by kernel_rfl) (by kernel_rfl) (by kernel_rfl) (fun _ _ _ h => h) (Or.inl ⟨by rfl, ?hy17⟩) (by assumption) ?_
  case hy17 => intro w hSw; (try dsimp only at hSw); go_simp; (try simp only [hskw, if_pos hsk1, Int.toNat_natCast, hAO]); (try with_reducible rfl)
  try simp only [Act.put, List.setIfInBounds_toArray, List.set_cons_zero, List.set_cons_succ]
  refine wpAnyH_take (i := 2) (oi := { dst := some 28, op := Op.nilCheck (Operand.tmp 27), type := 0, pos := "ref.go:79", after := #[{ on := 1, ground := Ground.data }], guard := none }) (v := ?v18) rfl (by kernel_rfl) (by kernel_rfl) (by kernel_rfl) (fun _ _ _ h => h) (Or.inl ⟨by rfl, ?hy18⟩) (by assumption) ?_
  case hy18 => intro w hSw; (try dsimp only at hSw); go_simp; (try simp only [hskw, if_pos hsk1, Int.toNat_natCast, hAO]); (try with_reducible rfl)
  try simp only [Act.put, List.setIfInBounds_toArray, List.set_cons_zero, List.set_cons_succ]
  refine wpAnyH_take (i := 3) (oi := { dst := some 29, op := Op.fieldAddr 43 (Operand.tmp 28) 0, type := 0, pos := "ref.go:79", after := #[{ on := 2, ground := Ground.data }], guard := none }) (v := ?v19) rfl (by kernel_rfl) (by kernel_rfl) (by kernel_rfl) (fun _ _ _ h => h) (Or.inl ⟨by rfl, ?hy19⟩) (by assumption) ?_
  case hy19 => intro w hSw; (try dsimp only at hSw); go_simp; (try simp only [hskw, if_pos hsk1, Int.toNat_natCast, hAO]); (try with_reducible rfl)
  try simp only [Act.put, List.setIfInBounds_toArray, List.set_cons_zero, List.set_cons_succ]
  refine wpAnyH_take (i := 5) (oi := { dst := some 31, op := Op.move (Operand.tmp 5), type := 3, pos := "ref.go:79", after := #[], guard := none }) (v := ?v20) rfl (by kernel_rfl) (by kernel_rfl) (by kernel_rfl) (fun _ _ _ h => h) (Or.inl ⟨by rfl, ?hy20⟩) (by assumption) ?_
  case hy20 => intro w hSw; (try dsimp only at hSw); go_simp; (try simp only [hskw, if_pos hsk1, Int.toNat_natCast, hAO]); (try with_reducible rfl)
  try simp only [Act.put, List.setIfInBounds_toArray, List.set_cons_zero, List.set_cons_succ]
  refine wpAnyH_take (i := 8) (oi := { dst := some 34, op := Op.move (Operand.tmp 0), type := 26, pos := "ref.go:79", after := #[], guard := none }) (v := ?v21) rfl (by kernel_rfl) (by kernel_rfl) (by kernel_rfl) (fun _ _ _ h => h) (Or.inl ⟨by rfl, ?hy21⟩) (by assumption) ?_
  case hy21 => intro w hSw; (try dsimp only at hSw); go_simp; (try simp only [hskw, if_pos hsk1, Int.toNat_natCast, hAO]); (try with_reducible rfl)
  try simp only [Act.put, List.setIfInBounds_toArray, List.set_cons_zero, List.set_cons_succ]
  refine wpAnyH_take (i := 9) (oi := { dst := some 35, op := Op.nilCheck (Operand.tmp 34), type := 0, pos := "ref.go:79", after := #[{ on := 8, ground := Ground.data }], guard := none }) (v := ?v22) rfl (by kernel_rfl) (by kernel_rfl) (by kernel_rfl) (fun _ _ _ h => h) (Or.inl ⟨by rfl, ?hy22⟩) (by assumption) ?_
  case hy22 => intro w hSw; (try dsimp only at hSw); go_simp; (try simp only [hskw, if_pos hsk1, Int.toNat_natCast, hAO]); (try with_reducible rfl)
  try simp only [Act.put, List.setIfInBounds_toArray, List.set_cons_zero, List.set_cons_succ]
  refine wpAnyH_take (i := 10) (oi := { dst := some 36, op := Op.fieldAddr 43 (Operand.tmp 35) 0, type := 0, pos := "ref.go:79", after := #[{ on := 9, ground := Ground.data }], guard := none }) (v := ?v23) rfl (by kernel_rfl) (by kernel_rfl) (by kernel_rfl) (fun _ _ _ h => h) (Or.inl ⟨by rfl, ?hy23⟩) (by assumption) ?_
  case hy23 => intro w hSw; (try dsimp only at hSw); go_simp; (try simp only [hskw, if_pos hsk1, Int.toNat_natCast, hAO]); (try with_reducible rfl)
  try simp only [Act.put, List.setIfInBounds_toArray, List.set_cons_zero, List.set_cons_succ]
  refine wpAnyH_take (i := 12) (oi := { dst := some 38, op := Op.move (Operand.tmp 5), type := 3, pos := "ref.go:79", after := #[], guard := none }) (v := ?v24) rfl (by kernel_rfl) (by kernel_rfl) (by kernel_rfl) (fun _ _ _ h => h) (Or.inl ⟨by rfl, ?hy24⟩) (by assumption) ?_
  case hy24 => intro w hSw; (try dsimp only at hSw); go_simp; (try simp only [hskw, if_pos hsk1, Int.toNat_natCast, hAO]); (try with_reducible rfl)
  try simp only [Act.put, List.setIfInBounds_toArray, List.set_cons_zero, List.set_cons_succ]
  refine wpAnyH_take (i := 13) (oi := { dst := some 39, op := Op.binOp BinOp.add 3 (Operand.tmp 38) (Operand.const (Value.int IntKind.i64 1)) 3, type := 3, pos := "ref.go:79", after := #[{ on := 12, ground := Ground.data }], guard := none }) (v := ?v25) rfl (by kernel_rfl) (by kernel_rfl) (by kernel_rfl) (fun _ _ _ h => h) (Or.inl ⟨by rfl, ?hy25⟩) (by assumption) ?_
  case hy25 => intro w hSw; (try dsimp only at hSw); go_simp; (try simp only [hskw, if_pos hsk1, Int.toNat_natCast, hAO]); (try with_reducible rfl)
  try simp only [Act.put, List.setIfInBounds_toArray, List.set_cons_zero, List.set_cons_succ]
  refine wpAnyH_ready (rs := [4, 11]) (by kernel_rfl) (by simp) ?_
  refine (AllReadyH.cons (o := { dst := some 30, op := Op.load 40 (Operand.tmp 29), type := 40, pos := "ref.go:79", after := #[{ on := 3, ground := Ground.data }], guard := none }) rfl (fun K hK => ?_) (AllReadyH.cons (o := { dst := some 37, op := Op.load 40 (Operand.tmp 36), type := 40, pos := "ref.go:79", after := #[{ on := 10, ground := Ground.data }], guard := none }) rfl (fun K hK => ?_) AllReadyH.nil))
  · go_simp
    refine hK.out _ _ ?_ (fun hH1 => ?_)
    · (try dsimp only); (first | done | trivial)
    clear hK K
    clear hH0
    try simp only [Act.put, List.setIfInBounds_toArray, List.set_cons_zero, List.set_cons_succ]
    refine wpAnyH_take (i := 6) (oi := { dst := some 32, op := Op.slice 40 (Operand.tmp 30) none (some (Operand.tmp 31)) none, type := 40, pos := "ref.go:79", after := #[{ on := 4, ground := Ground.data }, { on := 5, ground := Ground.data }], guard := none }) (v := ?v26) rfl (by kernel_rfl) (by kernel_rfl) (by kernel_rfl) (fun _ _ _ h => h) (Or.inl ⟨by rfl, ?hy26⟩) (by assumption) ?_
    case hy26 => intro w hSw; (try dsimp only at hSw); go_simp; (try simp only [hskw, if_pos hsk1, Int.toNat_natCast, hAO]); (try with_reducible rfl)
    try simp only [Act.put, List.setIfInBounds_toArray, List.set_cons_zero, List.set_cons_succ]
    refine wpAnyH_ready (rs := [7, 11]) (by kernel_rfl) (by simp) ?_
    refine (AllReadyH.cons (o := { dst := some 33, op := Op.call { callee := Callee.builtin Builtin.append, args := #[Operand.const (Value.slice none 0 0), Operand.tmp 32], argTypes := #[40, 40] }, type := 40, pos := "ref.go:79", after := #[{ on := 6, ground := Ground.data }], guard := none }) rfl (fun K hK => ?_) (AllReadyH.cons (o := { dst := some 37, op := Op.load 40 (Operand.tmp 36), type := 40, pos := "ref.go:79", after := #[{ on := 10, ground := Ground.data }], guard := none }) rfl (fun K hK => ?_) AllReadyH.nil))
    · rw [if_pos (by rfl)]; refine wp_appO (.const (.slice none 0 0)) (.tmp 32) (by rfl) _ _ _ (by rfl) (World.ownsRow_nil _ _ _ _) _ _ _ (by rfl) (cellsL (obs.take q)) ((HSRC.out _ (Fre.start1 u1).below).to (by omega) rfl) (fun u hu => HONE.out u (cellsL_take _ _ u hu)) (by omega) ?_
      intro v1 u2 own1 g1 e1
      have HF1 := Lib.hid ((Fre.start1 u1).app g1 e1); have HO1 := Lib.hid own1
      have k2 := (HF1.out.below.cell (p := ⟨h, 0, none⟩) (by exact hlh)).trans k0
      clear own1 g1 e1
      refine hK.out _ _ ?_ (fun hH2 => ?_)
      · (try dsimp only); (first | done | trivial)
      clear hK K
      clear hH1
      try simp only [Act.put, List.setIfInBounds_toArray, List.set_cons_zero, List.set_cons_succ]
      refine wpAnyH_ready (rs := [11]) (by kernel_rfl) (by simp) ?_
      refine (AllReadyH.cons (o := { dst := some 37, op := Op.load 40 (Operand.tmp 36), type := 40, pos := "ref.go:79", after := #[{ on := 10, ground := Ground.data }], guard := none }) rfl (fun K hK => ?_) AllReadyH.nil)
      go_simp
      refine hK.out _ _ ?_ (fun hH3 => ?_)
      · (try dsimp only); (first | done | trivial)
      clear hK K
      clear hH2
      try simp only [Act.put, List.setIfInBounds_toArray, List.set_cons_zero, List.set_cons_succ]
      refine wpAnyH_take (i := 14) (oi := { dst := some 40, op := Op.slice 40 (Operand.tmp 37) (some (Operand.tmp 39)) none none, type := 40, pos := "ref.go:79", after := #[{ on := 11, ground := Ground.data }, { on := 13, ground := Ground.data }], guard := none }) (v := ?v27) rfl (by kernel_rfl) (by kernel_rfl) (by kernel_rfl) (fun _ _ _ h => h) (Or.inl ⟨by rfl, ?hy27⟩) (by assumption) ?_
      case hy27 => intro w hSw; (try dsimp only at hSw); go_simp; (try simp only [hskw, if_pos hsk1, Int.toNat_natCast, hAO]); (try with_reducible rfl)
      try simp only [Act.put, List.setIfInBounds_toArray, List.set_cons_zero, List.set_cons_succ]
      refine wpAnyH_ready (rs := [15]) (by kernel_rfl) (by simp) ?_
      refine (AllReadyH.cons (o := { dst := some 41, op := Op.call { callee := Callee.builtin Builtin.append, args := #[Operand.tmp 33, Operand.tmp 40], argTypes := #[40, 40] }, type := 40, pos := "ref.go:79", after := #[{ on := 7, ground := Ground.data }, { on := 14, ground := Ground.data }, { on := 7, ground := Ground.chain }], guard := none }) rfl (fun K hK => ?_) AllReadyH.nil)
      rw [if_pos (by rfl)]; refine wp_appO (.tmp 33) (.tmp 40) (by rfl) _ _ _ (by rfl) HO1.out _ _ _ (by rfl) (cellsL (obs.drop q1)) ((HSRC.out _ HF1.out.below).from (k := q1) (by omega) hcap rfl (by rfl) (fun e => HAO.out.symm.trans (if_neg e))) (fun u hu => HONE.out u (cellsL_drop _ _ u hu)) (by omega) ?_
      intro v2 u3 own2 g2 e2
      simp only [Nat.zero_add] at own2
      obtain ⟨av2, cv2, rfl⟩ := own_slice own2
      have HF2 := Lib.hid (HF1.out.app g2 e2); have HO2 := Lib.hid own2
      have k3 := (HF2.out.below.cell (p := ⟨h, 0, none⟩) (by exact hlh)).trans k0
      have fz3 := frozen_of_row u3 h 0 _ _ (HR1.out.keep (w' := u3) fun k hk => HF2.out.below.block k (HR1.out.lt hk)).row
      clear own2 g2 e2 HO1
      refine hK.out _ _ ?_ (fun hH4 => ?_)
      · (try dsimp only); (first | done | trivial)
      clear hK K
      clear hH3
      try simp only [Act.put, List.setIfInBounds_toArray, List.set_cons_zero, List.set_cons_succ]
      refine wpAnyH_take (i := 16) (oi := { dst := some 42, op := Op.nilCheck (Operand.tmp 26), type := 0, pos := "ref.go:79", after := #[{ on := 0, ground := Ground.data }, { on := 0, ground := Ground.phase }, { on := 1, ground := Ground.phase }, { on := 2, ground := Ground.phase }, { on := 3, ground := Ground.phase }, { on := 4, ground := Ground.phase }, { on := 5, ground := Ground.phase }, { on := 6, ground := Ground.phase }, { on := 7, ground := Ground.phase }, { on := 8, ground := Ground.phase }, { on := 9, ground := Ground.phase }, { on := 10, ground := Ground.phase }, { on := 11, ground := Ground.phase }, { on := 12, ground := Ground.phase }, { on := 13, ground := Ground.phase }, { on := 14, ground := Ground.phase }, { on := 15, ground := Ground.phase }], guard := none }) (v := ?v28) rfl (by kernel_rfl) (by kernel_rfl) (by kernel_rfl) (fun _ _ _ h => h) (Or.inl ⟨by rfl, ?hy28⟩) (by assumption) ?_
      case hy28 => intro w hSw; (try dsimp only at hSw); go_simp; (try simp only [hskw, if_pos hsk1, Int.toNat_natCast, hAO]); (try with_reducible rfl)
      try simp only [Act.put, List.setIfInBounds_toArray, List.set_cons_zero, List.set_cons_succ]
      refine wpAnyH_take (i := 17) (oi := { dst := some 43, op := Op.fieldAddr 43 (Operand.tmp 42) 0, type := 0, pos := "ref.go:79", after := #[{ on := 16, ground := Ground.data }, { on := 0, ground := Ground.phase }, { on := 1, ground := Ground.phase }, { on := 2, ground := Ground.phase }, { on := 3, ground := Ground.phase }, { on := 4, ground := Ground.phase }, { on := 5, ground := Ground.phase }, { on := 6, ground := Ground.phase }, { on := 7, ground := Ground.phase }, { on := 8, ground := Ground.phase }, { on := 9, ground := Ground.phase }, { on := 10, ground := Ground.phase }, { on := 11, ground := Ground.phase }, { on := 12, ground := Ground.phase }, { on := 13, ground := Ground.phase }, { on := 14, ground := Ground.phase }, { on := 15, ground := Ground.phase }], guard := none }) (v := ?v29) rfl (by kernel_rfl) (by kernel_rfl) (by kernel_rfl) (fun _ _ _ h => h) (Or.inl ⟨by rfl, ?hy29⟩) (by assumption) ?_
      case hy29 => intro w hSw; (try dsimp only at hSw); go_simp; (try simp only [hskw, if_pos hsk1, Int.toNat_natCast, hAO]); (try with_reducible rfl)
      try simp only [Act.put, List.setIfInBounds_toArray, List.set_cons_zero, List.set_cons_succ]
      refine wpAnyH_ready (rs := [18]) (by kernel_rfl) (by simp) ?_
      refine (AllReadyH.cons (o := { dst := none, op := Op.store 40 (Operand.tmp 43) (Operand.tmp 41), type := 0, pos := "ref.go:79", after := #[{ on := 17, ground := Ground.data }, { on := 15, ground := Ground.data }, { on := 15, ground := Ground.chain }, { on := 0, ground := Ground.phase }, { on := 1, ground := Ground.phase }, { on := 2, ground := Ground.phase }, { on := 3, ground := Ground.phase }, { on := 4, ground := Ground.phase }, { on := 5, ground := Ground.phase }, { on := 6, ground := Ground.phase }, { on := 7, ground := Ground.phase }, { on := 8, ground := Ground.phase }, { on := 9, ground := Ground.phase }, { on := 10, ground := Ground.phase }, { on := 11, ground := Ground.phase }, { on := 12, ground := Ground.phase }, { on := 13, ground := Ground.phase }, { on := 14, ground := Ground.phase }, { on := 15, ground := Ground.phase }], guard := none }) rfl (fun K hK => ?_) AllReadyH.nil)
      go_simp
      refine hK.out _ _ ?_ (fun hH5 => ?_)
      · (try dsimp only); (first | done | trivial)
      clear hK K
      clear hH4
      try simp only [Act.put, List.setIfInBounds_toArray, List.set_cons_zero, List.set_cons_succ]
      refine wpAnyH_done (by kernel_rfl) ?_ _
      go_wp2_with fail
      go_ret
      exact ⟨rfl, HFIN.out u3 _ _ (by omega) HF2.out HO2.out⟩
    · go_simp
      refine hK.out _ _ ?_ (fun hH2 => ?_)
      · (try dsimp only); (first | done | trivial)
      clear hK K
      clear hH1
      try simp only [Act.put, List.setIfInBounds_toArray, List.set_cons_zero, List.set_cons_succ]
      refine wpAnyH_take (i := 14) (oi := { dst := some 40, op := Op.slice 40 (Operand.tmp 37) (some (Operand.tmp 39)) none none, type := 40, pos := "ref.go:79", after := #[{ on := 11, ground := Ground.data }, { on := 13, ground := Ground.data }], guard := none }) (v := ?v30) rfl (by kernel_rfl) (by kernel_rfl) (by kernel_rfl) (fun _ _ _ h => h) (Or.inl ⟨by rfl, ?hy30⟩) (by assumption) ?_
      case hy30 => intro w hSw; (try dsimp only at hSw); go_simp; (try simp only [hskw, if_pos hsk1, Int.toNat_natCast, hAO]); (try with_reducible rfl)
      try simp only [Act.put, List.setIfInBounds_toArray, List.set_cons_zero, List.set_cons_succ]
      refine wpAnyH_ready (rs := [7]) (by kernel_rfl) (by simp) ?_
      refine (AllReadyH.cons (o := { dst := some 33, op := Op.call { callee := Callee.builtin Builtin.append, args := #[Operand.const (Value.slice none 0 0), Operand.tmp 32], argTypes := #[40, 40] }, type := 40, pos := "ref.go:79", after := #[{ on := 6, ground := Ground.data }], guard := none }) rfl (fun K hK => ?_) AllReadyH.nil)
      rw [if_pos (by rfl)]; refine wp_appO (.const (.slice none 0 0)) (.tmp 32) (by rfl) _ _ _ (by rfl) (World.ownsRow_nil _ _ _ _) _ _ _ (by rfl) (cellsL (obs.take q)) ((HSRC.out _ (Fre.start1 u1).below).to (by omega) rfl) (fun u hu => HONE.out u (cellsL_take _ _ u hu)) (by omega) ?_
      intro v1 u2 own1 g1 e1
      have HF1 := Lib.hid ((Fre.start1 u1).app g1 e1); have HO1 := Lib.hid own1
      have k2 := (HF1.out.below.cell (p := ⟨h, 0, none⟩) (by exact hlh)).trans k0
      clear own1 g1 e1
      refine hK.out _ _ ?_ (fun hH3 => ?_)
      · (try dsimp only); (first | done | trivial)
      clear hK K
      clear hH2
      try simp only [Act.put, List.setIfInBounds_toArray, List.set_cons_zero, List.set_cons_succ]
      refine wpAnyH_ready (rs := [15]) (by kernel_rfl) (by simp) ?_
      refine (AllReadyH.cons (o := { dst := some 41, op := Op.call { callee := Callee.builtin Builtin.append, args := #[Operand.tmp 33, Operand.tmp 40], argTypes := #[40, 40] }, type := 40, pos := "ref.go:79", after := #[{ on := 7, ground := Ground.data }, { on := 14, ground := Ground.data }, { on := 7, ground := Ground.chain }], guard := none }) rfl (fun K hK => ?_) AllReadyH.nil)
      rw [if_pos (by rfl)]; refine wp_appO (.tmp 33) (.tmp 40) (by rfl) _ _ _ (by rfl) HO1.out _ _ _ (by rfl) (cellsL (obs.drop q1)) ((HSRC.out _ HF1.out.below).from (k := q1) (by omega) hcap rfl (by rfl) (fun e => HAO.out.symm.trans (if_neg e))) (fun u hu => HONE.out u (cellsL_drop _ _ u hu)) (by omega) ?_
      intro v2 u3 own2 g2 e2
      simp only [Nat.zero_add] at own2
      obtain ⟨av2, cv2, rfl⟩ := own_slice own2
      have HF2 := Lib.hid (HF1.out.app g2 e2); have HO2 := Lib.hid own2
      have k3 := (HF2.out.below.cell (p := ⟨h, 0, none⟩) (by exact hlh)).trans k0
      have fz3 := frozen_of_row u3 h 0 _ _ (HR1.out.keep (w' := u3) fun k hk => HF2.out.below.block k (HR1.out.lt hk)).row
      clear own2 g2 e2 HO1
      refine hK.out _ _ ?_ (fun hH4 => ?_)
      · (try dsimp only); (first | done | trivial)
      clear hK K
      clear hH3
      try simp only [Act.put, List.setIfInBounds_toArray, List.set_cons_zero, List.set_cons_succ]
      refine wpAnyH_take (i := 16) (oi := { dst := some 42, op := Op.nilCheck (Operand.tmp 26), type := 0, pos := "ref.go:79", after := #[{ on := 0, ground := Ground.data }, { on := 0, ground := Ground.phase }, { on := 1, ground := Ground.phase }, { on := 2, ground := Ground.phase }, { on := 3, ground := Ground.phase }, { on := 4, ground := Ground.phase }, { on := 5, ground := Ground.phase }, { on := 6, ground := Ground.phase }, { on := 7, ground := Ground.phase }, { on := 8, ground := Ground.phase }, { on := 9, ground := Ground.phase }, { on := 10, ground := Ground.phase }, { on := 11, ground := Ground.phase }, { on := 12, ground := Ground.phase }, { on := 13, ground := Ground.phase }, { on := 14, ground := Ground.phase }, { on := 15, ground := Ground.phase }], guard := none }) (v := ?v31) rfl (by kernel_rfl) (by kernel_rfl) (by kernel_rfl) (fun _ _ _ h => h) (Or.inl ⟨by rfl, ?hy31⟩) (by assumption) ?_
      case hy31 => intro w hSw; (try dsimp only at hSw); go_simp; (try simp only [hskw, if_pos hsk1, Int.toNat_natCast, hAO]); (try with_reducible rfl)
      try simp only [Act.put, List.setIfInBounds_toArray, List.set_cons_zero, List.set_cons_succ]
      refine wpAnyH_take (i := 17) (oi := { dst := some 43, op := Op.fieldAddr 43 (Operand.tmp 42) 0, type := 0, pos := "ref.go:79", after := #[{ on := 16, ground := Ground.data }, { on := 0, ground := Ground.phase }, { on := 1, ground := Ground.phase }, { on := 2, ground := Ground.phase }, { on := 3, ground := Ground.phase }, { on := 4, ground := Ground.phase }, { on := 5, ground := Ground.phase }, { on := 6, ground := Ground.phase }, { on := 7, ground := Ground.phase }, { on := 8, ground := Ground.phase }, { on := 9, ground := Ground.phase }, { on := 10, ground := Ground.phase }, { on := 11, ground := Ground.phase }, { on := 12, ground := Ground.phase }, { on := 13, ground := Ground.phase }, { on := 14, ground := Ground.phase }, { on := 15, ground := Ground.phase }], guard := none }) (v := ?v32) rfl (by kernel_rfl) (by kernel_rfl) (by kernel_rfl) (fun _ _ _ h => h) (Or.inl ⟨by rfl, ?hy32⟩) (by assumption) ?_
      case hy32 => intro w hSw; (try dsimp only at hSw); go_simp; (try simp only [hskw, if_pos hsk1, Int.toNat_natCast, hAO]); (try with_reducible rfl)
      try simp only [Act.put, List.setIfInBounds_toArray, List.set_cons_zero, List.set_cons_succ]
      refine wpAnyH_ready (rs := [18]) (by kernel_rfl) (by simp) ?_
      refine (AllReadyH.cons (o := { dst := none, op := Op.store 40 (Operand.tmp 43) (Operand.tmp 41), type := 0, pos := "ref.go:79", after := #[{ on := 17, ground := Ground.data }, { on := 15, ground := Ground.data }, { on := 15, ground := Ground.chain }, { on := 0, ground := Ground.phase }, { on := 1, ground := Ground.phase }, { on := 2, ground := Ground.phase }, { on := 3, ground := Ground.phase }, { on := 4, ground := Ground.phase }, { on := 5, ground := Ground.phase }, { on := 6, ground := Ground.phase }, { on := 7, ground := Ground.phase }, { on := 8, ground := Ground.phase }, { on := 9, ground := Ground.phase }, { on := 10, ground := Ground.phase }, { on := 11, ground := Ground.phase }, { on := 12, ground := Ground.phase }, { on := 13, ground := Ground.phase }, { on := 14, ground := Ground.phase }, { on := 15, ground := Ground.phase }], guard := none }) rfl (fun K hK => ?_) AllReadyH.nil)
      go_simp
      refine hK.out _ _ ?_ (fun hH5 => ?_)
      · (try dsimp only); (first | done | trivial)
      clear hK K
      clear hH4
      try simp only [Act.put, List.setIfInBounds_toArray, List.set_cons_zero, List.set_cons_succ]
      refine wpAnyH_done (by kernel_rfl) ?_ _
      go_wp2_with fail
      go_ret
      exact ⟨rfl, HFIN.out u3 _ _ (by omega) HF2.out HO2.out⟩
  · go_simp
    refine hK.out _ _ ?_ (fun hH1 => ?_)
    · (try dsimp only); (first | done | trivial)
    clear hK K
    clear hH0
    try simp only [Act.put, List.setIfInBounds_toArray, List.set_cons_zero, List.set_cons_succ]
    refine wpAnyH_take (i := 14) (oi := { dst := some 40, op := Op.slice 40 (Operand.tmp 37) (some (Operand.tmp 39)) none none, type := 40, pos := "ref.go:79", after := #[{ on := 11, ground := Ground.data }, { on := 13, ground := Ground.data }], guard := none }) (v := ?v33) rfl (by kernel_rfl) (by kernel_rfl) (by kernel_rfl) (fun _ _ _ h => h) (Or.inl ⟨by rfl, ?hy33⟩) (by assumption) ?_
    case hy33 => intro w hSw; (try dsimp only at hSw); go_simp; (try simp only [hskw, if_pos hsk1, Int.toNat_natCast, hAO]); (try with_reducible rfl)
    try simp only [Act.put, List.setIfInBounds_toArray, List.set_cons_zero, List.set_cons_succ]
    refine wpAnyH_ready (rs := [4]) (by kernel_rfl) (by simp) ?_
    refine (AllReadyH.cons (o := { dst := some 30, op := Op.load 40 (Operand.tmp 29), type := 40, pos := "ref.go:79", after := #[{ on := 3, ground := Ground.data }], guard := none }) rfl (fun K hK => ?_) AllReadyH.nil)
    go_simp
    refine hK.out _ _ ?_ (fun hH2 => ?_)
    · (try dsimp only); (first | done | trivial)
    clear hK K
    clear hH1
    try simp only [Act.put, List.setIfInBounds_toArray, List.set_cons_zero, List.set_cons_succ]
    refine wpAnyH_take (i := 6) (oi := { dst := some 32, op := Op.slice 40 (Operand.tmp 30) none (some (Operand.tmp 31)) none, type := 40, pos := "ref.go:79", after := #[{ on := 4, ground := Ground.data }, { on := 5, ground := Ground.data }], guard := none }) (v := ?v34) rfl (by kernel_rfl) (by kernel_rfl) (by kernel_rfl) (fun _ _ _ h => h) (Or.inl ⟨by rfl, ?hy34⟩) (by assumption) ?_
    case hy34 => intro w hSw; (try dsimp only at hSw); go_simp; (try simp only [hskw, if_pos hsk1, Int.toNat_natCast, hAO]); (try with_reducible rfl)
    try simp only [Act.put, List.setIfInBounds_toArray, List.set_cons_zero, List.set_cons_succ]
    refine wpAnyH_ready (rs := [7]) (by kernel_rfl) (by simp) ?_
    refine (AllReadyH.cons (o := { dst := some 33, op := Op.call { callee := Callee.builtin Builtin.append, args := #[Operand.const (Value.slice none 0 0), Operand.tmp 32], argTypes := #[40, 40] }, type := 40, pos := "ref.go:79", after := #[{ on := 6, ground := Ground.data }], guard := none }) rfl (fun K hK => ?_) AllReadyH.nil)
    rw [if_pos (by rfl)]; refine wp_appO (.const (.slice none 0 0)) (.tmp 32) (by rfl) _ _ _ (by rfl) (World.ownsRow_nil _ _ _ _) _ _ _ (by rfl) (cellsL (obs.take q)) ((HSRC.out _ (Fre.start1 u1).below).to (by omega) rfl) (fun u hu => HONE.out u (cellsL_take _ _ u hu)) (by omega) ?_
    intro v1 u2 own1 g1 e1
    have HF1 := Lib.hid ((Fre.start1 u1).app g1 e1); have HO1 := Lib.hid own1
    have k2 := (HF1.out.below.cell (p := ⟨h, 0, none⟩) (by exact hlh)).trans k0
    clear own1 g1 e1
    refine hK.out _ _ ?_ (fun hH3 => ?_)
    · (try dsimp only); (first | done | trivial)
    clear hK K
    clear hH2
    try simp only [Act.put, List.setIfInBounds_toArray, List.set_cons_zero, List.set_cons_succ]
    refine wpAnyH_ready (rs := [15]) (by kernel_rfl) (by simp) ?_
    refine (AllReadyH.cons (o := { dst := some 41, op := Op.call { callee := Callee.builtin Builtin.append, args := #[Operand.tmp 33, Operand.tmp 40], argTypes := #[40, 40] }, type := 40, pos := "ref.go:79", after := #[{ on := 7, ground := Ground.data }, { on := 14, ground := Ground.data }, { on := 7, ground := Ground.chain }], guard := none }) rfl (fun K hK => ?_) AllReadyH.nil)
    rw [if_pos (by rfl)]; refine wp_appO (.tmp 33) (.tmp 40) (by rfl) _ _ _ (by rfl) HO1.out _ _ _ (by rfl) (cellsL (obs.drop q1)) ((HSRC.out _ HF1.out.below).from (k := q1) (by omega) hcap rfl (by rfl) (fun e => HAO.out.symm.trans (if_neg e))) (fun u hu => HONE.out u (cellsL_drop _ _ u hu)) (by omega) ?_
    intro v2 u3 own2 g2 e2
    simp only [Nat.zero_add] at own2
    obtain ⟨av2, cv2, rfl⟩ := own_slice own2
    have HF2 := Lib.hid (HF1.out.app g2 e2); have HO2 := Lib.hid own2
    have k3 := (HF2.out.below.cell (p := ⟨h, 0, none⟩) (by exact hlh)).trans k0
    have fz3 := frozen_of_row u3 h 0 _ _ (HR1.out.keep (w' := u3) fun k hk => HF2.out.below.block k (HR1.out.lt hk)).row
    clear own2 g2 e2 HO1
    refine hK.out _ _ ?_ (fun hH4 => ?_)
    · (try dsimp only); (first | done | trivial)
    clear hK K
    clear hH3
    try simp only [Act.put, List.setIfInBounds_toArray, List.set_cons_zero, List.set_cons_succ]
    refine wpAnyH_take (i := 16) (oi := { dst := some 42, op := Op.nilCheck (Operand.tmp 26), type := 0, pos := "ref.go:79", after := #[{ on := 0, ground := Ground.data }, { on := 0, ground := Ground.phase }, { on := 1, ground := Ground.phase }, { on := 2, ground := Ground.phase }, { on := 3, ground := Ground.phase }, { on := 4, ground := Ground.phase }, { on := 5, ground := Ground.phase }, { on := 6, ground := Ground.phase }, { on := 7, ground := Ground.phase }, { on := 8, ground := Ground.phase }, { on := 9, ground := Ground.phase }, { on := 10, ground := Ground.phase }, { on := 11, ground := Ground.phase }, { on := 12, ground := Ground.phase }, { on := 13, ground := Ground.phase }, { on := 14, ground := Ground.phase }, { on := 15, ground := Ground.phase }], guard := none }) (v := ?v35) rfl (by kernel_rfl) (by kernel_rfl) (by kernel_rfl) (fun _ _ _ h => h) (Or.inl ⟨by rfl, ?hy35⟩) (by assumption) ?_
    case hy35 => intro w hSw; (try dsimp only at hSw); go_simp; (try simp only [hskw, if_pos hsk1, Int.toNat_natCast, hAO]); (try with_reducible rfl)
    try simp only [Act.put, List.setIfInBounds_toArray, List.set_cons_zero, List.set_cons_succ]
    refine wpAnyH_take (i := 17) (oi := { dst := some 43, op := Op.fieldAddr 43 (Operand.tmp 42) 0, type := 0, pos := "ref.go:79", after := #[{ on := 16, ground := Ground.data }, { on := 0, ground := Ground.phase }, { on := 1, ground := Ground.phase }, { on := 2, ground := Ground.phase }, { on := 3, ground := Ground.phase }, { on := 4, ground := Ground.phase }, { on := 5, ground := Ground.phase }, { on := 6, ground := Ground.phase }, { on := 7, ground := Ground.phase }, { on := 8, ground := Ground.phase }, { on := 9, ground := Ground.phase }, { on := 10, ground := Ground.phase }, { on := 11, ground := Ground.phase }, { on := 12, ground := Ground.phase }, { on := 13, ground := Ground.phase }, { on := 14, ground := Ground.phase }, { on := 15, ground := Ground.phase }], guard := none }) (v := ?v36) rfl (by kernel_rfl) (by kernel_rfl) (by kernel_rfl) (fun _ _ _ h => h) (Or.inl ⟨by rfl, ?hy36⟩) (by assumption) ?_
    case hy36 => intro w hSw; (try dsimp only at hSw); go_simp; (try simp only [hskw, if_pos hsk1, Int.toNat_natCast, hAO]); (try with_reducible rfl)
    try simp only [Act.put, List.setIfInBounds_toArray, List.set_cons_zero, List.set_cons_succ]
    refine wpAnyH_ready (rs := [18]) (by kernel_rfl) (by simp) ?_
    refine (AllReadyH.cons (o := { dst := none, op := Op.store 40 (Operand.tmp 43) (Operand.tmp 41), type := 0, pos := "ref.go:79", after := #[{ on := 17, ground := Ground.data }, { on := 15, ground := Ground.data }, { on := 15, ground := Ground.chain }, { on := 0, ground := Ground.phase }, { on := 1, ground := Ground.phase }, { on := 2, ground := Ground.phase }, { on := 3, ground := Ground.phase }, { on := 4, ground := Ground.phase }, { on := 5, ground := Ground.phase }, { on := 6, ground := Ground.phase }, { on := 7, ground := Ground.phase }, { on := 8, ground := Ground.phase }, { on := 9, ground := Ground.phase }, { on := 10, ground := Ground.phase }, { on := 11, ground := Ground.phase }, { on := 12, ground := Ground.phase }, { on := 13, ground := Ground.phase }, { on := 14, ground := Ground.phase }, { on := 15, ground := Ground.phase }], guard := none }) rfl (fun K hK => ?_) AllReadyH.nil)
    go_simp
    refine hK.out _ _ ?_ (fun hH5 => ?_)
    · (try dsimp only); (first | done | trivial)
    clear hK K
    clear hH4
    try simp only [Act.put, List.setIfInBounds_toArray, List.set_cons_zero, List.set_cons_succ]
    refine wpAnyH_done (by kernel_rfl) ?_ _
    go_wp2_with fail
    go_ret
    exact ⟨rfl, HFIN.out u3 _ _ (by omega) HF2.out HO2.out⟩
end
end Go.Proofs.Ytljgnmbjidkjnaa.Rf5

namespace Go.Proofs.Ytljgnmbjidkjnaa.Rf5
open Go.Proofs.Ytljgnmbjidkjnaa.Gen Go.Proofs.Ytljgnmbjidkjnaa.Base Go.Proofs.Ytljgnmbjidkjnaa.Fr Go.Proofs.Ytljgnmbjidkjnaa.Hp Go.Proofs.Ytljgnmbjidkjnaa.Rf4 Go.ChangeShapes Go.WideShapes Go.ChangeAt Go.RowKit
set_option linter.unusedVariables false
section
variable {w w' : World} {h r g : Nat} {lv : Value} {obs : List Ob} {l : List Bool}
/-- What may not be made. -/
def NoMake (f n c hs : Int) : Prop := f < 1 ∨ 3 < f ∨ n < 0 ∨ (f = 3 ∧ 200 < n) ∨ (f ≠ 3 ∧ 60 < n) ∨ c < 0 ∨ 65536 < c ∨ hs < 0 ∨ 3000 < hs
set_option maxHeartbeats 4000000 in
set_option maxRecDepth 100000 in
theorem r5_Make_no3 (n c hs : Int) (hn : n < 0 ∨ 200 < n ∨ c < 0 ∨ 65536 < c ∨ hs < 0 ∨ 3000 < hs) :
    Calls Try.prog 13 #[.pointer (some ⟨h, 0, none⟩), .int .i64 3, .int .i64 n, .int .i64 c, .int .i64 hs] w fun e w' => e = .returned (.tuple #[.int .i64 0, .bool false]) ∧ w = w' := by
  by_cases z0 : 0 ≤ n
  · by_cases z1 : n ≤ 200
    · have y0 : ¬ n < 0 := by omega
      have y1 : ¬ 200 < n := by omega
      by_cases e0 : c < 0
      · go_enter Try.func13, Try.ntmps13
        go_wp2_with fail
        go_ret2
        exact ⟨rfl, rfl⟩
      by_cases e1 : 65536 < c
      · go_enter Try.func13, Try.ntmps13
        go_wp2_with fail
        go_ret2
        exact ⟨rfl, rfl⟩
      by_cases e2 : hs < 0
      · go_enter Try.func13, Try.ntmps13
        go_wp2_with fail
        go_ret2
        exact ⟨rfl, rfl⟩
      by_cases e3 : 3000 < hs
      · go_enter Try.func13, Try.ntmps13
        go_wp2_with fail
        go_ret2
        exact ⟨rfl, rfl⟩
      omega
    · have y0 : ¬ n < 0 := by omega
      have y1 : 200 < n := by omega
      go_enter Try.func13, Try.ntmps13
      go_wp2_with fail
      go_ret2
      exact ⟨rfl, rfl⟩
  · have y0 : n < 0 := by omega
    go_enter Try.func13, Try.ntmps13
    go_wp2_with fail
    go_ret2
    exact ⟨rfl, rfl⟩
set_option maxHeartbeats 4000000 in
set_option maxRecDepth 100000 in
theorem r5_Make_noF (f n c hs : Int) (hf : f ≠ 3) (hn : f < 1 ∨ 3 < f ∨ n < 0 ∨ 60 < n ∨ c < 0 ∨ 65536 < c ∨ hs < 0 ∨ 3000 < hs) :
    Calls Try.prog 13 #[.pointer (some ⟨h, 0, none⟩), .int .i64 f, .int .i64 n, .int .i64 c, .int .i64 hs] w fun e w' => e = .returned (.tuple #[.int .i64 0, .bool false]) ∧ w = w' := by
  have d3 : (f == 3) = false := by simpa using hf
  by_cases e0 : f < 1
  · go_enter Try.func13, Try.ntmps13
    go_wp2_with fail
    go_ret2
    exact ⟨rfl, rfl⟩
  by_cases e1 : 3 < f
  · go_enter Try.func13, Try.ntmps13
    go_wp2_with fail
    go_ret2
    exact ⟨rfl, rfl⟩
  by_cases e2 : n < 0
  · go_enter Try.func13, Try.ntmps13
    go_wp2_with fail
    go_ret2
    exact ⟨rfl, rfl⟩
  by_cases e3 : 60 < n
  · go_enter Try.func13, Try.ntmps13
    go_wp2_with fail
    go_ret2
    exact ⟨rfl, rfl⟩
  by_cases e4 : c < 0
  · go_enter Try.func13, Try.ntmps13
    go_wp2_with fail
    go_ret2
    exact ⟨rfl, rfl⟩
  by_cases e5 : 65536 < c
  · go_enter Try.func13, Try.ntmps13
    go_wp2_with fail
    go_ret2
    exact ⟨rfl, rfl⟩
  by_cases e6 : hs < 0
  · go_enter Try.func13, Try.ntmps13
    go_wp2_with fail
    go_ret2
    exact ⟨rfl, rfl⟩
  by_cases e7 : 3000 < hs
  · go_enter Try.func13, Try.ntmps13
    go_wp2_with fail
    go_ret2
    exact ⟨rfl, rfl⟩
  omega
theorem r5_Make_no (f n c hs : Int) (hn : NoMake f n c hs) :
    Calls Try.prog 13 #[.pointer (some ⟨h, 0, none⟩), .int .i64 f, .int .i64 n, .int .i64 c, .int .i64 hs] w fun e w' => e = .returned (.tuple #[.int .i64 0, .bool false]) ∧ w = w' := by
  unfold NoMake at hn
  by_cases e : f = 3
  · subst e; exact r5_Make_no3 n c hs (by omega)
  · exact r5_Make_noF f n c hs e (by omega)
set_option maxHeartbeats 4000000 in
set_option maxRecDepth 100000 in
theorem r5_Make_full3 (hR : R5 w h r g lv obs l) (f n S O : Nat) (E : Int) (hk : Kind f n S O E) (h3 : f = 3) (c hs : Nat) (hc : c ≤ 65536) (hh : hs ≤ 3000) (hB : ∀ a m, Run l a m → m < 3 + S) :
    Calls Try.prog 13 #[.pointer (some ⟨h, 0, none⟩), .int .i64 f, .int .i64 n, .int .i64 c, .int .i64 hs] w fun e w' => e = .returned (.tuple #[.int .i64 0, .bool false]) ∧ R5 w' h r g lv obs l ∧ Nx5 (own5 h r g lv obs) w (own5 h r g lv obs) w' := by
  obtain ⟨E0, E1, S1, O1, f1, f2, n2⟩ := u32E hk
  obtain ⟨T, hT, hT2⟩ : ∃ T : Nat, 3 + (S : Int) = (T : Int) ∧ T = 3 + S := ⟨3 + S, by push_cast; rfl, rfl⟩
  have htk := r4_Take_no hR.fr T (by omega) (by rw [hT2]; exact hB) (by omega)
  obtain ⟨-, k1⟩ := hR.c0
  have d3 : ((f : Int) == 3) = true := by simp; omega
  have q1 : ((n : Int) + 3) / 4 = (S : Int) := by unfold Kind at hk; omega
  have n3 : (n : Int) ≤ 200 := by omega
  have b1 : ¬ (f : Int) < 1 := by omega
  have b2 : ¬ 3 < (f : Int) := by omega
  have b3 : ¬ (n : Int) < 0 := by omega
  have b4 : ¬ 200 < (n : Int) := by omega
  have b5 : ¬ (c : Int) < 0 := by omega
  have b6 : ¬ 65536 < (c : Int) := by omega
  have b7 : ¬ (hs : Int) < 0 := by omega
  have b8 : ¬ 3000 < (hs : Int) := by omega
  have b9 : 0 ≤ (n : Int) := by omega
  have HR := Lib.hid hR; have HT2 := Lib.hid hT2
  clear hR hB hk h3 hT2
  go_enter Try.func13, Try.ntmps13
  go_wp2_with fail
  refine htk.mono ?_
  rintro e u1 ⟨rfl, hF, hG⟩
  have HR1 : Hid (R5 u1 h r g lv obs l) := Lib.hid (R5.newF HR.out hG hF)
  have HNG : Hid (Nx5 (own5 h r g lv obs) w (own5 h r g lv obs) u1) := Lib.hid (Nx5.ofG4 (.inr (.inr (.inl rfl))) (fun _ hk => hk) hG)
  clear htk hF hG HR
  dsimp only
  go_wp2_with fail
  go_ret2
  exact ⟨rfl, HR1.out, HNG.out⟩
set_option maxHeartbeats 4000000 in
set_option maxRecDepth 100000 in
theorem r5_Make_fullF (hR : R5 w h r g lv obs l) (f n S O : Nat) (E : Int) (hk : Kind f n S O E) (h3 : f ≠ 3) (c hs : Nat) (hc : c ≤ 65536) (hh : hs ≤ 3000) (hB : ∀ a m, Run l a m → m < 3 + S) :
    Calls Try.prog 13 #[.pointer (some ⟨h, 0, none⟩), .int .i64 f, .int .i64 n, .int .i64 c, .int .i64 hs] w fun e w' => e = .returned (.tuple #[.int .i64 0, .bool false]) ∧ R5 w' h r g lv obs l ∧ Nx5 (own5 h r g lv obs) w (own5 h r g lv obs) w' := by
  obtain ⟨E0, E1, S1, O1, f1, f2, n2⟩ := u32E hk
  obtain ⟨T, hT, hT2⟩ : ∃ T : Nat, 3 + (S : Int) = (T : Int) ∧ T = 3 + S := ⟨3 + S, by push_cast; rfl, rfl⟩
  have htk := r4_Take_no hR.fr T (by omega) (by rw [hT2]; exact hB) (by omega)
  obtain ⟨-, k1⟩ := hR.c0
  have d3 : ((f : Int) == 3) = false := by simp; omega
  obtain rfl : S = n := by unfold Kind at hk; omega
  have n3 : (S : Int) ≤ 60 := by unfold Kind at hk; omega
  have b1 : ¬ (f : Int) < 1 := by omega
  have b2 : ¬ 3 < (f : Int) := by omega
  have b3 : ¬ (S : Int) < 0 := by omega
  have b4 : ¬ 60 < (S : Int) := by omega
  have b5 : ¬ (c : Int) < 0 := by omega
  have b6 : ¬ 65536 < (c : Int) := by omega
  have b7 : ¬ (hs : Int) < 0 := by omega
  have b8 : ¬ 3000 < (hs : Int) := by omega
  have b9 : 0 ≤ (S : Int) := by omega
  have HR := Lib.hid hR; have HT2 := Lib.hid hT2
  clear hR hB hk h3 hT2
  go_enter Try.func13, Try.ntmps13
  go_wp2_with fail
  refine htk.mono ?_
  rintro e u1 ⟨rfl, hF, hG⟩
  have HR1 : Hid (R5 u1 h r g lv obs l) := Lib.hid (R5.newF HR.out hG hF)
  have HNG : Hid (Nx5 (own5 h r g lv obs) w (own5 h r g lv obs) u1) := Lib.hid (Nx5.ofG4 (.inr (.inr (.inl rfl))) (fun _ hk => hk) hG)
  clear htk hF hG HR
  dsimp only
  go_wp2_with fail
  go_ret2
  exact ⟨rfl, HR1.out, HNG.out⟩
theorem r5_Make_full (hR : R5 w h r g lv obs l) (f n S O : Nat) (E : Int) (hk : Kind f n S O E) (c hs : Nat) (hc : c ≤ 65536) (hh : hs ≤ 3000) (hB : ∀ a m, Run l a m → m < 3 + S) :
    Calls Try.prog 13 #[.pointer (some ⟨h, 0, none⟩), .int .i64 f, .int .i64 n, .int .i64 c, .int .i64 hs] w fun e w' => e = .returned (.tuple #[.int .i64 0, .bool false]) ∧ R5 w' h r g lv obs l ∧ Nx5 (own5 h r g lv obs) w (own5 h r g lv obs) w' := by
  by_cases e : f = 3
  · exact r5_Make_full3 hR f n S O E hk e c hs hc hh hB
  · exact r5_Make_fullF hR f n S O E hk e c hs hc hh hB
end
end Go.Proofs.Ytljgnmbjidkjnaa.Rf5

namespace Go.Proofs.Ytljgnmbjidkjnaa.Rf5
open Go.Proofs.Ytljgnmbjidkjnaa.Gen Go.Proofs.Ytljgnmbjidkjnaa.Base Go.Proofs.Ytljgnmbjidkjnaa.Fr Go.Proofs.Ytljgnmbjidkjnaa.Hp Go.Proofs.Ytljgnmbjidkjnaa.Rf4 Go.ChangeShapes Go.WideShapes Go.ChangeAt Go.RowKit
set_option linter.unusedVariables false
def mkOb (A T f c hs : Nat) (fv : Value) (F : List Int) (bv : Value) (B : List Int) : Ob := ⟨A, T, f, c, hs, fv, F, bv, B, 0, false⟩
/-- An object in memory that is new since u1, at the block ob. -/
structure Fresh (u1 u : World) (ob : Nat) (p : Ob) : Prop where
  below : Below u1.heap.size u1 u
  ge : u1.heap.size ≤ ob
  row : u.heap[ob]? = some (.cells p.cells.toArray 47 (0, 0))
  fs : u.ownsRow 0 28 1 p.fv p.F.length (p.F.map (Value.int .u32))
  bs : u.ownsRow 0 5 1 p.bv p.B.length (p.B.map (Value.int .u8))
  new : ∀ k, p.fv.ownBlock = some k ∨ p.bv.ownBlock = some k → u1.heap.size ≤ k ∧ k ≠ ob
  n6 : ∀ k, p.fv.ownBlock = some k → p.bv.ownBlock ≠ some k
section
variable {w w' u1 u u' ua : World} {h r g : Nat} {lv : Value} {obs : List Ob} {l : List Bool} {ob : Nat} {p : Ob}
theorem Fresh.lt (hF : Fresh u1 u ob p) : ob < u.heap.size := (Array.getElem?_eq_some_iff.1 hF.row).1
theorem Fresh.cell (hF : Fresh u1 u ob p) {j : Nat} {v : Value} (hv : p.cells[j]? = some v) : u.cell? ⟨ob, j, none⟩ = some v := by rw [cell_of_row u ob j _ _ _ hF.row]; simpa using hv
theorem Fresh.live (hF : Fresh u1 u ob p) (j : Nat) : u.frozen? ⟨ob, j, none⟩ = false := frozen_of_row u ob j _ _ hF.row
theorem Fresh.keep (hF : Fresh u1 u ob p) (hb : Below u.heap.size u u') : Fresh u1 u' ob p :=
  { hF with
    below := hF.below.trans (hb.mono hF.below.size)
    row := (hb.block ob hF.lt).trans hF.row
    fs := owns_keep hF.fs fun k hk => hb.block k (hF.fs.lt k hk).2
    bs := owns_keep hF.bs fun k hk => hb.block k (hF.bs.lt k hk).2 }
theorem Fresh.start (u1 : World) (A T f c hs : Nat) : Fresh u1 (u1.alloc (.cells (mkOb A T f c hs (.slice none 0 0) [] (.slice none 0 0) []).cells.toArray 47)) u1.heap.size (mkOb A T f c hs (.slice none 0 0) [] (.slice none 0 0) []) where
  below := (Below.refl _ _).alloc (Nat.le_refl _) _
  ge := Nat.le_refl _
  row := heap_alloc_new _ _
  fs := ⟨rfl, .inl ⟨rfl, rfl⟩⟩
  bs := ⟨rfl, .inl ⟨rfl, rfl⟩⟩
  new := fun k hk => by rcases hk with hk | hk <;> (simp [mkOb, Value.ownBlock] at hk)
  n6 := fun k hk => by simp [mkOb, Value.ownBlock] at hk
def zbyts (n : Nat) : Array Value := ((List.replicate n (0 : Int)).map (Value.int .u8)).toArray
theorem made_y (n : Nat) : madeCells (Value.cells (.int .u8 0)) n = zbyts n := by
  apply Array.ext
  · simp [size_madeCells, zbyts]
  · intro i h1 h2
    have hz : i % 1 = 0 := by omega
    simp [madeCells, zbyts, Value.cells, hz]
theorem infoY : (Try.prog.info? 5).map (fun i => (i.zero, i.size, i.bytes)) = some (some (.int .u8 0), 1, 1) := by kernel_rfl
theorem mk_y (n : Nat) (hn : n ≤ 65536) (w : World) : Sem.run Try.prog (Instr.makeSlice 45 (.int .i64 (n : Int)) (.int .i64 (n : Int))) w = .ok (.slice (some ⟨w.heap.size, 0, none⟩) n n) (w.alloc (.cells (zbyts n) 5)) := by
  obtain ⟨ti, hti, hz0, hz1, hz2⟩ := info_parts infoY
  have h := run_make (P := Try.prog) w 45 5 ti (.int .u8 0) Try.underlying45 hti hz0 .i64 .i64 n n (by omega) (by omega) (by rw [hz2]; omega) (by omega)
  rw [hz1, Int.toNat_natCast, Nat.mul_one, made_y] at h
  exact h
theorem Fresh.bytes {A T f c hs : Nat} (hF : Fresh u1 u ob (mkOb A T f c hs (.slice none 0 0) [] (.slice none 0 0) [])) (n : Nat) (hn : n ≤ 65536) :
    Fresh u1 ((u.alloc (.cells (zbyts n) 5)).setCell ⟨ob, 6, none⟩ (.slice (some ⟨u.heap.size, 0, none⟩) n n)) ob (mkOb A T f c hs (.slice none 0 0) [] (.slice (some ⟨u.heap.size, 0, none⟩) n n) (List.replicate n 0)) := by
  have hlt := hF.lt
  have hb : Below u.heap.size u (u.alloc (.cells (zbyts n) 5)) := (Below.refl _ _).alloc (Nat.le_refl _) _
  have h1 := hF.keep hb
  exact
  { below := h1.below.setCell hF.ge _
    ge := hF.ge
    row := by rw [heap_setCell_same _ ob 6 _ _ _ h1.row]; rfl
    fs := ⟨rfl, .inl ⟨rfl, rfl⟩⟩
    bs := by
      refine own_far (g := ob) ⟨by simp [mkOb], .inr ⟨u.heap.size, n, zbyts n, by simp [mkOb], Nat.zero_le _, heap_alloc_new _ _, by simp [mkOb], by unfold maxLen; omega, by simp [zbyts], ?_⟩⟩ (by simp [mkOb, Value.ownBlock]; omega)
      simp [mkOb, zbyts]
    new := fun k hk => by
      rcases hk with hk | hk
      · simp [mkOb, Value.ownBlock] at hk
      · simp [mkOb, Value.ownBlock] at hk; have := hF.below.size; omega
    n6 := fun k hk => by simp [mkOb, Value.ownBlock] at hk }
/-- One field more. -/
theorem Fresh.app {A T f c hs : Nat} {fv bv v' : Value} {F B : List Int} (hF : Fresh u1 u ob (mkOb A T f c hs fv F bv B)) (hb : Below u.heap.size u ua) (y : Int) (ho : u'.ownsRow 0 28 1 v' (F.length + 1) (F.map (Value.int .u32) ++ [.int .u32 y])) (hg : ua.grownBy u' fv.ownBlock) (hv : v'.ownBlock = fv.ownBlock ∨ v'.ownBlock = some ua.heap.size) :
    Fresh u1 (u'.setCell ⟨ob, 5, none⟩ v') ob (mkOb A T f c hs v' (F ++ [y]) bv B) := by
  have h1 := hF.keep hb
  have hlt := hF.lt
  have hsz := hb.size
  have nw := h1.new
  have hb2 : Below u1.heap.size u1 u' := Below.grown h1.below hg h1.below.size fun k hk => (nw k (.inl hk)).1
  have hv' : ∀ k, v'.ownBlock = some k → u1.heap.size ≤ k ∧ k ≠ ob ∧ (fv.ownBlock = some k ∨ k = ua.heap.size) := fun k hk => by
    rcases hv with e | e
    · rw [e] at hk; exact ⟨(nw k (.inl hk)).1, (nw k (.inl hk)).2, .inl hk⟩
    · rw [e] at hk; simp at hk; have := h1.lt; have := h1.below.size; exact ⟨by omega, by omega, .inr hk.symm⟩
  exact
  { below := hb2.setCell hF.ge _
    ge := hF.ge
    row := by rw [heap_setCell_same _ ob 5 _ _ _ ((hg.block ob h1.lt fun e => (nw ob (.inl e.symm)).2 rfl).trans h1.row)]; rfl
    fs := by
      refine own_far ?_ fun e => (hv' ob e).2.1 rfl
      simpa [mkOb] using ho
    bs := by
      refine own_far (owns_keep h1.bs fun k hk => hg.block k (h1.bs.lt k hk).2 fun e => ?_) fun e => (nw ob (.inr e)).2 rfl
      exact h1.n6 k e.symm hk
    new := fun k hk => by
      rcases hk with hk | hk
      · exact ⟨(hv' k hk).1, (hv' k hk).2.1⟩
      · exact nw k (.inr hk)
    n6 := fun k hk hk2 => by
      rcases (hv' k hk).2.2 with e | e
      · exact h1.n6 k e hk2
      · have := (h1.bs.lt k hk2).2; omega }
theorem infoU : (Try.prog.info? 28).map (fun i => (i.zero, i.size, i.bytes)) = some (some (.int .u32 0), 1, 4) := by kernel_rfl
/-- One number more at the end of a row of one's own. -/
theorem wp_appU {w : World} {o : Oper} {a : Act} {K : Act → World → Prop} {Q : Exit → Act → World → Prop} (s x : Operand)
    (ho : o.op = .call { callee := .builtin .append, args := #[s, x], argTypes := #[44, 44] })
    (v : Value) (n : Nat) (xs : List Value) (hs : a.eval s = v) (hown : w.ownsRow 0 28 1 v n xs) (ad : Addr) (c : Nat) (y : Int) (hx : a.eval x = .slice (some ad) 1 c) (hy : w.cell? ad = some (.int .u32 y)) (hn : n ≤ 1000000)
    (h : ∀ v' w', w'.ownsRow 0 28 1 v' (n + 1) (xs ++ [.int .u32 y]) → w.grownBy w' v.ownBlock → (v'.ownBlock = v.ownBlock ∨ v'.ownBlock = some w.heap.size) → K (a.put o.dst v') w') : o.wp Try.prog a w K Q := by
  obtain ⟨i0, hi, hz0, hz1, hz2⟩ := info_parts infoU
  obtain ⟨v', w', hr, h2, h3, _, h5⟩ := run_append_own_at (P := Try.prog) (w := w) 0 44 o.type 28 i0 (.int .u32 0) 1 4 Try.underlying44 hi hz0 hz1 hz2 rfl (by decide) v n xs hown ad 1 c [.int .u32 y] rfl
    (fun j u hj => by
      cases j with
      | zero => simp at hj; subst hj; simpa [Addr.add] using hy
      | succ j => simp at hj)
    (fun u hu => by simp at hu; subst hu; rfl) (by unfold maxLen; omega) (by omega) (Nat.zero_le _)
  unfold Oper.wp execOp
  simp only [ho, resolve, invoke, builtin, Sem.run_bind, Sem.run_pure, Result.andThen_ok, List.map_toArray, List.map_cons, List.map_nil, hs, hx, hr]
  exact h v' w' h2 h3 h5
/-- The object lies in the row, where it belongs. -/
theorem made_done {v : Value} {P : Nat → Prop} {k : Nat} (hR : R5 u1 h r g lv obs l) (hN : Nx5 P w (own5 h r g lv obs) u1) (hF : Fresh u1 u ob p) (hV : Fre u u' v) (hO : u'.ownsRow 0 47 9 v (obs.length + 1) (cellsL (obs.take k ++ p :: obs.drop k)))
    (hk : k ≤ obs.length) (f6 : ∀ q ∈ obs.take k, q.pos < p.pos) (f7 : ∀ q ∈ obs.drop k, p.pos < q.pos) (f8 : 1 ≤ p.pos ∧ p.pos ≤ 65536) (f9 : obs.length < 65536) :
    ∃ lv', R5 (u'.setCell ⟨h, 0, none⟩ v) h r g lv' (obs.take k ++ p :: obs.drop k) l ∧ Nx5 P w (own5 h r g lv' (obs.take k ++ p :: obs.drop k)) (u'.setCell ⟨h, 0, none⟩ v) := by
  have hb := hF.below.trans (hV.below.mono hF.below.size)
  have hF3 := hF.keep hV.below
  have hR3 := hR.keep (w' := u') fun k hk => hb.block k (hR.lt hk)
  have hin : ∀ o ∈ obs, ∀ k, o.fv.ownBlock = some k ∨ o.bv.ownBlock = some k → own5 h r g lv obs k := fun o ho k hk => .inr (.inr (.inr (.inr ⟨o, ho, hk⟩)))
  have old : ∀ k, own5 h r g lv obs k → k < u1.heap.size := fun k hk => hR.lt hk
  have plt : ∀ k, p.fv.ownBlock = some k ∨ p.bv.ownBlock = some k → k < u.heap.size := fun k hk => by
    rcases hk with hk | hk
    · exact (hF.fs.lt k hk).2
    · exact (hF.bs.lt k hk).2
  have hW : Rws u' h r g (obs.take k ++ p :: obs.drop k) := hR3.rws.ins k p hF3.fs hF3.bs
    (fun k hk => by
      have := (hF.new k hk).1
      have a := old h (.inl rfl); have b := old r (.inr (.inl rfl)); have c := old g (.inr (.inr (.inl rfl)))
      omega)
    (fun q hq k hk => by
      have := (hF.new k hk).1
      exact ⟨fun e => by have := old k (hin q hq k (.inl e)); omega, fun e => by have := old k (hin q hq k (.inr e)); omega⟩)
    hF.n6 f6 f7 f8 f9
  have hm : ∀ q ∈ obs.take k ++ p :: obs.drop k, q = p ∨ q ∈ obs := fun q hp => by
    rcases List.mem_append.1 hp with e | e
    · exact .inr (List.mem_of_mem_take e)
    · rcases List.mem_cons.1 e with e | e
      · exact .inl e
      · exact .inr (List.mem_of_mem_drop e)
  have hsz := hF.below.size
  have far : ∀ k, own5 h r g lv obs k → v.ownBlock ≠ some k := fun k hk e => by have := hV.new k e; have := old k hk; omega
  have el : obs.length + 1 = (obs.take k ++ p :: obs.drop k).length := by simp; omega
  rw [el] at hO
  refine ⟨v, hR3.newL hW hO ⟨far _ (.inl rfl), far _ (.inr (.inl rfl)), far _ (.inr (.inr (.inl rfl)))⟩ (fun q hq k hk e => ?_), ?_⟩
  · rcases hm q hq with rfl | hq
    · have := plt k hk; have := hV.new k e; omega
    · exact far k (hin q hq k hk) e
  · have h1 : Nx5 (own5 h r g lv obs) u1 (own5 h r g v (obs.take k ++ p :: obs.drop k)) u' := ⟨hb.os, hb.tape, hb.output, hb.size, fun k hk _ => hb.block k hk, fun j hj => by
      rcases hj with e | e | e | e | ⟨o, ho, e⟩
      · exact .inl (.inl e)
      · exact .inl (.inr (.inl e))
      · exact .inl (.inr (.inr (.inl e)))
      · exact .inr (by have := hV.new j e; omega)
      · rcases hm o ho with rfl | ho
        · exact .inr (hF.new j e).1
        · exact .inl (hin o ho j e)⟩
    exact hN.trans (h1.set (.inl (.inl rfl)) 0 v)
end
end Go.Proofs.Ytljgnmbjidkjnaa.Rf5
