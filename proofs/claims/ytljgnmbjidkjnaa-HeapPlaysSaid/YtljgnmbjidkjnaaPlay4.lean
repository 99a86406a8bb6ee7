/- A call of a heap, and the same call of the reference. -/
import Derived.Test.YtljgnmbjidkjnaaPlay3
namespace Go.Proofs.Ytljgnmbjidkjnaa.Rf5
open Go.Proofs.Ytljgnmbjidkjnaa.Gen Go.Proofs.Ytljgnmbjidkjnaa.Base Go.Proofs.Ytljgnmbjidkjnaa.Fr Go.Proofs.Ytljgnmbjidkjnaa.Hp Go.Proofs.Ytljgnmbjidkjnaa.Rf4 Go.ChangeShapes Go.WideShapes Go.ChangeAt Go.RowKit
set_option linter.unusedVariables false
/-- A heap and the reference, apart from one another; a row of somebody else's at ot. -/
structure Tw (w u : World) (X : HB) (ws : List Int) (l1 bg : List Bool) (h r g : Nat) (lv : Value) (obs : List Ob) (l2 : List Bool) (ot : Nat) (ro : Obj) : Prop where
  hp : HpAt u X ws l1 bg
  rf : R5 u h r g lv obs l2
  bel : Below w.heap.size w u
  o1 : ∀ k, own X k → w.heap.size ≤ k
  o2 : ∀ k, own5 h r g lv obs k → w.heap.size ≤ k
  ap : ∀ k, own X k → ¬ own5 h r g lv obs k
  row : u.heap[ot]? = some ro
  r1 : ¬ own X ot
  r2 : ¬ own5 h r g lv obs ot
section
variable {w u u' : World} {X X' : HB} {ws ws' : List Int} {l l' l1 l1' l2 l2' bg bg' : List Bool} {N n h r g ot : Nat} {ro : Obj} {lv lv' : Value} {obs obs' : List Ob} {x : Int}
theorem Tw.ol (hT : Tw w u X ws l1 bg h r g lv obs l2 ot ro) : ot < u.heap.size := (Array.getElem?_eq_some_iff.1 hT.row).1
theorem Tw.heap (hT : Tw w u X ws l1 bg h r g lv obs l2 ot ro) (hA : HpAt u' X' ws' l1' bg') (hN : HNx X u X' u') : Tw w u' X' ws' l1' bg' h r g lv obs l2 ot ro where
  hp := hA
  rf := hT.rf.keep fun k hk => hN.block k (hT.rf.lt hk) fun hx => hT.ap k hx hk
  bel := hT.bel.trans ⟨hN.os, hN.tape, hN.output, hN.size, fun k hk => hN.block k (Nat.lt_of_lt_of_le hk hT.bel.size) fun hx => by have := hT.o1 k hx; omega⟩
  o1 := fun k hk => by
    rcases hN.own k hk with c | c
    · exact hT.o1 k c
    · have := hT.bel.size; omega
  o2 := hT.o2
  ap := fun k hk h5 => by
    rcases hN.own k hk with c | c
    · exact hT.ap k c h5
    · have := hT.rf.lt h5; omega
  row := (hN.block ot hT.ol hT.r1).trans hT.row
  r1 := fun hk => by
    rcases hN.own ot hk with c | c
    · exact hT.r1 c
    · have := hT.ol; omega
  r2 := hT.r2
theorem Tw.ref (hT : Tw w u X ws l1 bg h r g lv obs l2 ot ro) (hR : R5 u' h r g lv' obs' l2') (hN : Nx5 (own5 h r g lv obs) u (own5 h r g lv' obs') u') : Tw w u' X ws l1 bg h r g lv' obs' l2' ot ro where
  hp := hT.hp.keep fun k hk => hN.block k (hT.hp.lt hk) (hT.ap k hk)
  rf := hR
  bel := hT.bel.trans ⟨hN.os, hN.tape, hN.output, hN.size, fun k hk => hN.block k (Nat.lt_of_lt_of_le hk hT.bel.size) fun hx => by have := hT.o2 k hx; omega⟩
  o1 := hT.o1
  o2 := fun k hk => by
    rcases hN.own k hk with c | c
    · exact hT.o2 k c
    · have := hT.bel.size; omega
  ap := fun k hk h5 => by
    rcases hN.own k h5 with c | c
    · exact hT.ap k hk c
    · have := hT.hp.lt hk; omega
  row := (hN.block ot hT.ol hT.r2).trans hT.row
  r1 := hT.r1
  r2 := fun hk => by
    rcases hN.own ot hk with c | c
    · exact hT.r2 c
    · have := hT.ol; omega
theorem Tw.more (hT : Tw w u X ws l1 bg h r g lv obs l2 ot ro) (hb : Below u.heap.size u u') : Tw w u' X ws l1 bg h r g lv obs l2 ot ro :=
  hT.ref (hT.rf.keep fun k hk => hb.block k (hT.rf.lt hk)) (Nx5.ofBelow _ hb)
/-- Another row is looked at. -/
theorem Tw.alloc (hT : Tw w u X ws l1 bg h r g lv obs l2 ot ro) (ro' : Obj) : Tw w (u.alloc ro') X ws l1 bg h r g lv obs l2 u.heap.size ro' :=
  have hM := hT.more ((Below.refl _ _).alloc (Nat.le_refl _) ro')
  { hM with
    row := heap_alloc_new u ro'
    r1 := fun hk => by have := hT.hp.lt hk; omega
    r2 := fun hk => by have := hT.rf.lt hk; omega }
/-- Both say the same. -/
def Bth (w u : World) (hh h r g N n ot : Nat) (ro : Obj) : Prop := ∃ X ws l bg lv obs, X.h = hh ∧ Tw w u X ws l bg h r g lv obs l ot ro ∧ Kr N ws l bg obs ∧ obs.length ≤ n
variable {hh : Nat}
theorem Bth.more (hB : Bth w u hh h r g N n ot ro) (hb : Below u.heap.size u u') : Bth w u' hh h r g N n ot ro := by
  obtain ⟨X, ws, l, bg, lv, obs, e, hT, hK, hn⟩ := hB
  exact ⟨X, ws, l, bg, lv, obs, e, hT.more hb, hK, hn⟩
theorem Bth.alloc (hB : Bth w u hh h r g N n ot ro) (ro' : Obj) : Bth w (u.alloc ro') hh h r g N n u.heap.size ro' := by
  obtain ⟨X, ws, l, bg, lv, obs, e, hT, hK, hn⟩ := hB
  exact ⟨X, ws, l, bg, lv, obs, e, hT.alloc ro', hK, hn⟩
theorem Bth.row (hB : Bth w u hh h r g N n ot ro) : u.heap[ot]? = some ro := by
  obtain ⟨X, ws, l, bg, lv, obs, e, hT, hK, hn⟩ := hB
  exact hT.row
theorem Bth.bel (hB : Bth w u hh h r g N n ot ro) : Below w.heap.size w u := by
  obtain ⟨X, ws, l, bg, lv, obs, e, hT, hK, hn⟩ := hB
  exact hT.bel
theorem Bth.le {n' : Nat} (hB : Bth w u hh h r g N n ot ro) (hle : n ≤ n') : Bth w u hh h r g N n' ot ro := by
  obtain ⟨X, ws, l, bg, lv, obs, e, hT, hK, hn⟩ := hB
  exact ⟨X, ws, l, bg, lv, obs, e, hT, hK, by omega⟩
/-- The reference's call that follows: it answers v, and both say the same again. -/
def Fol (w u : World) (hh h r g N n ot : Nat) (ro : Obj) (f : FuncId) (args : Array Value) (v : Value) : Prop :=
  Calls Try.prog f args u fun e u' => e = .returned v ∧ Bth w u' hh h r g N n ot ro
theorem got_ex (obs : List Ob) (x : Int) : ∃ o b, Got obs x o b := by
  by_cases hh : ∃ (q : Nat) (p : Ob), obs[q]? = some p ∧ (p.pos : Int) = x
  · obtain ⟨q, p, h1, h2⟩ := hh; exact ⟨p, true, .inr ⟨rfl, q, h1, h2⟩⟩
  · exact ⟨noOb, false, .inl ⟨rfl, rfl, fun q p h1 h2 => hh ⟨q, p, h1, h2⟩⟩⟩
theorem no_of {o : Ob} (hG : Got obs x o false) : ∀ (q : Nat) p, obs[q]? = some p → (p.pos : Int) ≠ x := by
  rcases hG with ⟨_, _, h⟩ | ⟨h, _⟩
  · exact h
  · cases h
theorem yes_of {o : Ob} (hG : Got obs x o true) : ∃ q : Nat, obs[q]? = some o ∧ (o.pos : Int) = x := by
  rcases hG with ⟨h, _⟩ | ⟨_, h⟩
  · cases h
  · exact h
theorem own5_set {q : Nat} {o o' : Ob} (ho : obs[q]? = some o) (e1 : o'.fv = o.fv) (e2 : o'.bv = o.bv) : ∀ k, own5 h r g lv (obs.set q o') k → own5 h r g lv obs k := fun k hk => by
  rcases hk with e | e | e | e | ⟨p, hp, e⟩
  · exact .inl e
  · exact .inr (.inl e)
  · exact .inr (.inr (.inl e))
  · exact .inr (.inr (.inr (.inl e)))
  · rcases mem_set (o := o) hp with rfl | ⟨q', _, hq'⟩
    · rw [e1, e2] at e; exact .inr (.inr (.inr (.inr ⟨o, List.mem_of_getElem? ho, e⟩)))
    · exact .inr (.inr (.inr (.inr ⟨p, List.mem_of_getElem? hq', e⟩)))
theorem st_Drop (hB : Bth w u hh h r g N n ot ro) (x : Int) (hx : (Lit.int .i64 x).wf = true) :
    Calls Try.prog 15 #[.pointer (some ⟨hh, 0, none⟩), .int .i64 x] u fun e u' => ∃ b : Bool, e = .returned (.bool b) ∧ u'.heap[ot]? = some ro ∧ Fol w u' hh h r g N n ot ro 16 #[.pointer (some ⟨h, 0, none⟩), .int .i64 x] (.bool b) := by
  obtain ⟨X, ws, l, bg, lv, obs, rfl, hT, hK, hn⟩ := hB
  obtain ⟨o, b, hG⟩ := got_ex obs x
  have hgot := hK.got hG
  cases b
  · refine (hp_Drop_no hT.hp x hx hgot.1).mono ?_
    rintro e u' ⟨rfl, rfl⟩
    refine ⟨false, rfl, hT.row, (r5_Drop_no hT.rf x hx (no_of hG)).mono ?_⟩
    rintro e u' ⟨rfl, rfl⟩
    exact ⟨rfl, X, ws, l, bg, lv, obs, rfl, hT, hK, hn⟩
  · obtain ⟨h1, _, _, _, h5⟩ := hgot
    obtain ⟨e6, e7, A, e8, e9, e10⟩ := h5 rfl
    obtain ⟨q, hq, hp⟩ := yes_of hG
    have hS := o.wS e7.wds
    have hcl : ∀ i, A ≤ i → i < A + (3 + o.S) → Fr.o l i = false := fun i i1 i2 => (hK.ex.cov i (by omega)).2 ⟨o.ext, List.mem_map_of_mem (List.mem_of_getElem? hq), by simp only [Ob.ext]; omega, by simp only [Ob.ext]; omega⟩
    refine (hp_Drop hT.hp A o.S x e9 (by rw [← e9]; exact h1) (by rw [← e9, e6]; exact e7.head.1) (by rw [hK.lb]; omega) hcl).mono ?_
    rintro e u' ⟨rfl, X', hA, hN⟩
    have hT2 := hT.heap hA hN
    refine ⟨true, rfl, hT2.row, (r5_Drop_yes hT2.rf x hx hq hp A e8 (by omega) (by rw [hK.ll]; omega) (fun i i1 i2 => hcl i i1 (by omega))).mono ?_⟩
    rintro e u'' ⟨rfl, lv', hR, hN2⟩
    rw [← hS] at hT2
    exact ⟨rfl, X', ws, _, _, lv', _, hN.h, hT2.ref hR hN2, hK.drop hq e8, by have := (List.eraseIdx_sublist obs q).length_le; omega⟩
theorem st_SetField (hB : Bth w u hh h r g N n ot ro) (x i v : Int) (hx : (Lit.int .i64 x).wf = true) (hi : (Lit.int .i64 i).wf = true) (hv : (Lit.int .u32 v).wf = true) :
    Calls Try.prog 17 #[.pointer (some ⟨hh, 0, none⟩), .int .i64 x, .int .i64 i, .int .u32 v] u fun e u' => ∃ b : Bool, e = .returned (.bool b) ∧ u'.heap[ot]? = some ro ∧ Fol w u' hh h r g N n ot ro 18 #[.pointer (some ⟨h, 0, none⟩), .int .i64 x, .int .i64 i, .int .u32 v] (.bool b) := by
  obtain ⟨X, ws, l, bg, lv, obs, rfl, hT, hK, hn⟩ := hB
  obtain ⟨o, b, hG⟩ := got_ex obs x
  have hF := hK.hasF hG i
  by_cases c : 0 ≤ i ∧ i < o.F.length
  · obtain ⟨k, rfl⟩ := Int.eq_ofNat_of_zero_le c.1
    have hk : k < o.F.length := by omega
    obtain ⟨h1, _, _, _, h5⟩ := hK.got hG
    cases b
    · rcases hG with ⟨_, rfl, _⟩ | ⟨hh, _⟩
      · exact absurd hk (by show ¬ k < 0; omega)
      · cases hh
    · obtain ⟨e6, e7, A, e8, e9, e10⟩ := h5 rfl
      obtain ⟨q, hq, hp⟩ := yes_of hG
      have hS := o.wS e7.wds
      have hL := e7.len
      have hvb : 0 ≤ v ∧ v ≤ 4294967295 := bounds_u32 hv
      refine (hp_SetFieldG hT.hp A k x k v e9 rfl (by rw [hF]; simp; omega) (by rw [hK.lb]; omega) hvb.1 hvb.2).mono ?_
      rintro e u' ⟨rfl, hA, hN⟩
      have hT2 := hT.heap hA hN
      refine ⟨true, rfl, hT2.row, (r5_SetField_yes hT2.rf x hx hq hp k hk v hv).mono ?_⟩
      rintro e u'' ⟨rfl, ⟨g2, c2, e2, hG2⟩, hR⟩
      have hown : own5 h r g lv obs g2 := .inr (.inr (.inr (.inr ⟨o, List.mem_of_getElem? hq, .inl (by rw [e2]; rfl)⟩)))
      have h1' := e7.field (by rw [hK.lw]; omega) hk v
      rw [show o.pos + 2 + k = A + 3 + k by omega] at h1'
      exact ⟨rfl, X, _, _, _, lv, _, rfl, hT2.ref hR (Nx5.ofG4 hown (own5_set hq rfl rfl) hG2), hK.upd hq rfl h1' (by simp) (fun y hy => by rw [set_at _ _ _ _ (by rw [hK.lw]; omega), if_neg (by omega)]), by simpa using hn⟩
  · refine (hp_SetFieldG_no hT.hp x i v hx (by rw [hF]; simpa using c)).mono ?_
    rintro e u' ⟨rfl, rfl⟩
    refine ⟨false, rfl, hT.row, (r5_SetField_no hT.rf x i hx hi v hv (fun o' b' hG' => by obtain ⟨rfl, rfl⟩ := Got.fun hT.rf.srt hG hG'; omega)).mono ?_⟩
    rintro e u' ⟨rfl, hb⟩
    exact ⟨rfl, X, ws, l, bg, lv, obs, rfl, hT.more hb, hK, hn⟩
theorem st_SetByte (hB : Bth w u hh h r g N n ot ro) (x i v : Int) (hx : (Lit.int .i64 x).wf = true) (hi : (Lit.int .i64 i).wf = true) (hv : (Lit.int .i64 v).wf = true) :
    Calls Try.prog 19 #[.pointer (some ⟨hh, 0, none⟩), .int .i64 x, .int .i64 i, .int .i64 v] u fun e u' => ∃ b : Bool, e = .returned (.bool b) ∧ u'.heap[ot]? = some ro ∧ Fol w u' hh h r g N n ot ro 20 #[.pointer (some ⟨h, 0, none⟩), .int .i64 x, .int .i64 i, .int .i64 v] (.bool b) := by
  obtain ⟨X, ws, l, bg, lv, obs, rfl, hT, hK, hn⟩ := hB
  obtain ⟨o, b, hG⟩ := got_ex obs x
  have no : (i < 0 ∨ (o.B.length : Int) ≤ i) → ∀ o' b', Got obs x o' b' → i < 0 ∨ (o'.B.length : Int) ≤ i := fun hc o' b' hG' => by obtain ⟨rfl, rfl⟩ := Got.fun hT.rf.srt hG hG'; exact hc
  by_cases h3 : o.fmt = 3
  · obtain ⟨A, e8, e9, hBt, e7, e10⟩ := hK.bts hG h3
    have hle : o.B.length ≤ 200 := by
      rcases e7.kind with ⟨k1, k2, k3, k4⟩ | ⟨k1, k2, k3, k4⟩
      · omega
      · exact k3
    by_cases c : 0 ≤ i ∧ i < o.B.length
    · obtain ⟨k, rfl⟩ := Int.eq_ofNat_of_zero_le c.1
      have hk : k < o.B.length := by omega
      cases b
      · rcases hG with ⟨_, rfl, _⟩ | ⟨hh, _⟩
        · exact absurd hk (by show ¬ k < 0; omega)
        · cases hh
      · obtain ⟨q, hq, hp⟩ := yes_of hG
        have hS := o.wS e7.wds
        have hL := e7.len
        have hkS : k / 4 < o.S := by omega
        refine (hp_SetByteG hT.hp A o.B.length (k / 4) (k % 4) hBt x k v e9 (by omega) (by omega) (by omega) hle hv).mono ?_
        rintro e u' ⟨rfl, hA, hN⟩
        have hT2 := hT.heap hA hN
        refine ⟨true, rfl, hT2.row, (r5_SetByte_yes hT2.rf x hx hq hp k hk v hv).mono ?_⟩
        rintro e u'' ⟨rfl, ⟨g2, c2, e2, hG2⟩, hR⟩
        have hown : own5 h r g lv obs g2 := .inr (.inr (.inr (.inr ⟨o, List.mem_of_getElem? hq, .inr (by rw [e2]; rfl)⟩)))
        have h1' := e7.byte (by rw [hK.lw]; omega) hT.hp.wf hk v
        rw [show o.pos + 2 + k / 4 = A + 3 + k / 4 by omega] at h1'
        exact ⟨rfl, X, _, _, _, lv, _, rfl, hT2.ref hR (Nx5.ofG4 hown (own5_set hq rfl rfl) hG2), hK.upd hq rfl h1' (by simp) (fun y hy => by rw [set_at _ _ _ _ (by rw [hK.lw]; omega), if_neg (by omega)]), by simpa using hn⟩
    · refine (hp_SetByte_no hT.hp A o.B.length hBt x i v e9 c).mono ?_
      rintro e u' ⟨rfl, rfl⟩
      refine ⟨false, rfl, hT.row, (r5_SetByte_no hT.rf x i hx hi v hv (no (by omega))).mono ?_⟩
      rintro e u' ⟨rfl, hb⟩
      exact ⟨rfl, X, ws, l, bg, lv, obs, rfl, hT.more hb, hK, hn⟩
  · refine (hp_SetByteF hT.hp x i v hx (by rw [(hK.got hG).2.1]; omega)).mono ?_
    rintro e u' ⟨rfl, rfl⟩
    refine ⟨false, rfl, hT.row, (r5_SetByte_no hT.rf x i hx hi v hv (no (by rw [hK.noB hG h3]; simp; omega))).mono ?_⟩
    rintro e u' ⟨rfl, hb⟩
    exact ⟨rfl, X, ws, l, bg, lv, obs, rfl, hT.more hb, hK, hn⟩
theorem st_SetClass (hB : Bth w u hh h r g N n ot ro) (x c : Int) (hx : (Lit.int .i64 x).wf = true) (hc : (Lit.int .i64 c).wf = true) :
    Calls Try.prog 21 #[.pointer (some ⟨hh, 0, none⟩), .int .i64 x, .int .i64 c] u fun e u' => ∃ b : Bool, e = .returned (.bool b) ∧ u'.heap[ot]? = some ro ∧ Fol w u' hh h r g N n ot ro 22 #[.pointer (some ⟨h, 0, none⟩), .int .i64 x, .int .i64 c] (.bool b) := by
  obtain ⟨X, ws, l, bg, lv, obs, rfl, hT, hK, hn⟩ := hB
  obtain ⟨o, b, hG⟩ := got_ex obs x
  have hgot := hK.got hG
  by_cases cc : b = false ∨ c < 0 ∨ 65536 < c
  · refine (hp_SetClass_no hT.hp x c hx (by rw [hgot.1]; exact cc)).mono ?_
    rintro e u' ⟨rfl, rfl⟩
    refine ⟨false, rfl, hT.row, (r5_SetClass_no hT.rf x hx c hc (by
      rcases cc with rfl | cc
      · exact .inl (no_of hG)
      · exact .inr cc)).mono ?_⟩
    rintro e u' ⟨rfl, rfl⟩
    exact ⟨rfl, X, ws, l, bg, lv, obs, rfl, hT, hK, hn⟩
  · have hb : b = true := by cases b <;> simp_all
    subst hb
    have c0 : 0 ≤ c ∧ c ≤ 65536 := by simp at cc; omega
    obtain ⟨k, rfl⟩ := Int.eq_ofNat_of_zero_le c0.1
    obtain ⟨h1, _, _, _, h5⟩ := hgot
    obtain ⟨e6, e7, A, e8, e9, e10⟩ := h5 rfl
    obtain ⟨q, hq, hp⟩ := yes_of hG
    have hS := o.wS e7.wds
    refine (hp_SetClass hT.hp A k x e9 h1 (by rw [hK.lb]; omega) (by omega)).mono ?_
    rintro e u' ⟨rfl, hA, hN⟩
    have hT2 := hT.heap hA hN
    refine ⟨true, rfl, hT2.row, (r5_SetClass_yes hT2.rf x hx hq hp k c0.1 c0.2).mono ?_⟩
    rintro e u'' ⟨rfl, ⟨g2, c2, e2, hG2⟩, hR⟩
    have hown : own5 h r g lv obs g2 := .inr (.inr (.inr (.inl (by rw [e2]; rfl))))
    have h1' := e7.setCls (by rw [hK.lw]; omega) k c0.1 c0.2
    rw [show ws.set o.pos (Wd.wr (k : Int)) = ws.set (A + 1) (Wd.wr (k : Int)) by rw [e8]] at h1'
    exact ⟨rfl, X, _, _, _, lv, _, rfl, hT2.ref hR (Nx5.ofG4 hown (own5_set hq rfl rfl) hG2), hK.upd hq rfl h1' (by simp) (fun y hy => by rw [set_at _ _ _ _ (by rw [hK.lw]; omega), if_neg (by omega)]), by simpa using hn⟩
theorem st_SetMark (hB : Bth w u hh h r g N n ot ro) (x c : Int) (fb : Bool) (hx : (Lit.int .i64 x).wf = true) (hc : (Lit.int .i64 c).wf = true) :
    Calls Try.prog 23 #[.pointer (some ⟨hh, 0, none⟩), .int .i64 x, .int .i64 c, .bool fb] u fun e u' => ∃ b : Bool, e = .returned (.bool b) ∧ u'.heap[ot]? = some ro ∧ Fol w u' hh h r g N n ot ro 24 #[.pointer (some ⟨h, 0, none⟩), .int .i64 x, .int .i64 c, .bool fb] (.bool b) := by
  obtain ⟨X, ws, l, bg, lv, obs, rfl, hT, hK, hn⟩ := hB
  obtain ⟨o, b, hG⟩ := got_ex obs x
  have hgot := hK.got hG
  have no : (b = false ∨ c < 0 ∨ 2 < c) → Fol w u X.h h r g N n ot ro 24 #[.pointer (some ⟨h, 0, none⟩), .int .i64 x, .int .i64 c, .bool fb] (.bool false) := fun cc => by
    refine (r5_SetMark_no hT.rf x hx c hc fb (by
      rcases cc with rfl | cc
      · exact .inl (no_of hG)
      · exact .inr cc)).mono ?_
    rintro e u' ⟨rfl, rfl⟩
    exact ⟨rfl, X, ws, l, bg, lv, obs, rfl, hT, hK, hn⟩
  cases b
  · refine (hp_SetMark_no hT.hp x c fb hx hgot.1).mono ?_
    rintro e u' ⟨rfl, rfl⟩
    exact ⟨false, rfl, hT.row, no (.inl rfl)⟩
  · by_cases cc : c < 0 ∨ 2 < c
    · refine (hp_SetMark_range hT.hp x c fb hx hgot.1 cc).mono ?_
      rintro e u' ⟨rfl, rfl⟩
      exact ⟨false, rfl, hT.row, no (.inr cc)⟩
    · obtain ⟨h1, _, _, _, h5⟩ := hgot
      obtain ⟨e6, e7, A, e8, e9, e10⟩ := h5 rfl
      obtain ⟨q, hq, hp⟩ := yes_of hG
      have hS := o.wS e7.wds
      have hm := hp_SetMark hT.hp A x e9 h1 (by rw [hK.lb]; omega) c (by omega) (by omega) fb
      obtain ⟨q1, q2, q3, q4, q5, q6⟩ := e7.head
      rw [e6, q1, q2, q3, q6] at hm
      refine hm.mono ?_
      rintro e u' ⟨rfl, hA, hN⟩
      have hT2 := hT.heap hA hN
      refine ⟨true, rfl, hT2.row, (r5_SetMark_yes hT2.rf x hx hq hp c (by omega) (by omega) fb).mono ?_⟩
      rintro e u'' ⟨rfl, ⟨g2, c2, e2, hG2⟩, hR⟩
      have hown : own5 h r g lv obs g2 := .inr (.inr (.inr (.inl (by rw [e2]; rfl))))
      have h1' := e7.setMark (by rw [hK.lw]; omega) c (by omega) (by omega) fb
      rw [show o.pos - 1 = A by omega] at h1'
      exact ⟨rfl, X, _, _, _, lv, _, rfl, hT2.ref hR (Nx5.ofG4 hown (own5_set hq rfl rfl) hG2), hK.upd hq rfl h1' (by simp) (fun y hy => by rw [set_at _ _ _ _ (by rw [hK.lw]; omega), if_neg (by omega)]), by simpa using hn⟩
end
end Go.Proofs.Ytljgnmbjidkjnaa.Rf5
