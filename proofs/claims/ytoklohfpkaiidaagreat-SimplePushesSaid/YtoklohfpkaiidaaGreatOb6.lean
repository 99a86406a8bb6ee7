/- A field is set: package object. -/
import Derived.Test.YtoklohfpkaiidaaGreatOb5
namespace Go.Proofs.YtoklohfpkaiidaaGreat.Obj
open Go.Proofs.YtoklohfpkaiidaaGreat.Gen Go.Proofs.YtoklohfpkaiidaaGreat.Base Go.ChangeShapes Go.WideShapes Go.ChangeAt Go.RowKit
set_option linter.unusedVariables false
def MS.unmakes (M : MS) (id i : Int) (v : V) : Bool := decide (i = 3 ∨ i = 4) && M.isClass id && !(shapes (if i = 3 then v else M.get id 3) (if i = 4 then v else M.get id 4))
section
variable {w w' : World} {m li : Nat} {lv dv : Value} {M : MS}
theorem me_meet (h : MemAt w m li lv dv M) (id : Int) : Calls Tryz.prog 124 #[.pointer (some ⟨m, 0, none⟩), .int .i64 id] w fun e w' => e = .returned (.tuple #[]) ∧ w = w' := by
  have c14 := h.c14
  clear h
  go_enter Tryz.func124, Tryz.ntmps124
  go_wp2_with fail
  go_end0
  exact ⟨rfl, rfl⟩
set_option maxRecDepth 100000 in
set_option maxHeartbeats 1000000 in
theorem me_unmakes (h : MemAt w m li lv dv M) (id i : Int) (v : V) : Calls Tryz.prog 123 #[.pointer (some ⟨m, 0, none⟩), .int .i64 id, .int .i64 i, .agg (vcells v).toArray] w fun e w' => e = .returned (.bool (M.unmakes id i v)) ∧ Below w.heap.size w w' := by
  obtain ⟨vb, vn⟩ := v
  have hb0 : Below w.heap.size w (w.alloc (.cells #[.bool vb, .int .i64 vn] 54)) := (Below.refl _ _).alloc (Nat.le_refl _) _
  have hA := h.below hb0
  have hc := me_IsClass hA id
  unfold MS.unmakes
  by_cases c3 : i = 3 ∨ i = 4
  · rw [decide_eq_true c3]
    cases hb : M.isClass id
    · rw [hb] at hc
      clear h hA hb
      rcases c3 with rfl | rfl
      all_goals
        unfold vcells
        dsimp only
        go_enter Tryz.func123, Tryz.ntmps123
        go_wp2_with (go_at_call 125; (with_reducible refine hc.mono ?_); rintro e u1 ⟨rfl, hb1⟩; dsimp only)
        go_ret
        exact ⟨rfl, hb0.trans (hb1.mono hb0.size)⟩
    · rw [hb] at hc
      have g3 := fun u hb => me_Get2 (hA.below (w' := u) hb) id 3
      have g4 := fun u hb => me_Get2 (hA.below (w' := u) hb) id 4
      generalize M.get id 3 = P at *
      generalize M.get id 4 = Q at *
      obtain ⟨pb, pn⟩ := P
      obtain ⟨qb, qn⟩ := Q
      have G3 := Lib.hid g3; have G4 := Lib.hid g4; have HB0 := Lib.hid hb0
      clear h hA hb g3 g4 hb0
      rcases c3 with rfl | rfl
      · simp only [if_true, show ¬ ((3 : Int) = 4) by decide, if_false, Bool.true_and]
        have hsh := fun u => im_Shapes (vb, vn) (qb, qn) u
        unfold vcells at hsh ⊢
        dsimp only at hsh ⊢
        generalize shapes (vb, vn) (qb, qn) = SH at *
        go_enter Tryz.func123, Tryz.ntmps123
        go_wp2_with (go_at_call 125; (with_reducible refine hc.mono ?_); rintro e u1 ⟨rfl, hb1⟩; dsimp only)
        refine (G3.out u1 hb1).mono ?_
        rintro e u2 ⟨rfl, hb2⟩
        have hb2' := hb1.trans (hb2.mono hb1.size)
        try dsimp only
        go_wp2_with fail
        refine (G4.out u2 hb2').mono ?_
        rintro e u3 ⟨rfl, hb3⟩
        have hb3' := hb2'.trans (hb3.mono hb2'.size)
        have qv := (hb3'.block w.heap.size (by simp)).trans (heap_alloc_new w _)
        have k0 : u3.cell? ⟨w.heap.size, 0, none⟩ = some (.bool vb) := by rw [cell_row _ _ _ _ _ _ qv]; rfl
        have k1 : u3.cell? ⟨w.heap.size, 1, none⟩ = some (.int .i64 vn) := by rw [cell_row _ _ _ _ _ _ qv]; rfl
        have kl : w.heap.size < u3.heap.size := (Array.getElem?_eq_some_iff.1 qv).1
        have HB3 := Lib.hid (HB0.out.trans (hb3'.mono HB0.out.size))
        clear hb1 hb2 hb3 hb2' hb3' qv hc
        try dsimp only
        go_wp2_with fail
        refine (hsh _).mono ?_
        rintro e u4 ⟨rfl, hb4⟩
        have HB4 : Hid (Below w.heap.size w u4) := Lib.hid (HB3.out.trans (((((Below.refl _ _).alloc (Nat.le_refl _) _).alloc (by simp) _).trans (hb4.mono (by simp; omega))).mono HB3.out.size))
        clear hb4 hsh
        try dsimp only
        go_wp2_with fail
        go_ret
        exact ⟨rfl, HB4.out⟩
      · simp only [if_true, show ¬ ((4 : Int) = 3) by decide, if_false, Bool.true_and]
        have hsh := fun u => im_Shapes (pb, pn) (vb, vn) u
        unfold vcells at hsh ⊢
        dsimp only at hsh ⊢
        generalize shapes (pb, pn) (vb, vn) = SH at *
        go_enter Tryz.func123, Tryz.ntmps123
        go_wp2_with (go_at_call 125; (with_reducible refine hc.mono ?_); rintro e u1 ⟨rfl, hb1⟩; dsimp only)
        refine (G3.out u1 hb1).mono ?_
        rintro e u2 ⟨rfl, hb2⟩
        have hb2' := hb1.trans (hb2.mono hb1.size)
        try dsimp only
        go_wp2_with fail
        refine (G4.out u2 hb2').mono ?_
        rintro e u3 ⟨rfl, hb3⟩
        have hb3' := hb2'.trans (hb3.mono hb2'.size)
        have qv := (hb3'.block w.heap.size (by simp)).trans (heap_alloc_new w _)
        have k0 : u3.cell? ⟨w.heap.size, 0, none⟩ = some (.bool vb) := by rw [cell_row _ _ _ _ _ _ qv]; rfl
        have k1 : u3.cell? ⟨w.heap.size, 1, none⟩ = some (.int .i64 vn) := by rw [cell_row _ _ _ _ _ _ qv]; rfl
        have kl : w.heap.size < u3.heap.size := (Array.getElem?_eq_some_iff.1 qv).1
        have HB3 := Lib.hid (HB0.out.trans (hb3'.mono HB0.out.size))
        clear hb1 hb2 hb3 hb2' hb3' qv hc
        try dsimp only
        go_wp2_with fail
        refine (hsh _).mono ?_
        rintro e u4 ⟨rfl, hb4⟩
        have HB4 : Hid (Below w.heap.size w u4) := Lib.hid (HB3.out.trans (((((Below.refl _ _).alloc (Nat.le_refl _) _).alloc (by simp) _).trans (hb4.mono (by simp; omega))).mono HB3.out.size))
        clear hb4 hsh
        try dsimp only
        go_wp2_with fail
        go_ret
        exact ⟨rfl, HB4.out⟩
  · rw [decide_eq_false c3]
    have d3 : (i != 3) = true := by simp; omega
    have d4 : (i != 4) = true := by simp; omega
    clear h hA hc c3
    unfold vcells
    dsimp only
    go_enter Tryz.func123, Tryz.ntmps123
    go_wp2_with fail
    all_goals
      go_ret
      exact ⟨rfl, hb0⟩
def MS.put (M : MS) (id i : Int) (v : V) : MS := { M with bs := M.bs.set id.toNat { M.at id with F := (M.at id).F.set i.toNat v } }
/-- What a call does: what is its own before may change; what is its own behind it was so, or is new. -/
structure Nx (P : Nat → Prop) (w : World) (P' : Nat → Prop) (w' : World) : Prop where
  os : w'.os = w.os
  tape : w'.tape = w.tape
  output : w'.output = w.output
  size : w.heap.size ≤ w'.heap.size
  block : ∀ k, k < w.heap.size → ¬ P k → w'.heap[k]? = w.heap[k]?
  own : ∀ k, P' k → P k ∨ w.heap.size ≤ k
/-- Within Set: the world as it is, the value in a row of its own. -/
structure St (w u : World) (m li : Nat) (lv dv : Value) (M : MS) (vb : Bool) (vn : Int) : Prop where
  me : MemAt u m li lv dv M
  bel : Below w.heap.size w u
  row : u.heap[w.heap.size]? = some (.cells #[.bool vb, .int .i64 vn] 54 (0, 0))
theorem St.start {vb : Bool} {vn : Int} (h : MemAt w m li lv dv M) : St w (w.alloc (.cells #[.bool vb, .int .i64 vn] 54)).drew m li lv dv M vb vn :=
  have hb : Below w.heap.size w (w.alloc (.cells #[.bool vb, .int .i64 vn] 54)) := (Below.refl _ _).alloc (Nat.le_refl _) _
  ⟨(h.below hb).keep fun _ _ => rfl, below_drew hb, heap_alloc_new w _⟩
theorem St.more {u u' : World} {vb : Bool} {vn : Int} (hS : St w u m li lv dv M vb vn) (hb : Below u.heap.size u u') : St w u' m li lv dv M vb vn :=
  ⟨hS.me.below hb, hS.bel.trans (hb.mono hS.bel.size), (hb.block _ (Array.getElem?_eq_some_iff.1 hS.row).1).trans hS.row⟩
theorem St.cells {u : World} {vb : Bool} {vn : Int} (hS : St w u m li lv dv M vb vn) : u.cell? ⟨w.heap.size, 0, none⟩ = some (.bool vb) ∧ u.cell? ⟨w.heap.size, 1, none⟩ = some (.int .i64 vn) ∧ u.cell? ⟨m, 0, none⟩ = some (.iface 72 (.pointer (some ⟨li, 0, none⟩))) :=
  ⟨by rw [cell_row _ _ _ _ _ _ hS.row]; rfl, by rw [cell_row _ _ _ _ _ _ hS.row]; rfl, hS.me.c0⟩
theorem St.cells_set {u u' : World} {vb : Bool} {vn : Int} {fg : Nat} (hS : St w u m li lv dv M vb vn) (hf : fg < w.heap.size ∧ fg ≠ m) (ho : OnlyB fg u u') : u'.cell? ⟨w.heap.size, 0, none⟩ = some (.bool vb) ∧ u'.cell? ⟨w.heap.size, 1, none⟩ = some (.int .i64 vn) ∧ u'.cell? ⟨m, 0, none⟩ = some (.iface 72 (.pointer (some ⟨li, 0, none⟩))) := by
  obtain ⟨c0, c1, c2⟩ := hS.cells
  obtain ⟨_, _, _, _, hb⟩ := ho
  have hlt := (Array.getElem?_eq_some_iff.1 hS.row).1
  have hm : m < u.heap.size := hS.me.lt (.inl rfl)
  have hx : w.heap.size ≠ fg := by omega
  exact ⟨(World.cell?_of_block (hb _ hlt hx)).trans c0, (World.cell?_of_block (hb _ hlt hx)).trans c1, (World.cell?_of_block (hb m hm fun e => hf.2 e.symm)).trans c2⟩
theorem inv_SetField (li : Nat) (u : World) : Sem.run Tryz.prog (method 293 72 (.pointer (some ⟨li, 0, none⟩)) "SetField") u = .ok (172, .pointer (some ⟨li, 0, none⟩)) u := by kernel_rfl
theorem MS.put_own (M : MS) {q : Nat} {b : Bd} (hq : M.bs[q]? = some b) (i : Int) (v : V) : M.at q = b ∧ ∀ k, ownM m li lv dv (M.put q i v) k ↔ ownM m li lv dv M k := by
  have hat : M.at (q : Int) = b := by unfold MS.at; rw [Int.toNat_natCast, hq]; rfl
  refine ⟨hat, fun k => ?_⟩
  have ho : ∀ k, ({ b with F := b.F.set i.toNat v } : Bd).own k ↔ b.own k := fun k => by unfold Bd.own; simp
  unfold ownM ownL MS.put
  rw [hat, Int.toNat_natCast]
  constructor
  · rintro (e | e | e | e | ⟨p, hp, e⟩)
    · exact .inl e
    · exact .inr (.inl e)
    · exact .inr (.inr (.inl e))
    · exact .inr (.inr (.inr (.inl e)))
    · rcases mem_upd hp with rfl | ⟨q', _, hq'⟩
      · exact .inr (.inr (.inr (.inr ⟨b, List.mem_of_getElem? hq, (ho k).1 e⟩)))
      · exact .inr (.inr (.inr (.inr ⟨p, List.mem_of_getElem? hq', e⟩)))
  · rintro (e | e | e | e | ⟨p, hp, e⟩)
    · exact .inl e
    · exact .inr (.inl e)
    · exact .inr (.inr (.inl e))
    · exact .inr (.inr (.inr (.inl e)))
    · obtain ⟨j, hj⟩ := List.mem_iff_getElem?.1 hp
      by_cases c : j = q
      · subst c; rw [hq] at hj; cases hj
        exact .inr (.inr (.inr (.inr ⟨_, List.mem_of_getElem? (List.getElem?_set_self (List.getElem?_eq_some_iff.1 hq).1), (ho k).2 e⟩)))
      · exact .inr (.inr (.inr (.inr ⟨p, List.mem_of_getElem? (i := j) (by rw [List.getElem?_set_ne (fun e => c e.symm)]; exact hj), e⟩)))
theorem St.fin {u u' : World} {vb : Bool} {vn : Int} {q k fg : Nat} {b : Bd} (hS : St w u m li lv dv M vb vn) (hq : M.bs[q]? = some b) (v : V) (hL : ListAt u' li lv (M.bs.set q { b with F := b.F.set k v })) (hfg : blk b.fv b.F.length = some fg) (ho : OnlyB fg u u') :
    MemAt u' m li lv dv (M.put q k v) ∧ Nx (ownM m li lv dv M) w (ownM m li lv dv (M.put q k v)) u' := by
  obtain ⟨hat, hown⟩ := MS.put_own (m := m) (li := li) (lv := lv) (dv := dv) M hq k v
  have hm := List.mem_of_getElem? hq
  have hE : (M.put q k v).bs = M.bs.set q { b with F := b.F.set k v } := by unfold MS.put; rw [hat]; simp
  have hMe := hS.me
  have hin : ownM m li lv dv M fg := .inr (.inr (.inr (.inr ⟨b, hm, .inl hfg⟩)))
  have hg1 : fg ≠ m := fun e => hMe.n3 b hm (.inl (by rw [← e]; exact hfg))
  have hlt := hMe.lt hin
  obtain ⟨o1, o2, o3, o4, o5⟩ := ho
  have hold : ∀ p ∈ (M.put q k v).bs, ∃ p0 ∈ M.bs, (∀ k, p.own k → p0.own k) ∧ p.F.length = p0.F.length ∧ p.B = p0.B := fun p hp => by
    rw [hE] at hp
    rcases mem_upd hp with rfl | ⟨q', _, hq'⟩
    · exact ⟨b, hm, fun k hk => by unfold Bd.own at *; simpa using hk, by simp, rfl⟩
    · exact ⟨p, List.mem_of_getElem? hq', fun k hk => hk, rfl, rfl⟩
  refine ⟨{ row := (o5 m (hMe.lt (.inl rfl)) fun e => hg1 e.symm).trans hMe.row
            rg := hMe.rg
            ds := owns_at hMe.ds fun j hj => o5 j (hMe.lt (.inr (.inl hj))) fun e => (hMe.n4 j hj).2 (.inr (.inr ⟨b, hm, .inl (by rw [e]; exact hfg)⟩))
            list := by rw [hE]; exact hL
            len := by rw [hE, List.length_set]; exact hMe.len
            n1 := hMe.n1
            n2 := hMe.n2
            n3 := fun p hp hk => by
              obtain ⟨p0, h0, h1, _⟩ := hold p hp
              exact hMe.n3 p0 h0 (h1 m hk)
            n4 := fun j hj => ⟨(hMe.n4 j hj).1, fun hk => (hMe.n4 j hj).2 (by
              rcases hk with e | e | ⟨p, hp, e⟩
              · exact .inl e
              · exact .inr (.inl e)
              · obtain ⟨p0, h0, h1, _⟩ := hold p hp
                exact .inr (.inr ⟨p0, h0, h1 j e⟩))⟩
            few := fun p hp => by
              obtain ⟨p0, h0, _, h2, h3⟩ := hold p hp
              rw [h2, h3]; exact hMe.few p0 h0
            byt := fun p hp => by
              obtain ⟨p0, h0, _, h2, h3⟩ := hold p hp
              rw [h3]; exact hMe.byt p0 h0
            idl := hMe.idl }, ?_⟩
  exact ⟨o1.trans hS.bel.os, o2.trans hS.bel.tape, o3.trans hS.bel.output, Nat.le_trans hS.bel.size o4, fun j hj hn => by
    refine (o5 j (Nat.lt_of_lt_of_le hj hS.bel.size) fun e => hn (e ▸ hin)).trans (hS.bel.block j hj), fun j hj => .inl ((hown j).1 hj)⟩
set_option maxRecDepth 100000 in
set_option maxHeartbeats 2000000 in
theorem me_Set_no1 (h : MemAt w m li lv dv M) (id i : Int) (vb : Bool) (vn : Int) (h1 : M.has id = false) : Calls Tryz.prog 89 #[.pointer (some ⟨m, 0, none⟩), .int .i64 id, .int .i64 i, .agg #[.bool vb, .int .i64 vn]] w fun e w' => e = .returned (.bool false) ∧ Below w.heap.size w w' := by
  have hb0 : Below w.heap.size w (w.alloc (.cells #[.bool vb, .int .i64 vn] 54)) := (Below.refl _ _).alloc (Nat.le_refl _) _
  have hinv := inv_SetField li
  have hh := me_Has (St.start (vb := vb) (vn := vn) h).me id
  have hm : Calls Tryz.prog 94 #[.pointer (some ⟨m, 0, none⟩), .agg #[.bool vb, .int .i64 vn]] (w.alloc (.cells #[.bool vb, .int .i64 vn] 54)).drew fun e w' => e = .returned (.bool (M.may (vb, vn))) ∧ Below (w.alloc (.cells #[.bool vb, .int .i64 vn] 54)).drew.heap.size (w.alloc (.cells #[.bool vb, .int .i64 vn] 54)).drew w' := me_May (St.start (vb := vb) (vn := vn) h).me (vb, vn)
  have HUN : Hid (∀ u, St w u m li lv dv M vb vn → Calls Tryz.prog 123 #[.pointer (some ⟨m, 0, none⟩), .int .i64 id, .int .i64 i, .agg #[.bool vb, .int .i64 vn]] u fun e w' => e = .returned (.bool (M.unmakes id i (vb, vn))) ∧ Below u.heap.size u w') := Lib.hid fun u hS => me_unmakes hS.me id i (vb, vn)
  rw [h1] at hh
  go_enter Tryz.func89, Tryz.ntmps89
  go_upto_region 1 with fail
  refine wp_region_held_drew (S := (fun w' => w'.cell? ⟨w.heap.size, 0, none⟩ = some (.bool vb) ∧ w'.cell? ⟨w.heap.size, 1, none⟩ = some (.int .i64 vn) ∧ w'.cell? ⟨m, 0, none⟩ = some (.iface 72 (.pointer (some ⟨li, 0, none⟩))))) (by kernel_rfl) ?_ (fun hH0 => ?_)
  · (try dsimp only); exact (St.start h).cells
  refine wpAnyH_take (i := 0) (oi := { dst := some 9, op := Op.move (Operand.tmp 0), type := 35, pos := "turn.go:13", after := #[], guard := none }) (v := ?v1) rfl (by kernel_rfl) (by kernel_rfl) (by kernel_rfl) (fun _ _ _ h => h) (Or.inl ⟨by rfl, ?hy1⟩) (by assumption) ?_
  case hy1 => intro w hSw; (try dsimp only at hSw); go_simp; (try with_reducible rfl)
  try simp only [Act.put, List.setIfInBounds_toArray, List.set_cons_zero, List.set_cons_succ]
  refine wpAnyH_take (i := 1) (oi := { dst := some 10, op := Op.move (Operand.tmp 1), type := 3, pos := "turn.go:13", after := #[], guard := none }) (v := ?v2) rfl (by kernel_rfl) (by kernel_rfl) (by kernel_rfl) (fun _ _ _ h => h) (Or.inl ⟨by rfl, ?hy2⟩) (by assumption) ?_
  case hy2 => intro w hSw; (try dsimp only at hSw); go_simp; (try with_reducible rfl)
  try simp only [Act.put, List.setIfInBounds_toArray, List.set_cons_zero, List.set_cons_succ]
  refine wpAnyH_ready (rs := [2]) (by kernel_rfl) (by simp) ?_
  refine AllReadyH.cons (o := { dst := some 11, op := Op.call { callee := Callee.value (Operand.func 39), args := #[Operand.tmp 9, Operand.tmp 10], argTypes := #[35, 3] }, type := 4, pos := "turn.go:13", after := #[{ on := 0, ground := Ground.data }, { on := 1, ground := Ground.data }], guard := none }) rfl (fun K hK => ?_) AllReadyH.nil
  go_simp; go_at_call 39; with_reducible refine hh.mono ?_; rintro e w4 ⟨rfl, e4⟩; subst w4; dsimp only
  refine hK.out _ _ ?_ (fun hH1 => ?_)
  · (try dsimp only); first | exact hS4 | exact hS3 | exact hS2 | exact (St.start h).cells
  clear hK K
  clear hH0
  try simp only [Act.put, List.setIfInBounds_toArray, List.set_cons_zero, List.set_cons_succ]
  refine wpAnyH_take (i := 3) (oi := { dst := some 12, op := Op.unOp UnOp.not 4 (Operand.tmp 11), type := 4, pos := "turn.go:13", after := #[{ on := 2, ground := Ground.data }], guard := none }) (v := ?v4) rfl (by kernel_rfl) (by kernel_rfl) (by kernel_rfl) (fun _ _ _ h => h) (Or.inl ⟨by rfl, ?hy4⟩) (by assumption) ?_
  case hy4 => intro w hSw; (try dsimp only at hSw); go_simp; (try with_reducible rfl)
  try simp only [Act.put, List.setIfInBounds_toArray, List.set_cons_zero, List.set_cons_succ]
  refine wpAnyH_take (i := 4) (oi := { dst := some 13, op := Op.move (Operand.tmp 12), type := 4, pos := "turn.go:13", after := #[{ on := 3, ground := Ground.data }, { on := 2, ground := Ground.chain }], guard := none }) (v := ?v5) rfl (by kernel_rfl) (by kernel_rfl) (by kernel_rfl) (fun _ _ _ h => h) (Or.inl ⟨by rfl, ?hy5⟩) (by assumption) ?_
  case hy5 => intro w hSw; (try dsimp only at hSw); go_simp; (try with_reducible rfl)
  try simp only [Act.put, List.setIfInBounds_toArray, List.set_cons_zero, List.set_cons_succ]
  refine wpAnyH_take (i := 5) (oi := { dst := some 14, op := Op.move (Operand.tmp 0), type := 35, pos := "turn.go:13", after := #[{ on := 4, ground := Ground.guard }], guard := some (4, false) }) (v := undef) rfl (by kernel_rfl) (by kernel_rfl) (by kernel_rfl) (fun _ _ _ h => h) (Or.inr ⟨by rfl, rfl⟩) (by assumption) ?_
  try simp only [Act.put, List.setIfInBounds_toArray, List.set_cons_zero, List.set_cons_succ]
  refine wpAnyH_take (i := 6) (oi := { dst := some 15, op := Op.load 54 (Operand.tmp 7), type := 54, pos := "turn.go:13", after := #[{ on := 4, ground := Ground.guard }], guard := some (4, false) }) (v := undef) rfl (by kernel_rfl) (by kernel_rfl) (by kernel_rfl) (fun _ _ _ h => h) (Or.inr ⟨by rfl, rfl⟩) (by assumption) ?_
  try simp only [Act.put, List.setIfInBounds_toArray, List.set_cons_zero, List.set_cons_succ]
  refine wpAnyH_take (i := 7) (oi := { dst := some 16, op := Op.call { callee := Callee.value (Operand.func 94), args := #[Operand.tmp 14, Operand.tmp 15], argTypes := #[35, 54] }, type := 4, pos := "turn.go:13", after := #[{ on := 5, ground := Ground.data }, { on := 6, ground := Ground.data }, { on := 4, ground := Ground.chain }, { on := 4, ground := Ground.guard }], guard := some (4, false) }) (v := undef) rfl (by kernel_rfl) (by kernel_rfl) (by kernel_rfl) (fun _ _ _ h => h) (Or.inr ⟨by rfl, rfl⟩) (by assumption) ?_
  try simp only [Act.put, List.setIfInBounds_toArray, List.set_cons_zero, List.set_cons_succ]
  refine wpAnyH_take (i := 8) (oi := { dst := some 17, op := Op.unOp UnOp.not 4 (Operand.tmp 16), type := 4, pos := "turn.go:13", after := #[{ on := 7, ground := Ground.data }, { on := 4, ground := Ground.guard }], guard := some (4, false) }) (v := undef) rfl (by kernel_rfl) (by kernel_rfl) (by kernel_rfl) (fun _ _ _ h => h) (Or.inr ⟨by rfl, rfl⟩) (by assumption) ?_
  try simp only [Act.put, List.setIfInBounds_toArray, List.set_cons_zero, List.set_cons_succ]
  refine wpAnyH_take (i := 9) (oi := { dst := some 18, op := Op.pick (Operand.tmp 13) (Operand.const (Value.bool true)) (Operand.tmp 17), type := 4, pos := "turn.go:13", after := #[{ on := 4, ground := Ground.data }, { on := 8, ground := Ground.data }], guard := none }) (v := ?v10) rfl (by kernel_rfl) (by kernel_rfl) (by kernel_rfl) (fun _ _ _ h => h) (Or.inl ⟨by rfl, ?hy10⟩) (by assumption) ?_
  case hy10 => intro w hSw; (try dsimp only at hSw); go_simp; (try with_reducible rfl)
  try simp only [Act.put, List.setIfInBounds_toArray, List.set_cons_zero, List.set_cons_succ]
  refine wpAnyH_take (i := 10) (oi := { dst := some 19, op := Op.move (Operand.tmp 18), type := 4, pos := "turn.go:13", after := #[{ on := 9, ground := Ground.data }, { on := 7, ground := Ground.chain }], guard := none }) (v := ?v11) rfl (by kernel_rfl) (by kernel_rfl) (by kernel_rfl) (fun _ _ _ h => h) (Or.inl ⟨by rfl, ?hy11⟩) (by assumption) ?_
  case hy11 => intro w hSw; (try dsimp only at hSw); go_simp; (try with_reducible rfl)
  try simp only [Act.put, List.setIfInBounds_toArray, List.set_cons_zero, List.set_cons_succ]
  refine wpAnyH_take (i := 11) (oi := { dst := some 20, op := Op.move (Operand.tmp 0), type := 35, pos := "turn.go:13", after := #[{ on := 10, ground := Ground.guard }], guard := some (10, false) }) (v := undef) rfl (by kernel_rfl) (by kernel_rfl) (by kernel_rfl) (fun _ _ _ h => h) (Or.inr ⟨by rfl, rfl⟩) (by assumption) ?_
  try simp only [Act.put, List.setIfInBounds_toArray, List.set_cons_zero, List.set_cons_succ]
  refine wpAnyH_take (i := 12) (oi := { dst := some 21, op := Op.move (Operand.tmp 1), type := 3, pos := "turn.go:13", after := #[{ on := 10, ground := Ground.guard }], guard := some (10, false) }) (v := undef) rfl (by kernel_rfl) (by kernel_rfl) (by kernel_rfl) (fun _ _ _ h => h) (Or.inr ⟨by rfl, rfl⟩) (by assumption) ?_
  try simp only [Act.put, List.setIfInBounds_toArray, List.set_cons_zero, List.set_cons_succ]
  refine wpAnyH_take (i := 13) (oi := { dst := some 22, op := Op.move (Operand.tmp 2), type := 3, pos := "turn.go:13", after := #[{ on := 10, ground := Ground.guard }], guard := some (10, false) }) (v := undef) rfl (by kernel_rfl) (by kernel_rfl) (by kernel_rfl) (fun _ _ _ h => h) (Or.inr ⟨by rfl, rfl⟩) (by assumption) ?_
  try simp only [Act.put, List.setIfInBounds_toArray, List.set_cons_zero, List.set_cons_succ]
  refine wpAnyH_take (i := 14) (oi := { dst := some 23, op := Op.load 54 (Operand.tmp 7), type := 54, pos := "turn.go:13", after := #[{ on := 10, ground := Ground.guard }], guard := some (10, false) }) (v := undef) rfl (by kernel_rfl) (by kernel_rfl) (by kernel_rfl) (fun _ _ _ h => h) (Or.inr ⟨by rfl, rfl⟩) (by assumption) ?_
  try simp only [Act.put, List.setIfInBounds_toArray, List.set_cons_zero, List.set_cons_succ]
  refine wpAnyH_take (i := 15) (oi := { dst := some 24, op := Op.call { callee := Callee.value (Operand.func 123), args := #[Operand.tmp 20, Operand.tmp 21, Operand.tmp 22, Operand.tmp 23], argTypes := #[35, 3, 3, 54] }, type := 4, pos := "turn.go:13", after := #[{ on := 11, ground := Ground.data }, { on := 12, ground := Ground.data }, { on := 13, ground := Ground.data }, { on := 14, ground := Ground.data }, { on := 10, ground := Ground.chain }, { on := 10, ground := Ground.guard }], guard := some (10, false) }) (v := undef) rfl (by kernel_rfl) (by kernel_rfl) (by kernel_rfl) (fun _ _ _ h => h) (Or.inr ⟨by rfl, rfl⟩) (by assumption) ?_
  try simp only [Act.put, List.setIfInBounds_toArray, List.set_cons_zero, List.set_cons_succ]
  refine wpAnyH_take (i := 16) (oi := { dst := some 25, op := Op.pick (Operand.tmp 19) (Operand.const (Value.bool true)) (Operand.tmp 24), type := 4, pos := "turn.go:13", after := #[{ on := 10, ground := Ground.data }, { on := 15, ground := Ground.data }], guard := none }) (v := ?v17) rfl (by kernel_rfl) (by kernel_rfl) (by kernel_rfl) (fun _ _ _ h => h) (Or.inl ⟨by rfl, ?hy17⟩) (by assumption) ?_
  case hy17 => intro w hSw; (try dsimp only at hSw); go_simp; (try with_reducible rfl)
  try simp only [Act.put, List.setIfInBounds_toArray, List.set_cons_zero, List.set_cons_succ]
  refine wpAnyH_take (i := 17) (oi := { dst := some 26, op := Op.move (Operand.tmp 25), type := 4, pos := "turn.go:13", after := #[{ on := 16, ground := Ground.data }, { on := 15, ground := Ground.chain }], guard := none }) (v := ?v18) rfl (by kernel_rfl) (by kernel_rfl) (by kernel_rfl) (fun _ _ _ h => h) (Or.inl ⟨by rfl, ?hy18⟩) (by assumption) ?_
  case hy18 => intro w hSw; (try dsimp only at hSw); go_simp; (try with_reducible rfl)
  try simp only [Act.put, List.setIfInBounds_toArray, List.set_cons_zero, List.set_cons_succ]
  refine wpAnyH_take (i := 18) (oi := { dst := some 27, op := Op.move (Operand.tmp 0), type := 35, pos := "turn.go:13", after := #[{ on := 17, ground := Ground.guard }], guard := some (17, false) }) (v := undef) rfl (by kernel_rfl) (by kernel_rfl) (by kernel_rfl) (fun _ _ _ h => h) (Or.inr ⟨by rfl, rfl⟩) (by assumption) ?_
  try simp only [Act.put, List.setIfInBounds_toArray, List.set_cons_zero, List.set_cons_succ]
  refine wpAnyH_take (i := 19) (oi := { dst := some 28, op := Op.nilCheck (Operand.tmp 27), type := 0, pos := "turn.go:13", after := #[{ on := 18, ground := Ground.data }, { on := 17, ground := Ground.guard }], guard := some (17, false) }) (v := undef) rfl (by kernel_rfl) (by kernel_rfl) (by kernel_rfl) (fun _ _ _ h => h) (Or.inr ⟨by rfl, rfl⟩) (by assumption) ?_
  try simp only [Act.put, List.setIfInBounds_toArray, List.set_cons_zero, List.set_cons_succ]
  refine wpAnyH_take (i := 20) (oi := { dst := some 29, op := Op.fieldAddr 78 (Operand.tmp 28) 0, type := 0, pos := "turn.go:13", after := #[{ on := 19, ground := Ground.data }, { on := 17, ground := Ground.guard }], guard := some (17, false) }) (v := undef) rfl (by kernel_rfl) (by kernel_rfl) (by kernel_rfl) (fun _ _ _ h => h) (Or.inr ⟨by rfl, rfl⟩) (by assumption) ?_
  try simp only [Act.put, List.setIfInBounds_toArray, List.set_cons_zero, List.set_cons_succ]
  refine wpAnyH_take (i := 21) (oi := { dst := some 30, op := Op.load 75 (Operand.tmp 29), type := 75, pos := "turn.go:13", after := #[{ on := 20, ground := Ground.data }, { on := 17, ground := Ground.guard }], guard := some (17, false) }) (v := undef) rfl (by kernel_rfl) (by kernel_rfl) (by kernel_rfl) (fun _ _ _ h => h) (Or.inr ⟨by rfl, rfl⟩) (by assumption) ?_
  try simp only [Act.put, List.setIfInBounds_toArray, List.set_cons_zero, List.set_cons_succ]
  refine wpAnyH_take (i := 22) (oi := { dst := some 31, op := Op.move (Operand.tmp 1), type := 3, pos := "turn.go:13", after := #[{ on := 17, ground := Ground.guard }], guard := some (17, false) }) (v := undef) rfl (by kernel_rfl) (by kernel_rfl) (by kernel_rfl) (fun _ _ _ h => h) (Or.inr ⟨by rfl, rfl⟩) (by assumption) ?_
  try simp only [Act.put, List.setIfInBounds_toArray, List.set_cons_zero, List.set_cons_succ]
  refine wpAnyH_take (i := 23) (oi := { dst := some 32, op := Op.move (Operand.tmp 2), type := 3, pos := "turn.go:13", after := #[{ on := 17, ground := Ground.guard }], guard := some (17, false) }) (v := undef) rfl (by kernel_rfl) (by kernel_rfl) (by kernel_rfl) (fun _ _ _ h => h) (Or.inr ⟨by rfl, rfl⟩) (by assumption) ?_
  try simp only [Act.put, List.setIfInBounds_toArray, List.set_cons_zero, List.set_cons_succ]
  refine wpAnyH_take (i := 24) (oi := { dst := some 33, op := Op.load 54 (Operand.tmp 7), type := 54, pos := "turn.go:13", after := #[{ on := 17, ground := Ground.guard }], guard := some (17, false) }) (v := undef) rfl (by kernel_rfl) (by kernel_rfl) (by kernel_rfl) (fun _ _ _ h => h) (Or.inr ⟨by rfl, rfl⟩) (by assumption) ?_
  try simp only [Act.put, List.setIfInBounds_toArray, List.set_cons_zero, List.set_cons_succ]
  refine wpAnyH_take (i := 25) (oi := { dst := some 34, op := Op.call { callee := Callee.invoke (Operand.tmp 30) "SetField", args := #[Operand.tmp 31, Operand.tmp 32, Operand.tmp 33], argTypes := #[3, 3, 54] }, type := 4, pos := "turn.go:13", after := #[{ on := 21, ground := Ground.data }, { on := 22, ground := Ground.data }, { on := 23, ground := Ground.data }, { on := 24, ground := Ground.data }, { on := 17, ground := Ground.chain }, { on := 17, ground := Ground.guard }], guard := some (17, false) }) (v := undef) rfl (by kernel_rfl) (by kernel_rfl) (by kernel_rfl) (fun _ _ _ h => h) (Or.inr ⟨by rfl, rfl⟩) (by assumption) ?_
  try simp only [Act.put, List.setIfInBounds_toArray, List.set_cons_zero, List.set_cons_succ]
  refine wpAnyH_take (i := 26) (oi := { dst := some 35, op := Op.unOp UnOp.not 4 (Operand.tmp 34), type := 4, pos := "turn.go:13", after := #[{ on := 25, ground := Ground.data }, { on := 17, ground := Ground.guard }], guard := some (17, false) }) (v := undef) rfl (by kernel_rfl) (by kernel_rfl) (by kernel_rfl) (fun _ _ _ h => h) (Or.inr ⟨by rfl, rfl⟩) (by assumption) ?_
  try simp only [Act.put, List.setIfInBounds_toArray, List.set_cons_zero, List.set_cons_succ]
  refine wpAnyH_take (i := 27) (oi := { dst := some 36, op := Op.pick (Operand.tmp 26) (Operand.const (Value.bool true)) (Operand.tmp 35), type := 4, pos := "turn.go:13", after := #[{ on := 17, ground := Ground.data }, { on := 26, ground := Ground.data }], guard := none }) (v := ?v28) rfl (by kernel_rfl) (by kernel_rfl) (by kernel_rfl) (fun _ _ _ h => h) (Or.inl ⟨by rfl, ?hy28⟩) (by assumption) ?_
  case hy28 => intro w hSw; (try dsimp only at hSw); go_simp; (try with_reducible rfl)
  try simp only [Act.put, List.setIfInBounds_toArray, List.set_cons_zero, List.set_cons_succ]
  refine wpAnyH_done (by kernel_rfl) ?_ _
  go_wp2_with fail
  go_ret
  exact ⟨rfl, below_drew hb0⟩
set_option maxRecDepth 100000 in
set_option maxHeartbeats 2000000 in
theorem me_Set_no2 (h : MemAt w m li lv dv M) (id i : Int) (vb : Bool) (vn : Int) (h1 : M.has id = true) (h2 : M.may (vb, vn) = false) : Calls Tryz.prog 89 #[.pointer (some ⟨m, 0, none⟩), .int .i64 id, .int .i64 i, .agg #[.bool vb, .int .i64 vn]] w fun e w' => e = .returned (.bool false) ∧ Below w.heap.size w w' := by
  have hb0 : Below w.heap.size w (w.alloc (.cells #[.bool vb, .int .i64 vn] 54)) := (Below.refl _ _).alloc (Nat.le_refl _) _
  have hinv := inv_SetField li
  have hh := me_Has (St.start (vb := vb) (vn := vn) h).me id
  have hm : Calls Tryz.prog 94 #[.pointer (some ⟨m, 0, none⟩), .agg #[.bool vb, .int .i64 vn]] (w.alloc (.cells #[.bool vb, .int .i64 vn] 54)).drew fun e w' => e = .returned (.bool (M.may (vb, vn))) ∧ Below (w.alloc (.cells #[.bool vb, .int .i64 vn] 54)).drew.heap.size (w.alloc (.cells #[.bool vb, .int .i64 vn] 54)).drew w' := me_May (St.start (vb := vb) (vn := vn) h).me (vb, vn)
  have HUN : Hid (∀ u, St w u m li lv dv M vb vn → Calls Tryz.prog 123 #[.pointer (some ⟨m, 0, none⟩), .int .i64 id, .int .i64 i, .agg #[.bool vb, .int .i64 vn]] u fun e w' => e = .returned (.bool (M.unmakes id i (vb, vn))) ∧ Below u.heap.size u w') := Lib.hid fun u hS => me_unmakes hS.me id i (vb, vn)
  rw [h1] at hh
  rw [h2] at hm
  go_enter Tryz.func89, Tryz.ntmps89
  go_upto_region 1 with fail
  refine wp_region_held_drew (S := (fun w' => w'.cell? ⟨w.heap.size, 0, none⟩ = some (.bool vb) ∧ w'.cell? ⟨w.heap.size, 1, none⟩ = some (.int .i64 vn) ∧ w'.cell? ⟨m, 0, none⟩ = some (.iface 72 (.pointer (some ⟨li, 0, none⟩))))) (by kernel_rfl) ?_ (fun hH0 => ?_)
  · (try dsimp only); exact (St.start h).cells
  refine wpAnyH_take (i := 0) (oi := { dst := some 9, op := Op.move (Operand.tmp 0), type := 35, pos := "turn.go:13", after := #[], guard := none }) (v := ?v29) rfl (by kernel_rfl) (by kernel_rfl) (by kernel_rfl) (fun _ _ _ h => h) (Or.inl ⟨by rfl, ?hy29⟩) (by assumption) ?_
  case hy29 => intro w hSw; (try dsimp only at hSw); go_simp; (try with_reducible rfl)
  try simp only [Act.put, List.setIfInBounds_toArray, List.set_cons_zero, List.set_cons_succ]
  refine wpAnyH_take (i := 1) (oi := { dst := some 10, op := Op.move (Operand.tmp 1), type := 3, pos := "turn.go:13", after := #[], guard := none }) (v := ?v30) rfl (by kernel_rfl) (by kernel_rfl) (by kernel_rfl) (fun _ _ _ h => h) (Or.inl ⟨by rfl, ?hy30⟩) (by assumption) ?_
  case hy30 => intro w hSw; (try dsimp only at hSw); go_simp; (try with_reducible rfl)
  try simp only [Act.put, List.setIfInBounds_toArray, List.set_cons_zero, List.set_cons_succ]
  refine wpAnyH_ready (rs := [2]) (by kernel_rfl) (by simp) ?_
  refine AllReadyH.cons (o := { dst := some 11, op := Op.call { callee := Callee.value (Operand.func 39), args := #[Operand.tmp 9, Operand.tmp 10], argTypes := #[35, 3] }, type := 4, pos := "turn.go:13", after := #[{ on := 0, ground := Ground.data }, { on := 1, ground := Ground.data }], guard := none }) rfl (fun K hK => ?_) AllReadyH.nil
  go_simp; go_at_call 39; with_reducible refine hh.mono ?_; rintro e w4 ⟨rfl, e4⟩; subst w4; dsimp only
  refine hK.out _ _ ?_ (fun hH1 => ?_)
  · (try dsimp only); first | exact hS4 | exact hS3 | exact hS2 | exact (St.start h).cells
  clear hK K
  clear hH0
  try simp only [Act.put, List.setIfInBounds_toArray, List.set_cons_zero, List.set_cons_succ]
  refine wpAnyH_take (i := 3) (oi := { dst := some 12, op := Op.unOp UnOp.not 4 (Operand.tmp 11), type := 4, pos := "turn.go:13", after := #[{ on := 2, ground := Ground.data }], guard := none }) (v := ?v32) rfl (by kernel_rfl) (by kernel_rfl) (by kernel_rfl) (fun _ _ _ h => h) (Or.inl ⟨by rfl, ?hy32⟩) (by assumption) ?_
  case hy32 => intro w hSw; (try dsimp only at hSw); go_simp; (try with_reducible rfl)
  try simp only [Act.put, List.setIfInBounds_toArray, List.set_cons_zero, List.set_cons_succ]
  refine wpAnyH_take (i := 4) (oi := { dst := some 13, op := Op.move (Operand.tmp 12), type := 4, pos := "turn.go:13", after := #[{ on := 3, ground := Ground.data }, { on := 2, ground := Ground.chain }], guard := none }) (v := ?v33) rfl (by kernel_rfl) (by kernel_rfl) (by kernel_rfl) (fun _ _ _ h => h) (Or.inl ⟨by rfl, ?hy33⟩) (by assumption) ?_
  case hy33 => intro w hSw; (try dsimp only at hSw); go_simp; (try with_reducible rfl)
  try simp only [Act.put, List.setIfInBounds_toArray, List.set_cons_zero, List.set_cons_succ]
  refine wpAnyH_take (i := 5) (oi := { dst := some 14, op := Op.move (Operand.tmp 0), type := 35, pos := "turn.go:13", after := #[{ on := 4, ground := Ground.guard }], guard := some (4, false) }) (v := ?v34) rfl (by kernel_rfl) (by kernel_rfl) (by kernel_rfl) (fun _ _ _ h => h) (Or.inl ⟨by rfl, ?hy34⟩) (by assumption) ?_
  case hy34 => intro w hSw; (try dsimp only at hSw); go_simp; (try with_reducible rfl)
  try simp only [Act.put, List.setIfInBounds_toArray, List.set_cons_zero, List.set_cons_succ]
  refine wpAnyH_take (i := 6) (oi := { dst := some 15, op := Op.load 54 (Operand.tmp 7), type := 54, pos := "turn.go:13", after := #[{ on := 4, ground := Ground.guard }], guard := some (4, false) }) (v := ?v35) rfl (by kernel_rfl) (by kernel_rfl) (by kernel_rfl) (fun _ _ _ h => h) (Or.inl ⟨by rfl, ?hy35⟩) (by assumption) ?_
  case hy35 => intro w hSw; (try dsimp only at hSw); go_simp; (try with_reducible rfl)
  try simp only [Act.put, List.setIfInBounds_toArray, List.set_cons_zero, List.set_cons_succ]
  refine wpAnyH_ready (rs := [7]) (by kernel_rfl) (by simp) ?_
  refine AllReadyH.cons (o := { dst := some 16, op := Op.call { callee := Callee.value (Operand.func 94), args := #[Operand.tmp 14, Operand.tmp 15], argTypes := #[35, 54] }, type := 4, pos := "turn.go:13", after := #[{ on := 5, ground := Ground.data }, { on := 6, ground := Ground.data }, { on := 4, ground := Ground.chain }, { on := 4, ground := Ground.guard }], guard := some (4, false) }) rfl (fun K hK => ?_) AllReadyH.nil
  go_simp; go_at_call 94; with_reducible refine hm.mono ?_
  rintro e u2 ⟨rfl, hb2⟩
  have hS2 := ((St.start h).more hb2).cells
  have HS2 := Lib.hid ((St.start h).more hb2)
  clear hb2
  dsimp only
  refine hK.out _ _ ?_ (fun hH2 => ?_)
  · (try dsimp only); first | exact hS4 | exact hS3 | exact hS2 | exact (St.start h).cells
  clear hK K
  clear hH1
  try simp only [Act.put, List.setIfInBounds_toArray, List.set_cons_zero, List.set_cons_succ]
  refine wpAnyH_take (i := 8) (oi := { dst := some 17, op := Op.unOp UnOp.not 4 (Operand.tmp 16), type := 4, pos := "turn.go:13", after := #[{ on := 7, ground := Ground.data }, { on := 4, ground := Ground.guard }], guard := some (4, false) }) (v := ?v37) rfl (by kernel_rfl) (by kernel_rfl) (by kernel_rfl) (fun _ _ _ h => h) (Or.inl ⟨by rfl, ?hy37⟩) (by assumption) ?_
  case hy37 => intro w hSw; (try dsimp only at hSw); go_simp; (try with_reducible rfl)
  try simp only [Act.put, List.setIfInBounds_toArray, List.set_cons_zero, List.set_cons_succ]
  refine wpAnyH_take (i := 9) (oi := { dst := some 18, op := Op.pick (Operand.tmp 13) (Operand.const (Value.bool true)) (Operand.tmp 17), type := 4, pos := "turn.go:13", after := #[{ on := 4, ground := Ground.data }, { on := 8, ground := Ground.data }], guard := none }) (v := ?v38) rfl (by kernel_rfl) (by kernel_rfl) (by kernel_rfl) (fun _ _ _ h => h) (Or.inl ⟨by rfl, ?hy38⟩) (by assumption) ?_
  case hy38 => intro w hSw; (try dsimp only at hSw); go_simp; (try with_reducible rfl)
  try simp only [Act.put, List.setIfInBounds_toArray, List.set_cons_zero, List.set_cons_succ]
  refine wpAnyH_take (i := 10) (oi := { dst := some 19, op := Op.move (Operand.tmp 18), type := 4, pos := "turn.go:13", after := #[{ on := 9, ground := Ground.data }, { on := 7, ground := Ground.chain }], guard := none }) (v := ?v39) rfl (by kernel_rfl) (by kernel_rfl) (by kernel_rfl) (fun _ _ _ h => h) (Or.inl ⟨by rfl, ?hy39⟩) (by assumption) ?_
  case hy39 => intro w hSw; (try dsimp only at hSw); go_simp; (try with_reducible rfl)
  try simp only [Act.put, List.setIfInBounds_toArray, List.set_cons_zero, List.set_cons_succ]
  refine wpAnyH_take (i := 11) (oi := { dst := some 20, op := Op.move (Operand.tmp 0), type := 35, pos := "turn.go:13", after := #[{ on := 10, ground := Ground.guard }], guard := some (10, false) }) (v := undef) rfl (by kernel_rfl) (by kernel_rfl) (by kernel_rfl) (fun _ _ _ h => h) (Or.inr ⟨by rfl, rfl⟩) (by assumption) ?_
  try simp only [Act.put, List.setIfInBounds_toArray, List.set_cons_zero, List.set_cons_succ]
  refine wpAnyH_take (i := 12) (oi := { dst := some 21, op := Op.move (Operand.tmp 1), type := 3, pos := "turn.go:13", after := #[{ on := 10, ground := Ground.guard }], guard := some (10, false) }) (v := undef) rfl (by kernel_rfl) (by kernel_rfl) (by kernel_rfl) (fun _ _ _ h => h) (Or.inr ⟨by rfl, rfl⟩) (by assumption) ?_
  try simp only [Act.put, List.setIfInBounds_toArray, List.set_cons_zero, List.set_cons_succ]
  refine wpAnyH_take (i := 13) (oi := { dst := some 22, op := Op.move (Operand.tmp 2), type := 3, pos := "turn.go:13", after := #[{ on := 10, ground := Ground.guard }], guard := some (10, false) }) (v := undef) rfl (by kernel_rfl) (by kernel_rfl) (by kernel_rfl) (fun _ _ _ h => h) (Or.inr ⟨by rfl, rfl⟩) (by assumption) ?_
  try simp only [Act.put, List.setIfInBounds_toArray, List.set_cons_zero, List.set_cons_succ]
  refine wpAnyH_take (i := 14) (oi := { dst := some 23, op := Op.load 54 (Operand.tmp 7), type := 54, pos := "turn.go:13", after := #[{ on := 10, ground := Ground.guard }], guard := some (10, false) }) (v := undef) rfl (by kernel_rfl) (by kernel_rfl) (by kernel_rfl) (fun _ _ _ h => h) (Or.inr ⟨by rfl, rfl⟩) (by assumption) ?_
  try simp only [Act.put, List.setIfInBounds_toArray, List.set_cons_zero, List.set_cons_succ]
  refine wpAnyH_take (i := 15) (oi := { dst := some 24, op := Op.call { callee := Callee.value (Operand.func 123), args := #[Operand.tmp 20, Operand.tmp 21, Operand.tmp 22, Operand.tmp 23], argTypes := #[35, 3, 3, 54] }, type := 4, pos := "turn.go:13", after := #[{ on := 11, ground := Ground.data }, { on := 12, ground := Ground.data }, { on := 13, ground := Ground.data }, { on := 14, ground := Ground.data }, { on := 10, ground := Ground.chain }, { on := 10, ground := Ground.guard }], guard := some (10, false) }) (v := undef) rfl (by kernel_rfl) (by kernel_rfl) (by kernel_rfl) (fun _ _ _ h => h) (Or.inr ⟨by rfl, rfl⟩) (by assumption) ?_
  try simp only [Act.put, List.setIfInBounds_toArray, List.set_cons_zero, List.set_cons_succ]
  refine wpAnyH_take (i := 16) (oi := { dst := some 25, op := Op.pick (Operand.tmp 19) (Operand.const (Value.bool true)) (Operand.tmp 24), type := 4, pos := "turn.go:13", after := #[{ on := 10, ground := Ground.data }, { on := 15, ground := Ground.data }], guard := none }) (v := ?v45) rfl (by kernel_rfl) (by kernel_rfl) (by kernel_rfl) (fun _ _ _ h => h) (Or.inl ⟨by rfl, ?hy45⟩) (by assumption) ?_
  case hy45 => intro w hSw; (try dsimp only at hSw); go_simp; (try with_reducible rfl)
  try simp only [Act.put, List.setIfInBounds_toArray, List.set_cons_zero, List.set_cons_succ]
  refine wpAnyH_take (i := 17) (oi := { dst := some 26, op := Op.move (Operand.tmp 25), type := 4, pos := "turn.go:13", after := #[{ on := 16, ground := Ground.data }, { on := 15, ground := Ground.chain }], guard := none }) (v := ?v46) rfl (by kernel_rfl) (by kernel_rfl) (by kernel_rfl) (fun _ _ _ h => h) (Or.inl ⟨by rfl, ?hy46⟩) (by assumption) ?_
  case hy46 => intro w hSw; (try dsimp only at hSw); go_simp; (try with_reducible rfl)
  try simp only [Act.put, List.setIfInBounds_toArray, List.set_cons_zero, List.set_cons_succ]
  refine wpAnyH_take (i := 18) (oi := { dst := some 27, op := Op.move (Operand.tmp 0), type := 35, pos := "turn.go:13", after := #[{ on := 17, ground := Ground.guard }], guard := some (17, false) }) (v := undef) rfl (by kernel_rfl) (by kernel_rfl) (by kernel_rfl) (fun _ _ _ h => h) (Or.inr ⟨by rfl, rfl⟩) (by assumption) ?_
  try simp only [Act.put, List.setIfInBounds_toArray, List.set_cons_zero, List.set_cons_succ]
  refine wpAnyH_take (i := 19) (oi := { dst := some 28, op := Op.nilCheck (Operand.tmp 27), type := 0, pos := "turn.go:13", after := #[{ on := 18, ground := Ground.data }, { on := 17, ground := Ground.guard }], guard := some (17, false) }) (v := undef) rfl (by kernel_rfl) (by kernel_rfl) (by kernel_rfl) (fun _ _ _ h => h) (Or.inr ⟨by rfl, rfl⟩) (by assumption) ?_
  try simp only [Act.put, List.setIfInBounds_toArray, List.set_cons_zero, List.set_cons_succ]
  refine wpAnyH_take (i := 20) (oi := { dst := some 29, op := Op.fieldAddr 78 (Operand.tmp 28) 0, type := 0, pos := "turn.go:13", after := #[{ on := 19, ground := Ground.data }, { on := 17, ground := Ground.guard }], guard := some (17, false) }) (v := undef) rfl (by kernel_rfl) (by kernel_rfl) (by kernel_rfl) (fun _ _ _ h => h) (Or.inr ⟨by rfl, rfl⟩) (by assumption) ?_
  try simp only [Act.put, List.setIfInBounds_toArray, List.set_cons_zero, List.set_cons_succ]
  refine wpAnyH_take (i := 21) (oi := { dst := some 30, op := Op.load 75 (Operand.tmp 29), type := 75, pos := "turn.go:13", after := #[{ on := 20, ground := Ground.data }, { on := 17, ground := Ground.guard }], guard := some (17, false) }) (v := undef) rfl (by kernel_rfl) (by kernel_rfl) (by kernel_rfl) (fun _ _ _ h => h) (Or.inr ⟨by rfl, rfl⟩) (by assumption) ?_
  try simp only [Act.put, List.setIfInBounds_toArray, List.set_cons_zero, List.set_cons_succ]
  refine wpAnyH_take (i := 22) (oi := { dst := some 31, op := Op.move (Operand.tmp 1), type := 3, pos := "turn.go:13", after := #[{ on := 17, ground := Ground.guard }], guard := some (17, false) }) (v := undef) rfl (by kernel_rfl) (by kernel_rfl) (by kernel_rfl) (fun _ _ _ h => h) (Or.inr ⟨by rfl, rfl⟩) (by assumption) ?_
  try simp only [Act.put, List.setIfInBounds_toArray, List.set_cons_zero, List.set_cons_succ]
  refine wpAnyH_take (i := 23) (oi := { dst := some 32, op := Op.move (Operand.tmp 2), type := 3, pos := "turn.go:13", after := #[{ on := 17, ground := Ground.guard }], guard := some (17, false) }) (v := undef) rfl (by kernel_rfl) (by kernel_rfl) (by kernel_rfl) (fun _ _ _ h => h) (Or.inr ⟨by rfl, rfl⟩) (by assumption) ?_
  try simp only [Act.put, List.setIfInBounds_toArray, List.set_cons_zero, List.set_cons_succ]
  refine wpAnyH_take (i := 24) (oi := { dst := some 33, op := Op.load 54 (Operand.tmp 7), type := 54, pos := "turn.go:13", after := #[{ on := 17, ground := Ground.guard }], guard := some (17, false) }) (v := undef) rfl (by kernel_rfl) (by kernel_rfl) (by kernel_rfl) (fun _ _ _ h => h) (Or.inr ⟨by rfl, rfl⟩) (by assumption) ?_
  try simp only [Act.put, List.setIfInBounds_toArray, List.set_cons_zero, List.set_cons_succ]
  refine wpAnyH_take (i := 25) (oi := { dst := some 34, op := Op.call { callee := Callee.invoke (Operand.tmp 30) "SetField", args := #[Operand.tmp 31, Operand.tmp 32, Operand.tmp 33], argTypes := #[3, 3, 54] }, type := 4, pos := "turn.go:13", after := #[{ on := 21, ground := Ground.data }, { on := 22, ground := Ground.data }, { on := 23, ground := Ground.data }, { on := 24, ground := Ground.data }, { on := 17, ground := Ground.chain }, { on := 17, ground := Ground.guard }], guard := some (17, false) }) (v := undef) rfl (by kernel_rfl) (by kernel_rfl) (by kernel_rfl) (fun _ _ _ h => h) (Or.inr ⟨by rfl, rfl⟩) (by assumption) ?_
  try simp only [Act.put, List.setIfInBounds_toArray, List.set_cons_zero, List.set_cons_succ]
  refine wpAnyH_take (i := 26) (oi := { dst := some 35, op := Op.unOp UnOp.not 4 (Operand.tmp 34), type := 4, pos := "turn.go:13", after := #[{ on := 25, ground := Ground.data }, { on := 17, ground := Ground.guard }], guard := some (17, false) }) (v := undef) rfl (by kernel_rfl) (by kernel_rfl) (by kernel_rfl) (fun _ _ _ h => h) (Or.inr ⟨by rfl, rfl⟩) (by assumption) ?_
  try simp only [Act.put, List.setIfInBounds_toArray, List.set_cons_zero, List.set_cons_succ]
  refine wpAnyH_take (i := 27) (oi := { dst := some 36, op := Op.pick (Operand.tmp 26) (Operand.const (Value.bool true)) (Operand.tmp 35), type := 4, pos := "turn.go:13", after := #[{ on := 17, ground := Ground.data }, { on := 26, ground := Ground.data }], guard := none }) (v := ?v56) rfl (by kernel_rfl) (by kernel_rfl) (by kernel_rfl) (fun _ _ _ h => h) (Or.inl ⟨by rfl, ?hy56⟩) (by assumption) ?_
  case hy56 => intro w hSw; (try dsimp only at hSw); go_simp; (try with_reducible rfl)
  try simp only [Act.put, List.setIfInBounds_toArray, List.set_cons_zero, List.set_cons_succ]
  refine wpAnyH_done (by kernel_rfl) ?_ _
  go_wp2_with fail
  go_ret
  exact ⟨rfl, HS2.out.bel⟩
set_option maxRecDepth 100000 in
set_option maxHeartbeats 2000000 in
theorem me_Set_no3 (h : MemAt w m li lv dv M) (id i : Int) (vb : Bool) (vn : Int) (h1 : M.has id = true) (h2 : M.may (vb, vn) = true) (h3 : M.unmakes id i (vb, vn) = true) : Calls Tryz.prog 89 #[.pointer (some ⟨m, 0, none⟩), .int .i64 id, .int .i64 i, .agg #[.bool vb, .int .i64 vn]] w fun e w' => e = .returned (.bool false) ∧ Below w.heap.size w w' := by
  have hb0 : Below w.heap.size w (w.alloc (.cells #[.bool vb, .int .i64 vn] 54)) := (Below.refl _ _).alloc (Nat.le_refl _) _
  have hinv := inv_SetField li
  have hh := me_Has (St.start (vb := vb) (vn := vn) h).me id
  have hm : Calls Tryz.prog 94 #[.pointer (some ⟨m, 0, none⟩), .agg #[.bool vb, .int .i64 vn]] (w.alloc (.cells #[.bool vb, .int .i64 vn] 54)).drew fun e w' => e = .returned (.bool (M.may (vb, vn))) ∧ Below (w.alloc (.cells #[.bool vb, .int .i64 vn] 54)).drew.heap.size (w.alloc (.cells #[.bool vb, .int .i64 vn] 54)).drew w' := me_May (St.start (vb := vb) (vn := vn) h).me (vb, vn)
  have HUN : Hid (∀ u, St w u m li lv dv M vb vn → Calls Tryz.prog 123 #[.pointer (some ⟨m, 0, none⟩), .int .i64 id, .int .i64 i, .agg #[.bool vb, .int .i64 vn]] u fun e w' => e = .returned (.bool (M.unmakes id i (vb, vn))) ∧ Below u.heap.size u w') := Lib.hid fun u hS => me_unmakes hS.me id i (vb, vn)
  rw [h1] at hh
  rw [h2] at hm
  rw [h3] at HUN
  go_enter Tryz.func89, Tryz.ntmps89
  go_upto_region 1 with fail
  refine wp_region_held_drew (S := (fun w' => w'.cell? ⟨w.heap.size, 0, none⟩ = some (.bool vb) ∧ w'.cell? ⟨w.heap.size, 1, none⟩ = some (.int .i64 vn) ∧ w'.cell? ⟨m, 0, none⟩ = some (.iface 72 (.pointer (some ⟨li, 0, none⟩))))) (by kernel_rfl) ?_ (fun hH0 => ?_)
  · (try dsimp only); exact (St.start h).cells
  refine wpAnyH_take (i := 0) (oi := { dst := some 9, op := Op.move (Operand.tmp 0), type := 35, pos := "turn.go:13", after := #[], guard := none }) (v := ?v57) rfl (by kernel_rfl) (by kernel_rfl) (by kernel_rfl) (fun _ _ _ h => h) (Or.inl ⟨by rfl, ?hy57⟩) (by assumption) ?_
  case hy57 => intro w hSw; (try dsimp only at hSw); go_simp; (try with_reducible rfl)
  try simp only [Act.put, List.setIfInBounds_toArray, List.set_cons_zero, List.set_cons_succ]
  refine wpAnyH_take (i := 1) (oi := { dst := some 10, op := Op.move (Operand.tmp 1), type := 3, pos := "turn.go:13", after := #[], guard := none }) (v := ?v58) rfl (by kernel_rfl) (by kernel_rfl) (by kernel_rfl) (fun _ _ _ h => h) (Or.inl ⟨by rfl, ?hy58⟩) (by assumption) ?_
  case hy58 => intro w hSw; (try dsimp only at hSw); go_simp; (try with_reducible rfl)
  try simp only [Act.put, List.setIfInBounds_toArray, List.set_cons_zero, List.set_cons_succ]
  refine wpAnyH_ready (rs := [2]) (by kernel_rfl) (by simp) ?_
  refine AllReadyH.cons (o := { dst := some 11, op := Op.call { callee := Callee.value (Operand.func 39), args := #[Operand.tmp 9, Operand.tmp 10], argTypes := #[35, 3] }, type := 4, pos := "turn.go:13", after := #[{ on := 0, ground := Ground.data }, { on := 1, ground := Ground.data }], guard := none }) rfl (fun K hK => ?_) AllReadyH.nil
  go_simp; go_at_call 39; with_reducible refine hh.mono ?_; rintro e w4 ⟨rfl, e4⟩; subst w4; dsimp only
  refine hK.out _ _ ?_ (fun hH1 => ?_)
  · (try dsimp only); first | exact hS4 | exact hS3 | exact hS2 | exact (St.start h).cells
  clear hK K
  clear hH0
  try simp only [Act.put, List.setIfInBounds_toArray, List.set_cons_zero, List.set_cons_succ]
  refine wpAnyH_take (i := 3) (oi := { dst := some 12, op := Op.unOp UnOp.not 4 (Operand.tmp 11), type := 4, pos := "turn.go:13", after := #[{ on := 2, ground := Ground.data }], guard := none }) (v := ?v60) rfl (by kernel_rfl) (by kernel_rfl) (by kernel_rfl) (fun _ _ _ h => h) (Or.inl ⟨by rfl, ?hy60⟩) (by assumption) ?_
  case hy60 => intro w hSw; (try dsimp only at hSw); go_simp; (try with_reducible rfl)
  try simp only [Act.put, List.setIfInBounds_toArray, List.set_cons_zero, List.set_cons_succ]
  refine wpAnyH_take (i := 4) (oi := { dst := some 13, op := Op.move (Operand.tmp 12), type := 4, pos := "turn.go:13", after := #[{ on := 3, ground := Ground.data }, { on := 2, ground := Ground.chain }], guard := none }) (v := ?v61) rfl (by kernel_rfl) (by kernel_rfl) (by kernel_rfl) (fun _ _ _ h => h) (Or.inl ⟨by rfl, ?hy61⟩) (by assumption) ?_
  case hy61 => intro w hSw; (try dsimp only at hSw); go_simp; (try with_reducible rfl)
  try simp only [Act.put, List.setIfInBounds_toArray, List.set_cons_zero, List.set_cons_succ]
  refine wpAnyH_take (i := 5) (oi := { dst := some 14, op := Op.move (Operand.tmp 0), type := 35, pos := "turn.go:13", after := #[{ on := 4, ground := Ground.guard }], guard := some (4, false) }) (v := ?v62) rfl (by kernel_rfl) (by kernel_rfl) (by kernel_rfl) (fun _ _ _ h => h) (Or.inl ⟨by rfl, ?hy62⟩) (by assumption) ?_
  case hy62 => intro w hSw; (try dsimp only at hSw); go_simp; (try with_reducible rfl)
  try simp only [Act.put, List.setIfInBounds_toArray, List.set_cons_zero, List.set_cons_succ]
  refine wpAnyH_take (i := 6) (oi := { dst := some 15, op := Op.load 54 (Operand.tmp 7), type := 54, pos := "turn.go:13", after := #[{ on := 4, ground := Ground.guard }], guard := some (4, false) }) (v := ?v63) rfl (by kernel_rfl) (by kernel_rfl) (by kernel_rfl) (fun _ _ _ h => h) (Or.inl ⟨by rfl, ?hy63⟩) (by assumption) ?_
  case hy63 => intro w hSw; (try dsimp only at hSw); go_simp; (try with_reducible rfl)
  try simp only [Act.put, List.setIfInBounds_toArray, List.set_cons_zero, List.set_cons_succ]
  refine wpAnyH_ready (rs := [7]) (by kernel_rfl) (by simp) ?_
  refine AllReadyH.cons (o := { dst := some 16, op := Op.call { callee := Callee.value (Operand.func 94), args := #[Operand.tmp 14, Operand.tmp 15], argTypes := #[35, 54] }, type := 4, pos := "turn.go:13", after := #[{ on := 5, ground := Ground.data }, { on := 6, ground := Ground.data }, { on := 4, ground := Ground.chain }, { on := 4, ground := Ground.guard }], guard := some (4, false) }) rfl (fun K hK => ?_) AllReadyH.nil
  go_simp; go_at_call 94; with_reducible refine hm.mono ?_
  rintro e u2 ⟨rfl, hb2⟩
  have hS2 := ((St.start h).more hb2).cells
  have HS2 := Lib.hid ((St.start h).more hb2)
  clear hb2
  dsimp only
  refine hK.out _ _ ?_ (fun hH2 => ?_)
  · (try dsimp only); first | exact hS4 | exact hS3 | exact hS2 | exact (St.start h).cells
  clear hK K
  clear hH1
  try simp only [Act.put, List.setIfInBounds_toArray, List.set_cons_zero, List.set_cons_succ]
  refine wpAnyH_take (i := 8) (oi := { dst := some 17, op := Op.unOp UnOp.not 4 (Operand.tmp 16), type := 4, pos := "turn.go:13", after := #[{ on := 7, ground := Ground.data }, { on := 4, ground := Ground.guard }], guard := some (4, false) }) (v := ?v65) rfl (by kernel_rfl) (by kernel_rfl) (by kernel_rfl) (fun _ _ _ h => h) (Or.inl ⟨by rfl, ?hy65⟩) (by assumption) ?_
  case hy65 => intro w hSw; (try dsimp only at hSw); go_simp; (try with_reducible rfl)
  try simp only [Act.put, List.setIfInBounds_toArray, List.set_cons_zero, List.set_cons_succ]
  refine wpAnyH_take (i := 9) (oi := { dst := some 18, op := Op.pick (Operand.tmp 13) (Operand.const (Value.bool true)) (Operand.tmp 17), type := 4, pos := "turn.go:13", after := #[{ on := 4, ground := Ground.data }, { on := 8, ground := Ground.data }], guard := none }) (v := ?v66) rfl (by kernel_rfl) (by kernel_rfl) (by kernel_rfl) (fun _ _ _ h => h) (Or.inl ⟨by rfl, ?hy66⟩) (by assumption) ?_
  case hy66 => intro w hSw; (try dsimp only at hSw); go_simp; (try with_reducible rfl)
  try simp only [Act.put, List.setIfInBounds_toArray, List.set_cons_zero, List.set_cons_succ]
  refine wpAnyH_take (i := 10) (oi := { dst := some 19, op := Op.move (Operand.tmp 18), type := 4, pos := "turn.go:13", after := #[{ on := 9, ground := Ground.data }, { on := 7, ground := Ground.chain }], guard := none }) (v := ?v67) rfl (by kernel_rfl) (by kernel_rfl) (by kernel_rfl) (fun _ _ _ h => h) (Or.inl ⟨by rfl, ?hy67⟩) (by assumption) ?_
  case hy67 => intro w hSw; (try dsimp only at hSw); go_simp; (try with_reducible rfl)
  try simp only [Act.put, List.setIfInBounds_toArray, List.set_cons_zero, List.set_cons_succ]
  refine wpAnyH_take (i := 11) (oi := { dst := some 20, op := Op.move (Operand.tmp 0), type := 35, pos := "turn.go:13", after := #[{ on := 10, ground := Ground.guard }], guard := some (10, false) }) (v := ?v68) rfl (by kernel_rfl) (by kernel_rfl) (by kernel_rfl) (fun _ _ _ h => h) (Or.inl ⟨by rfl, ?hy68⟩) (by assumption) ?_
  case hy68 => intro w hSw; (try dsimp only at hSw); go_simp; (try with_reducible rfl)
  try simp only [Act.put, List.setIfInBounds_toArray, List.set_cons_zero, List.set_cons_succ]
  refine wpAnyH_take (i := 12) (oi := { dst := some 21, op := Op.move (Operand.tmp 1), type := 3, pos := "turn.go:13", after := #[{ on := 10, ground := Ground.guard }], guard := some (10, false) }) (v := ?v69) rfl (by kernel_rfl) (by kernel_rfl) (by kernel_rfl) (fun _ _ _ h => h) (Or.inl ⟨by rfl, ?hy69⟩) (by assumption) ?_
  case hy69 => intro w hSw; (try dsimp only at hSw); go_simp; (try with_reducible rfl)
  try simp only [Act.put, List.setIfInBounds_toArray, List.set_cons_zero, List.set_cons_succ]
  refine wpAnyH_take (i := 13) (oi := { dst := some 22, op := Op.move (Operand.tmp 2), type := 3, pos := "turn.go:13", after := #[{ on := 10, ground := Ground.guard }], guard := some (10, false) }) (v := ?v70) rfl (by kernel_rfl) (by kernel_rfl) (by kernel_rfl) (fun _ _ _ h => h) (Or.inl ⟨by rfl, ?hy70⟩) (by assumption) ?_
  case hy70 => intro w hSw; (try dsimp only at hSw); go_simp; (try with_reducible rfl)
  try simp only [Act.put, List.setIfInBounds_toArray, List.set_cons_zero, List.set_cons_succ]
  refine wpAnyH_take (i := 14) (oi := { dst := some 23, op := Op.load 54 (Operand.tmp 7), type := 54, pos := "turn.go:13", after := #[{ on := 10, ground := Ground.guard }], guard := some (10, false) }) (v := ?v71) rfl (by kernel_rfl) (by kernel_rfl) (by kernel_rfl) (fun _ _ _ h => h) (Or.inl ⟨by rfl, ?hy71⟩) (by assumption) ?_
  case hy71 => intro w hSw; (try dsimp only at hSw); go_simp; (try with_reducible rfl)
  try simp only [Act.put, List.setIfInBounds_toArray, List.set_cons_zero, List.set_cons_succ]
  refine wpAnyH_ready (rs := [15]) (by kernel_rfl) (by simp) ?_
  refine AllReadyH.cons (o := { dst := some 24, op := Op.call { callee := Callee.value (Operand.func 123), args := #[Operand.tmp 20, Operand.tmp 21, Operand.tmp 22, Operand.tmp 23], argTypes := #[35, 3, 3, 54] }, type := 4, pos := "turn.go:13", after := #[{ on := 11, ground := Ground.data }, { on := 12, ground := Ground.data }, { on := 13, ground := Ground.data }, { on := 14, ground := Ground.data }, { on := 10, ground := Ground.chain }, { on := 10, ground := Ground.guard }], guard := some (10, false) }) rfl (fun K hK => ?_) AllReadyH.nil
  go_simp; go_at_call 123; with_reducible refine (HUN.out u2 HS2.out).mono ?_
  rintro e u3 ⟨rfl, hb3⟩
  have hS3 := (HS2.out.more hb3).cells
  have HS3 := Lib.hid (HS2.out.more hb3)
  clear hb3
  dsimp only
  refine hK.out _ _ ?_ (fun hH3 => ?_)
  · (try dsimp only); first | exact hS4 | exact hS3 | exact hS2 | exact (St.start h).cells
  clear hK K
  clear hH2
  try simp only [Act.put, List.setIfInBounds_toArray, List.set_cons_zero, List.set_cons_succ]
  refine wpAnyH_take (i := 16) (oi := { dst := some 25, op := Op.pick (Operand.tmp 19) (Operand.const (Value.bool true)) (Operand.tmp 24), type := 4, pos := "turn.go:13", after := #[{ on := 10, ground := Ground.data }, { on := 15, ground := Ground.data }], guard := none }) (v := ?v73) rfl (by kernel_rfl) (by kernel_rfl) (by kernel_rfl) (fun _ _ _ h => h) (Or.inl ⟨by rfl, ?hy73⟩) (by assumption) ?_
  case hy73 => intro w hSw; (try dsimp only at hSw); go_simp; (try with_reducible rfl)
  try simp only [Act.put, List.setIfInBounds_toArray, List.set_cons_zero, List.set_cons_succ]
  refine wpAnyH_take (i := 17) (oi := { dst := some 26, op := Op.move (Operand.tmp 25), type := 4, pos := "turn.go:13", after := #[{ on := 16, ground := Ground.data }, { on := 15, ground := Ground.chain }], guard := none }) (v := ?v74) rfl (by kernel_rfl) (by kernel_rfl) (by kernel_rfl) (fun _ _ _ h => h) (Or.inl ⟨by rfl, ?hy74⟩) (by assumption) ?_
  case hy74 => intro w hSw; (try dsimp only at hSw); go_simp; (try with_reducible rfl)
  try simp only [Act.put, List.setIfInBounds_toArray, List.set_cons_zero, List.set_cons_succ]
  refine wpAnyH_take (i := 18) (oi := { dst := some 27, op := Op.move (Operand.tmp 0), type := 35, pos := "turn.go:13", after := #[{ on := 17, ground := Ground.guard }], guard := some (17, false) }) (v := undef) rfl (by kernel_rfl) (by kernel_rfl) (by kernel_rfl) (fun _ _ _ h => h) (Or.inr ⟨by rfl, rfl⟩) (by assumption) ?_
  try simp only [Act.put, List.setIfInBounds_toArray, List.set_cons_zero, List.set_cons_succ]
  refine wpAnyH_take (i := 19) (oi := { dst := some 28, op := Op.nilCheck (Operand.tmp 27), type := 0, pos := "turn.go:13", after := #[{ on := 18, ground := Ground.data }, { on := 17, ground := Ground.guard }], guard := some (17, false) }) (v := undef) rfl (by kernel_rfl) (by kernel_rfl) (by kernel_rfl) (fun _ _ _ h => h) (Or.inr ⟨by rfl, rfl⟩) (by assumption) ?_
  try simp only [Act.put, List.setIfInBounds_toArray, List.set_cons_zero, List.set_cons_succ]
  refine wpAnyH_take (i := 20) (oi := { dst := some 29, op := Op.fieldAddr 78 (Operand.tmp 28) 0, type := 0, pos := "turn.go:13", after := #[{ on := 19, ground := Ground.data }, { on := 17, ground := Ground.guard }], guard := some (17, false) }) (v := undef) rfl (by kernel_rfl) (by kernel_rfl) (by kernel_rfl) (fun _ _ _ h => h) (Or.inr ⟨by rfl, rfl⟩) (by assumption) ?_
  try simp only [Act.put, List.setIfInBounds_toArray, List.set_cons_zero, List.set_cons_succ]
  refine wpAnyH_take (i := 21) (oi := { dst := some 30, op := Op.load 75 (Operand.tmp 29), type := 75, pos := "turn.go:13", after := #[{ on := 20, ground := Ground.data }, { on := 17, ground := Ground.guard }], guard := some (17, false) }) (v := undef) rfl (by kernel_rfl) (by kernel_rfl) (by kernel_rfl) (fun _ _ _ h => h) (Or.inr ⟨by rfl, rfl⟩) (by assumption) ?_
  try simp only [Act.put, List.setIfInBounds_toArray, List.set_cons_zero, List.set_cons_succ]
  refine wpAnyH_take (i := 22) (oi := { dst := some 31, op := Op.move (Operand.tmp 1), type := 3, pos := "turn.go:13", after := #[{ on := 17, ground := Ground.guard }], guard := some (17, false) }) (v := undef) rfl (by kernel_rfl) (by kernel_rfl) (by kernel_rfl) (fun _ _ _ h => h) (Or.inr ⟨by rfl, rfl⟩) (by assumption) ?_
  try simp only [Act.put, List.setIfInBounds_toArray, List.set_cons_zero, List.set_cons_succ]
  refine wpAnyH_take (i := 23) (oi := { dst := some 32, op := Op.move (Operand.tmp 2), type := 3, pos := "turn.go:13", after := #[{ on := 17, ground := Ground.guard }], guard := some (17, false) }) (v := undef) rfl (by kernel_rfl) (by kernel_rfl) (by kernel_rfl) (fun _ _ _ h => h) (Or.inr ⟨by rfl, rfl⟩) (by assumption) ?_
  try simp only [Act.put, List.setIfInBounds_toArray, List.set_cons_zero, List.set_cons_succ]
  refine wpAnyH_take (i := 24) (oi := { dst := some 33, op := Op.load 54 (Operand.tmp 7), type := 54, pos := "turn.go:13", after := #[{ on := 17, ground := Ground.guard }], guard := some (17, false) }) (v := undef) rfl (by kernel_rfl) (by kernel_rfl) (by kernel_rfl) (fun _ _ _ h => h) (Or.inr ⟨by rfl, rfl⟩) (by assumption) ?_
  try simp only [Act.put, List.setIfInBounds_toArray, List.set_cons_zero, List.set_cons_succ]
  refine wpAnyH_take (i := 25) (oi := { dst := some 34, op := Op.call { callee := Callee.invoke (Operand.tmp 30) "SetField", args := #[Operand.tmp 31, Operand.tmp 32, Operand.tmp 33], argTypes := #[3, 3, 54] }, type := 4, pos := "turn.go:13", after := #[{ on := 21, ground := Ground.data }, { on := 22, ground := Ground.data }, { on := 23, ground := Ground.data }, { on := 24, ground := Ground.data }, { on := 17, ground := Ground.chain }, { on := 17, ground := Ground.guard }], guard := some (17, false) }) (v := undef) rfl (by kernel_rfl) (by kernel_rfl) (by kernel_rfl) (fun _ _ _ h => h) (Or.inr ⟨by rfl, rfl⟩) (by assumption) ?_
  try simp only [Act.put, List.setIfInBounds_toArray, List.set_cons_zero, List.set_cons_succ]
  refine wpAnyH_take (i := 26) (oi := { dst := some 35, op := Op.unOp UnOp.not 4 (Operand.tmp 34), type := 4, pos := "turn.go:13", after := #[{ on := 25, ground := Ground.data }, { on := 17, ground := Ground.guard }], guard := some (17, false) }) (v := undef) rfl (by kernel_rfl) (by kernel_rfl) (by kernel_rfl) (fun _ _ _ h => h) (Or.inr ⟨by rfl, rfl⟩) (by assumption) ?_
  try simp only [Act.put, List.setIfInBounds_toArray, List.set_cons_zero, List.set_cons_succ]
  refine wpAnyH_take (i := 27) (oi := { dst := some 36, op := Op.pick (Operand.tmp 26) (Operand.const (Value.bool true)) (Operand.tmp 35), type := 4, pos := "turn.go:13", after := #[{ on := 17, ground := Ground.data }, { on := 26, ground := Ground.data }], guard := none }) (v := ?v84) rfl (by kernel_rfl) (by kernel_rfl) (by kernel_rfl) (fun _ _ _ h => h) (Or.inl ⟨by rfl, ?hy84⟩) (by assumption) ?_
  case hy84 => intro w hSw; (try dsimp only at hSw); go_simp; (try with_reducible rfl)
  try simp only [Act.put, List.setIfInBounds_toArray, List.set_cons_zero, List.set_cons_succ]
  refine wpAnyH_done (by kernel_rfl) ?_ _
  go_wp2_with fail
  go_ret
  exact ⟨rfl, HS3.out.bel⟩
set_option maxRecDepth 100000 in
set_option maxHeartbeats 2000000 in
theorem me_Set_no4 (h : MemAt w m li lv dv M) (id i : Int) (vb : Bool) (vn : Int) (h1 : M.has id = true) (h2 : M.may (vb, vn) = true) (h3 : M.unmakes id i (vb, vn) = false) (h4 : hasV (M.at id).F i = false) : Calls Tryz.prog 89 #[.pointer (some ⟨m, 0, none⟩), .int .i64 id, .int .i64 i, .agg #[.bool vb, .int .i64 vn]] w fun e w' => e = .returned (.bool false) ∧ Below w.heap.size w w' := by
  have hb0 : Below w.heap.size w (w.alloc (.cells #[.bool vb, .int .i64 vn] 54)) := (Below.refl _ _).alloc (Nat.le_refl _) _
  have hinv := inv_SetField li
  have hh := me_Has (St.start (vb := vb) (vn := vn) h).me id
  have hm : Calls Tryz.prog 94 #[.pointer (some ⟨m, 0, none⟩), .agg #[.bool vb, .int .i64 vn]] (w.alloc (.cells #[.bool vb, .int .i64 vn] 54)).drew fun e w' => e = .returned (.bool (M.may (vb, vn))) ∧ Below (w.alloc (.cells #[.bool vb, .int .i64 vn] 54)).drew.heap.size (w.alloc (.cells #[.bool vb, .int .i64 vn] 54)).drew w' := me_May (St.start (vb := vb) (vn := vn) h).me (vb, vn)
  have HUN : Hid (∀ u, St w u m li lv dv M vb vn → Calls Tryz.prog 123 #[.pointer (some ⟨m, 0, none⟩), .int .i64 id, .int .i64 i, .agg #[.bool vb, .int .i64 vn]] u fun e w' => e = .returned (.bool (M.unmakes id i (vb, vn))) ∧ Below u.heap.size u w') := Lib.hid fun u hS => me_unmakes hS.me id i (vb, vn)
  rw [h1] at hh
  rw [h2] at hm
  rw [h3] at HUN
  obtain ⟨q, b, rfl, hq, hbs, hat⟩ := MS.hasN h h1
  rw [hat] at h4
  have HSF : Hid (∀ u, St w u m li lv dv M vb vn → Calls Tryz.prog 172 #[.pointer (some ⟨li, 0, none⟩), .int .i64 q, .int .i64 i, .agg #[.bool vb, .int .i64 vn]] u fun e w' => e = .returned (.bool false) ∧ Below u.heap.size u w') := Lib.hid fun u hS => li_SetField_no hS.me.list hbs i (vb, vn) h4
  go_enter Tryz.func89, Tryz.ntmps89
  go_upto_region 1 with fail
  refine wp_region_held_drew (S := (fun w' => w'.cell? ⟨w.heap.size, 0, none⟩ = some (.bool vb) ∧ w'.cell? ⟨w.heap.size, 1, none⟩ = some (.int .i64 vn) ∧ w'.cell? ⟨m, 0, none⟩ = some (.iface 72 (.pointer (some ⟨li, 0, none⟩))))) (by kernel_rfl) ?_ (fun hH0 => ?_)
  · (try dsimp only); exact (St.start h).cells
  refine wpAnyH_take (i := 0) (oi := { dst := some 9, op := Op.move (Operand.tmp 0), type := 35, pos := "turn.go:13", after := #[], guard := none }) (v := ?v85) rfl (by kernel_rfl) (by kernel_rfl) (by kernel_rfl) (fun _ _ _ h => h) (Or.inl ⟨by rfl, ?hy85⟩) (by assumption) ?_
  case hy85 => intro w hSw; (try dsimp only at hSw); go_simp; (try with_reducible rfl)
  try simp only [Act.put, List.setIfInBounds_toArray, List.set_cons_zero, List.set_cons_succ]
  refine wpAnyH_take (i := 1) (oi := { dst := some 10, op := Op.move (Operand.tmp 1), type := 3, pos := "turn.go:13", after := #[], guard := none }) (v := ?v86) rfl (by kernel_rfl) (by kernel_rfl) (by kernel_rfl) (fun _ _ _ h => h) (Or.inl ⟨by rfl, ?hy86⟩) (by assumption) ?_
  case hy86 => intro w hSw; (try dsimp only at hSw); go_simp; (try with_reducible rfl)
  try simp only [Act.put, List.setIfInBounds_toArray, List.set_cons_zero, List.set_cons_succ]
  refine wpAnyH_ready (rs := [2]) (by kernel_rfl) (by simp) ?_
  refine AllReadyH.cons (o := { dst := some 11, op := Op.call { callee := Callee.value (Operand.func 39), args := #[Operand.tmp 9, Operand.tmp 10], argTypes := #[35, 3] }, type := 4, pos := "turn.go:13", after := #[{ on := 0, ground := Ground.data }, { on := 1, ground := Ground.data }], guard := none }) rfl (fun K hK => ?_) AllReadyH.nil
  go_simp; go_at_call 39; with_reducible refine hh.mono ?_; rintro e w4 ⟨rfl, e4⟩; subst w4; dsimp only
  refine hK.out _ _ ?_ (fun hH1 => ?_)
  · (try dsimp only); first | exact hS4 | exact hS3 | exact hS2 | exact (St.start h).cells
  clear hK K
  clear hH0
  try simp only [Act.put, List.setIfInBounds_toArray, List.set_cons_zero, List.set_cons_succ]
  refine wpAnyH_take (i := 3) (oi := { dst := some 12, op := Op.unOp UnOp.not 4 (Operand.tmp 11), type := 4, pos := "turn.go:13", after := #[{ on := 2, ground := Ground.data }], guard := none }) (v := ?v88) rfl (by kernel_rfl) (by kernel_rfl) (by kernel_rfl) (fun _ _ _ h => h) (Or.inl ⟨by rfl, ?hy88⟩) (by assumption) ?_
  case hy88 => intro w hSw; (try dsimp only at hSw); go_simp; (try with_reducible rfl)
  try simp only [Act.put, List.setIfInBounds_toArray, List.set_cons_zero, List.set_cons_succ]
  refine wpAnyH_take (i := 4) (oi := { dst := some 13, op := Op.move (Operand.tmp 12), type := 4, pos := "turn.go:13", after := #[{ on := 3, ground := Ground.data }, { on := 2, ground := Ground.chain }], guard := none }) (v := ?v89) rfl (by kernel_rfl) (by kernel_rfl) (by kernel_rfl) (fun _ _ _ h => h) (Or.inl ⟨by rfl, ?hy89⟩) (by assumption) ?_
  case hy89 => intro w hSw; (try dsimp only at hSw); go_simp; (try with_reducible rfl)
  try simp only [Act.put, List.setIfInBounds_toArray, List.set_cons_zero, List.set_cons_succ]
  refine wpAnyH_take (i := 5) (oi := { dst := some 14, op := Op.move (Operand.tmp 0), type := 35, pos := "turn.go:13", after := #[{ on := 4, ground := Ground.guard }], guard := some (4, false) }) (v := ?v90) rfl (by kernel_rfl) (by kernel_rfl) (by kernel_rfl) (fun _ _ _ h => h) (Or.inl ⟨by rfl, ?hy90⟩) (by assumption) ?_
  case hy90 => intro w hSw; (try dsimp only at hSw); go_simp; (try with_reducible rfl)
  try simp only [Act.put, List.setIfInBounds_toArray, List.set_cons_zero, List.set_cons_succ]
  refine wpAnyH_take (i := 6) (oi := { dst := some 15, op := Op.load 54 (Operand.tmp 7), type := 54, pos := "turn.go:13", after := #[{ on := 4, ground := Ground.guard }], guard := some (4, false) }) (v := ?v91) rfl (by kernel_rfl) (by kernel_rfl) (by kernel_rfl) (fun _ _ _ h => h) (Or.inl ⟨by rfl, ?hy91⟩) (by assumption) ?_
  case hy91 => intro w hSw; (try dsimp only at hSw); go_simp; (try with_reducible rfl)
  try simp only [Act.put, List.setIfInBounds_toArray, List.set_cons_zero, List.set_cons_succ]
  refine wpAnyH_ready (rs := [7]) (by kernel_rfl) (by simp) ?_
  refine AllReadyH.cons (o := { dst := some 16, op := Op.call { callee := Callee.value (Operand.func 94), args := #[Operand.tmp 14, Operand.tmp 15], argTypes := #[35, 54] }, type := 4, pos := "turn.go:13", after := #[{ on := 5, ground := Ground.data }, { on := 6, ground := Ground.data }, { on := 4, ground := Ground.chain }, { on := 4, ground := Ground.guard }], guard := some (4, false) }) rfl (fun K hK => ?_) AllReadyH.nil
  go_simp; go_at_call 94; with_reducible refine hm.mono ?_
  rintro e u2 ⟨rfl, hb2⟩
  have hS2 := ((St.start h).more hb2).cells
  have HS2 := Lib.hid ((St.start h).more hb2)
  clear hb2
  dsimp only
  refine hK.out _ _ ?_ (fun hH2 => ?_)
  · (try dsimp only); first | exact hS4 | exact hS3 | exact hS2 | exact (St.start h).cells
  clear hK K
  clear hH1
  try simp only [Act.put, List.setIfInBounds_toArray, List.set_cons_zero, List.set_cons_succ]
  refine wpAnyH_take (i := 8) (oi := { dst := some 17, op := Op.unOp UnOp.not 4 (Operand.tmp 16), type := 4, pos := "turn.go:13", after := #[{ on := 7, ground := Ground.data }, { on := 4, ground := Ground.guard }], guard := some (4, false) }) (v := ?v93) rfl (by kernel_rfl) (by kernel_rfl) (by kernel_rfl) (fun _ _ _ h => h) (Or.inl ⟨by rfl, ?hy93⟩) (by assumption) ?_
  case hy93 => intro w hSw; (try dsimp only at hSw); go_simp; (try with_reducible rfl)
  try simp only [Act.put, List.setIfInBounds_toArray, List.set_cons_zero, List.set_cons_succ]
  refine wpAnyH_take (i := 9) (oi := { dst := some 18, op := Op.pick (Operand.tmp 13) (Operand.const (Value.bool true)) (Operand.tmp 17), type := 4, pos := "turn.go:13", after := #[{ on := 4, ground := Ground.data }, { on := 8, ground := Ground.data }], guard := none }) (v := ?v94) rfl (by kernel_rfl) (by kernel_rfl) (by kernel_rfl) (fun _ _ _ h => h) (Or.inl ⟨by rfl, ?hy94⟩) (by assumption) ?_
  case hy94 => intro w hSw; (try dsimp only at hSw); go_simp; (try with_reducible rfl)
  try simp only [Act.put, List.setIfInBounds_toArray, List.set_cons_zero, List.set_cons_succ]
  refine wpAnyH_take (i := 10) (oi := { dst := some 19, op := Op.move (Operand.tmp 18), type := 4, pos := "turn.go:13", after := #[{ on := 9, ground := Ground.data }, { on := 7, ground := Ground.chain }], guard := none }) (v := ?v95) rfl (by kernel_rfl) (by kernel_rfl) (by kernel_rfl) (fun _ _ _ h => h) (Or.inl ⟨by rfl, ?hy95⟩) (by assumption) ?_
  case hy95 => intro w hSw; (try dsimp only at hSw); go_simp; (try with_reducible rfl)
  try simp only [Act.put, List.setIfInBounds_toArray, List.set_cons_zero, List.set_cons_succ]
  refine wpAnyH_take (i := 11) (oi := { dst := some 20, op := Op.move (Operand.tmp 0), type := 35, pos := "turn.go:13", after := #[{ on := 10, ground := Ground.guard }], guard := some (10, false) }) (v := ?v96) rfl (by kernel_rfl) (by kernel_rfl) (by kernel_rfl) (fun _ _ _ h => h) (Or.inl ⟨by rfl, ?hy96⟩) (by assumption) ?_
  case hy96 => intro w hSw; (try dsimp only at hSw); go_simp; (try with_reducible rfl)
  try simp only [Act.put, List.setIfInBounds_toArray, List.set_cons_zero, List.set_cons_succ]
  refine wpAnyH_take (i := 12) (oi := { dst := some 21, op := Op.move (Operand.tmp 1), type := 3, pos := "turn.go:13", after := #[{ on := 10, ground := Ground.guard }], guard := some (10, false) }) (v := ?v97) rfl (by kernel_rfl) (by kernel_rfl) (by kernel_rfl) (fun _ _ _ h => h) (Or.inl ⟨by rfl, ?hy97⟩) (by assumption) ?_
  case hy97 => intro w hSw; (try dsimp only at hSw); go_simp; (try with_reducible rfl)
  try simp only [Act.put, List.setIfInBounds_toArray, List.set_cons_zero, List.set_cons_succ]
  refine wpAnyH_take (i := 13) (oi := { dst := some 22, op := Op.move (Operand.tmp 2), type := 3, pos := "turn.go:13", after := #[{ on := 10, ground := Ground.guard }], guard := some (10, false) }) (v := ?v98) rfl (by kernel_rfl) (by kernel_rfl) (by kernel_rfl) (fun _ _ _ h => h) (Or.inl ⟨by rfl, ?hy98⟩) (by assumption) ?_
  case hy98 => intro w hSw; (try dsimp only at hSw); go_simp; (try with_reducible rfl)
  try simp only [Act.put, List.setIfInBounds_toArray, List.set_cons_zero, List.set_cons_succ]
  refine wpAnyH_take (i := 14) (oi := { dst := some 23, op := Op.load 54 (Operand.tmp 7), type := 54, pos := "turn.go:13", after := #[{ on := 10, ground := Ground.guard }], guard := some (10, false) }) (v := ?v99) rfl (by kernel_rfl) (by kernel_rfl) (by kernel_rfl) (fun _ _ _ h => h) (Or.inl ⟨by rfl, ?hy99⟩) (by assumption) ?_
  case hy99 => intro w hSw; (try dsimp only at hSw); go_simp; (try with_reducible rfl)
  try simp only [Act.put, List.setIfInBounds_toArray, List.set_cons_zero, List.set_cons_succ]
  refine wpAnyH_ready (rs := [15]) (by kernel_rfl) (by simp) ?_
  refine AllReadyH.cons (o := { dst := some 24, op := Op.call { callee := Callee.value (Operand.func 123), args := #[Operand.tmp 20, Operand.tmp 21, Operand.tmp 22, Operand.tmp 23], argTypes := #[35, 3, 3, 54] }, type := 4, pos := "turn.go:13", after := #[{ on := 11, ground := Ground.data }, { on := 12, ground := Ground.data }, { on := 13, ground := Ground.data }, { on := 14, ground := Ground.data }, { on := 10, ground := Ground.chain }, { on := 10, ground := Ground.guard }], guard := some (10, false) }) rfl (fun K hK => ?_) AllReadyH.nil
  go_simp; go_at_call 123; with_reducible refine (HUN.out u2 HS2.out).mono ?_
  rintro e u3 ⟨rfl, hb3⟩
  have hS3 := (HS2.out.more hb3).cells
  have HS3 := Lib.hid (HS2.out.more hb3)
  clear hb3
  dsimp only
  refine hK.out _ _ ?_ (fun hH3 => ?_)
  · (try dsimp only); first | exact hS4 | exact hS3 | exact hS2 | exact (St.start h).cells
  clear hK K
  clear hH2
  try simp only [Act.put, List.setIfInBounds_toArray, List.set_cons_zero, List.set_cons_succ]
  refine wpAnyH_take (i := 16) (oi := { dst := some 25, op := Op.pick (Operand.tmp 19) (Operand.const (Value.bool true)) (Operand.tmp 24), type := 4, pos := "turn.go:13", after := #[{ on := 10, ground := Ground.data }, { on := 15, ground := Ground.data }], guard := none }) (v := ?v101) rfl (by kernel_rfl) (by kernel_rfl) (by kernel_rfl) (fun _ _ _ h => h) (Or.inl ⟨by rfl, ?hy101⟩) (by assumption) ?_
  case hy101 => intro w hSw; (try dsimp only at hSw); go_simp; (try with_reducible rfl)
  try simp only [Act.put, List.setIfInBounds_toArray, List.set_cons_zero, List.set_cons_succ]
  refine wpAnyH_take (i := 17) (oi := { dst := some 26, op := Op.move (Operand.tmp 25), type := 4, pos := "turn.go:13", after := #[{ on := 16, ground := Ground.data }, { on := 15, ground := Ground.chain }], guard := none }) (v := ?v102) rfl (by kernel_rfl) (by kernel_rfl) (by kernel_rfl) (fun _ _ _ h => h) (Or.inl ⟨by rfl, ?hy102⟩) (by assumption) ?_
  case hy102 => intro w hSw; (try dsimp only at hSw); go_simp; (try with_reducible rfl)
  try simp only [Act.put, List.setIfInBounds_toArray, List.set_cons_zero, List.set_cons_succ]
  refine wpAnyH_take (i := 18) (oi := { dst := some 27, op := Op.move (Operand.tmp 0), type := 35, pos := "turn.go:13", after := #[{ on := 17, ground := Ground.guard }], guard := some (17, false) }) (v := ?v103) rfl (by kernel_rfl) (by kernel_rfl) (by kernel_rfl) (fun _ _ _ h => h) (Or.inl ⟨by rfl, ?hy103⟩) (by assumption) ?_
  case hy103 => intro w hSw; (try dsimp only at hSw); go_simp; (try with_reducible rfl)
  try simp only [Act.put, List.setIfInBounds_toArray, List.set_cons_zero, List.set_cons_succ]
  refine wpAnyH_take (i := 19) (oi := { dst := some 28, op := Op.nilCheck (Operand.tmp 27), type := 0, pos := "turn.go:13", after := #[{ on := 18, ground := Ground.data }, { on := 17, ground := Ground.guard }], guard := some (17, false) }) (v := ?v104) rfl (by kernel_rfl) (by kernel_rfl) (by kernel_rfl) (fun _ _ _ h => h) (Or.inl ⟨by rfl, ?hy104⟩) (by assumption) ?_
  case hy104 => intro w hSw; (try dsimp only at hSw); go_simp; (try with_reducible rfl)
  try simp only [Act.put, List.setIfInBounds_toArray, List.set_cons_zero, List.set_cons_succ]
  refine wpAnyH_take (i := 20) (oi := { dst := some 29, op := Op.fieldAddr 78 (Operand.tmp 28) 0, type := 0, pos := "turn.go:13", after := #[{ on := 19, ground := Ground.data }, { on := 17, ground := Ground.guard }], guard := some (17, false) }) (v := ?v105) rfl (by kernel_rfl) (by kernel_rfl) (by kernel_rfl) (fun _ _ _ h => h) (Or.inl ⟨by rfl, ?hy105⟩) (by assumption) ?_
  case hy105 => intro w hSw; (try dsimp only at hSw); go_simp; (try with_reducible rfl)
  try simp only [Act.put, List.setIfInBounds_toArray, List.set_cons_zero, List.set_cons_succ]
  refine wpAnyH_take (i := 21) (oi := { dst := some 30, op := Op.load 75 (Operand.tmp 29), type := 75, pos := "turn.go:13", after := #[{ on := 20, ground := Ground.data }, { on := 17, ground := Ground.guard }], guard := some (17, false) }) (v := ?v106) rfl (by kernel_rfl) (by kernel_rfl) (by kernel_rfl) (fun _ _ _ h => h) (Or.inl ⟨by rfl, ?hy106⟩) (by assumption) ?_
  case hy106 => intro w hSw; (try dsimp only at hSw); go_simp; (try with_reducible rfl)
  try simp only [Act.put, List.setIfInBounds_toArray, List.set_cons_zero, List.set_cons_succ]
  refine wpAnyH_take (i := 22) (oi := { dst := some 31, op := Op.move (Operand.tmp 1), type := 3, pos := "turn.go:13", after := #[{ on := 17, ground := Ground.guard }], guard := some (17, false) }) (v := ?v107) rfl (by kernel_rfl) (by kernel_rfl) (by kernel_rfl) (fun _ _ _ h => h) (Or.inl ⟨by rfl, ?hy107⟩) (by assumption) ?_
  case hy107 => intro w hSw; (try dsimp only at hSw); go_simp; (try with_reducible rfl)
  try simp only [Act.put, List.setIfInBounds_toArray, List.set_cons_zero, List.set_cons_succ]
  refine wpAnyH_take (i := 23) (oi := { dst := some 32, op := Op.move (Operand.tmp 2), type := 3, pos := "turn.go:13", after := #[{ on := 17, ground := Ground.guard }], guard := some (17, false) }) (v := ?v108) rfl (by kernel_rfl) (by kernel_rfl) (by kernel_rfl) (fun _ _ _ h => h) (Or.inl ⟨by rfl, ?hy108⟩) (by assumption) ?_
  case hy108 => intro w hSw; (try dsimp only at hSw); go_simp; (try with_reducible rfl)
  try simp only [Act.put, List.setIfInBounds_toArray, List.set_cons_zero, List.set_cons_succ]
  refine wpAnyH_take (i := 24) (oi := { dst := some 33, op := Op.load 54 (Operand.tmp 7), type := 54, pos := "turn.go:13", after := #[{ on := 17, ground := Ground.guard }], guard := some (17, false) }) (v := ?v109) rfl (by kernel_rfl) (by kernel_rfl) (by kernel_rfl) (fun _ _ _ h => h) (Or.inl ⟨by rfl, ?hy109⟩) (by assumption) ?_
  case hy109 => intro w hSw; (try dsimp only at hSw); go_simp; (try with_reducible rfl)
  try simp only [Act.put, List.setIfInBounds_toArray, List.set_cons_zero, List.set_cons_succ]
  refine wpAnyH_ready (rs := [25]) (by kernel_rfl) (by simp) ?_
  refine AllReadyH.cons (o := { dst := some 34, op := Op.call { callee := Callee.invoke (Operand.tmp 30) "SetField", args := #[Operand.tmp 31, Operand.tmp 32, Operand.tmp 33], argTypes := #[3, 3, 54] }, type := 4, pos := "turn.go:13", after := #[{ on := 21, ground := Ground.data }, { on := 22, ground := Ground.data }, { on := 23, ground := Ground.data }, { on := 24, ground := Ground.data }, { on := 17, ground := Ground.chain }, { on := 17, ground := Ground.guard }], guard := some (17, false) }) rfl (fun K hK => ?_) AllReadyH.nil
  go_simp; go_at_call 172; with_reducible refine (HSF.out u3 HS3.out).mono ?_
  rintro e u4 ⟨rfl, hb4⟩
  have hS4 := (HS3.out.more hb4).cells
  have HS4 := Lib.hid (HS3.out.more hb4)
  clear hb4
  dsimp only
  refine hK.out _ _ ?_ (fun hH4 => ?_)
  · (try dsimp only); first | exact hS4 | exact hS3 | exact hS2 | exact (St.start h).cells
  clear hK K
  clear hH3
  try simp only [Act.put, List.setIfInBounds_toArray, List.set_cons_zero, List.set_cons_succ]
  refine wpAnyH_take (i := 26) (oi := { dst := some 35, op := Op.unOp UnOp.not 4 (Operand.tmp 34), type := 4, pos := "turn.go:13", after := #[{ on := 25, ground := Ground.data }, { on := 17, ground := Ground.guard }], guard := some (17, false) }) (v := ?v111) rfl (by kernel_rfl) (by kernel_rfl) (by kernel_rfl) (fun _ _ _ h => h) (Or.inl ⟨by rfl, ?hy111⟩) (by assumption) ?_
  case hy111 => intro w hSw; (try dsimp only at hSw); go_simp; (try with_reducible rfl)
  try simp only [Act.put, List.setIfInBounds_toArray, List.set_cons_zero, List.set_cons_succ]
  refine wpAnyH_take (i := 27) (oi := { dst := some 36, op := Op.pick (Operand.tmp 26) (Operand.const (Value.bool true)) (Operand.tmp 35), type := 4, pos := "turn.go:13", after := #[{ on := 17, ground := Ground.data }, { on := 26, ground := Ground.data }], guard := none }) (v := ?v112) rfl (by kernel_rfl) (by kernel_rfl) (by kernel_rfl) (fun _ _ _ h => h) (Or.inl ⟨by rfl, ?hy112⟩) (by assumption) ?_
  case hy112 => intro w hSw; (try dsimp only at hSw); go_simp; (try with_reducible rfl)
  try simp only [Act.put, List.setIfInBounds_toArray, List.set_cons_zero, List.set_cons_succ]
  refine wpAnyH_done (by kernel_rfl) ?_ _
  go_wp2_with fail
  go_ret
  exact ⟨rfl, HS4.out.bel⟩
set_option maxRecDepth 100000 in
set_option maxHeartbeats 4000000 in
theorem me_Set_yes (h : MemAt w m li lv dv M) (q k : Nat) (b : Bd) (vb : Bool) (vn : Int) (hbs : M.bs[q]? = some b) (hk : k < b.F.length) (h1 : M.has q = true) (h2 : M.may (vb, vn) = true) (h3 : M.unmakes q k (vb, vn) = false) : Calls Tryz.prog 89 #[.pointer (some ⟨m, 0, none⟩), .int .i64 q, .int .i64 k, .agg #[.bool vb, .int .i64 vn]] w fun e w' => e = .returned (.bool true) ∧ MemAt w' m li lv dv (M.put q k (vb, vn)) ∧ Nx (ownM m li lv dv M) w (ownM m li lv dv (M.put q k (vb, vn))) w' := by
  have hb0 : Below w.heap.size w (w.alloc (.cells #[.bool vb, .int .i64 vn] 54)) := (Below.refl _ _).alloc (Nat.le_refl _) _
  have hinv := inv_SetField li
  have hh := me_Has (St.start (vb := vb) (vn := vn) h).me q
  have hm : Calls Tryz.prog 94 #[.pointer (some ⟨m, 0, none⟩), .agg #[.bool vb, .int .i64 vn]] (w.alloc (.cells #[.bool vb, .int .i64 vn] 54)).drew fun e w' => e = .returned (.bool (M.may (vb, vn))) ∧ Below (w.alloc (.cells #[.bool vb, .int .i64 vn] 54)).drew.heap.size (w.alloc (.cells #[.bool vb, .int .i64 vn] 54)).drew w' := me_May (St.start (vb := vb) (vn := vn) h).me (vb, vn)
  have HUN : Hid (∀ u, St w u m li lv dv M vb vn → Calls Tryz.prog 123 #[.pointer (some ⟨m, 0, none⟩), .int .i64 q, .int .i64 k, .agg #[.bool vb, .int .i64 vn]] u fun e w' => e = .returned (.bool (M.unmakes q k (vb, vn))) ∧ Below u.heap.size u w') := Lib.hid fun u hS => me_unmakes hS.me q k (vb, vn)
  rw [h1] at hh
  rw [h2] at hm
  rw [h3] at HUN
  have HSF : Hid (∀ u, St w u m li lv dv M vb vn → Calls Tryz.prog 172 #[.pointer (some ⟨li, 0, none⟩), .int .i64 q, .int .i64 k, .agg #[.bool vb, .int .i64 vn]] u fun e w' => e = .returned (.bool true) ∧ ListAt w' li lv (M.bs.set q { b with F := b.F.set k (vb, vn) }) ∧ ∃ fg, blk b.fv b.F.length = some fg ∧ OnlyB fg u w') := Lib.hid fun u hS => li_SetField hS.me.list hbs k (vb, vn) hk
  have HOWN : Hid (∀ fg, blk b.fv b.F.length = some fg → fg < w.heap.size ∧ fg ≠ m) := Lib.hid fun fg e => ⟨h.lt (.inr (.inr (.inr (.inr ⟨b, List.mem_of_getElem? hbs, .inl e⟩)))), fun e' => h.n3 b (List.mem_of_getElem? hbs) (.inl (by rw [← e']; exact e))⟩
  have HBS := Lib.hid hbs
  go_enter Tryz.func89, Tryz.ntmps89
  go_upto_region 1 with fail
  refine wp_region_held_drew (S := (fun w' => w'.cell? ⟨w.heap.size, 0, none⟩ = some (.bool vb) ∧ w'.cell? ⟨w.heap.size, 1, none⟩ = some (.int .i64 vn) ∧ w'.cell? ⟨m, 0, none⟩ = some (.iface 72 (.pointer (some ⟨li, 0, none⟩))))) (by kernel_rfl) ?_ (fun hH0 => ?_)
  · (try dsimp only); exact (St.start h).cells
  refine wpAnyH_take (i := 0) (oi := { dst := some 9, op := Op.move (Operand.tmp 0), type := 35, pos := "turn.go:13", after := #[], guard := none }) (v := ?v113) rfl (by kernel_rfl) (by kernel_rfl) (by kernel_rfl) (fun _ _ _ h => h) (Or.inl ⟨by rfl, ?hy113⟩) (by assumption) ?_
  case hy113 => intro w hSw; (try dsimp only at hSw); go_simp; (try with_reducible rfl)
  try simp only [Act.put, List.setIfInBounds_toArray, List.set_cons_zero, List.set_cons_succ]
  refine wpAnyH_take (i := 1) (oi := { dst := some 10, op := Op.move (Operand.tmp 1), type := 3, pos := "turn.go:13", after := #[], guard := none }) (v := ?v114) rfl (by kernel_rfl) (by kernel_rfl) (by kernel_rfl) (fun _ _ _ h => h) (Or.inl ⟨by rfl, ?hy114⟩) (by assumption) ?_
  case hy114 => intro w hSw; (try dsimp only at hSw); go_simp; (try with_reducible rfl)
  try simp only [Act.put, List.setIfInBounds_toArray, List.set_cons_zero, List.set_cons_succ]
  refine wpAnyH_ready (rs := [2]) (by kernel_rfl) (by simp) ?_
  refine AllReadyH.cons (o := { dst := some 11, op := Op.call { callee := Callee.value (Operand.func 39), args := #[Operand.tmp 9, Operand.tmp 10], argTypes := #[35, 3] }, type := 4, pos := "turn.go:13", after := #[{ on := 0, ground := Ground.data }, { on := 1, ground := Ground.data }], guard := none }) rfl (fun K hK => ?_) AllReadyH.nil
  go_simp; go_at_call 39; with_reducible refine hh.mono ?_; rintro e w4 ⟨rfl, e4⟩; subst w4; dsimp only
  refine hK.out _ _ ?_ (fun hH1 => ?_)
  · (try dsimp only); first | exact hS4 | exact hS3 | exact hS2 | exact (St.start h).cells
  clear hK K
  clear hH0
  try simp only [Act.put, List.setIfInBounds_toArray, List.set_cons_zero, List.set_cons_succ]
  refine wpAnyH_take (i := 3) (oi := { dst := some 12, op := Op.unOp UnOp.not 4 (Operand.tmp 11), type := 4, pos := "turn.go:13", after := #[{ on := 2, ground := Ground.data }], guard := none }) (v := ?v116) rfl (by kernel_rfl) (by kernel_rfl) (by kernel_rfl) (fun _ _ _ h => h) (Or.inl ⟨by rfl, ?hy116⟩) (by assumption) ?_
  case hy116 => intro w hSw; (try dsimp only at hSw); go_simp; (try with_reducible rfl)
  try simp only [Act.put, List.setIfInBounds_toArray, List.set_cons_zero, List.set_cons_succ]
  refine wpAnyH_take (i := 4) (oi := { dst := some 13, op := Op.move (Operand.tmp 12), type := 4, pos := "turn.go:13", after := #[{ on := 3, ground := Ground.data }, { on := 2, ground := Ground.chain }], guard := none }) (v := ?v117) rfl (by kernel_rfl) (by kernel_rfl) (by kernel_rfl) (fun _ _ _ h => h) (Or.inl ⟨by rfl, ?hy117⟩) (by assumption) ?_
  case hy117 => intro w hSw; (try dsimp only at hSw); go_simp; (try with_reducible rfl)
  try simp only [Act.put, List.setIfInBounds_toArray, List.set_cons_zero, List.set_cons_succ]
  refine wpAnyH_take (i := 5) (oi := { dst := some 14, op := Op.move (Operand.tmp 0), type := 35, pos := "turn.go:13", after := #[{ on := 4, ground := Ground.guard }], guard := some (4, false) }) (v := ?v118) rfl (by kernel_rfl) (by kernel_rfl) (by kernel_rfl) (fun _ _ _ h => h) (Or.inl ⟨by rfl, ?hy118⟩) (by assumption) ?_
  case hy118 => intro w hSw; (try dsimp only at hSw); go_simp; (try with_reducible rfl)
  try simp only [Act.put, List.setIfInBounds_toArray, List.set_cons_zero, List.set_cons_succ]
  refine wpAnyH_take (i := 6) (oi := { dst := some 15, op := Op.load 54 (Operand.tmp 7), type := 54, pos := "turn.go:13", after := #[{ on := 4, ground := Ground.guard }], guard := some (4, false) }) (v := ?v119) rfl (by kernel_rfl) (by kernel_rfl) (by kernel_rfl) (fun _ _ _ h => h) (Or.inl ⟨by rfl, ?hy119⟩) (by assumption) ?_
  case hy119 => intro w hSw; (try dsimp only at hSw); go_simp; (try with_reducible rfl)
  try simp only [Act.put, List.setIfInBounds_toArray, List.set_cons_zero, List.set_cons_succ]
  refine wpAnyH_ready (rs := [7]) (by kernel_rfl) (by simp) ?_
  refine AllReadyH.cons (o := { dst := some 16, op := Op.call { callee := Callee.value (Operand.func 94), args := #[Operand.tmp 14, Operand.tmp 15], argTypes := #[35, 54] }, type := 4, pos := "turn.go:13", after := #[{ on := 5, ground := Ground.data }, { on := 6, ground := Ground.data }, { on := 4, ground := Ground.chain }, { on := 4, ground := Ground.guard }], guard := some (4, false) }) rfl (fun K hK => ?_) AllReadyH.nil
  go_simp; go_at_call 94; with_reducible refine hm.mono ?_
  rintro e u2 ⟨rfl, hb2⟩
  have hS2 := ((St.start h).more hb2).cells
  have HS2 := Lib.hid ((St.start h).more hb2)
  clear hb2
  dsimp only
  refine hK.out _ _ ?_ (fun hH2 => ?_)
  · (try dsimp only); first | exact hS4 | exact hS3 | exact hS2 | exact (St.start h).cells
  clear hK K
  clear hH1
  try simp only [Act.put, List.setIfInBounds_toArray, List.set_cons_zero, List.set_cons_succ]
  refine wpAnyH_take (i := 8) (oi := { dst := some 17, op := Op.unOp UnOp.not 4 (Operand.tmp 16), type := 4, pos := "turn.go:13", after := #[{ on := 7, ground := Ground.data }, { on := 4, ground := Ground.guard }], guard := some (4, false) }) (v := ?v121) rfl (by kernel_rfl) (by kernel_rfl) (by kernel_rfl) (fun _ _ _ h => h) (Or.inl ⟨by rfl, ?hy121⟩) (by assumption) ?_
  case hy121 => intro w hSw; (try dsimp only at hSw); go_simp; (try with_reducible rfl)
  try simp only [Act.put, List.setIfInBounds_toArray, List.set_cons_zero, List.set_cons_succ]
  refine wpAnyH_take (i := 9) (oi := { dst := some 18, op := Op.pick (Operand.tmp 13) (Operand.const (Value.bool true)) (Operand.tmp 17), type := 4, pos := "turn.go:13", after := #[{ on := 4, ground := Ground.data }, { on := 8, ground := Ground.data }], guard := none }) (v := ?v122) rfl (by kernel_rfl) (by kernel_rfl) (by kernel_rfl) (fun _ _ _ h => h) (Or.inl ⟨by rfl, ?hy122⟩) (by assumption) ?_
  case hy122 => intro w hSw; (try dsimp only at hSw); go_simp; (try with_reducible rfl)
  try simp only [Act.put, List.setIfInBounds_toArray, List.set_cons_zero, List.set_cons_succ]
  refine wpAnyH_take (i := 10) (oi := { dst := some 19, op := Op.move (Operand.tmp 18), type := 4, pos := "turn.go:13", after := #[{ on := 9, ground := Ground.data }, { on := 7, ground := Ground.chain }], guard := none }) (v := ?v123) rfl (by kernel_rfl) (by kernel_rfl) (by kernel_rfl) (fun _ _ _ h => h) (Or.inl ⟨by rfl, ?hy123⟩) (by assumption) ?_
  case hy123 => intro w hSw; (try dsimp only at hSw); go_simp; (try with_reducible rfl)
  try simp only [Act.put, List.setIfInBounds_toArray, List.set_cons_zero, List.set_cons_succ]
  refine wpAnyH_take (i := 11) (oi := { dst := some 20, op := Op.move (Operand.tmp 0), type := 35, pos := "turn.go:13", after := #[{ on := 10, ground := Ground.guard }], guard := some (10, false) }) (v := ?v124) rfl (by kernel_rfl) (by kernel_rfl) (by kernel_rfl) (fun _ _ _ h => h) (Or.inl ⟨by rfl, ?hy124⟩) (by assumption) ?_
  case hy124 => intro w hSw; (try dsimp only at hSw); go_simp; (try with_reducible rfl)
  try simp only [Act.put, List.setIfInBounds_toArray, List.set_cons_zero, List.set_cons_succ]
  refine wpAnyH_take (i := 12) (oi := { dst := some 21, op := Op.move (Operand.tmp 1), type := 3, pos := "turn.go:13", after := #[{ on := 10, ground := Ground.guard }], guard := some (10, false) }) (v := ?v125) rfl (by kernel_rfl) (by kernel_rfl) (by kernel_rfl) (fun _ _ _ h => h) (Or.inl ⟨by rfl, ?hy125⟩) (by assumption) ?_
  case hy125 => intro w hSw; (try dsimp only at hSw); go_simp; (try with_reducible rfl)
  try simp only [Act.put, List.setIfInBounds_toArray, List.set_cons_zero, List.set_cons_succ]
  refine wpAnyH_take (i := 13) (oi := { dst := some 22, op := Op.move (Operand.tmp 2), type := 3, pos := "turn.go:13", after := #[{ on := 10, ground := Ground.guard }], guard := some (10, false) }) (v := ?v126) rfl (by kernel_rfl) (by kernel_rfl) (by kernel_rfl) (fun _ _ _ h => h) (Or.inl ⟨by rfl, ?hy126⟩) (by assumption) ?_
  case hy126 => intro w hSw; (try dsimp only at hSw); go_simp; (try with_reducible rfl)
  try simp only [Act.put, List.setIfInBounds_toArray, List.set_cons_zero, List.set_cons_succ]
  refine wpAnyH_take (i := 14) (oi := { dst := some 23, op := Op.load 54 (Operand.tmp 7), type := 54, pos := "turn.go:13", after := #[{ on := 10, ground := Ground.guard }], guard := some (10, false) }) (v := ?v127) rfl (by kernel_rfl) (by kernel_rfl) (by kernel_rfl) (fun _ _ _ h => h) (Or.inl ⟨by rfl, ?hy127⟩) (by assumption) ?_
  case hy127 => intro w hSw; (try dsimp only at hSw); go_simp; (try with_reducible rfl)
  try simp only [Act.put, List.setIfInBounds_toArray, List.set_cons_zero, List.set_cons_succ]
  refine wpAnyH_ready (rs := [15]) (by kernel_rfl) (by simp) ?_
  refine AllReadyH.cons (o := { dst := some 24, op := Op.call { callee := Callee.value (Operand.func 123), args := #[Operand.tmp 20, Operand.tmp 21, Operand.tmp 22, Operand.tmp 23], argTypes := #[35, 3, 3, 54] }, type := 4, pos := "turn.go:13", after := #[{ on := 11, ground := Ground.data }, { on := 12, ground := Ground.data }, { on := 13, ground := Ground.data }, { on := 14, ground := Ground.data }, { on := 10, ground := Ground.chain }, { on := 10, ground := Ground.guard }], guard := some (10, false) }) rfl (fun K hK => ?_) AllReadyH.nil
  go_simp; go_at_call 123; with_reducible refine (HUN.out u2 HS2.out).mono ?_
  rintro e u3 ⟨rfl, hb3⟩
  have hS3 := (HS2.out.more hb3).cells
  have HS3 := Lib.hid (HS2.out.more hb3)
  clear hb3
  dsimp only
  refine hK.out _ _ ?_ (fun hH3 => ?_)
  · (try dsimp only); first | exact hS4 | exact hS3 | exact hS2 | exact (St.start h).cells
  clear hK K
  clear hH2
  try simp only [Act.put, List.setIfInBounds_toArray, List.set_cons_zero, List.set_cons_succ]
  refine wpAnyH_take (i := 16) (oi := { dst := some 25, op := Op.pick (Operand.tmp 19) (Operand.const (Value.bool true)) (Operand.tmp 24), type := 4, pos := "turn.go:13", after := #[{ on := 10, ground := Ground.data }, { on := 15, ground := Ground.data }], guard := none }) (v := ?v129) rfl (by kernel_rfl) (by kernel_rfl) (by kernel_rfl) (fun _ _ _ h => h) (Or.inl ⟨by rfl, ?hy129⟩) (by assumption) ?_
  case hy129 => intro w hSw; (try dsimp only at hSw); go_simp; (try with_reducible rfl)
  try simp only [Act.put, List.setIfInBounds_toArray, List.set_cons_zero, List.set_cons_succ]
  refine wpAnyH_take (i := 17) (oi := { dst := some 26, op := Op.move (Operand.tmp 25), type := 4, pos := "turn.go:13", after := #[{ on := 16, ground := Ground.data }, { on := 15, ground := Ground.chain }], guard := none }) (v := ?v130) rfl (by kernel_rfl) (by kernel_rfl) (by kernel_rfl) (fun _ _ _ h => h) (Or.inl ⟨by rfl, ?hy130⟩) (by assumption) ?_
  case hy130 => intro w hSw; (try dsimp only at hSw); go_simp; (try with_reducible rfl)
  try simp only [Act.put, List.setIfInBounds_toArray, List.set_cons_zero, List.set_cons_succ]
  refine wpAnyH_take (i := 18) (oi := { dst := some 27, op := Op.move (Operand.tmp 0), type := 35, pos := "turn.go:13", after := #[{ on := 17, ground := Ground.guard }], guard := some (17, false) }) (v := ?v131) rfl (by kernel_rfl) (by kernel_rfl) (by kernel_rfl) (fun _ _ _ h => h) (Or.inl ⟨by rfl, ?hy131⟩) (by assumption) ?_
  case hy131 => intro w hSw; (try dsimp only at hSw); go_simp; (try with_reducible rfl)
  try simp only [Act.put, List.setIfInBounds_toArray, List.set_cons_zero, List.set_cons_succ]
  refine wpAnyH_take (i := 19) (oi := { dst := some 28, op := Op.nilCheck (Operand.tmp 27), type := 0, pos := "turn.go:13", after := #[{ on := 18, ground := Ground.data }, { on := 17, ground := Ground.guard }], guard := some (17, false) }) (v := ?v132) rfl (by kernel_rfl) (by kernel_rfl) (by kernel_rfl) (fun _ _ _ h => h) (Or.inl ⟨by rfl, ?hy132⟩) (by assumption) ?_
  case hy132 => intro w hSw; (try dsimp only at hSw); go_simp; (try with_reducible rfl)
  try simp only [Act.put, List.setIfInBounds_toArray, List.set_cons_zero, List.set_cons_succ]
  refine wpAnyH_take (i := 20) (oi := { dst := some 29, op := Op.fieldAddr 78 (Operand.tmp 28) 0, type := 0, pos := "turn.go:13", after := #[{ on := 19, ground := Ground.data }, { on := 17, ground := Ground.guard }], guard := some (17, false) }) (v := ?v133) rfl (by kernel_rfl) (by kernel_rfl) (by kernel_rfl) (fun _ _ _ h => h) (Or.inl ⟨by rfl, ?hy133⟩) (by assumption) ?_
  case hy133 => intro w hSw; (try dsimp only at hSw); go_simp; (try with_reducible rfl)
  try simp only [Act.put, List.setIfInBounds_toArray, List.set_cons_zero, List.set_cons_succ]
  refine wpAnyH_take (i := 21) (oi := { dst := some 30, op := Op.load 75 (Operand.tmp 29), type := 75, pos := "turn.go:13", after := #[{ on := 20, ground := Ground.data }, { on := 17, ground := Ground.guard }], guard := some (17, false) }) (v := ?v134) rfl (by kernel_rfl) (by kernel_rfl) (by kernel_rfl) (fun _ _ _ h => h) (Or.inl ⟨by rfl, ?hy134⟩) (by assumption) ?_
  case hy134 => intro w hSw; (try dsimp only at hSw); go_simp; (try with_reducible rfl)
  try simp only [Act.put, List.setIfInBounds_toArray, List.set_cons_zero, List.set_cons_succ]
  refine wpAnyH_take (i := 22) (oi := { dst := some 31, op := Op.move (Operand.tmp 1), type := 3, pos := "turn.go:13", after := #[{ on := 17, ground := Ground.guard }], guard := some (17, false) }) (v := ?v135) rfl (by kernel_rfl) (by kernel_rfl) (by kernel_rfl) (fun _ _ _ h => h) (Or.inl ⟨by rfl, ?hy135⟩) (by assumption) ?_
  case hy135 => intro w hSw; (try dsimp only at hSw); go_simp; (try with_reducible rfl)
  try simp only [Act.put, List.setIfInBounds_toArray, List.set_cons_zero, List.set_cons_succ]
  refine wpAnyH_take (i := 23) (oi := { dst := some 32, op := Op.move (Operand.tmp 2), type := 3, pos := "turn.go:13", after := #[{ on := 17, ground := Ground.guard }], guard := some (17, false) }) (v := ?v136) rfl (by kernel_rfl) (by kernel_rfl) (by kernel_rfl) (fun _ _ _ h => h) (Or.inl ⟨by rfl, ?hy136⟩) (by assumption) ?_
  case hy136 => intro w hSw; (try dsimp only at hSw); go_simp; (try with_reducible rfl)
  try simp only [Act.put, List.setIfInBounds_toArray, List.set_cons_zero, List.set_cons_succ]
  refine wpAnyH_take (i := 24) (oi := { dst := some 33, op := Op.load 54 (Operand.tmp 7), type := 54, pos := "turn.go:13", after := #[{ on := 17, ground := Ground.guard }], guard := some (17, false) }) (v := ?v137) rfl (by kernel_rfl) (by kernel_rfl) (by kernel_rfl) (fun _ _ _ h => h) (Or.inl ⟨by rfl, ?hy137⟩) (by assumption) ?_
  case hy137 => intro w hSw; (try dsimp only at hSw); go_simp; (try with_reducible rfl)
  try simp only [Act.put, List.setIfInBounds_toArray, List.set_cons_zero, List.set_cons_succ]
  refine wpAnyH_ready (rs := [25]) (by kernel_rfl) (by simp) ?_
  refine AllReadyH.cons (o := { dst := some 34, op := Op.call { callee := Callee.invoke (Operand.tmp 30) "SetField", args := #[Operand.tmp 31, Operand.tmp 32, Operand.tmp 33], argTypes := #[3, 3, 54] }, type := 4, pos := "turn.go:13", after := #[{ on := 21, ground := Ground.data }, { on := 22, ground := Ground.data }, { on := 23, ground := Ground.data }, { on := 24, ground := Ground.data }, { on := 17, ground := Ground.chain }, { on := 17, ground := Ground.guard }], guard := some (17, false) }) rfl (fun K hK => ?_) AllReadyH.nil
  go_simp; go_at_call 172; with_reducible refine (HSF.out u3 HS3.out).mono ?_
  rintro e u4 ⟨rfl, hL4, fg, hblk, ho4⟩
  have hS4 := HS3.out.cells_set (HOWN.out fg hblk) ho4
  have hS5 := hS4
  obtain ⟨k40, k41, -⟩ := hS5
  have HL4 := Lib.hid hL4; have HO4 := Lib.hid ho4; have HBK := Lib.hid hblk
  clear hL4 ho4 hblk
  dsimp only
  refine hK.out _ _ ?_ (fun hH4 => ?_)
  · (try dsimp only); first | exact hS4 | exact hS3 | exact hS2 | exact (St.start h).cells
  clear hK K
  clear hH3
  try simp only [Act.put, List.setIfInBounds_toArray, List.set_cons_zero, List.set_cons_succ]
  refine wpAnyH_take (i := 26) (oi := { dst := some 35, op := Op.unOp UnOp.not 4 (Operand.tmp 34), type := 4, pos := "turn.go:13", after := #[{ on := 25, ground := Ground.data }, { on := 17, ground := Ground.guard }], guard := some (17, false) }) (v := ?v139) rfl (by kernel_rfl) (by kernel_rfl) (by kernel_rfl) (fun _ _ _ h => h) (Or.inl ⟨by rfl, ?hy139⟩) (by assumption) ?_
  case hy139 => intro w hSw; (try dsimp only at hSw); go_simp; (try with_reducible rfl)
  try simp only [Act.put, List.setIfInBounds_toArray, List.set_cons_zero, List.set_cons_succ]
  refine wpAnyH_take (i := 27) (oi := { dst := some 36, op := Op.pick (Operand.tmp 26) (Operand.const (Value.bool true)) (Operand.tmp 35), type := 4, pos := "turn.go:13", after := #[{ on := 17, ground := Ground.data }, { on := 26, ground := Ground.data }], guard := none }) (v := ?v140) rfl (by kernel_rfl) (by kernel_rfl) (by kernel_rfl) (fun _ _ _ h => h) (Or.inl ⟨by rfl, ?hy140⟩) (by assumption) ?_
  case hy140 => intro w hSw; (try dsimp only at hSw); go_simp; (try with_reducible rfl)
  try simp only [Act.put, List.setIfInBounds_toArray, List.set_cons_zero, List.set_cons_succ]
  refine wpAnyH_done (by kernel_rfl) ?_ _
  have hfin := HS3.out.fin HBS.out (vb, vn) HL4.out HBK.out HO4.out
  obtain ⟨hM, hN⟩ := hfin
  have hmt := me_meet hM vn
  have HM := Lib.hid hM; have HN := Lib.hid hN
  clear hM hN
  cases vb
  · go_wp2_with fail
    go_ret
    exact ⟨rfl, HM.out, HN.out⟩
  · go_wp2_with (go_at_call 124; (with_reducible refine hmt.mono ?_); rintro e w2 ⟨rfl, rfl⟩; dsimp only)
    go_ret
    exact ⟨rfl, HM.out, HN.out⟩
end
end Go.Proofs.YtoklohfpkaiidaaGreat.Obj
