/- A world that is turned, in memory: package object. -/
import Derived.Test.YtoklohfpkaiidaaGreatOb2
namespace Go.Proofs.YtoklohfpkaiidaaGreat.Obj
open Go.Proofs.YtoklohfpkaiidaaGreat.Gen Go.Proofs.YtoklohfpkaiidaaGreat.Base Go.ChangeShapes Go.WideShapes Go.ChangeAt Go.RowKit
set_option linter.unusedVariables false
/-- What a world that is turned holds. -/
structure MS where
  bs : List Bd
  dead : List Bool
  laid : Bool
  last : Int
  rg : List Value
  phase : Int
  stk : Value
  sw : Value
  short : Bool
def MS.cells (li : Nat) (dv : Value) (M : MS) : List Value := [.iface 72 (.pointer (some ⟨li, 0, none⟩)), dv, .bool M.laid, .int .i64 M.last] ++ M.rg ++ [.int .i64 M.phase, M.stk, M.sw, .bool M.short]
def bools (l : List Bool) : List Value := l.map Value.bool
structure MemAt (w : World) (m li : Nat) (lv dv : Value) (M : MS) : Prop where
  row : w.heap[m]? = some (.cells (M.cells li dv).toArray 78 (0, 0))
  rg : M.rg.length = 10
  ds : w.ownsRow 0 4 1 dv M.dead.length (bools M.dead)
  list : ListAt w li lv M.bs
  len : M.dead.length = M.bs.length
  n1 : m ≠ li
  n2 : lv.ownBlock ≠ some m
  n3 : ∀ b ∈ M.bs, ¬ b.own m
  n4 : ∀ k, dv.ownBlock = some k → k ≠ m ∧ ¬ ownL li lv M.bs k
  few : ∀ b ∈ M.bs, b.F.length ≤ 100000 ∧ b.B.length ≤ 100000
  byt : ∀ b ∈ M.bs, ∀ v ∈ b.B, 0 ≤ v ∧ v ≤ 255
  idl : M.phase = 0
def ownM (m li : Nat) (lv dv : Value) (M : MS) (k : Nat) : Prop := k = m ∨ dv.ownBlock = some k ∨ ownL li lv M.bs k
/-- Is there such a thing, not dead? -/
def MS.has (M : MS) (id : Int) : Bool := decide (0 ≤ id ∧ id < M.dead.length) && !(M.dead[id.toNat]?.getD true)
def noB : Bd := ⟨0, 0, 0, 0, false, .slice none 0 0, [], .slice none 0 0, []⟩
def MS.at (M : MS) (id : Int) : Bd := M.bs[id.toNat]?.getD noB
def MS.get (M : MS) (id i : Int) : V := if M.has id then elV (M.at id).F i else (false, 0)
def MS.fmt (M : MS) (id : Int) : Int := if M.has id then (M.at id).fmt else 0
def MS.size (M : MS) (id : Int) : Int := if M.has id then ((M.at id).F.length : Int) + (M.at id).B.length else -1
def MS.byte (M : MS) (id i : Int) : Int := if M.has id then elB (M.at id).B i else -1
def shapes (s f : V) : Bool := !s.1 && !f.1 && decide (0 ≤ s.2 ∧ s.2 ≤ 60 ∧ 1 ≤ f.2 ∧ f.2 ≤ 3)
def MS.isClass (M : MS) (id : Int) : Bool := decide (M.fmt id = 1 ∧ 5 ≤ M.size id) && shapes (M.get id 3) (M.get id 4)
def fits (v : Int) : Bool := decide (-536870912 ≤ v ∧ v < 536870912)
def MS.may (M : MS) (v : V) : Bool := if v.1 then M.has v.2 else fits v.2
section
variable {w w' : World} {m li : Nat} {lv dv : Value} {M : MS}
theorem MemAt.lt (h : MemAt w m li lv dv M) {k : Nat} (hk : ownM m li lv dv M k) : k < w.heap.size := by
  rcases hk with rfl | e | e
  · exact (Array.getElem?_eq_some_iff.1 h.row).1
  · exact (h.ds.lt k e).2
  · exact h.list.lt e
theorem MemAt.keep (h : MemAt w m li lv dv M) (hb : ∀ k, ownM m li lv dv M k → w'.heap[k]? = w.heap[k]?) : MemAt w' m li lv dv M :=
  { h with
    row := (hb m (.inl rfl)).trans h.row
    ds := owns_at h.ds fun k hk => hb k (.inr (.inl hk))
    list := h.list.keep fun k hk => hb k (.inr (.inr hk)) }
theorem MemAt.below (h : MemAt w m li lv dv M) (hb : Below w.heap.size w w') : MemAt w' m li lv dv M := h.keep fun k hk => hb.block k (h.lt hk)
theorem MemAt.cell (h : MemAt w m li lv dv M) {j : Nat} {v : Value} (hv : (M.cells li dv)[j]? = some v) : w.cell? ⟨m, j, none⟩ = some v := by rw [cell_row w m j _ _ _ h.row]; simpa using hv
theorem MemAt.c0 (h : MemAt w m li lv dv M) : w.cell? ⟨m, 0, none⟩ = some (.iface 72 (.pointer (some ⟨li, 0, none⟩))) := h.cell rfl
theorem MemAt.c1 (h : MemAt w m li lv dv M) : w.cell? ⟨m, 1, none⟩ = some dv := h.cell rfl
theorem MemAt.c3 (h : MemAt w m li lv dv M) : w.cell? ⟨m, 3, none⟩ = some (.int .i64 M.last) := h.cell rfl
theorem MemAt.c14 (h : MemAt w m li lv dv M) : w.cell? ⟨m, 14, none⟩ = some (.int .i64 0) := by
  refine h.cell ?_
  have := h.rg
  unfold MS.cells
  rw [List.append_assoc, List.getElem?_append_right (by simp), List.getElem?_append_right (by simp [this]), h.idl]
  simp [this]
theorem own_bools {l : List Bool} {v : Value} (h : w.ownsRow 0 4 1 v l.length (bools l)) : ∃ a cap, v = .slice a l.length cap ∧ l.length ≤ cap ∧ ∀ i, i < l.length → ∃ g, a = some ⟨g, 0, none⟩ ∧ w.cell? ⟨g, i, none⟩ = some (.bool (l[i]?.getD true)) := by
  obtain ⟨hx, ⟨h1, h2⟩ | ⟨g, cap, cur, h3, h4, h5, h6, h7, h8, h9⟩⟩ := h
  · exact ⟨none, 0, by rw [h1, h2], by omega, fun i hi => by omega⟩
  · refine ⟨_, cap, h3, h6, fun i hi => ⟨g, rfl, ?_⟩⟩
    have hu : (bools l)[i]? = some (.bool (l[i]?.getD true)) := by simp [bools, hi]
    rw [cell_row w g i _ _ _ h5]
    rw [← h9, List.getElem?_take, if_pos (show i < l.length * 1 by omega)] at hu
    simpa using hu
theorem MS.hasN (h : MemAt w m li lv dv M) {id : Int} (hh : M.has id = true) : ∃ (q : Nat) (b : Bd), id = q ∧ q < M.dead.length ∧ M.bs[q]? = some b ∧ M.at id = b := by
  unfold MS.has at hh
  simp only [Bool.and_eq_true, decide_eq_true_eq] at hh
  have hl := h.len
  obtain ⟨q, rfl⟩ := Int.eq_ofNat_of_zero_le hh.1.1
  have hq : q < M.bs.length := by omega
  exact ⟨q, M.bs[q], rfl, by omega, List.getElem?_eq_getElem hq, by unfold MS.at; rw [Int.toNat_natCast, List.getElem?_eq_getElem hq]; rfl⟩
/-- A zero value in new memory, some calls later. -/
theorem zero_val {w3 : World} {t : TypeId} (hb : Below (w.alloc (.cells #[.bool false, .int .i64 0] t)).heap.size (w.alloc (.cells #[.bool false, .int .i64 0] t)) w3) : w3.cell? ⟨w.heap.size, 0, none⟩ = some (.bool false) ∧ w3.cell? ⟨w.heap.size, 1, none⟩ = some (.int .i64 0) ∧ w3.frozen? ⟨w.heap.size, 0, none⟩ = false ∧ w3.frozen? ⟨w.heap.size, 1, none⟩ = false ∧ w.heap.size < w3.heap.size := by
  have hr := (hb.block w.heap.size (by simp)).trans (heap_alloc_new w _)
  exact ⟨by rw [cell_row _ _ _ _ _ _ hr]; rfl, by rw [cell_row _ _ _ _ _ _ hr]; rfl, live_row _ _ _ _ _ hr, live_row _ _ _ _ _ hr, (Array.getElem?_eq_some_iff.1 hr).1⟩
theorem set2 {u w3 : World} (hb0 : Below w.heap.size w u) (hb3 : Below u.heap.size u w3) (a b : Value) (o : Obj) : Below w.heap.size w (((w3.setCell ⟨w.heap.size, 0, none⟩ a).setCell ⟨w.heap.size, 1, none⟩ b).alloc o) := by
  have h1 := hb0.trans (hb3.mono hb0.size)
  have h2 := (h1.setCell (p := ⟨w.heap.size, 0, none⟩) (Nat.le_refl _) a).setCell (p := ⟨w.heap.size, 1, none⟩) (Nat.le_refl _) b
  exact h2.alloc h2.size o
theorem me_Has (h : MemAt w m li lv dv M) (id : Int) : Calls Tryz.prog 39 #[.pointer (some ⟨m, 0, none⟩), .int .i64 id] w fun e w' => e = .returned (.bool (M.has id)) ∧ w = w' := by
  have c1 := h.c1
  obtain ⟨a, cap, rfl, hcap, hc⟩ := own_bools h.ds
  by_cases k0 : 0 ≤ id
  · obtain ⟨q, rfl⟩ := Int.eq_ofNat_of_zero_le k0
    by_cases k1 : q < M.dead.length
    · obtain ⟨g, rfl, hcell⟩ := hc q k1
      have e : M.has (q : Int) = !(M.dead[q]?.getD true) := by unfold MS.has; rw [Int.toNat_natCast, decide_eq_true (by omega)]; rfl
      rw [e]
      have t1 : (q : Int) < (M.dead.length : Int) := by omega
      clear h hc e
      generalize M.dead[q]?.getD true = B at *
      cases B
      all_goals
        go_enter Tryz.func39, Tryz.ntmps39
        go_wp2_with fail
        go_ret
        exact ⟨rfl, rfl⟩
    · have e : M.has (q : Int) = false := by unfold MS.has; rw [decide_eq_false (by omega)]; rfl
      rw [e]
      have t1 : ¬ (q : Int) < (M.dead.length : Int) := by omega
      clear h hc e
      go_enter Tryz.func39, Tryz.ntmps39
      go_wp2_with fail
      go_ret
      exact ⟨rfl, rfl⟩
  · have e : M.has id = false := by unfold MS.has; rw [decide_eq_false (by omega)]; rfl
    rw [e]
    clear h hc e
    go_enter Tryz.func39, Tryz.ntmps39
    go_wp2_with fail
    go_ret
    exact ⟨rfl, rfl⟩
theorem me_Fmt (h : MemAt w m li lv dv M) (id : Int) : Calls Tryz.prog 86 #[.pointer (some ⟨m, 0, none⟩), .int .i64 id] w fun e w' => e = .returned (.int .i64 (M.fmt id)) ∧ w = w' := by
  have hh := me_Has h id
  have c0 := h.c0
  unfold MS.fmt
  cases hb : M.has id
  · rw [hb] at hh
    clear h hb
    go_enter Tryz.func86, Tryz.ntmps86
    go_wp2_with (go_at_call 39; (with_reducible refine hh.mono ?_); rintro e w2 ⟨rfl, rfl⟩; dsimp only)
    go_ret
    exact ⟨rfl, rfl⟩
  · obtain ⟨q, b, rfl, hq, hbs, hat⟩ := MS.hasN h hb
    rw [hb] at hh
    rw [hat]
    have hm := List.mem_of_getElem? hbs
    have hl := li_Fmt h.list hbs
    clear h hb hq hbs hat hm
    go_enter Tryz.func86, Tryz.ntmps86
    go_wp2_with (first | (go_at_call 39; (with_reducible refine hh.mono ?_); rintro e w2 ⟨rfl, rfl⟩; dsimp only) | (go_at_call 167; (with_reducible refine hl.mono ?_); rintro e w3 ⟨rfl, rfl⟩; dsimp only))
    go_ret
    exact ⟨rfl, rfl⟩
theorem me_Size (h : MemAt w m li lv dv M) (id : Int) : Calls Tryz.prog 87 #[.pointer (some ⟨m, 0, none⟩), .int .i64 id] w fun e w' => e = .returned (.int .i64 (M.size id)) ∧ Below w.heap.size w w' := by
  have hh := me_Has h id
  have c0 := h.c0
  unfold MS.size
  cases hb : M.has id
  · rw [hb] at hh
    clear h hb
    go_enter Tryz.func87, Tryz.ntmps87
    go_wp2_with (go_at_call 39; (with_reducible refine hh.mono ?_); rintro e w2 ⟨rfl, rfl⟩; dsimp only)
    go_ret
    exact ⟨rfl, Below.refl _ _⟩
  · obtain ⟨q, b, rfl, hq, hbs, hat⟩ := MS.hasN h hb
    rw [hb] at hh
    rw [hat]
    have hm := List.mem_of_getElem? hbs
    have hl := li_Size h.list hbs (h.few b hm)
    clear h hb hq hbs hat hm
    go_enter Tryz.func87, Tryz.ntmps87
    go_wp2_with (first | (go_at_call 39; (with_reducible refine hh.mono ?_); rintro e w2 ⟨rfl, rfl⟩; dsimp only) | (go_at_call 174; (with_reducible refine hl.mono ?_); rintro e w3 ⟨rfl, hb3⟩; dsimp only))
    go_ret
    exact ⟨rfl, hb3⟩
theorem me_Byte (h : MemAt w m li lv dv M) (id i : Int) : Calls Tryz.prog 157 #[.pointer (some ⟨m, 0, none⟩), .int .i64 id, .int .i64 i] w fun e w' => e = .returned (.int .i64 (M.byte id i)) ∧ w = w' := by
  have hh := me_Has h id
  have c0 := h.c0
  unfold MS.byte
  cases hb : M.has id
  · rw [hb] at hh
    clear h hb
    go_enter Tryz.func157, Tryz.ntmps157
    go_wp2_with (go_at_call 39; (with_reducible refine hh.mono ?_); rintro e w2 ⟨rfl, rfl⟩; dsimp only)
    go_ret
    exact ⟨rfl, rfl⟩
  · obtain ⟨q, b, rfl, hq, hbs, hat⟩ := MS.hasN h hb
    rw [hb] at hh
    rw [hat]
    have hm := List.mem_of_getElem? hbs
    have hl := li_Byte h.list hbs (h.byt b hm) i
    clear h hb hq hbs hat hm
    go_enter Tryz.func157, Tryz.ntmps157
    go_wp2_with (first | (go_at_call 39; (with_reducible refine hh.mono ?_); rintro e w2 ⟨rfl, rfl⟩; dsimp only) | (go_at_call 163; (with_reducible refine hl.mono ?_); rintro e w3 ⟨rfl, rfl⟩; dsimp only))
    go_ret
    exact ⟨rfl, rfl⟩
theorem me_Get (h : MemAt w m li lv dv M) (id i : Int) : Calls Tryz.prog 24 #[.pointer (some ⟨m, 0, none⟩), .int .i64 id, .int .i64 i] w fun e w' => e = .returned (.agg (vcells (M.get id i)).toArray) ∧ Below w.heap.size w w' := by
  have hb0 : Below w.heap.size w (w.alloc (.cells #[.bool false, .int .i64 0] 54)) := (Below.refl _ _).alloc (Nat.le_refl _) _
  have hA := h.below hb0
  have hh := me_Has hA id
  have c0 := hA.c0
  have hzv : ∀ u, Sem.run Tryz.prog (zeroValue 54) u = .ok (.agg #[.bool false, .int .i64 0]) u := fun u => by kernel_rfl
  unfold MS.get
  cases hb : M.has id
  · rw [hb] at hh
    clear h hb hA
    go_enter Tryz.func24, Tryz.ntmps24
    go_wp2_with (go_at_call 39; (with_reducible refine hh.mono ?_); rintro e w2 ⟨rfl, rfl⟩; dsimp only)
    exact bodyPost_ret (v := .agg #[.bool false, .int .i64 0]) (by simp [results, Tryz.results24, go_sem]) rfl ⟨rfl, hb0⟩
  · obtain ⟨q, b, rfl, hq, hbs, hat⟩ := MS.hasN hA hb
    rw [hb] at hh
    rw [hat]
    have hl := li_Field hA.list hbs i
    generalize elV b.F i = p at *
    generalize hasV b.F i = ok at *
    obtain ⟨pb, pn⟩ := p
    simp only [vcells] at hl ⊢
    clear h hb hq hbs hat hA
    go_enter Tryz.func24, Tryz.ntmps24
    go_wp2_with (first | (go_at_call 39; (with_reducible refine hh.mono ?_); rintro e w2 ⟨rfl, rfl⟩; dsimp only) | (go_at_call 166; (with_reducible refine hl.mono ?_); rintro e w3 ⟨rfl, hb3⟩; have hz3 := zero_val hb3; obtain ⟨q0, q1, f0, f1, hlt⟩ := hz3; dsimp only))
    exact bodyPost_ret (v := .agg #[.bool pb, .int .i64 pn]) (by simp [results, Tryz.results24, go_sem, hlt, q0, q1]) rfl ⟨rfl, set2 hb0 hb3 _ _ _⟩
end
end Go.Proofs.YtoklohfpkaiidaaGreat.Obj
