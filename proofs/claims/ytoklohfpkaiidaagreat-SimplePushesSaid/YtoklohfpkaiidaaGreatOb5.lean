/- Things in a list: a field is set: package object. -/
import Derived.Test.YtoklohfpkaiidaaGreatOb4
namespace Go.Proofs.YtoklohfpkaiidaaGreat.Obj
open Go.Proofs.YtoklohfpkaiidaaGreat.Gen Go.Proofs.YtoklohfpkaiidaaGreat.Base Go.ChangeShapes Go.WideShapes Go.ChangeAt Go.RowKit
set_option linter.unusedVariables false
theorem mem_upd {α : Type} {l : List α} {q : Nat} {a p : α} (hp : p ∈ l.set q a) : p = a ∨ ∃ q', q' ≠ q ∧ l[q']? = some p := by
  obtain ⟨k, hk⟩ := List.mem_iff_getElem?.1 hp
  rw [List.getElem?_set] at hk
  by_cases e : q = k
  · rw [if_pos e] at hk
    split at hk
    · cases hk; exact .inl rfl
    · cases hk
  · rw [if_neg e] at hk; exact .inr ⟨k, fun e' => e e'.symm, hk⟩
/-- What holds of any two holds still, where one is turned that keeps its part in it. -/
theorem pw_upd {α : Type} {R : α → α → Prop} {l : List α} {q : Nat} {a a' : α} (hR : l.Pairwise R) (hq : l[q]? = some a) (h1 : ∀ x, R a x → R a' x) (h2 : ∀ x, R x a → R x a') : (l.set q a').Pairwise R := by
  rw [List.pairwise_iff_getElem] at hR ⊢
  intro i j hi hj hij
  have hi' : i < l.length := by simpa using hi
  have hj' : j < l.length := by simpa using hj
  have hr := hR i j hi' hj' hij
  obtain ⟨hq1, hq2⟩ := List.getElem?_eq_some_iff.1 hq
  rw [List.getElem_set, List.getElem_set]
  split
  · rename_i e1
    split
    · omega
    · subst e1; exact h1 _ (by rw [← hq2]; exact hr)
  · split
    · rename_i e2; subst e2; exact h2 _ (by rw [← hq2]; exact hr)
    · exact hr
section
variable {w w' : World} {li : Nat} {lv : Value} {bs : List Bd} {q : Nat} {b : Bd}
theorem ListAt.updF (h : ListAt w li lv bs) (hq : bs[q]? = some b) {F' : List V} (hl : F'.length = b.F.length) {g : Nat} (hg : blk b.fv b.F.length = some g) (hw : ∀ k, k ≠ g → w'.heap[k]? = w.heap[k]?) (hr : RowV w' 54 2 b.fv F'.length (vals F')) : ListAt w' li lv (bs.set q { b with F := F' }) := by
  have hm := List.mem_of_getElem? hq
  have hown : b.own g := .inl hg
  have ho : ∀ k, ({ b with F := F' } : Bd).own k ↔ b.own k := fun k => by unfold Bd.own; rw [show ({ b with F := F' } : Bd).F.length = b.F.length from hl]
  have oth : ∀ p ∈ bs.set q { b with F := F' }, ∀ k, p.own k → ∃ p0 ∈ bs, p0.own k := fun p hp k hk => by
    rcases mem_upd hp with rfl | ⟨q', _, hq'⟩
    · exact ⟨b, hm, (ho k).1 hk⟩
    · exact ⟨p, List.mem_of_getElem? hq', hk⟩
  have far : ∀ q' p, bs[q']? = some p → q' ≠ q → ¬ p.own g := fun q' p hp hne hk => by
    obtain ⟨h1, e1⟩ := List.getElem?_eq_some_iff.1 hp
    obtain ⟨h2, e2⟩ := List.getElem?_eq_some_iff.1 hq
    have hs := List.pairwise_iff_getElem.1 h.ap
    rcases Nat.lt_or_ge q' q with c | c
    · have := hs q' q h1 h2 c; rw [e1, e2] at this; exact this g hk hown
    · have := hs q q' h2 h1 (by omega); rw [e1, e2] at this; exact this g hown hk
  exact
  { row := (hw li fun e => (h.n2 b hm g hown).1 e.symm).trans h.row
    ls := by
      have e : cellsB (bs.set q { b with F := F' }) = cellsB bs := flat_same Bd.cells bs q b _ hq rfl
      rw [List.length_set, e]
      exact owns_at h.ls fun k hk => hw k fun e => (h.n2 b hm g hown).2 (by rw [← e]; exact hk)
    fs := fun p hp => by
      rcases mem_upd hp with rfl | ⟨q', hne, hq'⟩
      · exact hr
      · exact (h.fs p (List.mem_of_getElem? hq')).keep fun k hk => hw k fun e => far q' p hq' hne (.inl (by rw [← e]; exact hk))
    ys := fun p hp => by
      rcases mem_upd hp with rfl | ⟨q', hne, hq'⟩
      · exact (h.ys b hm).keep fun k hk => hw k fun e => h.n6 b hm g hg (by rw [← e]; exact hk)
      · exact (h.ys p (List.mem_of_getElem? hq')).keep fun k hk => hw k fun e => far q' p hq' hne (.inr (by rw [← e]; exact hk))
    n1 := h.n1
    n2 := fun p hp k hk => by
      obtain ⟨p0, hp0, hk0⟩ := oth p hp k hk
      exact h.n2 p0 hp0 k hk0
    ap := pw_upd h.ap hq (fun x hx k hk => hx k ((ho k).1 hk)) (fun x hx k hk hk' => hx k hk ((ho k).1 hk'))
    n6 := fun p hp k hk => by
      rcases mem_upd hp with rfl | ⟨q', hne, hq'⟩
      · exact h.n6 b hm k (by rw [← hk]; show blk b.fv b.F.length = blk b.fv F'.length; rw [hl])
      · exact h.n6 p (List.mem_of_getElem? hq') k hk
    few := by rw [List.length_set]; exact h.few }
/-- A value's two cells are stored. -/
theorem row_val {fg fc : Nat} {F : List V} (h : RowV w 54 2 (.slice (some ⟨fg, 0, none⟩) F.length fc) F.length (vals F)) {k : Nat} (hk : k < F.length) (v : V) :
    RowV ((w.setCell ⟨fg, k * 2, none⟩ (.bool v.1)).setCell ⟨fg, k * 2 + 1, none⟩ (.int .i64 v.2)) 54 2 (.slice (some ⟨fg, 0, none⟩) F.length fc) F.length (vals (F.set k v)) := by
  have h1 := (h.set (k * 2) (by omega) (.bool v.1)).set (k * 2 + 1) (by omega) (.int .i64 v.2)
  have e1 := flat_set vcells 2 (fun _ => rfl) F k F[k] (v.1, F[k].2) 0 (.bool v.1) (List.getElem?_eq_getElem hk) (by omega) rfl
  have e2 := flat_set vcells 2 (fun _ => rfl) (F.set k (v.1, F[k].2)) k (v.1, F[k].2) v 1 (.int .i64 v.2) (by rw [List.getElem?_set_self hk]) (by omega) rfl
  rw [List.set_set] at e2
  have e3 : vals (F.set k v) = ((vals F).set (k * 2) (.bool v.1)).set (k * 2 + 1) (.int .i64 v.2) := by
    show (F.set k v).flatMap vcells = _
    rw [e2, e1]; rfl
  rw [e3]; exact h1
theorem setCell_alloc_past2 {fg : Nat} (h : fg < w.heap.size) (i j : Nat) (u v : Value) (o : Obj) : ((w.setCell ⟨fg, i, none⟩ u).alloc o).setCell ⟨fg, j, none⟩ v = ((w.setCell ⟨fg, i, none⟩ u).setCell ⟨fg, j, none⟩ v).alloc o := World.setCell_alloc_past _ _ _ _ (by simpa using h)
def OnlyB (g : Nat) (w w' : World) : Prop := w'.os = w.os ∧ w'.tape = w.tape ∧ w'.output = w.output ∧ w.heap.size ≤ w'.heap.size ∧ ∀ k, k < w.heap.size → k ≠ g → w'.heap[k]? = w.heap[k]?
theorem li_SetField_no (h : ListAt w li lv bs) (hq : bs[q]? = some b) (i : Int) (v : V) (hno : hasV b.F i = false) : Calls Tryz.prog 172 #[.pointer (some ⟨li, 0, none⟩), .int .i64 q, .int .i64 i, .agg (vcells v).toArray] w fun e w' => e = .returned (.bool false) ∧ Below w.heap.size w w' := by
  have c0 := h.c0
  obtain ⟨a, cap, rfl, hcap, hc⟩ := h.at
  obtain ⟨g, rfl, hcell⟩ := hc q b hq
  have hql := (List.getElem?_eq_some_iff.1 hq).1
  have hfew := h.few
  have hli : li < w.heap.size := h.lt (.inl rfl)
  have hgl : g < w.heap.size := h.lt (.inr (.inl rfl))
  have t1 : (q : Int) < (bs.length : Int) := by omega
  have t0 : (0 : Int) ≤ (q : Int) := by omega
  have k5 := (hcell 5 _ (by omega) rfl).1
  obtain ⟨fa, fc, hfv⟩ := (h.fs b (List.mem_of_getElem? hq)).slice
  rw [hfv] at k5
  obtain ⟨vb, vn⟩ := v
  have hb0 : ∀ x, Below w.heap.size w (w.alloc x) := fun x => (Below.refl _ _).alloc (Nat.le_refl _) _
  unfold vcells
  dsimp only
  clear h hc hcell hq hfv
  by_cases c1 : i < 0
  · clear hno
    go_enter Tryz.func172, Tryz.ntmps172
    go_wp2_with fail
    go_ret
    exact ⟨rfl, hb0 _⟩
  · have c2 : (b.F.length : Int) ≤ i := by unfold hasV at hno; simp at hno; omega
    clear hno
    go_enter Tryz.func172, Tryz.ntmps172
    go_wp2_with fail
    go_ret
    exact ⟨rfl, hb0 _⟩
set_option maxHeartbeats 1000000 in
theorem li_SetField (h : ListAt w li lv bs) (hq : bs[q]? = some b) (k : Nat) (v : V) (hk : k < b.F.length) : Calls Tryz.prog 172 #[.pointer (some ⟨li, 0, none⟩), .int .i64 q, .int .i64 k, .agg (vcells v).toArray] w fun e w' => e = .returned (.bool true) ∧ ListAt w' li lv (bs.set q { b with F := b.F.set k v }) ∧ ∃ fg, blk b.fv b.F.length = some fg ∧ OnlyB fg w w' := by
  have c0 := h.c0
  obtain ⟨a, cap, rfl, hcap, hc⟩ := h.at
  obtain ⟨g, rfl, hcell⟩ := hc q b hq
  have hql := (List.getElem?_eq_some_iff.1 hq).1
  have hfew := h.few
  have hli : li < w.heap.size := h.lt (.inl rfl)
  have hgl : g < w.heap.size := h.lt (.inr (.inl rfl))
  have t1 : (q : Int) < (bs.length : Int) := by omega
  have t0 : (0 : Int) ≤ (q : Int) := by omega
  have k5 := (hcell 5 _ (by omega) rfl).1
  have hm := List.mem_of_getElem? hq
  obtain ⟨fa, fc, hfv, hmx, hrow⟩ := (h.fs b hm).cells
  obtain ⟨fg, rfl, hc1, hl1⟩ := hrow (k * 2) (by omega)
  obtain ⟨fg', e, hc2, hl2⟩ := hrow (k * 2 + 1) (by omega)
  obtain rfl : fg = fg' := by simpa using e
  rw [(vals_at b.F hk).1] at hc1
  rw [(vals_at b.F hk).2] at hc2
  have hfgl : fg < w.heap.size := World.block_lt_of_cell? _ _ hc1
  have hblk : blk b.fv b.F.length = some fg := by unfold blk; rw [if_neg (by omega), hfv]; rfl
  have hn2 := h.n2 b hm fg (.inl hblk)
  have hne1 : fg ≠ li := hn2.1
  have hne2 : fg ≠ g := fun e => hn2.2 (by rw [e]; rfl)
  rw [hfv] at k5
  have H := Lib.hid h; have HQ := Lib.hid hq; have HBK := Lib.hid hblk; have HFV := Lib.hid hfv
  obtain ⟨vb, vn⟩ := v
  have t3 : (k : Int) < (b.F.length : Int) := by omega
  have t4 : (0 : Int) ≤ (k : Int) := by omega
  have hfin : ∀ x, ListAt (((w.alloc x).setCell ⟨fg, k * 2, none⟩ (.bool vb)).setCell ⟨fg, k * 2 + 1, none⟩ (.int .i64 vn)) li (.slice (some ⟨g, 0, none⟩) bs.length cap) (bs.set q { b with F := b.F.set k (vb, vn) }) ∧ OnlyB fg w (((w.alloc x).setCell ⟨fg, k * 2, none⟩ (.bool vb)).setCell ⟨fg, k * 2 + 1, none⟩ (.int .i64 vn)) := fun x => by
    have hb0 : Below w.heap.size w (w.alloc x) := (Below.refl _ _).alloc (Nat.le_refl _) _
    have hA := h.below hb0
    have hw : ∀ j, j ≠ fg → (((w.alloc x).setCell ⟨fg, k * 2, none⟩ (.bool vb)).setCell ⟨fg, k * 2 + 1, none⟩ (.int .i64 vn)).heap[j]? = (w.alloc x).heap[j]? := fun j hj => (heap_setCell_other _ _ _ _ fun e => hj e).trans (heap_setCell_other _ _ _ _ fun e => hj e)
    refine ⟨hA.updF hq (by simp) hblk hw ?_, rfl, rfl, rfl, by simp, fun j hj hne => (hw j hne).trans (heap_alloc_old _ _ hj)⟩
    have := hA.fs b hm
    rw [hfv] at this ⊢
    rw [List.length_set]
    exact row_val this hk (vb, vn)
  have c0a : ∀ x, (w.alloc x).cell? ⟨li, 0, none⟩ = some (.slice (some ⟨g, 0, none⟩) bs.length cap) := fun x => (World.cell?_alloc_lt w x _ hli).trans c0
  have k5a : ∀ x, (w.alloc x).cell? ⟨g, q * 7 + 5, none⟩ = some (.slice (some ⟨fg, 0, none⟩) b.F.length fc) := fun x => (World.cell?_alloc_lt w x _ hgl).trans k5
  have HFIN := Lib.hid hfin
  unfold vcells
  dsimp only
  clear h hc hcell hq hfv hrow hm hn2 hblk e hfin
  go_enter Tryz.func172, Tryz.ntmps172
  go_upto_region 4 with fail
  refine wp_region_held_drew (S := (fun w' => True)) (by kernel_rfl) ?_ (fun hH0 => ?_)
  · (try dsimp only); (first | done | trivial)
  refine wpAnyH_take (i := 0) (oi := { dst := some 27, op := Op.move (Operand.tmp 9), type := 182, pos := "space.go:66", after := #[], guard := none }) (v := ?v1) rfl (by kernel_rfl) (by kernel_rfl) (by kernel_rfl) (fun _ _ _ h => h) (Or.inl ⟨by rfl, ?hy1⟩) (by assumption) ?_
  case hy1 => intro w hSw; (try dsimp only at hSw); go_simp; (try with_reducible rfl)
  try simp only [Act.put, List.setIfInBounds_toArray, List.set_cons_zero, List.set_cons_succ]
  refine wpAnyH_take (i := 1) (oi := { dst := some 28, op := Op.nilCheck (Operand.tmp 27), type := 0, pos := "space.go:66", after := #[{ on := 0, ground := Ground.data }], guard := none }) (v := ?v2) rfl (by kernel_rfl) (by kernel_rfl) (by kernel_rfl) (fun _ _ _ h => h) (Or.inl ⟨by rfl, ?hy2⟩) (by assumption) ?_
  case hy2 => intro w hSw; (try dsimp only at hSw); go_simp; (try with_reducible rfl)
  try simp only [Act.put, List.setIfInBounds_toArray, List.set_cons_zero, List.set_cons_succ]
  refine wpAnyH_take (i := 2) (oi := { dst := some 29, op := Op.fieldAddr 110 (Operand.tmp 28) 5, type := 0, pos := "space.go:66", after := #[{ on := 1, ground := Ground.data }], guard := none }) (v := ?v3) rfl (by kernel_rfl) (by kernel_rfl) (by kernel_rfl) (fun _ _ _ h => h) (Or.inl ⟨by rfl, ?hy3⟩) (by assumption) ?_
  case hy3 => intro w hSw; (try dsimp only at hSw); go_simp; (try with_reducible rfl)
  try simp only [Act.put, List.setIfInBounds_toArray, List.set_cons_zero, List.set_cons_succ]
  refine wpAnyH_take (i := 4) (oi := { dst := some 31, op := Op.move (Operand.tmp 2), type := 3, pos := "space.go:66", after := #[], guard := none }) (v := ?v4) rfl (by kernel_rfl) (by kernel_rfl) (by kernel_rfl) (fun _ _ _ h => h) (Or.inl ⟨by rfl, ?hy4⟩) (by assumption) ?_
  case hy4 => intro w hSw; (try dsimp only at hSw); go_simp; (try with_reducible rfl)
  try simp only [Act.put, List.setIfInBounds_toArray, List.set_cons_zero, List.set_cons_succ]
  refine wpAnyH_ready (rs := [3, 5]) (by kernel_rfl) (by simp) ?_
  refine (AllReadyH.cons (o := { dst := some 30, op := Op.load 56 (Operand.tmp 29), type := 56, pos := "space.go:66", after := #[{ on := 2, ground := Ground.data }], guard := none }) rfl (fun K hK => ?_) (AllReadyH.cons (o := { dst := some 32, op := Op.load 54 (Operand.tmp 7), type := 54, pos := "space.go:66", after := #[], guard := none }) rfl (fun K hK => ?_) AllReadyH.nil))
  · go_simp
    refine hK.out _ _ ?_ (fun hH1 => ?_)
    · (try dsimp only); (first | done | trivial)
    clear hK K
    clear hH0
    try simp only [Act.put, List.setIfInBounds_toArray, List.set_cons_zero, List.set_cons_succ]
    refine wpAnyH_ready (rs := [5]) (by kernel_rfl) (by simp) ?_
    refine (AllReadyH.cons (o := { dst := some 32, op := Op.load 54 (Operand.tmp 7), type := 54, pos := "space.go:66", after := #[], guard := none }) rfl (fun K hK => ?_) AllReadyH.nil)
    go_simp
    refine hK.out _ _ ?_ (fun hH2 => ?_)
    · (try dsimp only); (first | done | trivial)
    clear hK K
    clear hH1
    try simp only [Act.put, List.setIfInBounds_toArray, List.set_cons_zero, List.set_cons_succ]
    refine wpAnyH_take (i := 6) (oi := { dst := some 33, op := Op.indexAddr 56 (Operand.tmp 30) (Operand.tmp 31), type := 0, pos := "space.go:66", after := #[{ on := 3, ground := Ground.data }, { on := 4, ground := Ground.data }, { on := 0, ground := Ground.phase }, { on := 1, ground := Ground.phase }, { on := 2, ground := Ground.phase }, { on := 3, ground := Ground.phase }, { on := 4, ground := Ground.phase }, { on := 5, ground := Ground.phase }], guard := none }) (v := ?v5) rfl (by kernel_rfl) (by kernel_rfl) (by kernel_rfl) (fun _ _ _ h => h) (Or.inl ⟨by rfl, ?hy5⟩) (by assumption) ?_
    case hy5 => intro w hSw; (try dsimp only at hSw); go_simp; (try with_reducible rfl)
    try simp only [Act.put, List.setIfInBounds_toArray, List.set_cons_zero, List.set_cons_succ]
    refine wpAnyH_ready (rs := [7]) (by kernel_rfl) (by simp) ?_
    refine (AllReadyH.cons (o := { dst := none, op := Op.store 54 (Operand.tmp 33) (Operand.tmp 32), type := 0, pos := "space.go:66", after := #[{ on := 6, ground := Ground.data }, { on := 5, ground := Ground.data }, { on := 0, ground := Ground.phase }, { on := 1, ground := Ground.phase }, { on := 2, ground := Ground.phase }, { on := 3, ground := Ground.phase }, { on := 4, ground := Ground.phase }, { on := 5, ground := Ground.phase }], guard := none }) rfl (fun K hK => ?_) AllReadyH.nil)
    go_simp
    refine hK.out _ _ ?_ (fun hH3 => ?_)
    · (try dsimp only); (first | done | trivial)
    clear hK K
    clear hH2
    try simp only [Act.put, List.setIfInBounds_toArray, List.set_cons_zero, List.set_cons_succ]
    refine wpAnyH_done (by kernel_rfl) ?_ _
    go_wp2_with fail
    go_ret
    have hsw := HFIN.out
    simp only [World.setCell_alloc_past _ _ _ _ hfgl, setCell_alloc_past2 hfgl] at hsw
    have hsx := hsw (.cells #[.bool vb, .int .i64 vn] 54)
    exact ⟨rfl, hsx.1.keep fun _ _ => rfl, fg, HBK.out, hsx.2⟩
  · go_simp
    refine hK.out _ _ ?_ (fun hH1 => ?_)
    · (try dsimp only); (first | done | trivial)
    clear hK K
    clear hH0
    try simp only [Act.put, List.setIfInBounds_toArray, List.set_cons_zero, List.set_cons_succ]
    refine wpAnyH_ready (rs := [3]) (by kernel_rfl) (by simp) ?_
    refine (AllReadyH.cons (o := { dst := some 30, op := Op.load 56 (Operand.tmp 29), type := 56, pos := "space.go:66", after := #[{ on := 2, ground := Ground.data }], guard := none }) rfl (fun K hK => ?_) AllReadyH.nil)
    go_simp
    refine hK.out _ _ ?_ (fun hH2 => ?_)
    · (try dsimp only); (first | done | trivial)
    clear hK K
    clear hH1
    try simp only [Act.put, List.setIfInBounds_toArray, List.set_cons_zero, List.set_cons_succ]
    refine wpAnyH_take (i := 6) (oi := { dst := some 33, op := Op.indexAddr 56 (Operand.tmp 30) (Operand.tmp 31), type := 0, pos := "space.go:66", after := #[{ on := 3, ground := Ground.data }, { on := 4, ground := Ground.data }, { on := 0, ground := Ground.phase }, { on := 1, ground := Ground.phase }, { on := 2, ground := Ground.phase }, { on := 3, ground := Ground.phase }, { on := 4, ground := Ground.phase }, { on := 5, ground := Ground.phase }], guard := none }) (v := ?v6) rfl (by kernel_rfl) (by kernel_rfl) (by kernel_rfl) (fun _ _ _ h => h) (Or.inl ⟨by rfl, ?hy6⟩) (by assumption) ?_
    case hy6 => intro w hSw; (try dsimp only at hSw); go_simp; (try with_reducible rfl)
    try simp only [Act.put, List.setIfInBounds_toArray, List.set_cons_zero, List.set_cons_succ]
    refine wpAnyH_ready (rs := [7]) (by kernel_rfl) (by simp) ?_
    refine (AllReadyH.cons (o := { dst := none, op := Op.store 54 (Operand.tmp 33) (Operand.tmp 32), type := 0, pos := "space.go:66", after := #[{ on := 6, ground := Ground.data }, { on := 5, ground := Ground.data }, { on := 0, ground := Ground.phase }, { on := 1, ground := Ground.phase }, { on := 2, ground := Ground.phase }, { on := 3, ground := Ground.phase }, { on := 4, ground := Ground.phase }, { on := 5, ground := Ground.phase }], guard := none }) rfl (fun K hK => ?_) AllReadyH.nil)
    go_simp
    refine hK.out _ _ ?_ (fun hH3 => ?_)
    · (try dsimp only); (first | done | trivial)
    clear hK K
    clear hH2
    try simp only [Act.put, List.setIfInBounds_toArray, List.set_cons_zero, List.set_cons_succ]
    refine wpAnyH_done (by kernel_rfl) ?_ _
    go_wp2_with fail
    go_ret
    have hsw := HFIN.out
    simp only [World.setCell_alloc_past _ _ _ _ hfgl, setCell_alloc_past2 hfgl] at hsw
    have hsx := hsw (.cells #[.bool vb, .int .i64 vn] 54)
    exact ⟨rfl, hsx.1.keep fun _ _ => rfl, fg, HBK.out, hsx.2⟩
end
end Go.Proofs.YtoklohfpkaiidaaGreat.Obj
