/- Worlds that are read: package image. -/
import Derived.Test.YtoklohfpkaiidaaGreatOb4
namespace Go.Proofs.YtoklohfpkaiidaaGreat.Obj
open Go.Proofs.YtoklohfpkaiidaaGreat.Gen Go.Proofs.YtoklohfpkaiidaaGreat.Base Go.ChangeShapes Go.WideShapes Go.ChangeAt Go.RowKit
set_option linter.unusedVariables false
/-- A thing of a world. -/
structure Th where
  cls : Int
  fmt : Int
  hash : Int
  fin : Bool
  fv : Value
  F : List V
  B : ByteArray
def Th.cells (t : Th) : List Value := [.int .i64 t.cls, .int .i64 t.fmt, .int .i64 t.hash, .bool t.fin, t.fv, .string t.B]
/-- A row that is read. -/
def RowR (w : World) (s : Nat) (v : Value) (n : Nat) (xs : List Value) : Prop :=
  xs.length = n * s ∧ ∃ a c, v = .slice a n c ∧ n ≤ c ∧ (c : Int) ≤ 9223372036854775807 ∧ ∀ j, j < n * s → ∃ b o, a = some ⟨b, o, none⟩ ∧ w.cell? ⟨b, o + j, none⟩ = xs[j]?
section
variable {w w' : World} {s n : Nat} {v : Value} {xs : List Value}
theorem RowR.below (h : RowR w s v n xs) (hb : Below w.heap.size w w') : RowR w' s v n xs := by
  obtain ⟨hx, a, c, h1, h2, h3, h4⟩ := h
  refine ⟨hx, a, c, h1, h2, h3, fun j hj => ?_⟩
  obtain ⟨b, o, e, hc⟩ := h4 j hj
  have hs : (xs[j]?).isSome := by rw [List.getElem?_eq_getElem (by omega)]; rfl
  obtain ⟨u, hu⟩ := Option.isSome_iff_exists.1 hs
  rw [hu] at hc
  exact ⟨b, o, e, by rw [hb.cell (p := ⟨b, o + j, none⟩) (World.block_lt_of_cell? _ _ hc), hc, hu]⟩
theorem RowR.slice (h : RowR w s v n xs) : ∃ a c, v = .slice a n c := by obtain ⟨_, a, c, e, _⟩ := h; exact ⟨a, c, e⟩
end
structure LAt (w : World) (lv : Value) (L : List Th) : Prop where
  row : RowR w 6 lv L.length (L.flatMap Th.cells)
  fs : ∀ t ∈ L, RowR w 2 t.fv t.F.length (vals t.F)
theorem LAt.below {w w' : World} {lv : Value} {L : List Th} (h : LAt w lv L) (hb : Below w.heap.size w w') : LAt w' lv L := ⟨h.row.below hb, fun t ht => (h.fs t ht).below hb⟩
theorem Th.at (L : List Th) : ∀ q t, L[q]? = some t → ∀ j, j < 6 → (L.flatMap Th.cells)[q * 6 + j]? = t.cells[j]? := flat_at Th.cells 6 (fun _ => rfl) L
/-- Where a world's things lie. -/
theorem LAt.at {w : World} {lv : Value} {L : List Th} (h : LAt w lv L) : ∃ a c, lv = .slice a L.length c ∧ L.length ≤ c ∧ (c : Int) ≤ 9223372036854775807 ∧ ∀ q t, L[q]? = some t → ∃ b o, a = some ⟨b, o, none⟩ ∧ w.rangeAt b (o + q * 6) t.cells ∧ b < w.heap.size := by
  obtain ⟨hx, a, c, h1, h2, h3, h4⟩ := h.row
  refine ⟨a, c, h1, h2, h3, fun q t hq => ?_⟩
  have hl := (List.getElem?_eq_some_iff.1 hq).1
  obtain ⟨b, o, e, hc0⟩ := h4 (q * 6) (by omega)
  have key : ∀ j u, j < 6 → t.cells[j]? = some u → w.cell? ⟨b, o + q * 6 + j, none⟩ = some u := fun j u hj hu => by
    obtain ⟨b', o', e', hc⟩ := h4 (q * 6 + j) (by omega)
    rw [e] at e'
    simp only [Option.some.injEq, Addr.mk.injEq, and_true] at e'
    obtain ⟨rfl, rfl⟩ := e'
    rw [Nat.add_assoc, hc, Th.at L q t hq j hj, hu]
  refine ⟨b, o, e, fun j u hu => key j u (by have := (List.getElem?_eq_some_iff.1 hu).1; simpa [Th.cells] using this) hu, ?_⟩
  exact World.block_lt_of_cell? _ _ (key 0 _ (by omega) rfl)
/-- Where a thing's values lie. -/
theorem RowR.val {w : World} {v : Value} {F : List V} (h : RowR w 2 v F.length (vals F)) : ∃ a c, v = .slice a F.length c ∧ F.length ≤ c ∧ (c : Int) ≤ 9223372036854775807 ∧ ∀ k (hk : k < F.length), ∃ b o, a = some ⟨b, o, none⟩ ∧ w.cell? ⟨b, o + k * 2, none⟩ = some (.bool F[k].1) ∧ w.cell? ⟨b, o + k * 2 + 1, none⟩ = some (.int .i64 F[k].2) := by
  obtain ⟨hx, a, c, h1, h2, h3, h4⟩ := h
  refine ⟨a, c, h1, h2, h3, fun k hk => ?_⟩
  obtain ⟨b, o, e, hc⟩ := h4 (k * 2) (by omega)
  obtain ⟨b', o', e', hc'⟩ := h4 (k * 2 + 1) (by omega)
  rw [e] at e'
  simp only [Option.some.injEq, Addr.mk.injEq, and_true] at e'
  obtain ⟨rfl, rfl⟩ := e'
  rw [(vals_at F hk).1] at hc
  rw [(vals_at F hk).2] at hc'
  exact ⟨b, o, e, hc, by rw [Nat.add_assoc]; exact hc'⟩
def okV (n : Int) (v : V) : Bool := if v.1 then decide (0 ≤ v.2 ∧ v.2 < n) else fits v.2
theorem im_isValue (v : V) (n : Int) (hv : okV n v = true) (w : World) : Calls Tryz.prog 97 #[.agg #[.bool v.1, .int .i64 v.2], .int .i64 n] w fun e w' => e = .returned (.bool true) ∧ Below w.heap.size w w' := by
  have hb : ∀ x, Below w.heap.size w (w.alloc x) := fun x => (Below.refl _ _).alloc (Nat.le_refl _) _
  obtain ⟨vb, vn⟩ := v
  unfold okV at hv
  have hf := fun u => wd_Fits vn u
  cases vb
  · have hv : fits vn = true := by simpa using hv
    rw [hv] at hf
    clear hv
    dsimp only
    go_enter Tryz.func97, Tryz.ntmps97
    go_wp2_with (go_at_call 126; (with_reducible refine (hf _).mono ?_); rintro e w2 ⟨rfl, rfl⟩; dsimp only)
    go_ret
    exact ⟨rfl, hb _⟩
  · have hv : 0 ≤ vn ∧ vn < n := by simpa using hv
    obtain ⟨v0, v1⟩ := hv
    have d1 : decide (vn < n) = true := by simpa using v1
    clear hf
    dsimp only
    go_enter Tryz.func97, Tryz.ntmps97
    go_wp2_with fail
    go_ret
    exact ⟨rfl, hb _⟩
theorem im_lit (v : V) (n : Int) (cb : Nat) (hv : okV n v = true) (w : World) (hc : w.cell? ⟨cb, 0, none⟩ = some (.int .i64 n)) : Calls Tryz.prog 96 #[.agg #[.bool v.1, .int .i64 v.2], .pointer (some ⟨cb, 0, none⟩)] w fun e w' => e = .returned (.bool false) ∧ Below w.heap.size w w' := by
  have hb : ∀ x, Below w.heap.size w (w.alloc x) := fun x => (Below.refl _ _).alloc (Nat.le_refl _) _
  have hcb : cb < w.heap.size := World.block_lt_of_cell? _ _ hc
  have hi := fun u => im_isValue v n hv u
  obtain ⟨vb, vn⟩ := v
  dsimp only at hi ⊢
  clear hv
  go_enter Tryz.func96, Tryz.ntmps96
  go_wp2_with (go_at_call 97; (with_reducible refine (hi _).mono ?_); rintro e u2 ⟨rfl, hb2⟩; dsimp only)
  go_ret
  exact ⟨rfl, (hb _).trans (hb2.mono (by simp))⟩
set_option maxHeartbeats 1000000 in
theorem sl_Index (cb : Nat) (n : Int) (fv : Value) (F : List V) (hF : ∀ v ∈ F, okV n v = true) (w : World) (hc : w.cell? ⟨cb, 0, none⟩ = some (.int .i64 n)) (hr : RowR w 2 fv F.length (vals F)) :
    Calls Tryz.prog 127 #[fv, .func (.func 96) #[] #[.pointer (some ⟨cb, 0, none⟩)]] w fun e w' => e = .returned (.int .i64 (-1)) ∧ Below w.heap.size w w' := by
  obtain ⟨a, c, rfl, hlc, hcm, hcell⟩ := hr.val
  have HR := Lib.hid hr; have HC := Lib.hid hcell
  have hcb : cb < w.heap.size := World.block_lt_of_cell? _ _ hc
  clear hr hcell
  go_enter Tryz.func127, Tryz.ntmps127
  go_wp2_with fail
  go_loopw [8] (fun v8 wr => ∃ k : Nat, k ≤ F.length ∧ v8 = .int .i64 k ∧ Below w.heap.size w wr) (fun v8 wr => F.length - (intOf v8).toNat)
  case atStart => exact ⟨0, Nat.zero_le _, rfl, Below.refl _ _⟩
  case round =>
    obtain ⟨k, hk, rfl, hb⟩ := hrel
    by_cases hlt : k < F.length
    · have t1 : (k : Int) < (F.length : Int) := by omega
      have t0 : (0 : Int) ≤ (k : Int) := by omega
      obtain ⟨b, o, rfl, c1, c2⟩ := HC.out k hlt
      have hbb := World.block_lt_of_cell? _ _ c1
      have k1 := (hb.cell (p := ⟨b, o + k * 2, none⟩) hbb).trans c1
      have k2 := (hb.cell (p := ⟨b, o + k * 2 + 1, none⟩) hbb).trans c2
      have kc := (hb.cell (p := ⟨cb, 0, none⟩) hcb).trans hc
      have hv := hF F[k] (List.getElem_mem _)
      have HB := Lib.hid hb
      clear hb c1 c2
      generalize F[k] = p at *
      obtain ⟨pb, pn⟩ := p
      dsimp only at k1 k2
      go_wp2_with fail
      refine (im_lit (pb, pn) n cb hv wr kc).mono ?_
      rintro e u2 ⟨rfl, hb2⟩
      have HB2 := Lib.hid (HB.out.trans (hb2.mono HB.out.size))
      clear hb2 k1 k2 kc
      dsimp only
      go_wp2_with fail
      refine ⟨⟨k + 1, by omega, by simp, HB2.out⟩, by simp only [intOf]; omega⟩
    · obtain rfl : k = F.length := by omega
      go_wp2_with fail
      go_ret
      exact ⟨rfl, hb⟩
theorem sl_Contains (cb : Nat) (n : Int) (fv : Value) (F : List V) (hF : ∀ v ∈ F, okV n v = true) (w : World) (hc : w.cell? ⟨cb, 0, none⟩ = some (.int .i64 n)) (hr : RowR w 2 fv F.length (vals F)) :
    Calls Tryz.prog 95 #[fv, .func (.func 96) #[] #[.pointer (some ⟨cb, 0, none⟩)]] w fun e w' => e = .returned (.bool false) ∧ Below w.heap.size w w' := by
  have hi := sl_Index cb n fv F hF w hc hr
  obtain ⟨a, c, rfl⟩ := hr.slice
  clear hr
  go_enter Tryz.func95, Tryz.ntmps95
  go_wp2_with (go_at_call 127; (with_reducible refine hi.mono ?_); rintro e u2 ⟨rfl, hb2⟩; dsimp only)
  go_ret
  exact ⟨rfl, hb2⟩
def okT (n : Nat) (t : Th) : Bool := decide (0 ≤ t.cls ∧ t.cls < n ∧ 1 ≤ t.hash ∧ t.hash ≤ 3000) && ((decide (t.fmt = 1 ∨ t.fmt = 2) && decide (t.B.size = 0) && decide (t.F.length ≤ 60) && t.F.all (okV n)) || (decide (t.fmt = 3) && decide (t.F.length = 0) && decide (t.B.size ≤ 200)))
set_option maxHeartbeats 2000000 in
theorem im_built (t : Th) (n : Nat) (hn : n ≤ 100000) (ht : okT n t = true) (w : World) (hr : RowR w 2 t.fv t.F.length (vals t.F)) :
    Calls Tryz.prog 53 #[.agg t.cells.toArray, .int .i64 n] w fun e w' => e = .returned (.bool true) ∧ Below w.heap.size w w' := by
  unfold okT at ht
  simp only [Bool.and_eq_true, Bool.or_eq_true, decide_eq_true_eq] at ht
  obtain ⟨⟨c0, c1, h0, h1⟩, hk⟩ := ht
  have hb : ∀ x y, Below w.heap.size w ((w.alloc x).alloc y) := fun x y => ((Below.refl _ _).alloc (Nat.le_refl _) _).alloc (by simp) _
  have HR := Lib.hid hr
  obtain ⟨cls, fmt, hash, fin, fv, F, B⟩ := t
  obtain ⟨a, c, hfv⟩ := hr.slice
  dsimp only at *
  subst hfv
  unfold Th.cells
  dsimp only
  have b1 : ¬ cls < 0 := by omega
  have b2 : ¬ (n : Int) ≤ cls := by omega
  have b3 : ¬ hash < 1 := by omega
  have b4 : ¬ 3000 < hash := by omega
  rcases hk with ⟨⟨⟨k1, k2⟩, k3⟩, k4⟩ | ⟨⟨k1, k2⟩, k3⟩
  · have hall : ∀ v ∈ F, okV n v = true := by simpa using k4
    have k3' : (F.length : Int) ≤ 60 := by omega
    have hcc : ∀ x : Obj, ((w.alloc x).alloc (.cells #[.int .i64 (n : Int)] 3)).cell? ⟨w.heap.size + 1, 0, none⟩ = some (.int .i64 (n : Int)) := fun x => by
      simp
    have hsl := fun (x : Obj) => sl_Contains (w.heap.size + 1) (n : Int) (.slice a F.length c) F hall ((w.alloc x).alloc (.cells #[.int .i64 (n : Int)] 3)) (hcc x) (HR.out.below (hb x _))
    have hB : B = ByteArray.empty := by apply ByteArray.ext; apply Array.eq_empty_of_size_eq_zero; exact k2
    subst hB
    have HSL := Lib.hid hsl
    clear hr k2 k4 hcc hsl k3
    rcases k1 with rfl | rfl
    all_goals
      go_enter Tryz.func53, Tryz.ntmps53
      go_wp2_with fail
      refine (HSL.out _).mono ?_
      rintro e u2 ⟨rfl, hb2⟩
      have HB2 := Lib.hid ((hb _ _).trans (hb2.mono (by simp; omega)))
      clear hb2
      dsimp only
      go_wp2_with fail
      go_ret
      exact ⟨rfl, HB2.out⟩
  · subst k1
    have hF : F = [] := List.eq_nil_of_length_eq_zero k2
    subst hF
    have k3' : (B.size : Int) ≤ 200 := by omega
    clear hr k2
    go_enter Tryz.func53, Tryz.ntmps53
    go_wp2_with fail
    go_ret
    exact ⟨rfl, hb _ _⟩
end Go.Proofs.YtoklohfpkaiidaaGreat.Obj
