/- Things in a list: what the list's own functions answer: package object. -/
import Derived.Test.YtoklohfpkaiidaaGreatOb
import Derived.IntWalk
namespace Go.Proofs.YtoklohfpkaiidaaGreat.Obj
open Go.Proofs.YtoklohfpkaiidaaGreat.Gen Go.Proofs.YtoklohfpkaiidaaGreat.Base Go.ChangeShapes Go.WideShapes Go.ChangeAt Go.RowKit
set_option linter.unusedVariables false
/-- The element at i; where there is none: d. -/
def elV (F : List V) (i : Int) : V := if 0 ≤ i then F[i.toNat]?.getD (false, 0) else (false, 0)
def hasV (F : List V) (i : Int) : Bool := decide (0 ≤ i ∧ i < F.length)
theorem elV_no {F : List V} {i : Int} (h : hasV F i = false) : elV F i = (false, 0) := by
  unfold hasV at h; unfold elV
  split
  · rw [List.getElem?_eq_none (by simp at h; omega)]; rfl
  · rfl
theorem elV_at {F : List V} {k : Nat} (h : k < F.length) : elV F (k : Int) = F[k] := by unfold elV; rw [if_pos (by omega), Int.toNat_natCast, List.getElem?_eq_getElem h]; rfl
def elB (B : List Int) (i : Int) : Int := if 0 ≤ i then B[i.toNat]?.getD (-1) else -1
theorem below_drew {B : Nat} {u v : World} (h : Below B u v) : Below B u v.drew := ⟨h.os, h.tape, h.output, h.size, h.block⟩
theorem vals_at (F : List V) {k : Nat} (h : k < F.length) : (vals F)[k * 2]? = some (.bool F[k].1) ∧ (vals F)[k * 2 + 1]? = some (.int .i64 F[k].2) := by
  have e := flat_at vcells 2 (fun _ => rfl) F k F[k] (List.getElem?_eq_getElem h)
  exact ⟨e 0 (by omega), e 1 (by omega)⟩
section
variable {w w' : World} {li : Nat} {lv : Value} {bs : List Bd} {q : Nat} {b : Bd}
theorem li_Fmt (h : ListAt w li lv bs) (hq : bs[q]? = some b) : Calls Tryz.prog 167 #[.pointer (some ⟨li, 0, none⟩), .int .i64 q] w fun e w' => e = .returned (.int .i64 b.fmt) ∧ w = w' := by
  have c0 := h.c0
  obtain ⟨a, cap, rfl, hcap, hc⟩ := h.at
  obtain ⟨g, rfl, hcell⟩ := hc q b hq
  have hql := (List.getElem?_eq_some_iff.1 hq).1
  have hfew := h.few
  have hli : li < w.heap.size := h.lt (.inl rfl)
  have hgl : g < w.heap.size := h.lt (.inr (.inl rfl))
  have t1 : (q : Int) < (bs.length : Int) := by omega
  have t0 : (0 : Int) ≤ (q : Int) := by omega
  have k := (hcell 1 _ (by omega) rfl).1
  clear h hc hcell hq
  go_enter Tryz.func167, Tryz.ntmps167
  go_wp2_with fail
  go_ret
  exact ⟨rfl, rfl⟩
theorem li_Size (h : ListAt w li lv bs) (hq : bs[q]? = some b) (hs : b.F.length ≤ 100000 ∧ b.B.length ≤ 100000) : Calls Tryz.prog 174 #[.pointer (some ⟨li, 0, none⟩), .int .i64 q] w fun e w' => e = .returned (.int .i64 ((b.F.length : Int) + b.B.length)) ∧ Below w.heap.size w w' := by
  have c0 := h.c0
  obtain ⟨a, cap, rfl, hcap, hc⟩ := h.at
  obtain ⟨g, rfl, hcell⟩ := hc q b hq
  have hql := (List.getElem?_eq_some_iff.1 hq).1
  have hfew := h.few
  have hli : li < w.heap.size := h.lt (.inl rfl)
  have hgl : g < w.heap.size := h.lt (.inr (.inl rfl))
  have t1 : (q : Int) < (bs.length : Int) := by omega
  have t0 : (0 : Int) ≤ (q : Int) := by omega
  have k5 := (hcell 5 _ (by omega) rfl).1
  have k6 := (hcell 6 _ (by omega) rfl).1
  obtain ⟨fa, fc, hfv⟩ := (h.fs b (List.mem_of_getElem? hq)).slice
  obtain ⟨ba, bc, hbv⟩ := (h.ys b (List.mem_of_getElem? hq)).slice
  rw [hfv] at k5
  rw [hbv] at k6
  obtain ⟨s1, s2⟩ := hs
  have wr : IntKind.i64.wrap ((b.F.length : Int) + (b.B.length : Int)) = (b.F.length : Int) + (b.B.length : Int) := IntWalk.i64_in _ ⟨by omega, by omega⟩
  clear h hc hcell hq hfv hbv
  go_enter Tryz.func174, Tryz.ntmps174
  go_upto_region 1 with fail
  refine wp_region_held_drew (S := (fun w' => w'.cell? ⟨li, 0, none⟩ = some (.slice (some ⟨g, 0, none⟩) bs.length cap) ∧ w'.cell? ⟨g, q * 7 + 5, none⟩ = some (.slice fa b.F.length fc) ∧ w'.cell? ⟨g, q * 7 + 6, none⟩ = some (.slice ba b.B.length bc))) (by kernel_rfl) ?_ (fun hH0 => ?_)
  · (try dsimp only); exact ⟨c0, k5, k6⟩
  refine wpAnyH_take (i := 0) (oi := { dst := some 5, op := Op.move (Operand.tmp 0), type := 72, pos := "space.go:51", after := #[], guard := none }) (v := ?v1) rfl (by kernel_rfl) (by kernel_rfl) (by kernel_rfl) (fun _ _ _ h => h) (Or.inl ⟨by rfl, ?hy1⟩) (by assumption) ?_
  case hy1 => intro w hSw; (try dsimp only at hSw); go_simp; (try with_reducible rfl)
  try simp only [Act.put, List.setIfInBounds_toArray, List.set_cons_zero, List.set_cons_succ]
  refine wpAnyH_take (i := 1) (oi := { dst := some 6, op := Op.nilCheck (Operand.tmp 5), type := 0, pos := "space.go:51", after := #[{ on := 0, ground := Ground.data }], guard := none }) (v := ?v2) rfl (by kernel_rfl) (by kernel_rfl) (by kernel_rfl) (fun _ _ _ h => h) (Or.inl ⟨by rfl, ?hy2⟩) (by assumption) ?_
  case hy2 => intro w hSw; (try dsimp only at hSw); go_simp; (try with_reducible rfl)
  try simp only [Act.put, List.setIfInBounds_toArray, List.set_cons_zero, List.set_cons_succ]
  refine wpAnyH_take (i := 2) (oi := { dst := some 7, op := Op.fieldAddr 106 (Operand.tmp 6) 0, type := 0, pos := "space.go:51", after := #[{ on := 1, ground := Ground.data }], guard := none }) (v := ?v3) rfl (by kernel_rfl) (by kernel_rfl) (by kernel_rfl) (fun _ _ _ h => h) (Or.inl ⟨by rfl, ?hy3⟩) (by assumption) ?_
  case hy3 => intro w hSw; (try dsimp only at hSw); go_simp; (try with_reducible rfl)
  try simp only [Act.put, List.setIfInBounds_toArray, List.set_cons_zero, List.set_cons_succ]
  refine wpAnyH_take (i := 3) (oi := { dst := some 8, op := Op.load 104 (Operand.tmp 7), type := 104, pos := "space.go:51", after := #[{ on := 2, ground := Ground.data }], guard := none }) (v := ?v4) rfl (by kernel_rfl) (by kernel_rfl) (by kernel_rfl) (fun _ _ _ h => h) (Or.inl ⟨by rfl, ?hy4⟩) (by assumption) ?_
  case hy4 => intro w hSw; (try dsimp only at hSw); go_simp; (try with_reducible rfl)
  try simp only [Act.put, List.setIfInBounds_toArray, List.set_cons_zero, List.set_cons_succ]
  refine wpAnyH_take (i := 4) (oi := { dst := some 9, op := Op.move (Operand.tmp 1), type := 3, pos := "space.go:51", after := #[], guard := none }) (v := ?v5) rfl (by kernel_rfl) (by kernel_rfl) (by kernel_rfl) (fun _ _ _ h => h) (Or.inl ⟨by rfl, ?hy5⟩) (by assumption) ?_
  case hy5 => intro w hSw; (try dsimp only at hSw); go_simp; (try with_reducible rfl)
  try simp only [Act.put, List.setIfInBounds_toArray, List.set_cons_zero, List.set_cons_succ]
  refine wpAnyH_take (i := 5) (oi := { dst := some 10, op := Op.indexAddr 104 (Operand.tmp 8) (Operand.tmp 9), type := 0, pos := "space.go:51", after := #[{ on := 3, ground := Ground.data }, { on := 4, ground := Ground.data }], guard := none }) (v := ?v6) rfl (by kernel_rfl) (by kernel_rfl) (by kernel_rfl) (fun _ _ _ h => h) (Or.inl ⟨by rfl, ?hy6⟩) (by assumption) ?_
  case hy6 => intro w hSw; (try dsimp only at hSw); go_simp; (try with_reducible rfl)
  try simp only [Act.put, List.setIfInBounds_toArray, List.set_cons_zero, List.set_cons_succ]
  refine wpAnyH_take (i := 6) (oi := { dst := some 11, op := Op.fieldAddr 110 (Operand.tmp 10) 5, type := 0, pos := "space.go:51", after := #[{ on := 5, ground := Ground.data }], guard := none }) (v := ?v7) rfl (by kernel_rfl) (by kernel_rfl) (by kernel_rfl) (fun _ _ _ h => h) (Or.inl ⟨by rfl, ?hy7⟩) (by assumption) ?_
  case hy7 => intro w hSw; (try dsimp only at hSw); go_simp; (try with_reducible rfl)
  try simp only [Act.put, List.setIfInBounds_toArray, List.set_cons_zero, List.set_cons_succ]
  refine wpAnyH_take (i := 7) (oi := { dst := some 12, op := Op.load 56 (Operand.tmp 11), type := 56, pos := "space.go:51", after := #[{ on := 6, ground := Ground.data }], guard := none }) (v := ?v8) rfl (by kernel_rfl) (by kernel_rfl) (by kernel_rfl) (fun _ _ _ h => h) (Or.inl ⟨by rfl, ?hy8⟩) (by assumption) ?_
  case hy8 => intro w hSw; (try dsimp only at hSw); go_simp; (try with_reducible rfl)
  try simp only [Act.put, List.setIfInBounds_toArray, List.set_cons_zero, List.set_cons_succ]
  refine wpAnyH_take (i := 8) (oi := { dst := some 13, op := Op.call { callee := Callee.builtin Builtin.len, args := #[Operand.tmp 12], argTypes := #[56] }, type := 3, pos := "space.go:51", after := #[{ on := 7, ground := Ground.data }], guard := none }) (v := ?v9) rfl (by kernel_rfl) (by kernel_rfl) (by kernel_rfl) (fun _ _ _ h => h) (Or.inl ⟨by rfl, ?hy9⟩) (by assumption) ?_
  case hy9 => intro w hSw; (try dsimp only at hSw); go_simp; (try with_reducible rfl)
  try simp only [Act.put, List.setIfInBounds_toArray, List.set_cons_zero, List.set_cons_succ]
  refine wpAnyH_take (i := 9) (oi := { dst := some 14, op := Op.move (Operand.tmp 0), type := 72, pos := "space.go:51", after := #[], guard := none }) (v := ?v10) rfl (by kernel_rfl) (by kernel_rfl) (by kernel_rfl) (fun _ _ _ h => h) (Or.inl ⟨by rfl, ?hy10⟩) (by assumption) ?_
  case hy10 => intro w hSw; (try dsimp only at hSw); go_simp; (try with_reducible rfl)
  try simp only [Act.put, List.setIfInBounds_toArray, List.set_cons_zero, List.set_cons_succ]
  refine wpAnyH_take (i := 10) (oi := { dst := some 15, op := Op.nilCheck (Operand.tmp 14), type := 0, pos := "space.go:51", after := #[{ on := 9, ground := Ground.data }], guard := none }) (v := ?v11) rfl (by kernel_rfl) (by kernel_rfl) (by kernel_rfl) (fun _ _ _ h => h) (Or.inl ⟨by rfl, ?hy11⟩) (by assumption) ?_
  case hy11 => intro w hSw; (try dsimp only at hSw); go_simp; (try with_reducible rfl)
  try simp only [Act.put, List.setIfInBounds_toArray, List.set_cons_zero, List.set_cons_succ]
  refine wpAnyH_take (i := 11) (oi := { dst := some 16, op := Op.fieldAddr 106 (Operand.tmp 15) 0, type := 0, pos := "space.go:51", after := #[{ on := 10, ground := Ground.data }], guard := none }) (v := ?v12) rfl (by kernel_rfl) (by kernel_rfl) (by kernel_rfl) (fun _ _ _ h => h) (Or.inl ⟨by rfl, ?hy12⟩) (by assumption) ?_
  case hy12 => intro w hSw; (try dsimp only at hSw); go_simp; (try with_reducible rfl)
  try simp only [Act.put, List.setIfInBounds_toArray, List.set_cons_zero, List.set_cons_succ]
  refine wpAnyH_take (i := 12) (oi := { dst := some 17, op := Op.load 104 (Operand.tmp 16), type := 104, pos := "space.go:51", after := #[{ on := 11, ground := Ground.data }], guard := none }) (v := ?v13) rfl (by kernel_rfl) (by kernel_rfl) (by kernel_rfl) (fun _ _ _ h => h) (Or.inl ⟨by rfl, ?hy13⟩) (by assumption) ?_
  case hy13 => intro w hSw; (try dsimp only at hSw); go_simp; (try with_reducible rfl)
  try simp only [Act.put, List.setIfInBounds_toArray, List.set_cons_zero, List.set_cons_succ]
  refine wpAnyH_take (i := 13) (oi := { dst := some 18, op := Op.move (Operand.tmp 1), type := 3, pos := "space.go:51", after := #[], guard := none }) (v := ?v14) rfl (by kernel_rfl) (by kernel_rfl) (by kernel_rfl) (fun _ _ _ h => h) (Or.inl ⟨by rfl, ?hy14⟩) (by assumption) ?_
  case hy14 => intro w hSw; (try dsimp only at hSw); go_simp; (try with_reducible rfl)
  try simp only [Act.put, List.setIfInBounds_toArray, List.set_cons_zero, List.set_cons_succ]
  refine wpAnyH_take (i := 14) (oi := { dst := some 19, op := Op.indexAddr 104 (Operand.tmp 17) (Operand.tmp 18), type := 0, pos := "space.go:51", after := #[{ on := 12, ground := Ground.data }, { on := 13, ground := Ground.data }], guard := none }) (v := ?v15) rfl (by kernel_rfl) (by kernel_rfl) (by kernel_rfl) (fun _ _ _ h => h) (Or.inl ⟨by rfl, ?hy15⟩) (by assumption) ?_
  case hy15 => intro w hSw; (try dsimp only at hSw); go_simp; (try with_reducible rfl)
  try simp only [Act.put, List.setIfInBounds_toArray, List.set_cons_zero, List.set_cons_succ]
  refine wpAnyH_take (i := 15) (oi := { dst := some 20, op := Op.fieldAddr 110 (Operand.tmp 19) 6, type := 0, pos := "space.go:51", after := #[{ on := 14, ground := Ground.data }], guard := none }) (v := ?v16) rfl (by kernel_rfl) (by kernel_rfl) (by kernel_rfl) (fun _ _ _ h => h) (Or.inl ⟨by rfl, ?hy16⟩) (by assumption) ?_
  case hy16 => intro w hSw; (try dsimp only at hSw); go_simp; (try with_reducible rfl)
  try simp only [Act.put, List.setIfInBounds_toArray, List.set_cons_zero, List.set_cons_succ]
  refine wpAnyH_take (i := 16) (oi := { dst := some 21, op := Op.load 108 (Operand.tmp 20), type := 108, pos := "space.go:51", after := #[{ on := 15, ground := Ground.data }], guard := none }) (v := ?v17) rfl (by kernel_rfl) (by kernel_rfl) (by kernel_rfl) (fun _ _ _ h => h) (Or.inl ⟨by rfl, ?hy17⟩) (by assumption) ?_
  case hy17 => intro w hSw; (try dsimp only at hSw); go_simp; (try with_reducible rfl)
  try simp only [Act.put, List.setIfInBounds_toArray, List.set_cons_zero, List.set_cons_succ]
  refine wpAnyH_take (i := 17) (oi := { dst := some 22, op := Op.call { callee := Callee.builtin Builtin.len, args := #[Operand.tmp 21], argTypes := #[108] }, type := 3, pos := "space.go:51", after := #[{ on := 16, ground := Ground.data }], guard := none }) (v := ?v18) rfl (by kernel_rfl) (by kernel_rfl) (by kernel_rfl) (fun _ _ _ h => h) (Or.inl ⟨by rfl, ?hy18⟩) (by assumption) ?_
  case hy18 => intro w hSw; (try dsimp only at hSw); go_simp; (try with_reducible rfl)
  try simp only [Act.put, List.setIfInBounds_toArray, List.set_cons_zero, List.set_cons_succ]
  refine wpAnyH_take (i := 18) (oi := { dst := some 23, op := Op.binOp BinOp.add 3 (Operand.tmp 13) (Operand.tmp 22) 3, type := 3, pos := "space.go:51", after := #[{ on := 8, ground := Ground.data }, { on := 17, ground := Ground.data }], guard := none }) (v := ?v19) rfl (by kernel_rfl) (by kernel_rfl) (by kernel_rfl) (fun _ _ _ h => h) (Or.inl ⟨by rfl, ?hy19⟩) (by assumption) ?_
  case hy19 => intro w hSw; (try dsimp only at hSw); go_simp; (try with_reducible rfl)
  try simp only [Act.put, List.setIfInBounds_toArray, List.set_cons_zero, List.set_cons_succ]
  refine wpAnyH_take (i := 19) (oi := { dst := some 4, op := Op.assign (Operand.tmp 23), type := 3, pos := "space.go:51", after := #[{ on := 18, ground := Ground.data }, { on := 0, ground := Ground.phase }, { on := 1, ground := Ground.phase }, { on := 2, ground := Ground.phase }, { on := 3, ground := Ground.phase }, { on := 4, ground := Ground.phase }, { on := 5, ground := Ground.phase }, { on := 6, ground := Ground.phase }, { on := 7, ground := Ground.phase }, { on := 8, ground := Ground.phase }, { on := 9, ground := Ground.phase }, { on := 10, ground := Ground.phase }, { on := 11, ground := Ground.phase }, { on := 12, ground := Ground.phase }, { on := 13, ground := Ground.phase }, { on := 14, ground := Ground.phase }, { on := 15, ground := Ground.phase }, { on := 16, ground := Ground.phase }, { on := 17, ground := Ground.phase }, { on := 18, ground := Ground.phase }], guard := none }) (v := ?v20) rfl (by kernel_rfl) (by kernel_rfl) (by kernel_rfl) (fun _ _ _ h => h) (Or.inl ⟨by rfl, ?hy20⟩) (by assumption) ?_
  case hy20 => intro w hSw; (try dsimp only at hSw); go_simp; (try with_reducible rfl)
  try simp only [Act.put, List.setIfInBounds_toArray, List.set_cons_zero, List.set_cons_succ]
  refine wpAnyH_done (by kernel_rfl) ?_ _
  go_wp2_with fail
  go_ret
  exact ⟨rfl, below_drew (Below.refl _ _)⟩
theorem li_Field (h : ListAt w li lv bs) (hq : bs[q]? = some b) (i : Int) : Calls Tryz.prog 166 #[.pointer (some ⟨li, 0, none⟩), .int .i64 q, .int .i64 i] w fun e w' => e = .returned (.tuple #[.agg (vcells (elV b.F i)).toArray, .bool (hasV b.F i)]) ∧ Below w.heap.size w w' := by
  have c0 := h.c0
  obtain ⟨a, cap, rfl, hcap, hc⟩ := h.at
  obtain ⟨g, rfl, hcell⟩ := hc q b hq
  have hql := (List.getElem?_eq_some_iff.1 hq).1
  have hfew := h.few
  have hli : li < w.heap.size := h.lt (.inl rfl)
  have hgl : g < w.heap.size := h.lt (.inr (.inl rfl))
  have t1 : (q : Int) < (bs.length : Int) := by omega
  have t0 : (0 : Int) ≤ (q : Int) := by omega
  have k5 := (hcell 5 _ (by omega) rfl).1
  obtain ⟨fa, fc, hfv, hm, hrow⟩ := (h.fs b (List.mem_of_getElem? hq)).cells
  rw [hfv] at k5
  have hb0 : Below w.heap.size w (w.alloc (.cells #[.bool false, .int .i64 0] 54)) := (Below.refl _ _).alloc (Nat.le_refl _) _
  have hv : hasV b.F i = true → ∃ k : Nat, i = k ∧ k < b.F.length := fun e => by unfold hasV at e; simp at e; exact ⟨i.toNat, by omega, by omega⟩
  have hzv : ∀ u, Sem.run Tryz.prog (zeroValue 54) u = .ok (.agg #[.bool false, .int .i64 0]) u := fun u => by kernel_rfl
  cases hh : hasV b.F i
  · rw [elV_no hh]
    clear h hc hcell hq hfv hrow hv
    by_cases c1 : i < 0
    · clear hh
      go_enter Tryz.func166, Tryz.ntmps166
      go_wp2_with fail
      exact bodyPost_ret (v := .tuple #[.agg #[.bool false, .int .i64 0], .bool false]) (by simp [results, Tryz.results166, go_sem]) rfl ⟨rfl, hb0⟩
    · have c2 : (b.F.length : Int) ≤ i := by unfold hasV at hh; simp at hh; omega
      clear hh
      go_enter Tryz.func166, Tryz.ntmps166
      go_wp2_with fail
      exact bodyPost_ret (v := .tuple #[.agg #[.bool false, .int .i64 0], .bool false]) (by simp [results, Tryz.results166, go_sem]) rfl ⟨rfl, hb0⟩
  · obtain ⟨k, rfl, hk⟩ := hv hh
    rw [elV_at hk]
    obtain ⟨fg, rfl, hc1, -⟩ := hrow (k * 2) (by omega)
    obtain ⟨fg', e, hc2, -⟩ := hrow (k * 2 + 1) (by omega)
    obtain rfl : fg = fg' := by simpa using e
    rw [(vals_at b.F hk).1] at hc1
    rw [(vals_at b.F hk).2] at hc2
    have hfg : fg < w.heap.size := World.block_lt_of_cell? _ _ hc1
    have t3 : (k : Int) < (b.F.length : Int) := by omega
    have t4 : (0 : Int) ≤ (k : Int) := by omega
    clear h hc hcell hq hfv hrow hv hh e
    generalize b.F[k] = p at *
    obtain ⟨pb, pn⟩ := p
    dsimp only at hc1 hc2
    go_enter Tryz.func166, Tryz.ntmps166
    go_wp2_with fail
    exact bodyPost_ret (v := .tuple #[.agg #[.bool pb, .int .i64 pn], .bool true]) (by simp [results, Tryz.results166, go_sem]) rfl ⟨rfl, (Below.refl _ _).alloc (Nat.le_refl _) _⟩
theorem li_Byte (h : ListAt w li lv bs) (hq : bs[q]? = some b) (hB : ∀ v ∈ b.B, 0 ≤ v ∧ v ≤ 255) (i : Int) : Calls Tryz.prog 163 #[.pointer (some ⟨li, 0, none⟩), .int .i64 q, .int .i64 i] w fun e w' => e = .returned (.int .i64 (elB b.B i)) ∧ w = w' := by
  have c0 := h.c0
  obtain ⟨a, cap, rfl, hcap, hc⟩ := h.at
  obtain ⟨g, rfl, hcell⟩ := hc q b hq
  have hql := (List.getElem?_eq_some_iff.1 hq).1
  have hfew := h.few
  have hli : li < w.heap.size := h.lt (.inl rfl)
  have hgl : g < w.heap.size := h.lt (.inr (.inl rfl))
  have t1 : (q : Int) < (bs.length : Int) := by omega
  have t0 : (0 : Int) ≤ (q : Int) := by omega
  have k6 := (hcell 6 _ (by omega) rfl).1
  obtain ⟨ba, bc, hbv, hm, hrow⟩ := (h.ys b (List.mem_of_getElem? hq)).cells
  rw [hbv] at k6
  by_cases c1 : i < 0
  · rw [show elB b.B i = -1 by unfold elB; rw [if_neg (by omega)]]
    clear h hc hcell hq hbv hrow hB
    go_enter Tryz.func163, Tryz.ntmps163
    go_wp2_with fail
    go_ret
    exact ⟨rfl, rfl⟩
  · by_cases c2 : (b.B.length : Int) ≤ i
    · rw [show elB b.B i = -1 by unfold elB; rw [if_pos (by omega), List.getElem?_eq_none (by omega)]; rfl]
      clear h hc hcell hq hbv hrow hB
      go_enter Tryz.func163, Tryz.ntmps163
      go_wp2_with fail
      go_ret
      exact ⟨rfl, rfl⟩
    · obtain ⟨k, rfl⟩ := Int.eq_ofNat_of_zero_le (by omega : 0 ≤ i)
      have hk : k < b.B.length := by omega
      rw [show elB b.B (k : Int) = b.B[k] by unfold elB; rw [if_pos (by omega), Int.toNat_natCast, List.getElem?_eq_getElem hk]; rfl]
      obtain ⟨fg, rfl, hc1, -⟩ := hrow k (by omega)
      have hv := hB b.B[k] (List.getElem_mem _)
      have e : (b.B.map (Value.int .u8))[k]? = some (.int .u8 b.B[k]) := by simp [hk]
      rw [e] at hc1
      have t3 : (k : Int) < (b.B.length : Int) := by omega
      clear h hc hcell hq hbv hrow hB e
      generalize b.B[k] = v at *
      have wv : IntKind.i64.wrap v = v := IntWalk.i64_in _ ⟨by omega, by omega⟩
      go_enter Tryz.func163, Tryz.ntmps163
      go_wp2_with fail
      go_ret
      first | exact ⟨rfl, rfl⟩ | exact ⟨by rw [wv]; rfl, rfl⟩
end
end Go.Proofs.YtoklohfpkaiidaaGreat.Obj
