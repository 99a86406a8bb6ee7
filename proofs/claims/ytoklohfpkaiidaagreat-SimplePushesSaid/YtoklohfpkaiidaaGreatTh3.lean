/- Things in a list: class, hash, mark. -/
/- A thing's copy: Mem.thing, of a Plain one. -/
/- A thing's copy: Mem.Thing, of a Plain one. -/
import Derived.Test.YtoklohfpkaiidaaGreatOb2
import Derived.Test.YtoklohfpkaiidaaGreatB6
namespace Go.Proofs.YtoklohfpkaiidaaGreat.Obj
open Go.Proofs.YtoklohfpkaiidaaGreat.Gen Go.Proofs.YtoklohfpkaiidaaGreat.Base Go.ChangeShapes Go.WideShapes Go.ChangeAt Go.RowKit
set_option linter.unusedVariables false
section
variable {w w' : World} {li : Nat} {lv : Value} {bs : List Bd} {q : Nat} {b : Bd}
theorem li_Class (h : ListAt w li lv bs) (hq : bs[q]? = some b) : Calls Tryz.prog 164 #[.pointer (some ⟨li, 0, none⟩), .int .i64 q] w fun e w' => e = .returned (.int .i64 b.cls) ∧ w = w' := by
  have c0 := h.c0
  obtain ⟨a, cap, rfl, hcap, hc⟩ := h.at
  obtain ⟨g, rfl, hcell⟩ := hc q b hq
  have hql := (List.getElem?_eq_some_iff.1 hq).1
  have hfew := h.few
  have hli : li < w.heap.size := h.lt (.inl rfl)
  have hgl : g < w.heap.size := h.lt (.inr (.inl rfl))
  have t1 : (q : Int) < (bs.length : Int) := by omega
  have t0 : (0 : Int) ≤ (q : Int) := by omega
  have k := (hcell 0 _ (by omega) rfl).1
  rw [Nat.add_zero] at k
  clear h hc hcell hq
  go_enter Tryz.func164, Tryz.ntmps164
  go_wp2_with fail
  go_ret
  exact ⟨rfl, rfl⟩
theorem li_Hash (h : ListAt w li lv bs) (hq : bs[q]? = some b) : Calls Tryz.prog 168 #[.pointer (some ⟨li, 0, none⟩), .int .i64 q] w fun e w' => e = .returned (.int .i64 b.hash) ∧ w = w' := by
  have c0 := h.c0
  obtain ⟨a, cap, rfl, hcap, hc⟩ := h.at
  obtain ⟨g, rfl, hcell⟩ := hc q b hq
  have hql := (List.getElem?_eq_some_iff.1 hq).1
  have hfew := h.few
  have hli : li < w.heap.size := h.lt (.inl rfl)
  have hgl : g < w.heap.size := h.lt (.inr (.inl rfl))
  have t1 : (q : Int) < (bs.length : Int) := by omega
  have t0 : (0 : Int) ≤ (q : Int) := by omega
  have k := (hcell 2 _ (by omega) rfl).1
  clear h hc hcell hq
  go_enter Tryz.func168, Tryz.ntmps168
  go_wp2_with fail
  go_ret
  exact ⟨rfl, rfl⟩
theorem li_Mark (h : ListAt w li lv bs) (hq : bs[q]? = some b) : Calls Tryz.prog 171 #[.pointer (some ⟨li, 0, none⟩), .int .i64 q] w fun e w' => e = .returned (.tuple #[.int .i64 b.col, .bool b.fin]) ∧ Below w.heap.size w w' := by
  have c0 := h.c0
  obtain ⟨a, cap, rfl, hcap, hc⟩ := h.at
  obtain ⟨g, rfl, hcell⟩ := hc q b hq
  have hql := (List.getElem?_eq_some_iff.1 hq).1
  have hfew := h.few
  have hli : li < w.heap.size := h.lt (.inl rfl)
  have hgl : g < w.heap.size := h.lt (.inr (.inl rfl))
  have t1 : (q : Int) < (bs.length : Int) := by omega
  have t0 : (0 : Int) ≤ (q : Int) := by omega
  have k3 := (hcell 3 _ (by omega) rfl).1
  have k4 := (hcell 4 _ (by omega) rfl).1
  clear h hc hcell hq
  go_enter Tryz.func171, Tryz.ntmps171
  go_upto_region 1 with fail
  refine wp_region_held_drew (S := (fun w' => w'.cell? ⟨li, 0, none⟩ = some (.slice (some ⟨g, 0, none⟩) bs.length cap) ∧ w'.cell? ⟨g, q * 7 + 3, none⟩ = some (.int .i64 b.col) ∧ w'.cell? ⟨g, q * 7 + 4, none⟩ = some (.bool b.fin))) (by kernel_rfl) ?_ (fun hH0 => ?_)
  · (try dsimp only); exact ⟨c0, k3, k4⟩
  refine wpAnyH_take (i := 0) (oi := { dst := some 6, op := Op.move (Operand.tmp 0), type := 72, pos := "space.go:87", after := #[], guard := none }) (v := ?v1) rfl (by kernel_rfl) (by kernel_rfl) (by kernel_rfl) (fun _ _ _ h => h) (Or.inl ⟨by rfl, ?hy1⟩) (by assumption) ?_
  case hy1 => intro w hSw; (try dsimp only at hSw); go_simp; (try with_reducible rfl)
  try simp only [Act.put, List.setIfInBounds_toArray, List.set_cons_zero, List.set_cons_succ]
  refine wpAnyH_take (i := 1) (oi := { dst := some 7, op := Op.nilCheck (Operand.tmp 6), type := 0, pos := "space.go:87", after := #[{ on := 0, ground := Ground.data }], guard := none }) (v := ?v2) rfl (by kernel_rfl) (by kernel_rfl) (by kernel_rfl) (fun _ _ _ h => h) (Or.inl ⟨by rfl, ?hy2⟩) (by assumption) ?_
  case hy2 => intro w hSw; (try dsimp only at hSw); go_simp; (try with_reducible rfl)
  try simp only [Act.put, List.setIfInBounds_toArray, List.set_cons_zero, List.set_cons_succ]
  refine wpAnyH_take (i := 2) (oi := { dst := some 8, op := Op.fieldAddr 106 (Operand.tmp 7) 0, type := 0, pos := "space.go:87", after := #[{ on := 1, ground := Ground.data }], guard := none }) (v := ?v3) rfl (by kernel_rfl) (by kernel_rfl) (by kernel_rfl) (fun _ _ _ h => h) (Or.inl ⟨by rfl, ?hy3⟩) (by assumption) ?_
  case hy3 => intro w hSw; (try dsimp only at hSw); go_simp; (try with_reducible rfl)
  try simp only [Act.put, List.setIfInBounds_toArray, List.set_cons_zero, List.set_cons_succ]
  refine wpAnyH_take (i := 3) (oi := { dst := some 9, op := Op.load 104 (Operand.tmp 8), type := 104, pos := "space.go:87", after := #[{ on := 2, ground := Ground.data }], guard := none }) (v := ?v4) rfl (by kernel_rfl) (by kernel_rfl) (by kernel_rfl) (fun _ _ _ h => h) (Or.inl ⟨by rfl, ?hy4⟩) (by assumption) ?_
  case hy4 => intro w hSw; (try dsimp only at hSw); go_simp; (try with_reducible rfl)
  try simp only [Act.put, List.setIfInBounds_toArray, List.set_cons_zero, List.set_cons_succ]
  refine wpAnyH_take (i := 4) (oi := { dst := some 10, op := Op.move (Operand.tmp 1), type := 3, pos := "space.go:87", after := #[], guard := none }) (v := ?v5) rfl (by kernel_rfl) (by kernel_rfl) (by kernel_rfl) (fun _ _ _ h => h) (Or.inl ⟨by rfl, ?hy5⟩) (by assumption) ?_
  case hy5 => intro w hSw; (try dsimp only at hSw); go_simp; (try with_reducible rfl)
  try simp only [Act.put, List.setIfInBounds_toArray, List.set_cons_zero, List.set_cons_succ]
  refine wpAnyH_take (i := 5) (oi := { dst := some 11, op := Op.indexAddr 104 (Operand.tmp 9) (Operand.tmp 10), type := 0, pos := "space.go:87", after := #[{ on := 3, ground := Ground.data }, { on := 4, ground := Ground.data }], guard := none }) (v := ?v6) rfl (by kernel_rfl) (by kernel_rfl) (by kernel_rfl) (fun _ _ _ h => h) (Or.inl ⟨by rfl, ?hy6⟩) (by assumption) ?_
  case hy6 => intro w hSw; (try dsimp only at hSw); go_simp; (try with_reducible rfl)
  try simp only [Act.put, List.setIfInBounds_toArray, List.set_cons_zero, List.set_cons_succ]
  refine wpAnyH_take (i := 6) (oi := { dst := some 12, op := Op.fieldAddr 110 (Operand.tmp 11) 3, type := 0, pos := "space.go:87", after := #[{ on := 5, ground := Ground.data }], guard := none }) (v := ?v7) rfl (by kernel_rfl) (by kernel_rfl) (by kernel_rfl) (fun _ _ _ h => h) (Or.inl ⟨by rfl, ?hy7⟩) (by assumption) ?_
  case hy7 => intro w hSw; (try dsimp only at hSw); go_simp; (try with_reducible rfl)
  try simp only [Act.put, List.setIfInBounds_toArray, List.set_cons_zero, List.set_cons_succ]
  refine wpAnyH_take (i := 7) (oi := { dst := some 13, op := Op.load 3 (Operand.tmp 12), type := 3, pos := "space.go:87", after := #[{ on := 6, ground := Ground.data }], guard := none }) (v := ?v8) rfl (by kernel_rfl) (by kernel_rfl) (by kernel_rfl) (fun _ _ _ h => h) (Or.inl ⟨by rfl, ?hy8⟩) (by assumption) ?_
  case hy8 => intro w hSw; (try dsimp only at hSw); go_simp; (try with_reducible rfl)
  try simp only [Act.put, List.setIfInBounds_toArray, List.set_cons_zero, List.set_cons_succ]
  refine wpAnyH_take (i := 8) (oi := { dst := some 14, op := Op.move (Operand.tmp 0), type := 72, pos := "space.go:87", after := #[{ on := 16, ground := Ground.gcOnly Departure.lateStores }], guard := none }) (v := ?v9) rfl (by kernel_rfl) (by kernel_rfl) (by kernel_rfl) (fun _ _ _ h => h) (Or.inl ⟨by rfl, ?hy9⟩) (by assumption) ?_
  case hy9 => intro w hSw; (try dsimp only at hSw); go_simp; (try with_reducible rfl)
  try simp only [Act.put, List.setIfInBounds_toArray, List.set_cons_zero, List.set_cons_succ]
  refine wpAnyH_take (i := 9) (oi := { dst := some 15, op := Op.nilCheck (Operand.tmp 14), type := 0, pos := "space.go:87", after := #[{ on := 8, ground := Ground.data }, { on := 16, ground := Ground.gcOnly Departure.lateStores }], guard := none }) (v := ?v10) rfl (by kernel_rfl) (by kernel_rfl) (by kernel_rfl) (fun _ _ _ h => h) (Or.inl ⟨by rfl, ?hy10⟩) (by assumption) ?_
  case hy10 => intro w hSw; (try dsimp only at hSw); go_simp; (try with_reducible rfl)
  try simp only [Act.put, List.setIfInBounds_toArray, List.set_cons_zero, List.set_cons_succ]
  refine wpAnyH_take (i := 10) (oi := { dst := some 16, op := Op.fieldAddr 106 (Operand.tmp 15) 0, type := 0, pos := "space.go:87", after := #[{ on := 9, ground := Ground.data }, { on := 16, ground := Ground.gcOnly Departure.lateStores }], guard := none }) (v := ?v11) rfl (by kernel_rfl) (by kernel_rfl) (by kernel_rfl) (fun _ _ _ h => h) (Or.inl ⟨by rfl, ?hy11⟩) (by assumption) ?_
  case hy11 => intro w hSw; (try dsimp only at hSw); go_simp; (try with_reducible rfl)
  try simp only [Act.put, List.setIfInBounds_toArray, List.set_cons_zero, List.set_cons_succ]
  refine wpAnyH_take (i := 11) (oi := { dst := some 17, op := Op.load 104 (Operand.tmp 16), type := 104, pos := "space.go:87", after := #[{ on := 10, ground := Ground.data }, { on := 16, ground := Ground.gcOnly Departure.lateStores }], guard := none }) (v := ?v12) rfl (by kernel_rfl) (by kernel_rfl) (by kernel_rfl) (fun _ _ _ h => h) (Or.inl ⟨by rfl, ?hy12⟩) (by assumption) ?_
  case hy12 => intro w hSw; (try dsimp only at hSw); go_simp; (try with_reducible rfl)
  try simp only [Act.put, List.setIfInBounds_toArray, List.set_cons_zero, List.set_cons_succ]
  refine wpAnyH_take (i := 12) (oi := { dst := some 18, op := Op.move (Operand.tmp 1), type := 3, pos := "space.go:87", after := #[{ on := 16, ground := Ground.gcOnly Departure.lateStores }], guard := none }) (v := ?v13) rfl (by kernel_rfl) (by kernel_rfl) (by kernel_rfl) (fun _ _ _ h => h) (Or.inl ⟨by rfl, ?hy13⟩) (by assumption) ?_
  case hy13 => intro w hSw; (try dsimp only at hSw); go_simp; (try with_reducible rfl)
  try simp only [Act.put, List.setIfInBounds_toArray, List.set_cons_zero, List.set_cons_succ]
  refine wpAnyH_take (i := 13) (oi := { dst := some 19, op := Op.indexAddr 104 (Operand.tmp 17) (Operand.tmp 18), type := 0, pos := "space.go:87", after := #[{ on := 11, ground := Ground.data }, { on := 12, ground := Ground.data }, { on := 16, ground := Ground.gcOnly Departure.lateStores }], guard := none }) (v := ?v14) rfl (by kernel_rfl) (by kernel_rfl) (by kernel_rfl) (fun _ _ _ h => h) (Or.inl ⟨by rfl, ?hy14⟩) (by assumption) ?_
  case hy14 => intro w hSw; (try dsimp only at hSw); go_simp; (try with_reducible rfl)
  try simp only [Act.put, List.setIfInBounds_toArray, List.set_cons_zero, List.set_cons_succ]
  refine wpAnyH_take (i := 14) (oi := { dst := some 20, op := Op.fieldAddr 110 (Operand.tmp 19) 4, type := 0, pos := "space.go:87", after := #[{ on := 13, ground := Ground.data }, { on := 16, ground := Ground.gcOnly Departure.lateStores }], guard := none }) (v := ?v15) rfl (by kernel_rfl) (by kernel_rfl) (by kernel_rfl) (fun _ _ _ h => h) (Or.inl ⟨by rfl, ?hy15⟩) (by assumption) ?_
  case hy15 => intro w hSw; (try dsimp only at hSw); go_simp; (try with_reducible rfl)
  try simp only [Act.put, List.setIfInBounds_toArray, List.set_cons_zero, List.set_cons_succ]
  refine wpAnyH_take (i := 15) (oi := { dst := some 21, op := Op.load 4 (Operand.tmp 20), type := 4, pos := "space.go:87", after := #[{ on := 14, ground := Ground.data }, { on := 16, ground := Ground.gcOnly Departure.lateStores }], guard := none }) (v := ?v16) rfl (by kernel_rfl) (by kernel_rfl) (by kernel_rfl) (fun _ _ _ h => h) (Or.inl ⟨by rfl, ?hy16⟩) (by assumption) ?_
  case hy16 => intro w hSw; (try dsimp only at hSw); go_simp; (try with_reducible rfl)
  try simp only [Act.put, List.setIfInBounds_toArray, List.set_cons_zero, List.set_cons_succ]
  refine wpAnyH_take (i := 16) (oi := { dst := some 4, op := Op.assign (Operand.tmp 13), type := 3, pos := "space.go:87", after := #[{ on := 7, ground := Ground.data }, { on := 0, ground := Ground.phase }, { on := 1, ground := Ground.phase }, { on := 2, ground := Ground.phase }, { on := 3, ground := Ground.phase }, { on := 4, ground := Ground.phase }, { on := 5, ground := Ground.phase }, { on := 6, ground := Ground.phase }, { on := 7, ground := Ground.phase }, { on := 8, ground := Ground.textOnly Departure.lateStores }, { on := 9, ground := Ground.textOnly Departure.lateStores }, { on := 10, ground := Ground.textOnly Departure.lateStores }, { on := 11, ground := Ground.textOnly Departure.lateStores }, { on := 12, ground := Ground.textOnly Departure.lateStores }, { on := 13, ground := Ground.textOnly Departure.lateStores }, { on := 14, ground := Ground.textOnly Departure.lateStores }, { on := 15, ground := Ground.textOnly Departure.lateStores }], guard := none }) (v := ?v17) rfl (by kernel_rfl) (by kernel_rfl) (by kernel_rfl) (fun _ _ _ h => h) (Or.inl ⟨by rfl, ?hy17⟩) (by assumption) ?_
  case hy17 => intro w hSw; (try dsimp only at hSw); go_simp; (try with_reducible rfl)
  try simp only [Act.put, List.setIfInBounds_toArray, List.set_cons_zero, List.set_cons_succ]
  refine wpAnyH_take (i := 17) (oi := { dst := some 5, op := Op.assign (Operand.tmp 21), type := 4, pos := "space.go:87", after := #[{ on := 15, ground := Ground.data }, { on := 16, ground := Ground.chain }, { on := 0, ground := Ground.phase }, { on := 1, ground := Ground.phase }, { on := 2, ground := Ground.phase }, { on := 3, ground := Ground.phase }, { on := 4, ground := Ground.phase }, { on := 5, ground := Ground.phase }, { on := 6, ground := Ground.phase }, { on := 7, ground := Ground.phase }, { on := 8, ground := Ground.phase }, { on := 9, ground := Ground.phase }, { on := 10, ground := Ground.phase }, { on := 11, ground := Ground.phase }, { on := 12, ground := Ground.phase }, { on := 13, ground := Ground.phase }, { on := 14, ground := Ground.phase }, { on := 15, ground := Ground.phase }, { on := 16, ground := Ground.phase }], guard := none }) (v := ?v18) rfl (by kernel_rfl) (by kernel_rfl) (by kernel_rfl) (fun _ _ _ h => h) (Or.inl ⟨by rfl, ?hy18⟩) (by assumption) ?_
  case hy18 => intro w hSw; (try dsimp only at hSw); go_simp; (try with_reducible rfl)
  try simp only [Act.put, List.setIfInBounds_toArray, List.set_cons_zero, List.set_cons_succ]
  refine wpAnyH_done (by kernel_rfl) ?_ _
  go_wp2_with fail
  go_ret2
  exact ⟨rfl, below_drew (Below.refl _ _)⟩
end
end Go.Proofs.YtoklohfpkaiidaaGreat.Obj

namespace Go.Proofs.YtoklohfpkaiidaaGreat.Obj
open Go.Proofs.YtoklohfpkaiidaaGreat.Gen Go.Proofs.YtoklohfpkaiidaaGreat.Base Go.ChangeShapes Go.WideShapes Go.ChangeAt Go.RowKit
set_option linter.unusedVariables false
theorem inv_Class (li : Nat) (u : World) : Sem.run Tryz.prog (method 293 72 (.pointer (some ⟨li, 0, none⟩)) "Class") u = .ok (164, .pointer (some ⟨li, 0, none⟩)) u := by kernel_rfl
theorem inv_Fmt (li : Nat) (u : World) : Sem.run Tryz.prog (method 293 72 (.pointer (some ⟨li, 0, none⟩)) "Fmt") u = .ok (167, .pointer (some ⟨li, 0, none⟩)) u := by kernel_rfl
theorem inv_Hash (li : Nat) (u : World) : Sem.run Tryz.prog (method 293 72 (.pointer (some ⟨li, 0, none⟩)) "Hash") u = .ok (168, .pointer (some ⟨li, 0, none⟩)) u := by kernel_rfl
theorem load6 (w : World) (b : Nat) (cs : Array Value) (hr : w.heap[b]? = some (.cells cs 64 (0, 0))) (hs : cs.size = 6) : Sem.run Tryz.prog (loadVar 64 ⟨b, 0, none⟩) w = .ok (.agg cs) w :=
  run_loadVar_row _ _ _ _ _ _ _ hr Tryz.underlying64 rfl (by rw [info6, hs])
theorem own_base {w : World} {base base' n : Nat} {v : Value} {xs : List Value} (h : w.ownsRow base 54 2 v n xs) (hb : base' ≤ base) : w.ownsRow base' 54 2 v n xs := by
  obtain ⟨hx, ⟨h1, h2⟩ | ⟨g, cap, cur, h3, h4, h5⟩⟩ := h
  · exact ⟨hx, .inl ⟨h1, h2⟩⟩
  · exact ⟨hx, .inr ⟨g, cap, cur, h3, Nat.le_trans hb h4, h5⟩⟩
section
variable {w u u' : World} {m li T : Nat} {lv dv : Value} {M : MS} {cs : Array Value} {q : Nat} {b : Bd}
structure Tr (w u : World) : Prop where
  bel : Below w.heap.size w u
  res : u.heap[w.heap.size]? = some (.cells #[.int .i64 0, .int .i64 0, .int .i64 0, .bool false, .slice none 0 0, .string ByteArray.empty] 64 (0, 0))
structure Tg (w u : World) (T : Nat) (cs : Array Value) : Prop where
  bel : Below w.heap.size w u
  res : u.heap[w.heap.size]? = some (.cells #[.int .i64 0, .int .i64 0, .int .i64 0, .bool false, .slice none 0 0, .string ByteArray.empty] 64 (0, 0))
  row : u.heap[T]? = some (.cells cs 64 (0, 0))
  lt : w.heap.size < T
theorem Tr.start : Tr w (w.alloc (.cells #[.int .i64 0, .int .i64 0, .int .i64 0, .bool false, .slice none 0 0, .string ByteArray.empty] 64)) := ⟨(Below.refl _ _).alloc (Nat.le_refl _) _, heap_alloc_new _ _⟩
theorem Tr.drew (h : Tr w u) : Tr w u.drew := ⟨below_drew h.bel, h.res⟩
theorem Tr.more (h : Tr w u) (hb : Below u.heap.size u u') : Tr w u' := ⟨h.bel.trans (hb.mono h.bel.size), (hb.block _ (Array.getElem?_eq_some_iff.1 h.res).1).trans h.res⟩
theorem Tr.al (h : Tr w u) : Tg w (u.alloc (.cells #[.int .i64 0, .int .i64 0, .int .i64 0, .bool false, .slice none 0 0, .string ByteArray.empty] 64)) u.heap.size #[.int .i64 0, .int .i64 0, .int .i64 0, .bool false, .slice none 0 0, .string ByteArray.empty] :=
  ⟨h.bel.alloc h.bel.size _, (heap_alloc_old _ _ (Array.getElem?_eq_some_iff.1 h.res).1).trans h.res, heap_alloc_new _ _, (Array.getElem?_eq_some_iff.1 h.res).1⟩
theorem Tr.alD (h : Tr w u.drew) : Tg w (u.alloc (.cells #[.int .i64 0, .int .i64 0, .int .i64 0, .bool false, .slice none 0 0, .string ByteArray.empty] 64)).drew u.heap.size #[.int .i64 0, .int .i64 0, .int .i64 0, .bool false, .slice none 0 0, .string ByteArray.empty] :=
  ⟨below_drew ((show Below w.heap.size w u from ⟨h.bel.os, h.bel.tape, h.bel.output, h.bel.size, h.bel.block⟩).alloc h.bel.size _), (heap_alloc_old _ _ (Array.getElem?_eq_some_iff.1 h.res).1).trans h.res, heap_alloc_new _ _, (Array.getElem?_eq_some_iff.1 h.res).1⟩
theorem Tg.more (h : Tg w u T cs) (hb : Below u.heap.size u u') : Tg w u' T cs := ⟨h.bel.trans (hb.mono h.bel.size), (hb.block _ (Array.getElem?_eq_some_iff.1 h.res).1).trans h.res, (hb.block _ (Array.getElem?_eq_some_iff.1 h.row).1).trans h.row, h.lt⟩
theorem Tg.put (h : Tg w u T cs) (cs' : Array Value) : Tg w (u.setRow T cs') T cs' :=
  ⟨below_setRow h.bel (Nat.le_of_lt h.lt) _, (setRow_other u T _ _ (by have := h.lt; omega)).trans h.res, setRow_heap _ _ _ _ _ _ h.row, h.lt⟩
theorem Tr.mem (h : Tr w u) {v : Value} (hm : m < w.heap.size ∧ w.cell? ⟨m, 0, none⟩ = some v) : u.cell? ⟨m, 0, none⟩ = some v := (h.bel.cell (p := ⟨m, 0, none⟩) hm.1).trans hm.2
theorem Tg.mem (h : Tg w u T cs) {v : Value} (hm : m < w.heap.size ∧ w.cell? ⟨m, 0, none⟩ = some v) : u.cell? ⟨m, 0, none⟩ = some v := (h.bel.cell (p := ⟨m, 0, none⟩) hm.1).trans hm.2
/-- A field of the copy is turned. -/
theorem Tg.set (h : Tg w u T cs) {j : Nat} (v : Value) : Tg w (u.setCell ⟨T, j, none⟩ v) T (cs.setIfInBounds j v) := by
  refine ⟨h.bel.setCell (p := ⟨T, j, none⟩) (Nat.le_of_lt h.lt) v, (heap_setCell_other _ _ _ _ (by have := h.lt; simp; omega)).trans h.res, ?_, h.lt⟩
  exact heap_setCell_same _ _ _ _ _ _ h.row
set_option maxHeartbeats 4000000 in
set_option maxRecDepth 100000 in
theorem me_thing (h : MemAt w m li lv dv M) (hq : M.bs[q]? = some b) (hf : b.fmt ≠ 3) (hB : b.B = []) (hF : b.F.length ≤ 60000) :
    Calls Tryz.prog 52 #[.pointer (some ⟨m, 0, none⟩), .int .i64 q] w fun e w' => ∃ a c, e = .returned (.agg #[.int .i64 b.cls, .int .i64 b.fmt, .int .i64 b.hash, .bool b.fin, .slice a b.F.length c, .string ByteArray.empty]) ∧ w'.ownsRow w.heap.size 54 2 (.slice a b.F.length c) b.F.length (vals b.F) ∧ Below w.heap.size w w' := by
  have hz := zT
  have hzV := zV
  have hmw : m < w.heap.size := h.lt (.inl rfl)
  have c0 := h.c0
  have HIF : Hid (m < w.heap.size ∧ w.cell? ⟨m, 0, none⟩ = some (.iface 72 (.pointer (some ⟨li, 0, none⟩)))) := Lib.hid ⟨hmw, c0⟩
  have HMK := Lib.hid fun u (hb : Below w.heap.size w u) => li_Mark (h.list.below hb) hq
  have HCL := Lib.hid fun u (hb : Below w.heap.size w u) => li_Class (h.list.below hb) hq
  have HFT := Lib.hid fun u (hb : Below w.heap.size w u) => li_Fmt (h.list.below hb) hq
  have HHS := Lib.hid fun u (hb : Below w.heap.size w u) => li_Hash (h.list.below hb) hq
  have HSZ := Lib.hid fun u (hb : Below w.heap.size w u) => li_Size (h.list.below hb) hq ⟨by omega, by rw [hB]; simp⟩
  have HFD := Lib.hid fun u (hb : Below w.heap.size w u) (i : Int) => li_Field (h.list.below hb) hq i
  rw [hB] at HSZ
  simp only [List.length_nil, Int.natCast_zero, Int.add_zero] at HSZ
  obtain ⟨cls, fmt, hash, col, fin, fv, F, bv, B⟩ := b
  dsimp only at *
  clear h hq hB
  have HS : Hid (Tr w (w.alloc (.cells #[.int .i64 0, .int .i64 0, .int .i64 0, .bool false, .slice none 0 0, .string ByteArray.empty] 64))) := Lib.hid Tr.start
  go_enter Tryz.func52, Tryz.ntmps52
  go_upto_region 2 with (first
    | (go_at_call 171; (with_reducible refine (HMK.out _ HS.out.bel).mono ?_); rintro e u1 ⟨rfl, hb1⟩; have HS := Lib.hid (HS.out.more hb1); clear hb1; have c0 := HS.out.mem HIF.out; dsimp only))
  have HS := Lib.hid HS.out.drew
  go_cut [7] (fun s7 wx => ∃ T, s7 = .pointer (some ⟨T, 0, none⟩) ∧ Tg w wx T #[.int .i64 cls, .int .i64 fmt, .int .i64 hash, .bool fin, .slice none 0 0, .string ByteArray.empty])
  case first =>
    refine wp_region_held_drew (S := (fun w' => w'.cell? ⟨m, 0, none⟩ = some (.iface 72 (.pointer (some ⟨li, 0, none⟩))))) (by kernel_rfl) ?_ (fun hH0 => ?_)
    · (try dsimp only); exact HS.out.mem HIF.out
    refine wpAnyH_take (i := 0) (oi := { dst := some 23, op := Op.move (Operand.tmp 0), type := 35, pos := "object.go:98", after := #[], guard := none }) (v := ?v1) rfl (by kernel_rfl) (by kernel_rfl) (by kernel_rfl) (fun _ _ _ h => h) (Or.inl ⟨by rfl, ?hy1⟩) (by assumption) ?_
    case hy1 => intro w hSw; (try dsimp only at hSw); go_simp; (try with_reducible rfl)
    try simp only [Act.put, List.setIfInBounds_toArray, List.set_cons_zero, List.set_cons_succ]
    refine wpAnyH_take (i := 1) (oi := { dst := some 24, op := Op.nilCheck (Operand.tmp 23), type := 0, pos := "object.go:98", after := #[{ on := 0, ground := Ground.data }], guard := none }) (v := ?v2) rfl (by kernel_rfl) (by kernel_rfl) (by kernel_rfl) (fun _ _ _ h => h) (Or.inl ⟨by rfl, ?hy2⟩) (by assumption) ?_
    case hy2 => intro w hSw; (try dsimp only at hSw); go_simp; (try with_reducible rfl)
    try simp only [Act.put, List.setIfInBounds_toArray, List.set_cons_zero, List.set_cons_succ]
    refine wpAnyH_take (i := 2) (oi := { dst := some 25, op := Op.fieldAddr 78 (Operand.tmp 24) 0, type := 0, pos := "object.go:98", after := #[{ on := 1, ground := Ground.data }], guard := none }) (v := ?v3) rfl (by kernel_rfl) (by kernel_rfl) (by kernel_rfl) (fun _ _ _ h => h) (Or.inl ⟨by rfl, ?hy3⟩) (by assumption) ?_
    case hy3 => intro w hSw; (try dsimp only at hSw); go_simp; (try with_reducible rfl)
    try simp only [Act.put, List.setIfInBounds_toArray, List.set_cons_zero, List.set_cons_succ]
    refine wpAnyH_take (i := 3) (oi := { dst := some 26, op := Op.load 75 (Operand.tmp 25), type := 75, pos := "object.go:98", after := #[{ on := 2, ground := Ground.data }], guard := none }) (v := ?v4) rfl (by kernel_rfl) (by kernel_rfl) (by kernel_rfl) (fun _ _ _ h => h) (Or.inl ⟨by rfl, ?hy4⟩) (by assumption) ?_
    case hy4 => intro w hSw; (try dsimp only at hSw); go_simp; (try with_reducible rfl)
    try simp only [Act.put, List.setIfInBounds_toArray, List.set_cons_zero, List.set_cons_succ]
    refine wpAnyH_take (i := 4) (oi := { dst := some 27, op := Op.move (Operand.tmp 1), type := 3, pos := "object.go:98", after := #[], guard := none }) (v := ?v5) rfl (by kernel_rfl) (by kernel_rfl) (by kernel_rfl) (fun _ _ _ h => h) (Or.inl ⟨by rfl, ?hy5⟩) (by assumption) ?_
    case hy5 => intro w hSw; (try dsimp only at hSw); go_simp; (try with_reducible rfl)
    try simp only [Act.put, List.setIfInBounds_toArray, List.set_cons_zero, List.set_cons_succ]
    refine wpAnyH_take (i := 6) (oi := { dst := some 29, op := Op.move (Operand.tmp 0), type := 35, pos := "object.go:98", after := #[], guard := none }) (v := ?v6) rfl (by kernel_rfl) (by kernel_rfl) (by kernel_rfl) (fun _ _ _ h => h) (Or.inl ⟨by rfl, ?hy6⟩) (by assumption) ?_
    case hy6 => intro w hSw; (try dsimp only at hSw); go_simp; (try with_reducible rfl)
    try simp only [Act.put, List.setIfInBounds_toArray, List.set_cons_zero, List.set_cons_succ]
    refine wpAnyH_take (i := 7) (oi := { dst := some 30, op := Op.nilCheck (Operand.tmp 29), type := 0, pos := "object.go:98", after := #[{ on := 6, ground := Ground.data }], guard := none }) (v := ?v7) rfl (by kernel_rfl) (by kernel_rfl) (by kernel_rfl) (fun _ _ _ h => h) (Or.inl ⟨by rfl, ?hy7⟩) (by assumption) ?_
    case hy7 => intro w hSw; (try dsimp only at hSw); go_simp; (try with_reducible rfl)
    try simp only [Act.put, List.setIfInBounds_toArray, List.set_cons_zero, List.set_cons_succ]
    refine wpAnyH_take (i := 8) (oi := { dst := some 31, op := Op.fieldAddr 78 (Operand.tmp 30) 0, type := 0, pos := "object.go:98", after := #[{ on := 7, ground := Ground.data }], guard := none }) (v := ?v8) rfl (by kernel_rfl) (by kernel_rfl) (by kernel_rfl) (fun _ _ _ h => h) (Or.inl ⟨by rfl, ?hy8⟩) (by assumption) ?_
    case hy8 => intro w hSw; (try dsimp only at hSw); go_simp; (try with_reducible rfl)
    try simp only [Act.put, List.setIfInBounds_toArray, List.set_cons_zero, List.set_cons_succ]
    refine wpAnyH_take (i := 9) (oi := { dst := some 32, op := Op.load 75 (Operand.tmp 31), type := 75, pos := "object.go:98", after := #[{ on := 8, ground := Ground.data }], guard := none }) (v := ?v9) rfl (by kernel_rfl) (by kernel_rfl) (by kernel_rfl) (fun _ _ _ h => h) (Or.inl ⟨by rfl, ?hy9⟩) (by assumption) ?_
    case hy9 => intro w hSw; (try dsimp only at hSw); go_simp; (try with_reducible rfl)
    try simp only [Act.put, List.setIfInBounds_toArray, List.set_cons_zero, List.set_cons_succ]
    refine wpAnyH_take (i := 10) (oi := { dst := some 33, op := Op.move (Operand.tmp 1), type := 3, pos := "object.go:98", after := #[], guard := none }) (v := ?v10) rfl (by kernel_rfl) (by kernel_rfl) (by kernel_rfl) (fun _ _ _ h => h) (Or.inl ⟨by rfl, ?hy10⟩) (by assumption) ?_
    case hy10 => intro w hSw; (try dsimp only at hSw); go_simp; (try with_reducible rfl)
    try simp only [Act.put, List.setIfInBounds_toArray, List.set_cons_zero, List.set_cons_succ]
    refine wpAnyH_take (i := 12) (oi := { dst := some 35, op := Op.move (Operand.tmp 0), type := 35, pos := "object.go:98", after := #[], guard := none }) (v := ?v11) rfl (by kernel_rfl) (by kernel_rfl) (by kernel_rfl) (fun _ _ _ h => h) (Or.inl ⟨by rfl, ?hy11⟩) (by assumption) ?_
    case hy11 => intro w hSw; (try dsimp only at hSw); go_simp; (try with_reducible rfl)
    try simp only [Act.put, List.setIfInBounds_toArray, List.set_cons_zero, List.set_cons_succ]
    refine wpAnyH_take (i := 13) (oi := { dst := some 36, op := Op.nilCheck (Operand.tmp 35), type := 0, pos := "object.go:98", after := #[{ on := 12, ground := Ground.data }], guard := none }) (v := ?v12) rfl (by kernel_rfl) (by kernel_rfl) (by kernel_rfl) (fun _ _ _ h => h) (Or.inl ⟨by rfl, ?hy12⟩) (by assumption) ?_
    case hy12 => intro w hSw; (try dsimp only at hSw); go_simp; (try with_reducible rfl)
    try simp only [Act.put, List.setIfInBounds_toArray, List.set_cons_zero, List.set_cons_succ]
    refine wpAnyH_take (i := 14) (oi := { dst := some 37, op := Op.fieldAddr 78 (Operand.tmp 36) 0, type := 0, pos := "object.go:98", after := #[{ on := 13, ground := Ground.data }], guard := none }) (v := ?v13) rfl (by kernel_rfl) (by kernel_rfl) (by kernel_rfl) (fun _ _ _ h => h) (Or.inl ⟨by rfl, ?hy13⟩) (by assumption) ?_
    case hy13 => intro w hSw; (try dsimp only at hSw); go_simp; (try with_reducible rfl)
    try simp only [Act.put, List.setIfInBounds_toArray, List.set_cons_zero, List.set_cons_succ]
    refine wpAnyH_take (i := 15) (oi := { dst := some 38, op := Op.load 75 (Operand.tmp 37), type := 75, pos := "object.go:98", after := #[{ on := 14, ground := Ground.data }], guard := none }) (v := ?v14) rfl (by kernel_rfl) (by kernel_rfl) (by kernel_rfl) (fun _ _ _ h => h) (Or.inl ⟨by rfl, ?hy14⟩) (by assumption) ?_
    case hy14 => intro w hSw; (try dsimp only at hSw); go_simp; (try with_reducible rfl)
    try simp only [Act.put, List.setIfInBounds_toArray, List.set_cons_zero, List.set_cons_succ]
    refine wpAnyH_take (i := 16) (oi := { dst := some 39, op := Op.move (Operand.tmp 1), type := 3, pos := "object.go:98", after := #[], guard := none }) (v := ?v15) rfl (by kernel_rfl) (by kernel_rfl) (by kernel_rfl) (fun _ _ _ h => h) (Or.inl ⟨by rfl, ?hy15⟩) (by assumption) ?_
    case hy15 => intro w hSw; (try dsimp only at hSw); go_simp; (try with_reducible rfl)
    try simp only [Act.put, List.setIfInBounds_toArray, List.set_cons_zero, List.set_cons_succ]
    refine wpAnyH_take (i := 18) (oi := { dst := some 41, op := Op.move (Operand.tmp 6), type := 4, pos := "object.go:98", after := #[], guard := none }) (v := ?v16) rfl (by kernel_rfl) (by kernel_rfl) (by kernel_rfl) (fun _ _ _ h => h) (Or.inl ⟨by rfl, ?hy16⟩) (by assumption) ?_
    case hy16 => intro w hSw; (try dsimp only at hSw); go_simp; (try with_reducible rfl)
    try simp only [Act.put, List.setIfInBounds_toArray, List.set_cons_zero, List.set_cons_succ]
    refine wpAnyH_ready (rs := [5, 20]) (by kernel_rfl) (by simp) ?_
    refine (AllReadyH.cons (o := { dst := some 28, op := Op.call { callee := Callee.invoke (Operand.tmp 26) "Class", args := #[Operand.tmp 27], argTypes := #[3] }, type := 3, pos := "object.go:98", after := #[{ on := 3, ground := Ground.data }, { on := 4, ground := Ground.data }], guard := none }) rfl (fun K hK => ?_) (AllReadyH.cons (o := { dst := some 7, op := Op.alloc 64, type := 0, pos := "object.go:98", after := #[], guard := none }) rfl (fun K hK => ?_) AllReadyH.nil))
    · have hiv := inv_Class li; go_simp; go_at_call 164; (with_reducible refine (HCL.out _ (by first | exact HD.out.bel | exact HS.out.bel)).mono ?_); rintro e ux ⟨rfl, rfl⟩; clear hiv; dsimp only
      refine hK.out _ _ ?_ (fun hH1 => ?_)
      · (try dsimp only); (first | exact HE.out.mem HIF.out | exact HD.out.mem HIF.out | exact HS.out.mem HIF.out)
      clear hK K
      clear hH0
      try simp only [Act.put, List.setIfInBounds_toArray, List.set_cons_zero, List.set_cons_succ]
      refine wpAnyH_ready (rs := [11, 20]) (by kernel_rfl) (by simp) ?_
      refine (AllReadyH.cons (o := { dst := some 34, op := Op.call { callee := Callee.invoke (Operand.tmp 32) "Fmt", args := #[Operand.tmp 33], argTypes := #[3] }, type := 3, pos := "object.go:98", after := #[{ on := 9, ground := Ground.data }, { on := 10, ground := Ground.data }, { on := 5, ground := Ground.chain }], guard := none }) rfl (fun K hK => ?_) (AllReadyH.cons (o := { dst := some 7, op := Op.alloc 64, type := 0, pos := "object.go:98", after := #[], guard := none }) rfl (fun K hK => ?_) AllReadyH.nil))
      · have hiv := inv_Fmt li; go_simp; go_at_call 167; (with_reducible refine (HFT.out _ (by first | exact HD.out.bel | exact HS.out.bel)).mono ?_); rintro e ux ⟨rfl, rfl⟩; clear hiv; dsimp only
        refine hK.out _ _ ?_ (fun hH2 => ?_)
        · (try dsimp only); (first | exact HE.out.mem HIF.out | exact HD.out.mem HIF.out | exact HS.out.mem HIF.out)
        clear hK K
        clear hH1
        try simp only [Act.put, List.setIfInBounds_toArray, List.set_cons_zero, List.set_cons_succ]
        refine wpAnyH_ready (rs := [17, 20]) (by kernel_rfl) (by simp) ?_
        refine (AllReadyH.cons (o := { dst := some 40, op := Op.call { callee := Callee.invoke (Operand.tmp 38) "Hash", args := #[Operand.tmp 39], argTypes := #[3] }, type := 3, pos := "object.go:98", after := #[{ on := 15, ground := Ground.data }, { on := 16, ground := Ground.data }, { on := 11, ground := Ground.chain }], guard := none }) rfl (fun K hK => ?_) (AllReadyH.cons (o := { dst := some 7, op := Op.alloc 64, type := 0, pos := "object.go:98", after := #[], guard := none }) rfl (fun K hK => ?_) AllReadyH.nil))
        · have hiv := inv_Hash li; go_simp; go_at_call 168; (with_reducible refine (HHS.out _ (by first | exact HD.out.bel | exact HS.out.bel)).mono ?_); rintro e ux ⟨rfl, rfl⟩; clear hiv; dsimp only
          refine hK.out _ _ ?_ (fun hH3 => ?_)
          · (try dsimp only); (first | exact HE.out.mem HIF.out | exact HD.out.mem HIF.out | exact HS.out.mem HIF.out)
          clear hK K
          clear hH2
          try simp only [Act.put, List.setIfInBounds_toArray, List.set_cons_zero, List.set_cons_succ]
          refine wpAnyH_take (i := 19) (oi := { dst := some 42, op := Op.build 64 #[(0, Operand.tmp 28), (1, Operand.tmp 34), (2, Operand.tmp 40), (3, Operand.tmp 41)], type := 64, pos := "object.go:98", after := #[{ on := 5, ground := Ground.data }, { on := 11, ground := Ground.data }, { on := 17, ground := Ground.data }, { on := 18, ground := Ground.data }], guard := none }) (v := ?v17) rfl (by kernel_rfl) (by kernel_rfl) (by kernel_rfl) (fun _ _ _ h => h) (Or.inl ⟨by rfl, ?hy17⟩) (by assumption) ?_
          case hy17 => intro w hSw; (try dsimp only at hSw); go_simp; (try with_reducible rfl)
          try simp only [Act.put, List.setIfInBounds_toArray, List.set_cons_zero, List.set_cons_succ]
          refine wpAnyH_ready (rs := [20]) (by kernel_rfl) (by simp) ?_
          refine (AllReadyH.cons (o := { dst := some 7, op := Op.alloc 64, type := 0, pos := "object.go:98", after := #[], guard := none }) rfl (fun K hK => ?_) AllReadyH.nil)
          go_simp; have HD := Lib.hid (Tr.alD HS.out)
          refine hK.out _ _ ?_ (fun hH4 => ?_)
          · (try dsimp only); (first | exact HE.out.mem HIF.out | exact HD.out.mem HIF.out | exact HS.out.mem HIF.out)
          clear hK K
          clear hH3
          try simp only [Act.put, List.setIfInBounds_toArray, List.set_cons_zero, List.set_cons_succ]
          refine wpAnyH_ready (rs := [21]) (by kernel_rfl) (by simp) ?_
          refine (AllReadyH.cons (o := { dst := none, op := Op.store 64 (Operand.tmp 7) (Operand.tmp 42), type := 0, pos := "object.go:98", after := #[{ on := 20, ground := Ground.data }, { on := 19, ground := Ground.data }, { on := 17, ground := Ground.chain }, { on := 0, ground := Ground.phase }, { on := 1, ground := Ground.phase }, { on := 2, ground := Ground.phase }, { on := 3, ground := Ground.phase }, { on := 4, ground := Ground.phase }, { on := 5, ground := Ground.phase }, { on := 6, ground := Ground.phase }, { on := 7, ground := Ground.phase }, { on := 8, ground := Ground.phase }, { on := 9, ground := Ground.phase }, { on := 10, ground := Ground.phase }, { on := 11, ground := Ground.phase }, { on := 12, ground := Ground.phase }, { on := 13, ground := Ground.phase }, { on := 14, ground := Ground.phase }, { on := 15, ground := Ground.phase }, { on := 16, ground := Ground.phase }, { on := 17, ground := Ground.phase }, { on := 18, ground := Ground.phase }, { on := 19, ground := Ground.phase }, { on := 20, ground := Ground.phase }], guard := none }) rfl (fun K hK => ?_) AllReadyH.nil)
          rw [if_pos (by rfl)]; refine wp_store_row 64 (Operand.tmp 7) (Operand.tmp 42) (by rfl) _ #[.int .i64 cls, .int .i64 fmt, .int .i64 hash, .bool fin, .slice none 0 0, .string ByteArray.empty] (by rfl) (by rfl) _ _ HD.out.row info6 (by rfl) (by simp [Value.oneCell']) ?_
          have HE := Lib.hid (HD.out.put #[.int .i64 cls, .int .i64 fmt, .int .i64 hash, .bool fin, .slice none 0 0, .string ByteArray.empty])
          refine hK.out _ _ ?_ (fun hH5 => ?_)
          · (try dsimp only); (first | exact HE.out.mem HIF.out | exact HD.out.mem HIF.out | exact HS.out.mem HIF.out)
          clear hK K
          clear hH4
          try simp only [Act.put, List.setIfInBounds_toArray, List.set_cons_zero, List.set_cons_succ]
          refine wpAnyH_done (by kernel_rfl) ?_ _
          go_wp2_with fail
          go_meet
          exact ⟨_, rfl, HE.out⟩
        · go_simp; have HD := Lib.hid (Tr.alD HS.out)
          refine hK.out _ _ ?_ (fun hH3 => ?_)
          · (try dsimp only); (first | exact HE.out.mem HIF.out | exact HD.out.mem HIF.out | exact HS.out.mem HIF.out)
          clear hK K
          clear hH2
          try simp only [Act.put, List.setIfInBounds_toArray, List.set_cons_zero, List.set_cons_succ]
          refine wpAnyH_ready (rs := [17]) (by kernel_rfl) (by simp) ?_
          refine (AllReadyH.cons (o := { dst := some 40, op := Op.call { callee := Callee.invoke (Operand.tmp 38) "Hash", args := #[Operand.tmp 39], argTypes := #[3] }, type := 3, pos := "object.go:98", after := #[{ on := 15, ground := Ground.data }, { on := 16, ground := Ground.data }, { on := 11, ground := Ground.chain }], guard := none }) rfl (fun K hK => ?_) AllReadyH.nil)
          have hiv := inv_Hash li; go_simp; go_at_call 168; (with_reducible refine (HHS.out _ (by first | exact HD.out.bel | exact HS.out.bel)).mono ?_); rintro e ux ⟨rfl, rfl⟩; clear hiv; dsimp only
          refine hK.out _ _ ?_ (fun hH4 => ?_)
          · (try dsimp only); (first | exact HE.out.mem HIF.out | exact HD.out.mem HIF.out | exact HS.out.mem HIF.out)
          clear hK K
          clear hH3
          try simp only [Act.put, List.setIfInBounds_toArray, List.set_cons_zero, List.set_cons_succ]
          refine wpAnyH_take (i := 19) (oi := { dst := some 42, op := Op.build 64 #[(0, Operand.tmp 28), (1, Operand.tmp 34), (2, Operand.tmp 40), (3, Operand.tmp 41)], type := 64, pos := "object.go:98", after := #[{ on := 5, ground := Ground.data }, { on := 11, ground := Ground.data }, { on := 17, ground := Ground.data }, { on := 18, ground := Ground.data }], guard := none }) (v := ?v18) rfl (by kernel_rfl) (by kernel_rfl) (by kernel_rfl) (fun _ _ _ h => h) (Or.inl ⟨by rfl, ?hy18⟩) (by assumption) ?_
          case hy18 => intro w hSw; (try dsimp only at hSw); go_simp; (try with_reducible rfl)
          try simp only [Act.put, List.setIfInBounds_toArray, List.set_cons_zero, List.set_cons_succ]
          refine wpAnyH_ready (rs := [21]) (by kernel_rfl) (by simp) ?_
          refine (AllReadyH.cons (o := { dst := none, op := Op.store 64 (Operand.tmp 7) (Operand.tmp 42), type := 0, pos := "object.go:98", after := #[{ on := 20, ground := Ground.data }, { on := 19, ground := Ground.data }, { on := 17, ground := Ground.chain }, { on := 0, ground := Ground.phase }, { on := 1, ground := Ground.phase }, { on := 2, ground := Ground.phase }, { on := 3, ground := Ground.phase }, { on := 4, ground := Ground.phase }, { on := 5, ground := Ground.phase }, { on := 6, ground := Ground.phase }, { on := 7, ground := Ground.phase }, { on := 8, ground := Ground.phase }, { on := 9, ground := Ground.phase }, { on := 10, ground := Ground.phase }, { on := 11, ground := Ground.phase }, { on := 12, ground := Ground.phase }, { on := 13, ground := Ground.phase }, { on := 14, ground := Ground.phase }, { on := 15, ground := Ground.phase }, { on := 16, ground := Ground.phase }, { on := 17, ground := Ground.phase }, { on := 18, ground := Ground.phase }, { on := 19, ground := Ground.phase }, { on := 20, ground := Ground.phase }], guard := none }) rfl (fun K hK => ?_) AllReadyH.nil)
          rw [if_pos (by rfl)]; refine wp_store_row 64 (Operand.tmp 7) (Operand.tmp 42) (by rfl) _ #[.int .i64 cls, .int .i64 fmt, .int .i64 hash, .bool fin, .slice none 0 0, .string ByteArray.empty] (by rfl) (by rfl) _ _ HD.out.row info6 (by rfl) (by simp [Value.oneCell']) ?_
          have HE := Lib.hid (HD.out.put #[.int .i64 cls, .int .i64 fmt, .int .i64 hash, .bool fin, .slice none 0 0, .string ByteArray.empty])
          refine hK.out _ _ ?_ (fun hH5 => ?_)
          · (try dsimp only); (first | exact HE.out.mem HIF.out | exact HD.out.mem HIF.out | exact HS.out.mem HIF.out)
          clear hK K
          clear hH4
          try simp only [Act.put, List.setIfInBounds_toArray, List.set_cons_zero, List.set_cons_succ]
          refine wpAnyH_done (by kernel_rfl) ?_ _
          go_wp2_with fail
          go_meet
          exact ⟨_, rfl, HE.out⟩
      · go_simp; have HD := Lib.hid (Tr.alD HS.out)
        refine hK.out _ _ ?_ (fun hH2 => ?_)
        · (try dsimp only); (first | exact HE.out.mem HIF.out | exact HD.out.mem HIF.out | exact HS.out.mem HIF.out)
        clear hK K
        clear hH1
        try simp only [Act.put, List.setIfInBounds_toArray, List.set_cons_zero, List.set_cons_succ]
        refine wpAnyH_ready (rs := [11]) (by kernel_rfl) (by simp) ?_
        refine (AllReadyH.cons (o := { dst := some 34, op := Op.call { callee := Callee.invoke (Operand.tmp 32) "Fmt", args := #[Operand.tmp 33], argTypes := #[3] }, type := 3, pos := "object.go:98", after := #[{ on := 9, ground := Ground.data }, { on := 10, ground := Ground.data }, { on := 5, ground := Ground.chain }], guard := none }) rfl (fun K hK => ?_) AllReadyH.nil)
        have hiv := inv_Fmt li; go_simp; go_at_call 167; (with_reducible refine (HFT.out _ (by first | exact HD.out.bel | exact HS.out.bel)).mono ?_); rintro e ux ⟨rfl, rfl⟩; clear hiv; dsimp only
        refine hK.out _ _ ?_ (fun hH3 => ?_)
        · (try dsimp only); (first | exact HE.out.mem HIF.out | exact HD.out.mem HIF.out | exact HS.out.mem HIF.out)
        clear hK K
        clear hH2
        try simp only [Act.put, List.setIfInBounds_toArray, List.set_cons_zero, List.set_cons_succ]
        refine wpAnyH_ready (rs := [17]) (by kernel_rfl) (by simp) ?_
        refine (AllReadyH.cons (o := { dst := some 40, op := Op.call { callee := Callee.invoke (Operand.tmp 38) "Hash", args := #[Operand.tmp 39], argTypes := #[3] }, type := 3, pos := "object.go:98", after := #[{ on := 15, ground := Ground.data }, { on := 16, ground := Ground.data }, { on := 11, ground := Ground.chain }], guard := none }) rfl (fun K hK => ?_) AllReadyH.nil)
        have hiv := inv_Hash li; go_simp; go_at_call 168; (with_reducible refine (HHS.out _ (by first | exact HD.out.bel | exact HS.out.bel)).mono ?_); rintro e ux ⟨rfl, rfl⟩; clear hiv; dsimp only
        refine hK.out _ _ ?_ (fun hH4 => ?_)
        · (try dsimp only); (first | exact HE.out.mem HIF.out | exact HD.out.mem HIF.out | exact HS.out.mem HIF.out)
        clear hK K
        clear hH3
        try simp only [Act.put, List.setIfInBounds_toArray, List.set_cons_zero, List.set_cons_succ]
        refine wpAnyH_take (i := 19) (oi := { dst := some 42, op := Op.build 64 #[(0, Operand.tmp 28), (1, Operand.tmp 34), (2, Operand.tmp 40), (3, Operand.tmp 41)], type := 64, pos := "object.go:98", after := #[{ on := 5, ground := Ground.data }, { on := 11, ground := Ground.data }, { on := 17, ground := Ground.data }, { on := 18, ground := Ground.data }], guard := none }) (v := ?v19) rfl (by kernel_rfl) (by kernel_rfl) (by kernel_rfl) (fun _ _ _ h => h) (Or.inl ⟨by rfl, ?hy19⟩) (by assumption) ?_
        case hy19 => intro w hSw; (try dsimp only at hSw); go_simp; (try with_reducible rfl)
        try simp only [Act.put, List.setIfInBounds_toArray, List.set_cons_zero, List.set_cons_succ]
        refine wpAnyH_ready (rs := [21]) (by kernel_rfl) (by simp) ?_
        refine (AllReadyH.cons (o := { dst := none, op := Op.store 64 (Operand.tmp 7) (Operand.tmp 42), type := 0, pos := "object.go:98", after := #[{ on := 20, ground := Ground.data }, { on := 19, ground := Ground.data }, { on := 17, ground := Ground.chain }, { on := 0, ground := Ground.phase }, { on := 1, ground := Ground.phase }, { on := 2, ground := Ground.phase }, { on := 3, ground := Ground.phase }, { on := 4, ground := Ground.phase }, { on := 5, ground := Ground.phase }, { on := 6, ground := Ground.phase }, { on := 7, ground := Ground.phase }, { on := 8, ground := Ground.phase }, { on := 9, ground := Ground.phase }, { on := 10, ground := Ground.phase }, { on := 11, ground := Ground.phase }, { on := 12, ground := Ground.phase }, { on := 13, ground := Ground.phase }, { on := 14, ground := Ground.phase }, { on := 15, ground := Ground.phase }, { on := 16, ground := Ground.phase }, { on := 17, ground := Ground.phase }, { on := 18, ground := Ground.phase }, { on := 19, ground := Ground.phase }, { on := 20, ground := Ground.phase }], guard := none }) rfl (fun K hK => ?_) AllReadyH.nil)
        rw [if_pos (by rfl)]; refine wp_store_row 64 (Operand.tmp 7) (Operand.tmp 42) (by rfl) _ #[.int .i64 cls, .int .i64 fmt, .int .i64 hash, .bool fin, .slice none 0 0, .string ByteArray.empty] (by rfl) (by rfl) _ _ HD.out.row info6 (by rfl) (by simp [Value.oneCell']) ?_
        have HE := Lib.hid (HD.out.put #[.int .i64 cls, .int .i64 fmt, .int .i64 hash, .bool fin, .slice none 0 0, .string ByteArray.empty])
        refine hK.out _ _ ?_ (fun hH5 => ?_)
        · (try dsimp only); (first | exact HE.out.mem HIF.out | exact HD.out.mem HIF.out | exact HS.out.mem HIF.out)
        clear hK K
        clear hH4
        try simp only [Act.put, List.setIfInBounds_toArray, List.set_cons_zero, List.set_cons_succ]
        refine wpAnyH_done (by kernel_rfl) ?_ _
        go_wp2_with fail
        go_meet
        exact ⟨_, rfl, HE.out⟩
    · go_simp; have HD := Lib.hid (Tr.alD HS.out)
      refine hK.out _ _ ?_ (fun hH1 => ?_)
      · (try dsimp only); (first | exact HE.out.mem HIF.out | exact HD.out.mem HIF.out | exact HS.out.mem HIF.out)
      clear hK K
      clear hH0
      try simp only [Act.put, List.setIfInBounds_toArray, List.set_cons_zero, List.set_cons_succ]
      refine wpAnyH_ready (rs := [5]) (by kernel_rfl) (by simp) ?_
      refine (AllReadyH.cons (o := { dst := some 28, op := Op.call { callee := Callee.invoke (Operand.tmp 26) "Class", args := #[Operand.tmp 27], argTypes := #[3] }, type := 3, pos := "object.go:98", after := #[{ on := 3, ground := Ground.data }, { on := 4, ground := Ground.data }], guard := none }) rfl (fun K hK => ?_) AllReadyH.nil)
      have hiv := inv_Class li; go_simp; go_at_call 164; (with_reducible refine (HCL.out _ (by first | exact HD.out.bel | exact HS.out.bel)).mono ?_); rintro e ux ⟨rfl, rfl⟩; clear hiv; dsimp only
      refine hK.out _ _ ?_ (fun hH2 => ?_)
      · (try dsimp only); (first | exact HE.out.mem HIF.out | exact HD.out.mem HIF.out | exact HS.out.mem HIF.out)
      clear hK K
      clear hH1
      try simp only [Act.put, List.setIfInBounds_toArray, List.set_cons_zero, List.set_cons_succ]
      refine wpAnyH_ready (rs := [11]) (by kernel_rfl) (by simp) ?_
      refine (AllReadyH.cons (o := { dst := some 34, op := Op.call { callee := Callee.invoke (Operand.tmp 32) "Fmt", args := #[Operand.tmp 33], argTypes := #[3] }, type := 3, pos := "object.go:98", after := #[{ on := 9, ground := Ground.data }, { on := 10, ground := Ground.data }, { on := 5, ground := Ground.chain }], guard := none }) rfl (fun K hK => ?_) AllReadyH.nil)
      have hiv := inv_Fmt li; go_simp; go_at_call 167; (with_reducible refine (HFT.out _ (by first | exact HD.out.bel | exact HS.out.bel)).mono ?_); rintro e ux ⟨rfl, rfl⟩; clear hiv; dsimp only
      refine hK.out _ _ ?_ (fun hH3 => ?_)
      · (try dsimp only); (first | exact HE.out.mem HIF.out | exact HD.out.mem HIF.out | exact HS.out.mem HIF.out)
      clear hK K
      clear hH2
      try simp only [Act.put, List.setIfInBounds_toArray, List.set_cons_zero, List.set_cons_succ]
      refine wpAnyH_ready (rs := [17]) (by kernel_rfl) (by simp) ?_
      refine (AllReadyH.cons (o := { dst := some 40, op := Op.call { callee := Callee.invoke (Operand.tmp 38) "Hash", args := #[Operand.tmp 39], argTypes := #[3] }, type := 3, pos := "object.go:98", after := #[{ on := 15, ground := Ground.data }, { on := 16, ground := Ground.data }, { on := 11, ground := Ground.chain }], guard := none }) rfl (fun K hK => ?_) AllReadyH.nil)
      have hiv := inv_Hash li; go_simp; go_at_call 168; (with_reducible refine (HHS.out _ (by first | exact HD.out.bel | exact HS.out.bel)).mono ?_); rintro e ux ⟨rfl, rfl⟩; clear hiv; dsimp only
      refine hK.out _ _ ?_ (fun hH4 => ?_)
      · (try dsimp only); (first | exact HE.out.mem HIF.out | exact HD.out.mem HIF.out | exact HS.out.mem HIF.out)
      clear hK K
      clear hH3
      try simp only [Act.put, List.setIfInBounds_toArray, List.set_cons_zero, List.set_cons_succ]
      refine wpAnyH_take (i := 19) (oi := { dst := some 42, op := Op.build 64 #[(0, Operand.tmp 28), (1, Operand.tmp 34), (2, Operand.tmp 40), (3, Operand.tmp 41)], type := 64, pos := "object.go:98", after := #[{ on := 5, ground := Ground.data }, { on := 11, ground := Ground.data }, { on := 17, ground := Ground.data }, { on := 18, ground := Ground.data }], guard := none }) (v := ?v20) rfl (by kernel_rfl) (by kernel_rfl) (by kernel_rfl) (fun _ _ _ h => h) (Or.inl ⟨by rfl, ?hy20⟩) (by assumption) ?_
      case hy20 => intro w hSw; (try dsimp only at hSw); go_simp; (try with_reducible rfl)
      try simp only [Act.put, List.setIfInBounds_toArray, List.set_cons_zero, List.set_cons_succ]
      refine wpAnyH_ready (rs := [21]) (by kernel_rfl) (by simp) ?_
      refine (AllReadyH.cons (o := { dst := none, op := Op.store 64 (Operand.tmp 7) (Operand.tmp 42), type := 0, pos := "object.go:98", after := #[{ on := 20, ground := Ground.data }, { on := 19, ground := Ground.data }, { on := 17, ground := Ground.chain }, { on := 0, ground := Ground.phase }, { on := 1, ground := Ground.phase }, { on := 2, ground := Ground.phase }, { on := 3, ground := Ground.phase }, { on := 4, ground := Ground.phase }, { on := 5, ground := Ground.phase }, { on := 6, ground := Ground.phase }, { on := 7, ground := Ground.phase }, { on := 8, ground := Ground.phase }, { on := 9, ground := Ground.phase }, { on := 10, ground := Ground.phase }, { on := 11, ground := Ground.phase }, { on := 12, ground := Ground.phase }, { on := 13, ground := Ground.phase }, { on := 14, ground := Ground.phase }, { on := 15, ground := Ground.phase }, { on := 16, ground := Ground.phase }, { on := 17, ground := Ground.phase }, { on := 18, ground := Ground.phase }, { on := 19, ground := Ground.phase }, { on := 20, ground := Ground.phase }], guard := none }) rfl (fun K hK => ?_) AllReadyH.nil)
      rw [if_pos (by rfl)]; refine wp_store_row 64 (Operand.tmp 7) (Operand.tmp 42) (by rfl) _ #[.int .i64 cls, .int .i64 fmt, .int .i64 hash, .bool fin, .slice none 0 0, .string ByteArray.empty] (by rfl) (by rfl) _ _ HD.out.row info6 (by rfl) (by simp [Value.oneCell']) ?_
      have HE := Lib.hid (HD.out.put #[.int .i64 cls, .int .i64 fmt, .int .i64 hash, .bool fin, .slice none 0 0, .string ByteArray.empty])
      refine hK.out _ _ ?_ (fun hH5 => ?_)
      · (try dsimp only); (first | exact HE.out.mem HIF.out | exact HD.out.mem HIF.out | exact HS.out.mem HIF.out)
      clear hK K
      clear hH4
      try simp only [Act.put, List.setIfInBounds_toArray, List.set_cons_zero, List.set_cons_succ]
      refine wpAnyH_done (by kernel_rfl) ?_ _
      go_wp2_with fail
      go_meet
      exact ⟨_, rfl, HE.out⟩

  case rest =>
    obtain ⟨T, rfl, hD⟩ := hcut
    have HD := Lib.hid hD
    have c0' := hD.mem HIF.out
    have k1 : wc.cell? ⟨T, 1, none⟩ = some (.int .i64 fmt) := cell_row _ _ 1 _ _ _ hD.row
    clear hD c0
    have hfb : (fmt != 3) = true := by simpa using hf
    go_wp2_with (first
      | (go_at_call 174; (with_reducible refine (HSZ.out _ HD.out.bel).mono ?_); rintro e u2 ⟨rfl, hb2⟩; have HD2 := Lib.hid (HD.out.more hb2); clear hb2; have k2 : u2.cell? ⟨T, 1, none⟩ = some (.int .i64 fmt) := cell_row _ _ 1 _ _ _ HD2.out.row; dsimp only))
    go_loopw [53] (fun v53 wr => ∃ (j : Nat) (a : Option Addr) (c : Nat), j ≤ F.length ∧ v53 = .int .i64 (j : Int) ∧ Tg w wr T #[.int .i64 cls, .int .i64 fmt, .int .i64 hash, .bool fin, .slice a j c, .string ByteArray.empty] ∧ wr.ownsRow w.heap.size 54 2 (.slice a j c) j (vals (F.take j)) ∧ ∀ k, (Value.slice a j c).ownBlock = some k → k ≠ T ∧ k ≠ w.heap.size) (fun v53 wr => F.length - (intOf v53).toNat)
    case atStart => exact ⟨0, none, 0, by omega, rfl, HD2.out, World.ownsRow_nil _ _ _ _, fun k hk => by cases hk⟩
    case round =>
      clear HD HD2 k1 k2 c0'
      obtain ⟨j, a, c, hj, rfl, hD, hO, hN⟩ := hrel
      have c0' := hD.mem HIF.out
      have k4 : wr.cell? ⟨T, 4, none⟩ = some (.slice a j c) := cell_row _ _ 4 _ _ _ hD.row
      have HD := Lib.hid hD; have HO := Lib.hid hO; have HN := Lib.hid hN
      clear hO hN
      by_cases hlt : j < F.length
      · have t1 : (j : Int) < (F.length : Int) := by omega
        have hv : hasV F (j : Int) = true := by unfold hasV; exact decide_eq_true (by omega)
        have hget : F[j]? = some (elV F (j : Int)) := by rw [elV_at hlt, List.getElem?_eq_getElem hlt]
        have htk : vals (F.take (j + 1)) = vals (F.take j) ++ vcells (elV F (j : Int)) := by
          rw [List.take_add_one, hget, vals_append]; simp [vals]
        have HFJ := Lib.hid fun u (hb : Below w.heap.size w u) => HFD.out u hb (j : Int)
        rw [hv] at HFJ
        generalize elV F (j : Int) = v at *
        obtain ⟨vb, vn⟩ := v
        have HTK := Lib.hid htk
        have hTm : T < wr.heap.size := (Array.getElem?_eq_some_iff.1 hD.row).1
        have HTM := Lib.hid hTm
        clear hv hget htk hD hTm
        go_wp2_with (first
          | (go_at_call 166; (with_reducible refine (HFJ.out _ HD.out.bel).mono ?_); rintro e v1 ⟨rfl, hb1⟩; have HD1 := Lib.hid (HD.out.more hb1); have HO1 := Lib.hid (owns_at HO.out fun k hk => hb1.block k (HO.out.lt k hk).2); have HTM1 := Lib.hid (Nat.lt_of_lt_of_le HTM.out hb1.size); clear hb1; have k41 : (v1.alloc (.cells #[.bool vb, .int .i64 vn] 54)).cell? ⟨T, 4, none⟩ = some (.slice a j c) := (World.cell?_alloc_lt _ _ _ HTM1.out).trans (cell_row _ _ 4 _ _ _ HD1.out.row); dsimp only [vcells])
          | (refine wpList_store_row rfl 54 (Operand.tmp 10) (Operand.tmp 64) rfl v1.heap.size _ rfl rfl _ _ (heap_alloc_new v1 _) info2 (by rfl) (by simp [Value.oneCell']) ?_; rw [World.setRow_alloc_new])
          | (at_builtin; (refine wpl_appVb rfl (.tmp 67) (.tmp 69) (by rfl) (.slice a j c) j (vals (F.take j)) (by rfl) (World.ownsRow.alloc (World.ownsRow.alloc HO1.out _) _) (by have := HD1.out.bel.size; simp; omega) ⟨_, 0, none⟩ 1 1 (by rfl) (vcells (vb, vn)) rfl (fun j u hu => by rw [Addr.add_lit, Nat.zero_add]; have e := World.size_alloc v1 (.cells #[.bool vb, .int .i64 vn] 54); rw [← e]; exact new_cell _ #[.bool vb, .int .i64 vn] _ (by simpa [vcells] using hu)) (fun u hu => by rcases List.mem_cons.1 hu with rfl | hu; rfl; obtain rfl := List.mem_singleton.1 hu; rfl) (by omega) ?_)))
        intro v8 u8 own8 g8 e8
        obtain ⟨a8, c8, rfl⟩ := own_sl own8
        have hlt8 : ∀ k, k < v1.heap.size → (Value.slice a j c).ownBlock ≠ some k → u8.heap[k]? = v1.heap[k]? := fun k hk hn => (g8.block k (by simp; omega) fun e => hn e.symm).trans ((heap_alloc_old _ _ (by simp; omega)).trans (heap_alloc_old _ _ hk))
        have hD8 : Tg w u8 T #[.int .i64 cls, .int .i64 fmt, .int .i64 hash, .bool fin, .slice a j c, .string ByteArray.empty] := by
          have hw := HD1.out.bel.size
          refine ⟨Below.grown ((HD1.out.bel.alloc hw _).alloc (by simp; omega) _) g8 (by simp; omega) (fun k hk => (HO1.out.lt k hk).1), (hlt8 _ (Nat.lt_trans HD1.out.lt HTM1.out) fun e => (HN.out _ e).2 rfl).trans HD1.out.res, (hlt8 _ HTM1.out fun e => (HN.out _ e).1 rfl).trans HD1.out.row, HD1.out.lt⟩
        have k48 : u8.cell? ⟨T, 4, none⟩ = some (.slice a j c) := cell_row _ _ 4 _ _ _ hD8.row
        have fz8 := frozen_of_row u8 T 4 _ _ hD8.row
        have hN8 : ∀ k, (Value.slice a8 (j + 1) c8).ownBlock = some k → k ≠ T ∧ k ≠ w.heap.size := fun k hk => by
          rcases e8 with e | e
          · exact HN.out k (e ▸ hk)
          · have h1 := HTM1.out; have h2 := HD1.out.lt
            have : v1.heap.size + 1 + 1 = k := by rw [e] at hk; simpa using hk
            omega
        have HD9 := Lib.hid (hD8.set (j := 4) (.slice a8 (j + 1) c8))
        rw [← HTK.out] at own8
        have HO9 := Lib.hid (show (u8.setCell ⟨T, 4, none⟩ (.slice a8 (j + 1) c8)).ownsRow w.heap.size 54 2 (.slice a8 (j + 1) c8) (j + 1) (vals (F.take (j + 1))) from owns_at own8 fun k hk => heap_setCell_other _ _ _ _ (hN8 k hk).1)
        have HN9 := Lib.hid hN8
        clear own8 g8 e8 hlt8 hD8 hN8
        go_wp2_with fail
        exact ⟨⟨j + 1, a8, c8, by omega, by simp, HD9.out, HO9.out, HN9.out⟩, by simp only [intOf]; omega⟩
      · obtain rfl : j = F.length := by omega
        rw [List.take_length] at HO
        clear hlt hj
        go_wp2_with (first
          | (refine wpList_load_row rfl 64 (Operand.tmp 7) (by rfl) T (by rfl) _ _ (0, 0) _ HD.out.row Tryz.underlying64 rfl info6 ?_)
          | (refine wpList_store_row rfl 64 (Operand.tmp 4) (Operand.tmp 73) rfl w.heap.size _ rfl rfl _ _ HD.out.res info6 (by rfl) (by simp [Value.oneCell']) ?_))
        refine bodyPost_ret (v := .agg #[.int .i64 cls, .int .i64 fmt, .int .i64 hash, .bool fin, .slice a F.length c, .string ByteArray.empty]) ?_ rfl ⟨a, c, rfl, ?_, ?_⟩
        · exact results_cell_row rfl _ _ w.heap.size _ #[.int .i64 cls, .int .i64 fmt, .int .i64 hash, .bool fin, .slice a F.length c, .string ByteArray.empty] _ _ (by rfl) (setRow_heap _ _ _ _ _ _ HD.out.res) Tryz.underlying64 rfl info6
        · exact owns_at HO.out fun k hk => setRow_other _ _ _ _ (HN.out k hk).2
        · exact below_setRow HD.out.bel (Nat.le_refl _) _
end
end Go.Proofs.YtoklohfpkaiidaaGreat.Obj

namespace Go.Proofs.YtoklohfpkaiidaaGreat.Obj
open Go.Proofs.YtoklohfpkaiidaaGreat.Gen Go.Proofs.YtoklohfpkaiidaaGreat.Base Go.ChangeShapes Go.WideShapes Go.ChangeAt Go.RowKit
set_option linter.unusedVariables false
section
variable {w : World} {m li : Nat} {lv dv : Value} {M : MS} {q : Nat} {b : Bd}
set_option maxHeartbeats 4000000 in
set_option maxRecDepth 100000 in
theorem me_Thing (h : MemAt w m li lv dv M) (hq : M.bs[q]? = some b) (hh : M.has (q : Int) = true) (hf : b.fmt ≠ 3) (hB : b.B = []) (hF : b.F.length ≤ 60000) :
    Calls Tryz.prog 25 #[.pointer (some ⟨m, 0, none⟩), .int .i64 q] w fun e w' => ∃ a c, e = .returned (.agg #[.int .i64 b.cls, .int .i64 b.fmt, .int .i64 b.hash, .bool b.fin, .slice a b.F.length c, .string ByteArray.empty]) ∧ w'.ownsRow w.heap.size 54 2 (.slice a b.F.length c) b.F.length (vals b.F) ∧ Below w.heap.size w w' := by
  have hz := zT
  have HS : Hid (Tr w (w.alloc (.cells #[.int .i64 0, .int .i64 0, .int .i64 0, .bool false, .slice none 0 0, .string ByteArray.empty] 64))) := Lib.hid Tr.start
  have HH := Lib.hid fun u (hb : Below w.heap.size w u) => me_Has (h.below hb) (q : Int)
  rw [hh] at HH
  have HT := Lib.hid fun u (hb : Below w.heap.size w u) => me_thing (h.below hb) hq hf hB hF
  generalize b.F = F at *
  obtain ⟨cls, fmt, hash, col, fin, fv, F', bv, B⟩ := b
  dsimp only at *
  clear h hq hh hB hF hf
  go_enter Tryz.func25, Tryz.ntmps25
  go_wp2_with (first
    | (go_at_call 39; (with_reducible refine (HH.out _ HS.out.bel).mono ?_); rintro e u1 ⟨rfl, e1⟩; subst e1; dsimp only)
    | (go_at_call 52; (with_reducible refine (HT.out _ HS.out.bel).mono ?_); rintro e u2 ⟨a, c, rfl, hO, hb2⟩; have HS2 := Lib.hid (HS.out.more hb2); have HO := Lib.hid hO; clear hO hb2; dsimp only)
    | (refine wpList_store_row rfl 64 (Operand.tmp 4) (Operand.tmp 12) rfl w.heap.size _ rfl rfl _ _ HS2.out.res info6 (by rfl) (by simp [Value.oneCell']) ?_))
  refine bodyPost_ret (v := .agg #[.int .i64 cls, .int .i64 fmt, .int .i64 hash, .bool fin, .slice a F.length c, .string ByteArray.empty]) ?_ rfl ⟨a, c, rfl, ?_, ?_⟩
  · exact results_cell_row rfl _ _ w.heap.size _ #[.int .i64 cls, .int .i64 fmt, .int .i64 hash, .bool fin, .slice a F.length c, .string ByteArray.empty] _ _ (by rfl) (setRow_heap _ _ _ _ _ _ HS2.out.res) Tryz.underlying64 rfl info6
  · have hO := HO.out
    rw [World.size_alloc] at hO
    refine owns_at (own_base hO (by omega)) fun k hk => setRow_other _ _ _ _ (by have := (hO.lt k hk).1; omega)
  · exact below_setRow HS2.out.bel (Nat.le_refl _) _
end
end Go.Proofs.YtoklohfpkaiidaaGreat.Obj
