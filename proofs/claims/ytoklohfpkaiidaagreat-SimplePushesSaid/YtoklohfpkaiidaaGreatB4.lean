/- The first world in a builder's box; which worlds may be: by their plain data. -/
import Derived.Test.YtoklohfpkaiidaaGreatB3
namespace Go.Proofs.YtoklohfpkaiidaaGreat.Obj
open Go.Proofs.YtoklohfpkaiidaaGreat.Gen Go.Proofs.YtoklohfpkaiidaaGreat.Base Go.ChangeShapes Go.WideShapes Go.ChangeAt Go.RowKit
set_option linter.unusedVariables false
theorem LB.of {w u : World} {lv : Value} {L : List Th} (h : Ld w u lv L) (tb : TypeId) (last : Int) : LB w (u.alloc (.cells #[lv, .slice none 0 0, .int .i64 last, .int .i64 0, .int .i64 0, .slice none 0 0, .slice none 0 0, .slice none 0 0, .string ByteArray.empty, .string ByteArray.empty, .int .i64 0, .int .i64 0, .slice none 0 0] tb)) u.heap.size tb lv L last := by
  have hb : ∀ o, Below u.heap.size u (u.alloc o) := fun o => (Below.refl _ _).alloc (Nat.le_refl _) _
  refine ⟨h.bel.alloc h.bel.size _, h.bel.size, heap_alloc_new _ _, World.ownsRow.alloc h.ls _, fun t ht => (h.fs t ht).keep fun k hk => (hb _).block k ((h.fs t ht).lt k hk), h.fc, fun e => ?_, h.nl, fun t ht k hk => ⟨fun e => ?_, h.nf t ht k hk⟩⟩
  · have := (h.ls.lt _ e).2; omega
  · have := (h.fs t ht).lt k hk; omega
theorem rising_pl (L : List Th) : ∀ l, rising l (L.map Th.pl) = rising l L := by
  induction L with
  | nil => intro l; rfl
  | cons t ts ih => intro l; simp only [List.map_cons, rising, ih]; rfl
theorem lastH_pl (L : List Th) : ∀ l, lastH l (L.map Th.pl) = lastH l L := by
  induction L with
  | nil => intro l; rfl
  | cons t ts ih => intro l; simp only [List.map_cons, lastH, ih]; rfl
theorem okL_pl (last : Int) (L : List Th) : okL last (L.map Th.pl) = okL last L := by
  unfold okL
  rw [rising_pl, lastH_pl, List.length_map, List.all_map, List.all_map]
  have e1 : (okT L.length ∘ Th.pl) = okT L.length := rfl
  rw [e1]
  refine congr (congrArg and (congr (congrArg and rfl) (congrArg (fun p => L.all p) (funext fun t => ?_)))) (congrArg (fun p => (List.range 23).all p) (funext fun k => ?_))
  · simp only [Function.comp]
    rw [List.getElem?_map]
    show (match Option.map Th.pl L[t.cls.toNat]? with | some t' => clsT t' | none => false) = _
    cases L[t.cls.toNat]? <;> rfl
  · rw [List.getElem?_map]
    cases L[k]? <;> rfl
/-- The first world may be. -/
theorem ok_first : okL 23 ((List.range 23).map firstT) = true := by kernel_rfl
end Go.Proofs.YtoklohfpkaiidaaGreat.Obj
