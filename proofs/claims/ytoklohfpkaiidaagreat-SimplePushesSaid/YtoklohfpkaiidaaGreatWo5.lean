/- Worlds that may be: package image. -/
import Derived.Test.YtoklohfpkaiidaaGreatWo4
namespace Go.Proofs.YtoklohfpkaiidaaGreat.Obj
open Go.Proofs.YtoklohfpkaiidaaGreat.Gen Go.Proofs.YtoklohfpkaiidaaGreat.Base Go.ChangeShapes Go.WideShapes Go.ChangeAt Go.RowKit
set_option linter.unusedVariables false
section
variable {w w' u u' : World} {a : Option Addr} {c : Nat} {L : List Th} {last : Int}
set_option maxRecDepth 100000 in
set_option maxHeartbeats 2000000 in
theorem im_Regs (f : Value) (w : World) : Calls Tryz.prog 56 #[.agg #[.int .i64 0, .int .i64 0, .slice none 0 0, .slice none 0 0, .slice none 0 0, .string ByteArray.empty, .string ByteArray.empty, .int .i64 0, .int .i64 0, .slice none 0 0], f] w fun e w' => e = .returned (.bool true) ∧ Below w.heap.size w w' := by
  have hb0 : Below w.heap.size w (w.alloc (.cells #[.int .i64 0, .int .i64 0, .slice none 0 0, .slice none 0 0, .slice none 0 0, .string ByteArray.empty, .string ByteArray.empty, .int .i64 0, .int .i64 0, .slice none 0 0] 28)) := (Below.refl _ _).alloc (Nat.le_refl _) _
  have hmk : ∀ (t : TypeId) u, Sem.run Tryz.prog (Instr.makeMap t none) u = .ok (.map (some u.heap.size)) (u.alloc (.map #[] 0)) := fun t u => rfl
  have ht := im_told (w.alloc (.cells #[.int .i64 0, .int .i64 0, .slice none 0 0, .slice none 0 0, .slice none 0 0, .string ByteArray.empty, .string ByteArray.empty, .int .i64 0, .int .i64 0, .slice none 0 0] 28))
  go_enter Tryz.func56, Tryz.ntmps56
  go_wp2_with fail
  refine ht.mono ?_
  rintro e u2 ⟨rfl, hb2⟩
  have hrow := (hb2.block w.heap.size (by simp)).trans (heap_alloc_new w (.cells #[.int .i64 0, .int .i64 0, .slice none 0 0, .slice none 0 0, .slice none 0 0, .string ByteArray.empty, .string ByteArray.empty, .int .i64 0, .int .i64 0, .slice none 0 0] 28))
  have HB := Lib.hid (hb0.trans (hb2.mono hb0.size))
  have x0 : u2.cell? ⟨w.heap.size, 0, none⟩ = some (.int .i64 0) := by rw [cell_row _ _ _ _ _ _ hrow]; rfl
  have x1 : u2.cell? ⟨w.heap.size, 1, none⟩ = some (.int .i64 0) := by rw [cell_row _ _ _ _ _ _ hrow]; rfl
  have x2 : u2.cell? ⟨w.heap.size, 2, none⟩ = some (.slice none 0 0) := by rw [cell_row _ _ _ _ _ _ hrow]; rfl
  have x3 : u2.cell? ⟨w.heap.size, 3, none⟩ = some (.slice none 0 0) := by rw [cell_row _ _ _ _ _ _ hrow]; rfl
  have x4 : u2.cell? ⟨w.heap.size, 4, none⟩ = some (.slice none 0 0) := by rw [cell_row _ _ _ _ _ _ hrow]; rfl
  have hlt : w.heap.size < u2.heap.size := (Array.getElem?_eq_some_iff.1 hrow).1
  clear ht hb2 hb0 hrow
  dsimp only
  go_wp2_with fail
  go_loopw [58] (fun v58 wr => v58 = .int .i64 0 ∧ wr = u2) (fun v58 wr => 0)
  case atStart => exact ⟨rfl, rfl⟩
  case round =>
    obtain ⟨rfl, rfl⟩ := hrel
    go_wp2_with fail
    go_loopw [74] (fun v74 wr2 => v74 = .int .i64 0 ∧ wr2 = wr) (fun v74 wr2 => 0)
    case atStart => exact ⟨rfl, rfl⟩
    case round =>
      obtain ⟨rfl, rfl⟩ := hrel
      go_wp2_with fail
      go_loopw [105] (fun v105 wr3 => v105 = .int .i64 0 ∧ Below w.heap.size w wr3) (fun v105 wr3 => 0)
      case atStart => exact ⟨rfl, HB.out.alloc HB.out.size _⟩
      case round =>
        obtain ⟨rfl, hb3⟩ := hrel
        go_wp2_with fail
        go_ret
        exact ⟨rfl, hb3⟩
/-- Hashes rise. -/
def rising : Int → List Th → Bool
  | _, [] => true
  | l, t :: ts => decide (l < t.hash) && rising t.hash ts
def lastH : Int → List Th → Int
  | l, [] => l
  | _, t :: ts => lastH t.hash ts
theorem rising_at (L : List Th) : ∀ l, rising l L = true → ∀ k (hk : k < L.length), lastH l (L.take k) < L[k].hash ∧ lastH l (L.take (k + 1)) = L[k].hash := by
  induction L with
  | nil => intro l _ k hk; simp at hk
  | cons t ts ih =>
    intro l h k hk
    unfold rising at h
    simp only [Bool.and_eq_true, decide_eq_true_eq] at h
    cases k with
    | zero => exact ⟨h.1, by simp [lastH]⟩
    | succ k => exact ih t.hash h.2 k (by simpa using hk)
/-- A world that may be: its things, the last hash. -/
def okL (last : Int) (L : List Th) : Bool :=
  decide (23 ≤ L.length ∧ L.length ≤ 3000) && L.all (okT L.length) && rising 0 L && decide (lastH 0 L ≤ last ∧ last ≤ 3000) &&
  L.all (fun t => match L[t.cls.toNat]? with | some t' => clsT t' | none => false) && (List.range 23).all (fun k => match L[k]? with | some t => okB k t | none => false)
theorem okL_parts (h : okL last L = true) : (23 ≤ L.length ∧ L.length ≤ 3000) ∧ (∀ t ∈ L, okT L.length t = true) ∧ rising 0 L = true ∧ (lastH 0 L ≤ last ∧ last ≤ 3000) ∧
    (∀ t ∈ L, 0 ≤ t.cls ∧ t.cls < L.length ∧ (∀ t', L[t.cls.toNat]? = some t' → clsT t' = true) ∧ ∀ v ∈ t.F, v.1 = true → 0 ≤ v.2 ∧ v.2 < L.length) ∧ ∀ (k : Nat) t, k < 23 → L[k]? = some t → okB k t = true := by
  unfold okL at h
  simp only [Bool.and_eq_true, decide_eq_true_eq, List.all_eq_true] at h
  obtain ⟨⟨⟨⟨⟨h1, h2⟩, h3⟩, h4⟩, h5⟩, h6⟩ := h
  refine ⟨h1, h2, h3, h4, fun t ht => ?_, fun k t hk hq => ?_⟩
  · have q := h2 t ht
    have q5 := h5 t ht
    unfold okT at q
    simp only [Bool.and_eq_true, Bool.or_eq_true, decide_eq_true_eq, List.all_eq_true] at q
    obtain ⟨⟨c0, c1, _, _⟩, qk⟩ := q
    refine ⟨c0, c1, fun t' ht' => by rw [ht'] at q5; exact q5, fun v hv hb => ?_⟩
    rcases qk with ⟨_, q4⟩ | ⟨⟨_, q2⟩, _⟩
    · have := q4 v hv
      unfold okV at this
      rw [hb] at this
      simpa using this
    · rw [List.eq_nil_of_length_eq_zero q2] at hv; cases hv
  · have := h6 k (List.mem_range.2 hk)
    rw [hq] at this; exact this
set_option maxRecDepth 100000 in
set_option maxHeartbeats 4000000 in
theorem im_Check (h : LAt w (.slice a L.length c) L) (hL : okL last L = true) : Calls Tryz.prog 26 #[.agg #[.slice a L.length c, .slice none 0 0, .int .i64 last, .int .i64 0, .int .i64 0, .slice none 0 0, .slice none 0 0, .slice none 0 0, .string ByteArray.empty, .string ByteArray.empty, .int .i64 0, .int .i64 0, .slice none 0 0]] w fun e w' => e = .returned (.bool true) ∧ Below w.heap.size w w' := by
  obtain ⟨⟨l0, l1⟩, hT, hR, ⟨hl2, hl3⟩, hJ, hBg⟩ := okL_parts hL
  have hz := zT
  have hrise := rising_at L 0 hR
  have HW := Lib.hid (Wk.start (last := last) h)
  have HT := Lib.hid hT; have HJ := Lib.hid hJ; have HBG := Lib.hid hBg; have HRI := Lib.hid hrise
  have HLL : Hid (lastH 0 (L.take L.length) ≤ last) := Lib.hid (by rw [List.take_length]; exact hl2)
  clear h hL hT hR hJ hBg hrise hl2
  have q1 : ¬ (L.length : Int) < 23 := by omega
  have q2 : ¬ 3000 < (L.length : Int) := by omega
  go_enter Tryz.func26, Tryz.ntmps26
  go_wp2_with fail
  go_loopw [32, 3] (fun v32 v3 wr => ∃ k : Nat, k ≤ L.length ∧ v32 = .int .i64 k ∧ v3 = .int .i64 (lastH 0 (L.take k)) ∧ Wk w wr a c L last) (fun v32 v3 wr => L.length - (intOf v32).toNat)
  case atStart => exact ⟨0, by omega, rfl, rfl, HW.out⟩
  case round =>
    obtain ⟨k, hk, rfl, rfl, hW⟩ := hrel
    by_cases hlt : k < L.length
    · have t1 : (k : Int) < (L.length : Int) := by omega
      have t0 : (0 : Int) ≤ (k : Int) := by omega
      obtain ⟨t, ht⟩ : ∃ t, L[k]? = some t := ⟨_, List.getElem?_eq_getElem (by omega)⟩
      have ht' := (List.getElem?_eq_some_iff.1 ht).2
      have hri := HRI.out k hlt
      rw [ht'] at hri
      obtain ⟨r1, r2⟩ := hri
      have HR2 := Lib.hid r2
      have hbt := fun u hu => im_built t L.length (by omega) (HT.out t (List.mem_of_getElem? ht)) u hu
      obtain ⟨aa, cc, e, hlc, hcm, hat⟩ := hW.la.at
      simp only [Value.slice.injEq] at e
      obtain ⟨rfl, -, rfl⟩ := e
      obtain ⟨b, o, rfl, hrg, hbb⟩ := hat k t ht
      have hrow := hW.la.fs t (List.mem_of_getElem? ht)
      obtain ⟨fa, fc, hfv⟩ := hrow.slice
      obtain ⟨cls, fmt, hash, fin, fv, F, B⟩ := t
      dsimp only at hfv r1 HR2
      subst hfv
      unfold Th.cells at hrg hbt
      dsimp only at hrg hbt hrow
      have HWK := Lib.hid (hW.alloc (.cells #[.int .i64 cls, .int .i64 fmt, .int .i64 hash, .bool fin, .slice fa F.length fc, .string B] 64))
      have HRG := Lib.hid hrg
      have HBT := Lib.hid (hbt (wr.alloc (.cells #[.int .i64 cls, .int .i64 fmt, .int .i64 hash, .bool fin, .slice fa F.length fc, .string B] 64)) (hrow.below ((Below.refl _ _).alloc (Nat.le_refl _) _)))
      have x0 := hW.cell (j := 0) rfl
      have hwl := hW.lt
      clear hat hrg ht hW HW hbt hrow r2 ht'
      generalize lastH 0 (L.take k) = P at *
      go_wp2_with (first
        | (refine wpList_load_mid (by rfl) 64 (Operand.tmp 34) (by rfl) b (o + k * 6) (by rfl) _ _ HRG.out Tryz.underlying64 rfl info6 ?_)
        | (refine wpList_store_row rfl 64 (Operand.tmp 5) (Operand.tmp 35) rfl wr.heap.size _ rfl rfl _ _ (heap_alloc_new wr _) info6 rfl rfl ?_; rw [World.setRow_alloc_new]))
      refine HBT.out.mono ?_
      rintro e u2 ⟨rfl, hb2⟩
      have HK2 := Lib.hid (HWK.out.more hb2)
      have hT2 := (hb2.block wr.heap.size (by simp)).trans (heap_alloc_new wr (.cells #[.int .i64 cls, .int .i64 fmt, .int .i64 hash, .bool fin, .slice fa F.length fc, .string B] 64))
      have y2 : u2.cell? ⟨wr.heap.size, 2, none⟩ = some (.int .i64 hash) := by rw [cell_row _ _ _ _ _ _ hT2]; rfl
      clear hb2 x0 hT2 HRG HBT
      dsimp only
      go_wp2_with fail
      refine ⟨⟨k + 1, by omega, by simp, by rw [HR2.out], HK2.out⟩, by simp only [intOf]; omega⟩
    · obtain rfl : k = L.length := by omega
      have hll := HLL.out
      have HK := Lib.hid hW
      obtain ⟨x0, x1, x2, x3, x4, x5, x6, x7, x8, x9, x10, x11, x12⟩ := hW.c13
      have hjn := im_joined (last := last) hW.la (by omega) HJ.out
      clear hW HW HLL
      generalize lastH 0 (L.take L.length) = P at *
      go_wp2_with fail
      refine hjn.mono ?_
      rintro e u2 ⟨rfl, hb2⟩
      have HK2 := Lib.hid (HK.out.more hb2)
      obtain ⟨x0, x1, x2, x3, x4, x5, x6, x7, x8, x9, x10, x11, x12⟩ := HK2.out.c13
      clear hb2 hjn
      dsimp only
      go_wp2_with fail
      refine (im_begun (last := last) HK2.out.la (by omega) l0 HBG.out).mono ?_
      rintro e u3 ⟨rfl, hb3⟩
      have HK3 := Lib.hid (HK2.out.more hb3)
      obtain ⟨x0, x1, x2, x3, x4, x5, x6, x7, x8, x9, x10, x11, x12⟩ := HK3.out.c13
      clear hb3
      dsimp only
      go_wp2_with fail
      refine (im_Regs _ _).mono ?_
      rintro e u4 ⟨rfl, hb4⟩
      have HK4 := Lib.hid (HK3.out.more hb4)
      clear hb4
      dsimp only
      go_wp2_with fail
      go_ret
      exact ⟨rfl, HK4.out.bel⟩
end
end Go.Proofs.YtoklohfpkaiidaaGreat.Obj
