/- Worlds that may be: their parts: package image. -/
import Derived.Test.YtoklohfpkaiidaaGreatWo2
namespace Go.Proofs.YtoklohfpkaiidaaGreat.Obj
open Go.Proofs.YtoklohfpkaiidaaGreat.Gen Go.Proofs.YtoklohfpkaiidaaGreat.Base Go.ChangeShapes Go.WideShapes Go.ChangeAt Go.RowKit
set_option linter.unusedVariables false
theorem range_row {u : World} {b : Nat} {cs : Array Value} {t : TypeId} {v : Nat × Nat} (h : u.heap[b]? = some (.cells cs t v)) : u.rangeAt b 0 cs.toList := fun j x hx => by rw [Nat.zero_add, cell_row u b j _ _ _ h]; simpa using hx
theorem info13 : (Tryz.prog.info? 30).map (·.size) = some 13 := by kernel_rfl
theorem info6 : (Tryz.prog.info? 64).map (·.size) = some 6 := by kernel_rfl
theorem zT (u : World) : Sem.run Tryz.prog (zeroValue 64) u = .ok (.agg #[.int .i64 0, .int .i64 0, .int .i64 0, .bool false, .slice none 0 0, .string ByteArray.empty]) u := by kernel_rfl
theorem zV (u : World) : Sem.run Tryz.prog (zeroValue 54) u = .ok (.agg #[.bool false, .int .i64 0]) u := by kernel_rfl
/-- Within a walk over a world: the world's own row. -/
structure Wk (w u : World) (a : Option Addr) (c : Nat) (L : List Th) (last : Int) : Prop where
  bel : Below w.heap.size w u
  box : u.heap[w.heap.size]? = some (.cells #[.slice a L.length c, .slice none 0 0, .int .i64 last, .int .i64 0, .int .i64 0, .slice none 0 0, .slice none 0 0, .slice none 0 0, .string ByteArray.empty, .string ByteArray.empty, .int .i64 0, .int .i64 0, .slice none 0 0] 30 (0, 0))
  la : LAt u (.slice a L.length c) L
theorem rg_below {w w' : World} {b o : Nat} {cs : List Value} (h : w.rangeAt b o cs) (hb : Below w.heap.size w w') : w'.rangeAt b o cs := fun j v hv => by
  have := h j v hv
  exact (hb.cell (p := ⟨b, o + j, none⟩) (World.block_lt_of_cell? _ _ this)).trans this
section
variable {w w' u u' : World} {a : Option Addr} {c : Nat} {L : List Th} {last : Int}
theorem Wk.start (h : LAt w (.slice a L.length c) L) : Wk w (w.alloc (.cells #[.slice a L.length c, .slice none 0 0, .int .i64 last, .int .i64 0, .int .i64 0, .slice none 0 0, .slice none 0 0, .slice none 0 0, .string ByteArray.empty, .string ByteArray.empty, .int .i64 0, .int .i64 0, .slice none 0 0] 30)) a c L last :=
  have hb : Below w.heap.size w (w.alloc (.cells #[.slice a L.length c, .slice none 0 0, .int .i64 last, .int .i64 0, .int .i64 0, .slice none 0 0, .slice none 0 0, .slice none 0 0, .string ByteArray.empty, .string ByteArray.empty, .int .i64 0, .int .i64 0, .slice none 0 0] 30)) := (Below.refl _ _).alloc (Nat.le_refl _) _
  ⟨hb, heap_alloc_new w _, h.below hb⟩
theorem Wk.more (h : Wk w u a c L last) (hb : Below u.heap.size u u') : Wk w u' a c L last :=
  ⟨h.bel.trans (hb.mono h.bel.size), (hb.block _ (Array.getElem?_eq_some_iff.1 h.box).1).trans h.box, h.la.below hb⟩
theorem Wk.alloc (h : Wk w u a c L last) (x : Obj) : Wk w (u.alloc x) a c L last := h.more ((Below.refl _ _).alloc (Nat.le_refl _) _)
theorem Wk.rng (h : Wk w u a c L last) : u.rangeAt w.heap.size 0 [.slice a L.length c, .slice none 0 0, .int .i64 last, .int .i64 0, .int .i64 0, .slice none 0 0, .slice none 0 0, .slice none 0 0, .string ByteArray.empty, .string ByteArray.empty, .int .i64 0, .int .i64 0, .slice none 0 0] := range_row h.box
theorem Wk.cell (h : Wk w u a c L last) {j : Nat} {v : Value} (hv : [.slice a L.length c, .slice none 0 0, .int .i64 last, .int .i64 0, .int .i64 0, .slice none 0 0, .slice none 0 0, .slice none 0 0, .string ByteArray.empty, .string ByteArray.empty, .int .i64 0, .int .i64 0, .slice none 0 0][j]? = some v) : u.cell? ⟨w.heap.size, j, none⟩ = some v := by rw [cell_row u _ j _ _ _ h.box]; simpa using hv
theorem Wk.c13 (h : Wk w u a c L last) : u.cell? ⟨w.heap.size, 0, none⟩ = some (.slice a L.length c) ∧ u.cell? ⟨w.heap.size, 1, none⟩ = some (.slice none 0 0) ∧ u.cell? ⟨w.heap.size, 2, none⟩ = some (.int .i64 last) ∧ u.cell? ⟨w.heap.size, 3, none⟩ = some (.int .i64 0) ∧ u.cell? ⟨w.heap.size, 4, none⟩ = some (.int .i64 0) ∧ u.cell? ⟨w.heap.size, 5, none⟩ = some (.slice none 0 0) ∧ u.cell? ⟨w.heap.size, 6, none⟩ = some (.slice none 0 0) ∧ u.cell? ⟨w.heap.size, 7, none⟩ = some (.slice none 0 0) ∧ u.cell? ⟨w.heap.size, 8, none⟩ = some (.string ByteArray.empty) ∧ u.cell? ⟨w.heap.size, 9, none⟩ = some (.string ByteArray.empty) ∧ u.cell? ⟨w.heap.size, 10, none⟩ = some (.int .i64 0) ∧ u.cell? ⟨w.heap.size, 11, none⟩ = some (.int .i64 0) ∧ u.cell? ⟨w.heap.size, 12, none⟩ = some (.slice none 0 0) :=
  ⟨h.cell rfl, h.cell rfl, h.cell rfl, h.cell rfl, h.cell rfl, h.cell rfl, h.cell rfl, h.cell rfl, h.cell rfl, h.cell rfl, h.cell rfl, h.cell rfl, h.cell rfl⟩
theorem Wk.lt (h : Wk w u a c L last) : w.heap.size < u.heap.size := (Array.getElem?_eq_some_iff.1 h.box).1
set_option maxRecDepth 100000 in
set_option maxHeartbeats 4000000 in
theorem im_joined (h : LAt w (.slice a L.length c) L) (hlen : L.length ≤ 100000) (hJ : ∀ t ∈ L, 0 ≤ t.cls ∧ t.cls < L.length ∧ (∀ t', L[t.cls.toNat]? = some t' → clsT t' = true) ∧ ∀ v ∈ t.F, v.1 = true → 0 ≤ v.2 ∧ v.2 < L.length) :
    Calls Tryz.prog 54 #[.agg #[.slice a L.length c, .slice none 0 0, .int .i64 last, .int .i64 0, .int .i64 0, .slice none 0 0, .slice none 0 0, .slice none 0 0, .string ByteArray.empty, .string ByteArray.empty, .int .i64 0, .int .i64 0, .slice none 0 0]] w fun e w' => e = .returned (.bool true) ∧ Below w.heap.size w w' := by
  have hz := zT
  have hz2 := zV
  have HW := Lib.hid (Wk.start (last := last) h)
  have HJ := Lib.hid hJ
  obtain ⟨aa, cc, e, hlc, hcm, hat⟩ := h.at
  simp only [Value.slice.injEq] at e
  obtain ⟨rfl, -, rfl⟩ := e
  clear h hJ hat
  go_enter Tryz.func54, Tryz.ntmps54
  go_wp2_with fail
  go_loopw [10] (fun v10 wr => ∃ k : Nat, k ≤ L.length ∧ v10 = .int .i64 k ∧ Wk w wr a c L last) (fun v10 wr => L.length - (intOf v10).toNat)
  case atStart => exact ⟨0, Nat.zero_le _, rfl, HW.out⟩
  case round =>
    obtain ⟨k, hk, rfl, hW⟩ := hrel
    by_cases hlt : k < L.length
    · have t1 : (k : Int) < (L.length : Int) := by omega
      have t0 : (0 : Int) ≤ (k : Int) := by omega
      obtain ⟨t, ht⟩ : ∃ t, L[k]? = some t := ⟨_, List.getElem?_eq_getElem hlt⟩
      obtain ⟨j0, j1, j2, j3⟩ := HJ.out t (List.mem_of_getElem? ht)
      obtain ⟨aa, cc, e, _, _, hat⟩ := hW.la.at
      simp only [Value.slice.injEq] at e
      obtain ⟨rfl, -, rfl⟩ := e
      obtain ⟨b, o, rfl, hrg, hbb⟩ := hat k t ht
      have hrow := hW.la.fs t (List.mem_of_getElem? ht)
      obtain ⟨q, hq⟩ := Int.eq_ofNat_of_zero_le j0
      obtain ⟨tc, htc⟩ : ∃ tc, L[q]? = some tc := ⟨_, List.getElem?_eq_getElem (by omega)⟩
      have hcls := j2 tc (by rw [hq, Int.toNat_natCast]; exact htc)
      obtain ⟨b', o', e, hrg2, _⟩ := hat q tc htc
      simp only [Option.some.injEq, Addr.mk.injEq, and_true] at e
      obtain ⟨rfl, rfl⟩ := e
      obtain ⟨cls, fmt, hash, fin, fv, F, B⟩ := t
      dsimp only at *
      subst hq
      obtain ⟨fa, fc, hfv, hfl, hfm, hfc⟩ := hrow.val
      subst hfv
      have tq : (q : Int) < (L.length : Int) := by omega
      have tq0 : (0 : Int) ≤ (q : Int) := by omega
      unfold Th.cells at hrg
      dsimp only at hrg
      have HWK := Lib.hid (hW.alloc (.cells #[.int .i64 (q : Int), .int .i64 fmt, .int .i64 hash, .bool fin, .slice fa F.length fc, .string B] 64))
      have HRG := Lib.hid hrg; have HRG2 := Lib.hid hrg2; have HCL := Lib.hid hcls; have HTC := Lib.hid htc; have HFC := Lib.hid hfc; have HJ3 := Lib.hid j3
      have x0 := hW.cell (j := 0) rfl
      clear hat hrow hrg hrg2 hcls htc hfc j0 j1 j2 j3 ht hW HW
      go_upto_region 4 with (first
        | (refine wpList_load_mid (by rfl) 64 (Operand.tmp 13) (by rfl) b (o + k * 6) (by rfl) _ _ HRG.out Tryz.underlying64 rfl info6 ?_)
        | (refine wpList_store_row rfl 64 (Operand.tmp 4) (Operand.tmp 14) rfl wr.heap.size _ rfl rfl _ _ (heap_alloc_new wr _) info6 rfl rfl ?_; rw [World.setRow_alloc_new]))
      go_wp2_with (refine wpList_load_mid (by rfl) 30 (Operand.tmp 1) (by rfl) w.heap.size 0 (by rfl) _ _ HWK.out.rng Tryz.underlying30 rfl info13 ?_)
      refine (im_lives (last := last) (k : Int) t0 t1).mono ?_
      rintro e u2 ⟨rfl, hb2⟩
      have HK2 := Lib.hid (HWK.out.more hb2)
      have HA2 := Lib.hid hb2
      have HT2 := Lib.hid ((hb2.block wr.heap.size (by simp)).trans (heap_alloc_new wr (.cells #[.int .i64 (q : Int), .int .i64 fmt, .int .i64 hash, .bool fin, .slice fa F.length fc, .string B] 64)))
      have HR2 := Lib.hid (rg_below (rg_below HRG2.out ((Below.refl _ _).alloc (Nat.le_refl _) _)) hb2)
      have y0 := HK2.out.cell (j := 0) rfl
      have y1 : u2.cell? ⟨wr.heap.size, 0, none⟩ = some (.int .i64 (q : Int)) := by rw [cell_row _ _ _ _ _ _ HT2.out]; rfl
      clear hb2 x0
      dsimp only
      go_wp2_with (refine wpList_load_mid (by rfl) 30 (Operand.tmp 1) (by rfl) w.heap.size 0 (by rfl) _ _ HK2.out.rng Tryz.underlying30 rfl info13 ?_)
      refine (im_lives (last := last) (q : Int) tq0 tq).mono ?_
      rintro e u3 ⟨rfl, hb3⟩
      have HK3 := Lib.hid (HK2.out.more hb3)
      have HA3 := Lib.hid hb3
      have HT3 := Lib.hid ((hb3.block wr.heap.size (Array.getElem?_eq_some_iff.1 HT2.out).1).trans HT2.out)
      have HR3 := Lib.hid (rg_below HR2.out hb3)
      have y0 := HK3.out.cell (j := 0) rfl
      have y1 : u3.cell? ⟨wr.heap.size, 0, none⟩ = some (.int .i64 (q : Int)) := by rw [cell_row _ _ _ _ _ _ HT3.out]; rfl
      clear hb3
      dsimp only
      have HIC := Lib.hid (im_isClass tc HCL.out (HK3.out.la.fs tc (List.mem_of_getElem? HTC.out)))
      have z0 := HR3.out 0 _ rfl
      rw [Nat.add_zero] at z0
      have z1 := HR3.out 1 _ rfl
      have z2 := HR3.out 2 _ rfl
      have z3 := HR3.out 3 _ rfl
      have z4 := HR3.out 4 _ rfl
      have z5 := HR3.out 5 _ rfl
      go_wp2_with fail
      refine HIC.out.mono ?_
      rintro e u4 ⟨rfl, hb4⟩
      have HK4 := Lib.hid (HK3.out.more hb4)
      have HT4 := Lib.hid ((hb4.block wr.heap.size (Array.getElem?_eq_some_iff.1 HT3.out).1).trans HT3.out)
      have HOLD : Hid (∀ p v, wr.cell? p = some v → u4.cell? p = some v) := Lib.hid (fun p v hp => by
        have q1 := ((Below.refl wr.heap.size wr).alloc (Nat.le_refl _) (.cells #[.int .i64 (q : Int), .int .i64 fmt, .int .i64 hash, .bool fin, .slice fa F.length fc, .string B] 64)).cell (World.block_lt_of_cell? _ _ hp)
        have r2 := (HA2.out.cell (World.block_lt_of_cell? _ _ (q1.trans hp))).trans (q1.trans hp)
        have r3 := (HA3.out.cell (World.block_lt_of_cell? _ _ r2)).trans r2
        exact (hb4.cell (World.block_lt_of_cell? _ _ r3)).trans r3)
      have y4 : u4.cell? ⟨wr.heap.size, 4, none⟩ = some (.slice fa F.length fc) := by rw [cell_row _ _ _ _ _ _ HT4.out]; rfl
      clear hb4
      clear HRG HRG2 HR2 HR3 HIC z0 z1 z2 z3 z4 z5 HCL HTC y0 y1
      dsimp only
      go_wp2_with fail
      go_loopw [37] (fun v37 wr2 => ∃ i : Nat, i ≤ F.length ∧ v37 = .int .i64 i ∧ Wk w wr2 (some ⟨b, o, none⟩) c L last ∧ Below u4.heap.size u4 wr2) (fun v37 wr2 => F.length - (intOf v37).toNat)
      case atStart => exact ⟨0, Nat.zero_le _, rfl, HK4.out, Below.refl _ _⟩
      case round =>
        obtain ⟨i, hi, rfl, hW, hb⟩ := hrel
        by_cases hlt2 : i < F.length
        · have s1 : (i : Int) < (F.length : Int) := by omega
          have s0 : (0 : Int) ≤ (i : Int) := by omega
          obtain ⟨vb, vo, rfl, k1, k2⟩ := HFC.out i hlt2
          have k1 := HOLD.out _ _ k1
          have k2 := HOLD.out _ _ k2
          have hvb := World.block_lt_of_cell? _ _ k1
          have k1 := (hb.cell (p := ⟨vb, vo + i * 2, none⟩) hvb).trans k1
          have k2 := (hb.cell (p := ⟨vb, vo + i * 2 + 1, none⟩) hvb).trans k2
          have hj := HJ3.out F[i] (List.getElem_mem _)
          have HW2 := Lib.hid (hW.alloc (.cells #[.bool F[i].1, .int .i64 F[i].2] 54))
          have HB2 := Lib.hid hb
          clear hW hb
          generalize F[i] = p at *
          obtain ⟨pb, pn⟩ := p
          dsimp only at *
          cases pb
          · go_wp2_with fail
            refine ⟨⟨i + 1, by omega, by simp, HW2.out, HB2.out.alloc HB2.out.size _⟩, by simp only [intOf]; omega⟩
          · obtain ⟨hj0, hj1⟩ := hj rfl
            obtain ⟨x0, x1, x2, x3, x4, x5, x6, x7, x8, x9, x10, x11, x12⟩ := HW2.out.c13
            go_wp2_with fail
            refine (im_lives (last := last) pn hj0 hj1).mono ?_
            rintro e u5 ⟨rfl, hb5⟩
            have HW5 := Lib.hid (HW2.out.more hb5)
            have HB5 := Lib.hid ((HB2.out.alloc HB2.out.size _).trans (hb5.mono (by have := HB2.out.size; simp; omega)))
            clear hb5
            dsimp only
            go_wp2_with fail
            refine ⟨⟨i + 1, by omega, by simp, HW5.out, HB5.out⟩, by simp only [intOf]; omega⟩
        · obtain rfl : i = F.length := by omega
          go_wp2_with fail
          refine ⟨⟨k + 1, by omega, by simp, hW⟩, by simp only [intOf]; omega⟩
    · obtain rfl : k = L.length := by omega
      go_wp2_with fail
      go_ret
      exact ⟨rfl, hW.bel⟩
end
end Go.Proofs.YtoklohfpkaiidaaGreat.Obj
