/- The world that FrameNext begins with; a frame that reads its instructions. -/
import Derived.Test.YtglilfjkjoogbaaNx3
import Derived.Test.YtglilfjkjoogbaaHm3
namespace Go.Proofs.Ytglilfjkjoogbaa.Obj
open Go.Proofs.Ytglilfjkjoogbaa.Gen Go.Proofs.Ytglilfjkjoogbaa.Base Go.ChangeShapes Go.WideShapes Go.ChangeAt Go.RowKit
set_option linter.unusedVariables false
def frF0 : List V := hdF (hdL 0 0 0 24 (false, 0) 0) 6
def txT (B : ByteArray) : Th := ⟨8, 3, 24, false, .slice none 0 0, [], B⟩
def stN1 (B : ByteArray) : List Th := (List.range 23).map firstT ++ [txT B, ⟨11, 1, 25, false, .slice none 0 0, [(false, 0), (false, 0), (false, 0), (true, 23)], ByteArray.empty⟩]
def stNr : List Th := [⟨11, 1, 25, false, .slice none 0 0, [(false, 0), (false, 0), (false, 0), (true, 23)], ByteArray.empty⟩, ⟨12, 1, 26, false, .slice none 0 0, frF0, ByteArray.empty⟩, ⟨14, 1, 27, false, .slice none 0 0, [(true, 25), (false, 5)], ByteArray.empty⟩]
def stN (B : ByteArray) : List Th := (List.range 23).map firstT ++ txT B :: stNr
theorem stN_len (B : ByteArray) : (stN B).length = 27 := by kernel_rfl
theorem okN_a : (((List.range 23).map firstT).all (okT 27)) = true := by kernel_rfl
theorem okN_c : (stNr.all (okT 27)) = true := by kernel_rfl
theorem okN_r (B : ByteArray) : rising 0 (stN B) = true := by kernel_rfl
theorem okN_l (B : ByteArray) : lastH 0 (stN B) = 27 := by kernel_rfl
theorem okN_k (B : ByteArray) : ((stN B).all (fun t => match (stN B)[t.cls.toNat]? with | some t' => clsT t' | none => false)) = true := by kernel_rfl
theorem okN_b (B : ByteArray) : ((List.range 23).all (fun k => match (stN B)[k]? with | some t => okB k t | none => false)) = true := by kernel_rfl
theorem ok_stN {B : ByteArray} (h : B.size ≤ 200) : okL 27 (stN B) = true := by
  have e : (stN B).all (okT (stN B).length) = true := by
    rw [stN_len]
    unfold stN
    rw [List.all_append, List.all_cons, okN_a, okN_c]
    have : okT 27 (txT B) = true := by
      unfold okT txT
      simp [h]
    rw [this]; rfl
  have e0 : decide (23 ≤ (stN B).length ∧ (stN B).length ≤ 3000) = true := by rw [stN_len]; rfl
  have e3 : decide (lastH 0 (stN B) ≤ 27 ∧ (27 : Int) ≤ 3000) = true := by rw [okN_l]; rfl
  unfold okL
  simp only [Bool.and_eq_true]
  exact ⟨⟨⟨⟨⟨e0, e⟩, okN_r B⟩, e3⟩, okN_k B⟩, okN_b B⟩
theorem small_stN {B : ByteArray} (h : B.size ≤ 200) : ((stN B).all fun t => decide (t.F.length ≤ 100000 ∧ t.B.size ≤ 100000)) = true := by
  unfold stN
  rw [List.all_append, List.all_cons]
  have e1 : ((List.range 23).map firstT).all (fun t => decide (t.F.length ≤ 100000 ∧ t.B.size ≤ 100000)) = true := by kernel_rfl
  have e2 : stNr.all (fun t => decide (t.F.length ≤ 100000 ∧ t.B.size ≤ 100000)) = true := by kernel_rfl
  rw [e1, e2, show decide ((txT B).F.length ≤ 100000 ∧ (txT B).B.size ≤ 100000) = true from decide_eq_true ⟨by simp [txT], by simp [txT]; omega⟩]
  rfl
def stMN (M : MS) (B : ByteArray) : MS := { M with bs := (stN B).map Th.bare, dead := nos 27 }
section
variable {W w u : World} {b m li : Nat} {lv dv : Value} {L : List Th} {M : MS} {B : ByteArray} {last : Int} {xs : List Int}
theorem New.stN (h : New w u L 27 m li lv dv M) (hL : L.map Th.pl = Obj.stN B) : M.bare = stMN M B := by
  have h1 := h.bare
  have h2 := h.dead
  have hl : L.length = 27 := by
    have := congrArg List.length hL
    rw [List.length_map, stN_len] at this
    exact this
  rw [← bare_pl, hL] at h1
  rw [hl] at h2
  unfold MS.bare stMN
  rw [h1, ← h2]
theorem sn_isM (M : MS) (B : ByteArray) : (stMN M B).isM 24 = true := by kernel_rfl
theorem sn_has25 (M : MS) (B : ByteArray) : (stMN M B).has 25 = true := by kernel_rfl
theorem sn_get (M : MS) (B : ByteArray) : (stMN M B).get 24 3 = (true, 23) := by kernel_rfl
theorem sn_25 (M : MS) (B : ByteArray) : (stMN M B).bs[25]? = some ⟨12, 1, 26, 0, false, .slice none 0 0, frF0, .slice none 0 0, []⟩ := by kernel_rfl
theorem sn_byte (M : MS) (B : ByteArray) (i : Int) : (stMN M B).byte 23 i = elB (bytesOf B) i := by kernel_rfl
/-- One thing more, its fields laid where they are written out. -/
theorem b_AddLit {ux : World} (F : List V) (hF : 0 < F.length ∧ F.length ≤ 60000) (cls : Int) (hx : LB w ux b 34 lv L last) (hn : L.length ≤ 3000) (hl : 0 ≤ last ∧ last ≤ 3000) :
    Calls Try.prog 24 #[.pointer (some ⟨b, 0, none⟩), .int .i64 cls, .int .i64 1, .slice (some ⟨ux.heap.size, 0, none⟩) F.length F.length, .string ⟨#[]⟩] (ux.alloc (.cells (vals F).toArray 44)) fun e w' => e = .returned (.int .i64 (L.length : Int)) ∧ ∃ va vc, LB w w' b 34 (.slice va (L.length + 1) vc) (L ++ [⟨cls, 1, last + 1, false, .slice (some ⟨ux.heap.size, 0, none⟩) F.length F.length, F, ⟨#[]⟩⟩]) (last + 1) := by
  have hf := hx.newF F hF
  exact b_Add (hx.more ((Below.refl _ _).alloc (Nat.le_refl _) (.cells (vals F).toArray 44))) hn hl cls 1 hf.1 ⟨hf.2, Nat.le_refl _, by have := hF.2; omega⟩ ⟨#[]⟩
theorem law_Text (h : LB w u b 34 lv L 23) (hL : L.map Th.pl = (List.range 23).map firstT) (B : ByteArray) :
    Calls Try.prog 24 #[.pointer (some ⟨b, 0, none⟩), .int .i64 8, .int .i64 3, .slice none 0 0, .string B] u fun e w' => e = .returned (.int .i64 23) ∧ ∃ lv' L', LB w w' b 34 lv' L' 24 ∧ L'.map Th.pl = (List.range 23).map firstT ++ [txT B] := by
  have hl : L.length = 23 := by
    have := congrArg List.length hL
    simpa using this
  refine (b_Add0 h (by omega) (by omega) 8 3 B).mono ?_
  rintro e w' ⟨rfl, va, vc, hB⟩
  refine ⟨by rw [hl]; rfl, _, _, hB, ?_⟩
  rw [List.map_append, hL]; rfl
theorem law_Code (h : LB w u b 34 lv L 24) (hL : L.map Th.pl = (List.range 23).map firstT ++ [txT B]) :
    Calls Try.prog 24 #[.pointer (some ⟨b, 0, none⟩), .int .i64 11, .int .i64 1, .slice (some ⟨u.heap.size, 0, none⟩) 4 4, .string ⟨#[]⟩] (u.alloc (.cells #[.bool false, .int .i64 0, .bool false, .int .i64 0, .bool false, .int .i64 0, .bool true, .int .i64 23] 44)) fun e w' => e = .returned (.int .i64 24) ∧ ∃ lv' L', LB w w' b 34 lv' L' 25 ∧ L'.map Th.pl = stN1 B := by
  have hl : L.length = 24 := by
    have := congrArg List.length hL
    simpa using this
  refine (b_AddLit [(false, 0), (false, 0), (false, 0), (true, 23)] ⟨by simp, by simp⟩ 11 h (by omega) (by omega)).mono ?_
  rintro e w' ⟨rfl, va, vc, hB⟩
  refine ⟨by rw [hl]; rfl, _, _, hB, ?_⟩
  rw [List.map_append, hL]
  unfold stN1
  rw [List.append_assoc]; rfl
theorem law_StartN (h : LB w u b 34 lv L 25) (hL : L.map Th.pl = stN1 B) :
    Calls Try.prog 17 #[.pointer (some ⟨b, 0, none⟩), .int .i64 24, .int .i64 0, .agg #[.bool false, .int .i64 0], .int .i64 5] u fun e w' => e = .returned (.tuple #[.int .i64 26, .int .i64 25]) ∧ ∃ a c L', LB w w' b 34 (.slice a L'.length c) L' 27 ∧ L'.map Th.pl = stN B := by
  have hl : L.length = 25 := by
    have := congrArg List.length hL
    rw [List.length_map] at this
    rw [this]; rfl
  refine (b_Start h (by omega) (by omega)).mono ?_
  rintro e w' ⟨rfl, va, vc, t1, t2, hB, h1, h2⟩
  rw [hl] at h2
  refine ⟨by rw [hl]; rfl, va, vc, L ++ [t1, t2], ?_, ?_⟩
  · rw [List.length_append]; exact hB
  · rw [List.map_append, hL, List.map_cons, List.map_cons, List.map_nil, h1, h2]
    unfold stN1 stN
    rw [List.append_assoc]; rfl
theorem law_NewN {a : Option Addr} {c : Nat} (h : LB w u b 34 (.slice a L.length c) L 27) (hL : L.map Th.pl = stN B) (hB : B.size ≤ 200) :
    Calls Try.prog 8 #[.agg #[.slice a L.length c, .slice none 0 0, .int .i64 27, .int .i64 0, .int .i64 0, .slice none 0 0, .slice none 0 0, .slice none 0 0, .string ByteArray.empty, .string ByteArray.empty, .int .i64 0, .int .i64 0, .slice none 0 0], .int .i64 5] u fun e w' => ∃ m li lv dv M, e = .returned (.tuple #[.pointer (some ⟨m, 0, none⟩), .int .i64 0]) ∧ Below u.heap.size u w' ∧ New u w' L 27 m li lv dv M :=
  ob_New h.lat (by rw [← okL_pl, hL]; exact ok_stN hB) (small_of (by rw [hL]; exact small_stN hB)) 5
theorem put_byte {q : Nat} {i : Int} {v : V} {b : Bd} (hb : M.bs[q]? = some b) (id j : Int) : (M.put (q : Int) i v).byte id j = M.byte id j := by
  unfold MS.byte
  rw [put_has]
  cases e : M.has id
  · rfl
  · have h1 := has_lt e
    rw [if_pos rfl, if_pos rfl]
    by_cases c : id = (q : Int)
    · subst c
      rw [(put_at hb).2]
      unfold MS.at
      rw [Int.toNat_natCast, hb]; rfl
    · unfold MS.at
      rw [put_atO (by omega)]
structure Nq (W w : World) (m li : Nat) (lv dv : Value) (M : MS) (xs : List Int) (pc : Int) : Prop where
  me : MemAt w m li lv dv M
  bel : Below W.heap.size W w
  new : ∀ k, ownM m li lv dv M k → W.heap.size ≤ k
  fr : ∃ F, FrAt M 25 0 24 0 F ∧ elV F 1 = (false, pc)
  cd : M.get 24 3 = (true, 23)
  byt : ∀ j, M.byte 23 j = elB xs j
theorem Nq.below {w' : World} {pc : Int} (h : Nq W w m li lv dv M xs pc) (hb : Below w.heap.size w w') : Nq W w' m li lv dv M xs pc :=
  ⟨h.me.below hb, h.bel.trans (hb.mono h.bel.size), h.new, h.fr, h.cd, h.byt⟩
theorem Nq.put {w' : World} {pc pc' : Int} (h : Nq W w m li lv dv M xs pc) (hM : MemAt w' m li lv dv (M.put ((25 : Nat) : Int) 1 (false, pc'))) (hN : Nx (ownM m li lv dv M) w (ownM m li lv dv (M.put ((25 : Nat) : Int) 1 (false, pc'))) w') : Nq W w' m li lv dv (M.put ((25 : Nat) : Int) 1 (false, pc')) xs pc' := by
  have hx := nx_Bel h.bel h.new hN
  obtain ⟨F, hF, hp⟩ := h.fr
  obtain ⟨b, hb, -, -, -⟩ := hF.bd
  refine ⟨hM, hx.1, hx.2, ⟨F.set 1 (false, pc'), hF.put (i := 1) (by omega) (false, pc') (by omega) (fun _ => rfl) (by omega), ?_⟩, ?_, fun j => ?_⟩
  · unfold elV
    rw [if_pos (by omega), show (1 : Int).toNat = 1 from rfl, List.getElem?_set_self (by have := hF.len; omega)]; rfl
  · rw [put_getO (by omega)]; exact h.cd
  · rw [put_byte hb]; exact h.byt j
theorem Nq.start (h : New w u L 27 m li lv dv M) (hL : L.map Th.pl = Obj.stN B) (hb : Below W.heap.size W u) (hw : W.heap.size ≤ w.heap.size) (hB : bytesOf B = xs) : Nq W u m li lv dv M xs 0 := by
  have hs := h.stN hL
  obtain ⟨b, hb2, hbx⟩ := bare_bs (M := M) (q := 25) (by rw [hs]; exact sn_25 M B)
  have hM : M.isM 24 = true := by rw [← bare_isM, hs]; exact sn_isM M B
  refine ⟨h.me, hb, fun k hk => Nat.le_trans hw (h.new k hk), ⟨frF0, ⟨⟨b, hb2, congrArg Bd.F hbx, congrArg Bd.B hbx, congrArg Bd.fmt hbx⟩, by show M.has ((25 : Nat) : Int) = true; rw [← bare_has, hs]; exact sn_has25 M B, by omega, rfl, rfl, rfl, rfl, rfl, rfl, .inl rfl, .inl rfl, hM, by decide⟩, rfl⟩, by rw [← bare_get, hs]; exact sn_get M B, fun j => by rw [← bare_byte, hs, sn_byte, hB]⟩
theorem nq_Next {pc : Nat} (h : Nq W w m li lv dv M xs (pc : Int)) (hpc : pc ≤ 200) {x0 x1 x2 : Int} (h0 : 0 ≤ x0 ∧ x0 ≤ 255) (h1 : 0 ≤ x1 ∧ x1 ≤ 255) (h2 : 0 ≤ x2 ∧ x2 ≤ 255) (b0 : elB xs ((pc : Int) * 3) = x0) (b1 : elB xs ((pc : Int) * 3 + 1) = x1) (b2 : elB xs ((pc : Int) * 3 + 2) = x2) :
    Calls Try.prog 25 #[.pointer (some ⟨m, 0, none⟩), .int .i64 25] w fun e w' => e = .returned (.tuple #[.agg #[.int .i64 x0, .int .i64 x1, .int .i64 x2], .bool true]) ∧ ∃ M', Nq W w' m li lv dv M' xs ((pc + 1 : Nat) : Int) := by
  obtain ⟨F, hF, hp⟩ := h.fr
  obtain ⟨b, hb, hbF, -, -⟩ := hF.bd
  have hlen := hF.len
  refine (fr_Next h.me hF.isF hb (by rw [hbF]; exact hlen) hF.has (pc := (pc : Int)) (by omega) (by rw [hF.get]; exact hp) h.cd h0 h1 h2 (by rw [h.byt]; exact b0) (by rw [h.byt]; exact b1) (by rw [h.byt]; exact b2)).mono ?_
  rintro e w' ⟨rfl, hM, hN⟩
  exact ⟨rfl, _, h.put hM hN⟩
theorem nq_Next_no {pc : Nat} (h : Nq W w m li lv dv M xs (pc : Int)) (hpc : pc ≤ 200) (b0 : elB xs ((pc : Int) * 3) = -1) :
    Calls Try.prog 25 #[.pointer (some ⟨m, 0, none⟩), .int .i64 25] w fun e w' => e = .returned (.tuple #[.agg #[.int .i64 0, .int .i64 0, .int .i64 0], .bool false]) ∧ Below w.heap.size w w' := by
  obtain ⟨F, hF, hp⟩ := h.fr
  exact fr_Next_no h.me hF.isF (pc := (pc : Int)) (by omega) (by rw [hF.get]; exact hp) h.cd (by rw [h.byt]; exact b0)
theorem nq_Go {pc : Int} (h : Nq W w m li lv dv M xs pc) {p : Int} (hp : 0 ≤ p ∧ p ≤ 60) :
    Calls Try.prog 26 #[.pointer (some ⟨m, 0, none⟩), .int .i64 25, .int .i64 p] w fun e w' => e = .returned (.bool true) ∧ ∃ M', Nq W w' m li lv dv M' xs p := by
  obtain ⟨F, hF, -⟩ := h.fr
  obtain ⟨b, hb, hbF, -, -⟩ := hF.bd
  have hlen := hF.len
  refine (fr_Go h.me hF.isF hb (by rw [hbF]; exact hlen) hF.has hp).mono ?_
  rintro e w' ⟨rfl, hM, hN⟩
  exact ⟨rfl, _, h.put hM hN⟩
theorem nq_Go_no {pc : Int} (h : Nq W w m li lv dv M xs pc) {p : Int} (hp : p < 0 ∨ 60 < p) :
    Calls Try.prog 26 #[.pointer (some ⟨m, 0, none⟩), .int .i64 25, .int .i64 p] w fun e w' => e = .returned (.bool false) ∧ Below w.heap.size w w' := by
  obtain ⟨F, hF, -⟩ := h.fr
  exact fr_Go_no h.me hF.isF hp
end
end Go.Proofs.Ytglilfjkjoogbaa.Obj
