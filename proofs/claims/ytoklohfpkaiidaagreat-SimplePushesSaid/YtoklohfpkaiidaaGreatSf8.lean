/- The world that SimpleFields begins with, as plain data. -/
/- SimpleFields: what its calls keep. -/
/- SimpleFields: its world, built and taken over. -/
/- SimpleFields: what its calls do. -/
/- SimpleFields: a field of self is pushed. -/
/- Stage 15: which instructions send nothing; awake. -/
/- SimpleFields: self is added to the world. -/
/- SimpleFields: its calls, one behind the other. -/
import Derived.Test.YtoklohfpkaiidaaGreatB6
import Derived.Test.YtoklohfpkaiidaaGreatSm4
import Derived.Test.YtoklohfpkaiidaaGreatBk
namespace Go.Proofs.YtoklohfpkaiidaaGreat.Obj
open Go.Proofs.YtoklohfpkaiidaaGreat.Gen Go.Proofs.YtoklohfpkaiidaaGreat.Base Go.ChangeShapes Go.WideShapes Go.ChangeAt Go.RowKit
set_option linter.unusedVariables false
def whoV (kd : Nat) : V := if kd = 0 then (true, 23) else if kd = 1 then (false, 5) else (true, 22)
def sfF (kd : Nat) : List V := hdF (hdL 0 0 0 25 (whoV kd) 0) 6
def stA (k : Nat) : List Th := (List.range 23).map firstT ++ [⟨7, 1, 24, false, .slice none 0 0, List.replicate k (false, 0), ByteArray.empty⟩]
def stC (k : Nat) : List Th := stA k ++ [⟨8, 3, 25, false, .slice none 0 0, [], ByteArray.empty⟩, ⟨11, 1, 26, false, .slice none 0 0, [(false, 0), (false, 0), (false, 0), (true, 24)], ByteArray.empty⟩]
def stF (k kd : Nat) : List Th := stC k ++ [⟨12, 1, 27, false, .slice none 0 0, sfF kd, ByteArray.empty⟩, ⟨14, 1, 28, false, .slice none 0 0, [(true, 26), (false, 5)], ByteArray.empty⟩]
theorem all_stF : ((List.range 20).all fun k => (List.range 3).all fun kd => okL 28 (stF k kd) && (stF k kd).all fun t => decide (t.F.length ≤ 100000 ∧ t.B.size ≤ 100000)) = true := by kernel_rfl
theorem ok_stF {k kd : Nat} (hk : k < 20) (hd : kd < 3) : okL 28 (stF k kd) = true ∧ ((stF k kd).all fun t => decide (t.F.length ≤ 100000 ∧ t.B.size ≤ 100000)) = true := by
  have h := all_stF
  rw [List.all_eq_true] at h
  have h1 := h k (List.mem_range.2 hk)
  rw [List.all_eq_true] at h1
  have h2 := h1 kd (List.mem_range.2 hd)
  rw [Bool.and_eq_true] at h2
  exact h2
/-- What a memory of such a world holds. -/
def sfM (M : MS) (k kd : Nat) : MS := { M with bs := (stF k kd).map Th.bare, dead := nos 28 }
def sfOk (k kd : Nat) (M : MS) : Bool := (sfM M k kd).isM 25 && ((sfM M k kd).has 0 && ((sfM M k kd).has 22 && ((sfM M k kd).has 23 && ((sfM M k kd).has 26 && (decide ((sfM M k kd).fmt 23 = 1) && (decide ((sfM M k kd).size 23 = k) && (decide ((sfM M k kd).fmt 22 = 1) && (decide ((sfM M k kd).size 22 = 1) && (decide ((sfM M k kd).get 22 0 = (false, 0)) && ((List.range k).all fun j => decide ((sfM M k kd).get 23 j = (false, 0))))))))))))
theorem all_sfM (M : MS) : ((List.range 20).all fun k => (List.range 3).all fun kd => sfOk k kd M) = true := by kernel_rfl
end Go.Proofs.YtoklohfpkaiidaaGreat.Obj

namespace Go.Proofs.YtoklohfpkaiidaaGreat.Obj
open Go.Proofs.YtoklohfpkaiidaaGreat.Gen Go.Proofs.YtoklohfpkaiidaaGreat.Base Go.ChangeShapes Go.WideShapes Go.ChangeAt Go.RowKit
set_option linter.unusedVariables false
structure Sf (M : MS) (k : Nat) (kd : Nat) (A F : List V) : Prop where
  fr : FrAt M 26 0 25 0 F
  f4 : elV F 4 = whoV kd
  h0 : M.has 0 = true
  h22 : M.has 22 = true
  h23 : M.has 23 = true
  ar : ∃ b, M.bs[23]? = some b ∧ b.F = A
  lenA : A.length = k
  fmt23 : M.fmt 23 = 1
  size23 : M.size 23 = k
  fmt22 : M.fmt 22 = 1
  size22 : M.size 22 = 1
  g22 : M.get 22 0 = (false, 0)
section
variable {M : MS} {k kd : Nat} {A F : List V}
theorem elV_set_ne {F : List V} {i j : Nat} (v : V) (h : j ≠ i) : elV (F.set i v) (j : Int) = elV F (j : Int) := by
  unfold elV
  rw [Int.toNat_natCast, List.getElem?_set_ne (Ne.symm h)]
theorem elV_set_eq {F : List V} {i : Nat} (v : V) (h : i < F.length) : elV (F.set i v) (i : Int) = v := by
  unfold elV
  rw [if_pos (by omega), Int.toNat_natCast, List.getElem?_set_self h]; rfl
theorem Sf.putF (h : Sf M k kd A F) {i : Nat} (hi : i < 22) (v : V) (h0 : i ≠ 0 ∧ i ≠ 3 ∧ i ≠ 4 ∧ i ≠ 5) (h1 : i = 1 → v.1 = false) (h2 : i = 2 → num v 0 16 = true) : Sf (M.put (26 : Nat) (i : Int) v) k kd A (F.set i v) := by
  obtain ⟨b, hb, -, -, -⟩ := h.fr.bd
  obtain ⟨a, ha, hA⟩ := h.ar
  exact ⟨h.fr.put hi v ⟨h0.1, h0.2.1, h0.2.2.2⟩ h1 h2, by have := elV_set_ne (F := F) v (show (4 : Nat) ≠ i from fun e => h0.2.2.1 e.symm); exact this.trans h.f4, h.h0, h.h22, h.h23, ⟨a, by rw [put_atO (by omega)]; exact ha, hA⟩, h.lenA, by rw [put_fmt hb]; exact h.fmt23, by rw [put_size hb]; exact h.size23, by rw [put_fmt hb]; exact h.fmt22, by rw [put_size hb]; exact h.size22, by rw [put_getO (by decide)]; exact h.g22⟩
theorem Sf.putA (h : Sf M k kd A F) {j : Nat} (hj : j < k) (v : V) : Sf (M.put (23 : Nat) (j : Int) v) k kd (A.set j v) F := by
  obtain ⟨a, ha, hA⟩ := h.ar
  exact ⟨h.fr.putO ha (by decide) (by decide) (.inl rfl), h.f4, h.h0, h.h22, h.h23, ⟨_, (put_at ha).1, by rw [hA, Int.toNat_natCast]⟩, by rw [List.length_set]; exact h.lenA, by rw [put_fmt ha]; exact h.fmt23, by rw [put_size ha]; exact h.size23, by rw [put_fmt ha]; exact h.fmt22, by rw [put_size ha]; exact h.size22, by rw [put_getO (by decide)]; exact h.g22⟩
theorem Sf.get23 (h : Sf M k kd A F) (i : Int) : M.get 23 i = elV A i := by
  obtain ⟨a, ha, hA⟩ := h.ar
  unfold MS.get MS.at
  rw [h.h23, if_pos rfl, show (23 : Int).toNat = 23 from rfl, ha]
  show elV a.F i = _
  rw [hA]
theorem Sf.bs26 (h : Sf M k kd A F) : ∃ b, M.bs[26]? = some b ∧ b.F.length = 22 := by
  obtain ⟨b, hb, hF, -, -⟩ := h.fr.bd
  exact ⟨b, hb, by rw [hF]; exact h.fr.len⟩
end
end Go.Proofs.YtoklohfpkaiidaaGreat.Obj

namespace Go.Proofs.YtoklohfpkaiidaaGreat.Obj
open Go.Proofs.YtoklohfpkaiidaaGreat.Gen Go.Proofs.YtoklohfpkaiidaaGreat.Base Go.ChangeShapes Go.WideShapes Go.ChangeAt Go.RowKit
set_option linter.unusedVariables false
theorem bare_bs {M : MS} {q : Nat} {x : Bd} (h : M.bare.bs[q]? = some x) : ∃ b, M.bs[q]? = some b ∧ b.bare = x := by
  have e : M.bare.bs[q]? = M.bs[q]?.map Bd.bare := List.getElem?_map
  rw [e] at h
  cases hb : M.bs[q]? with
  | none => rw [hb] at h; cases h
  | some b => rw [hb] at h; exact ⟨b, rfl, by simpa using h⟩
section
variable {w u : World} {b m li : Nat} {lv dv : Value} {L : List Th} {M : MS} {k kd : Nat}
theorem sf_26 (M : MS) (k kd : Nat) : (sfM M k kd).bs[26]? = some ⟨12, 1, 27, 0, false, .slice none 0 0, sfF kd, .slice none 0 0, []⟩ := by kernel_rfl
theorem sf_23 (M : MS) (k kd : Nat) : (sfM M k kd).bs[23]? = some ⟨7, 1, 24, 0, false, .slice none 0 0, List.replicate k (false, 0), .slice none 0 0, []⟩ := by kernel_rfl
theorem sf_cls (M : MS) : ((List.range 20).all fun k => (List.range 3).all fun kd => !(sfM M k kd).isClass 23) = true := by kernel_rfl
theorem of_range {p : Nat → Nat → Bool} (h : ((List.range 20).all fun k => (List.range 3).all fun kd => p k kd) = true) (hk : k < 20) (hd : kd < 3) : p k kd = true := by
  rw [List.all_eq_true] at h
  have h1 := h k (List.mem_range.2 hk)
  rw [List.all_eq_true] at h1
  exact h1 kd (List.mem_range.2 hd)
theorem New.sf (h : New w u L 28 m li lv dv M) (hL : L.map Th.pl = stF k kd) : M.bare = sfM M k kd := by
  have h1 := h.bare
  have h2 := h.dead
  have hl : L.length = 28 := by
    have := congrArg List.length hL
    rw [List.length_map] at this
    rw [this]; rfl
  rw [← bare_pl, hL] at h1
  rw [hl] at h2
  unfold MS.bare sfM
  rw [h1, ← h2]
theorem Sf.start (h : New w u L 28 m li lv dv M) (hL : L.map Th.pl = stF k kd) (hk : k < 20) (hd : kd < 3) : Sf M k kd (List.replicate k (false, 0)) (sfF kd) ∧ M.isClass 23 = false := by
  have hs := h.sf hL
  have ho := of_range (all_sfM M) hk hd
  have hc := of_range (p := fun k kd => !(sfM M k kd).isClass 23) (sf_cls M) hk hd
  unfold sfOk at ho
  rw [← hs] at ho hc
  simp only [Bool.and_eq_true, decide_eq_true_eq, bare_isM, bare_has, bare_fmt, bare_size, bare_get] at ho
  obtain ⟨o1, o2, o3, o4, o5, o6, o7, o8, o9, o10, -⟩ := ho
  obtain ⟨f, hf, hfx⟩ := bare_bs (M := M) (q := 26) (by rw [hs]; exact sf_26 M k kd)
  obtain ⟨a, ha, hax⟩ := bare_bs (M := M) (q := 23) (by rw [hs]; exact sf_23 M k kd)
  refine ⟨⟨⟨⟨f, hf, congrArg Bd.F hfx, congrArg Bd.B hfx, congrArg Bd.fmt hfx⟩, o5, by decide, hdF_len rfl (Nat.le_refl _), rfl, rfl, rfl, rfl, rfl, .inl rfl, .inl rfl, o1, by decide⟩, rfl, o2, o3, o4, ⟨a, ha, congrArg Bd.F hax⟩, by simp, o6, o7, o8, o9, o10⟩, ?_⟩
  simpa [bare_isClass] using hc
theorem law_NewF {a : Option Addr} {c : Nat} (h : LB w u b 51 (.slice a L.length c) L 28) (hL : L.map Th.pl = stF k kd) (hk : k < 20) (hd : kd < 3) :
    Calls Tryz.prog 11 #[.agg #[.slice a L.length c, .slice none 0 0, .int .i64 28, .int .i64 0, .int .i64 0, .slice none 0 0, .slice none 0 0, .slice none 0 0, .string ByteArray.empty, .string ByteArray.empty, .int .i64 0, .int .i64 0, .slice none 0 0], .int .i64 5] u fun e w' => ∃ m li lv dv M, e = .returned (.tuple #[.pointer (some ⟨m, 0, none⟩), .int .i64 0]) ∧ Below u.heap.size u w' ∧ New u w' L 28 m li lv dv M :=
  ob_New h.lat (by rw [← okL_pl, hL]; exact (ok_stF hk hd).1) (small_of (by rw [hL]; exact (ok_stF hk hd).2)) 5
theorem law_MethodF (h : LB w u b 51 lv L 24) (hL : L.map Th.pl = stA k) :
    Calls Tryz.prog 20 #[.pointer (some ⟨b, 0, none⟩), .int .i64 0, .int .i64 0, .int .i64 0, .slice none 0 0, .slice none 0 0] u fun e w' => e = .returned (.int .i64 25) ∧ ∃ a c L', LB w w' b 51 (.slice a L'.length c) L' 26 ∧ L'.map Th.pl = stC k := by
  have hl : L.length = 24 := by
    have := congrArg List.length hL
    rw [List.length_map] at this
    rw [this]; rfl
  refine (b_Method h (by omega) (by omega) 0 0 0).mono ?_
  rintro e w' ⟨rfl, va, vc, t1, t2, hB, h1, h2⟩
  rw [hl] at h2
  refine ⟨by rw [hl]; rfl, va, vc, L ++ [t1, t2], ?_, ?_⟩
  · rw [List.length_append]; exact hB
  · rw [List.map_append, hL, List.map_cons, List.map_cons, List.map_nil, h1, h2]; rfl
theorem law_StartF (h : LB w u b 51 lv L 26) (hL : L.map Th.pl = stC k) (kd : Nat) :
    Calls Tryz.prog 21 #[.pointer (some ⟨b, 0, none⟩), .int .i64 25, .int .i64 0, .agg #[.bool (whoV kd).1, .int .i64 (whoV kd).2], .int .i64 5] u fun e w' => e = .returned (.tuple #[.int .i64 27, .int .i64 26]) ∧ ∃ a c L', LB w w' b 51 (.slice a L'.length c) L' 28 ∧ L'.map Th.pl = stF k kd := by
  have hl : L.length = 26 := by
    have := congrArg List.length hL
    rw [List.length_map] at this
    rw [this]; rfl
  refine (b_Start h (by omega) (by omega)).mono ?_
  rintro e w' ⟨rfl, va, vc, t1, t2, hB, h1, h2⟩
  rw [hl] at h2
  refine ⟨by rw [hl]; rfl, va, vc, L ++ [t1, t2], ?_, ?_⟩
  · rw [List.length_append]; exact hB
  · rw [List.map_append, hL, List.map_cons, List.map_cons, List.map_nil, h1, h2]; rfl
end
end Go.Proofs.YtoklohfpkaiidaaGreat.Obj

namespace Go.Proofs.YtoklohfpkaiidaaGreat.Obj
open Go.Proofs.YtoklohfpkaiidaaGreat.Gen Go.Proofs.YtoklohfpkaiidaaGreat.Base Go.ChangeShapes Go.WideShapes Go.ChangeAt Go.RowKit
set_option linter.unusedVariables false
theorem may_n (M : MS) (n : Int) (h : -1000 ≤ n ∧ n ≤ 1000) : M.may (false, n) = true := by unfold MS.may fits; simp; omega
def MS.push0 (M : MS) (v : V) : MS := (M.put (26 : Int) (6 : Int) v).put (26 : Int) (2 : Int) (false, 1)
def MS.pop0 (M : MS) : MS := (M.put (26 : Int) (2 : Int) (false, 0)).put (26 : Int) (6 : Int) (true, 0)
section
variable {w u : World} {m li : Nat} {lv dv : Value} {M : MS} {k kd : Nat} {A F : List V}
theorem Sf.push (h : Sf M k kd A F) (v : V) : Sf (M.push0 v) k kd A ((F.set 6 v).set 2 (false, 1)) :=
  (h.putF (i := 6) (by omega) v (by decide) (by omega) (by omega)).putF (i := 2) (by omega) (false, 1) (by decide) (by omega) (fun _ => by decide)
theorem Sf.pop (h : Sf M k kd A F) : Sf M.pop0 k kd A ((F.set 2 (false, 0)).set 6 (true, 0)) :=
  (h.putF (i := 2) (by omega) (false, 0) (by decide) (by omega) (fun _ => by decide)).putF (i := 6) (by omega) (true, 0) (by decide) (by omega) (by omega)
theorem Sf.cls_push (h : Sf M k kd A F) (v : V) : (M.push0 v).isClass 23 = M.isClass 23 := by
  obtain ⟨b, hb, -⟩ := h.bs26
  obtain ⟨b', hb', -⟩ := (h.putF (i := 6) (by omega) v (by decide) (by omega) (by omega)).bs26
  exact (put_isClass hb' (by decide)).trans (put_isClass hb (by decide))
theorem Sf.cls_pop (h : Sf M k kd A F) : M.pop0.isClass 23 = M.isClass 23 := by
  obtain ⟨b, hb, -⟩ := h.bs26
  obtain ⟨b', hb', -⟩ := (h.putF (i := 2) (by omega) (false, 0) (by decide) (by omega) (fun _ => by decide)).bs26
  exact (put_isClass hb' (by decide)).trans (put_isClass hb (by decide))
theorem sf_Push (hA : MemAt w m li lv dv M) (h : Sf M k kd A F) (hsp : elV F 2 = (false, 0)) (vb : Bool) (vn : Int) (hmay : M.may (vb, vn) = true) :
    Calls Tryz.prog 51 #[.pointer (some ⟨m, 0, none⟩), .int .i64 26, .agg #[.bool vb, .int .i64 vn]] w fun e w' => e = .returned (.bool true) ∧ MemAt w' m li lv dv (M.push0 (vb, vn)) ∧ Nx (ownM m li lv dv (M)) w (ownM m li lv dv (M.push0 (vb, vn))) w' := by
  obtain ⟨b, hb, hF⟩ := h.bs26
  exact fr_Push hA h.fr.isF hb hF h.fr.has vb vn hmay (s := 0) (by omega) ((h.fr.get 2).trans hsp)
theorem sf_Pop (hA : MemAt w m li lv dv M) (h : Sf M k kd A F) (hsp : elV F 2 = (false, 1)) {vb : Bool} {vn : Int} (hv : elV F 6 = (vb, vn)) :
    Calls Tryz.prog 48 #[.pointer (some ⟨m, 0, none⟩), .int .i64 26] w fun e w' => e = .returned (.tuple #[.agg #[.bool vb, .int .i64 vn], .bool true]) ∧ MemAt w' m li lv dv (M.pop0) ∧ Nx (ownM m li lv dv (M)) w (ownM m li lv dv (M.pop0)) w' := by
  obtain ⟨b, hb, hF⟩ := h.bs26
  have := fr_Pop hA h.fr.isF hb hF h.fr.has h.h0 (s := 1) (by omega) (by omega) ((h.fr.get 2).trans hsp)
  have hg : M.get ((26 : Nat) : Int) (6 + ((1 : Nat) : Int) - 1 - 0) = (vb, vn) := (h.fr.get 6).trans hv
  rw [hg] at this
  exact this
/-- Op 9. -/
theorem sf_int (hA : MemAt w m li lv dv M) (h : Sf M k kd A F) (hsp : elV F 2 = (false, 0)) (x b : Int) (hx : 0 ≤ x ∧ x ≤ 255) :
    Calls Tryz.prog 23 #[.pointer (some ⟨m, 0, none⟩), .int .i64 26, .agg #[.int .i64 9, .int .i64 x, .int .i64 b]] w fun e w' => e = .returned (.bool true) ∧ MemAt w' m li lv dv (M.push0 (false, x - 128)) ∧ Nx (ownM m li lv dv (M)) w (ownM m li lv dv (M.push0 (false, x - 128))) w' :=
  sm_Do_int hA (q := 26) h.fr.isF x b hx fun u hu => sf_Push (hA.below hu) h hsp false (x - 128) (may_n M _ (by omega))
def SetTo (M : MS) (kd k : Nat) (i : Nat) (v : V) : MS := if kd = 0 ∧ i < k then M.put (23 : Int) (i : Int) v else M
theorem sf_store (hA : MemAt w m li lv dv M) (h : Sf M k kd A F) (hc : M.isClass 23 = false) (hd : kd < 3) (i : Nat) (n : Int) (hn : -1000 ≤ n ∧ n ≤ 1000) (b : Int) :
    Calls Tryz.prog 50 #[.pointer (some ⟨m, 0, none⟩), .int .i64 26, .agg #[.int .i64 6, .int .i64 (i : Int), .int .i64 b], .agg #[.bool false, .int .i64 n]] w fun e w' => e = .returned (.bool (decide (kd = 0 ∧ i < k))) ∧ MemAt w' m li lv dv (SetTo M kd k i (false, n)) ∧ Nx (ownM m li lv dv (M)) w (ownM m li lv dv (SetTo M kd k i (false, n))) w' := by
  have hs : M.get 26 4 = whoV kd := (h.fr.get 4).trans h.f4
  have hun : M.unmakes 23 (i : Int) (false, n) = false := by unfold MS.unmakes; rw [hc, Bool.and_false, Bool.false_and]
  have hbel : ∀ {u v : World}, MemAt u m li lv dv M → Below u.heap.size u v → MemAt v m li lv dv M ∧ Nx (ownM m li lv dv M) u (ownM m li lv dv M) v := fun hm hb => ⟨hm.below hb, hb.os, hb.tape, hb.output, hb.size, fun k hk _ => hb.block k hk, fun k hk => .inl hk⟩
  have : kd = 0 ∨ kd = 1 ∨ kd = 2 := by omega
  rcases this with rfl | rfl | rfl
  · by_cases c : i < k
    · obtain ⟨a, ha, haA⟩ := h.ar
      have := sm_store_set hA (q := 26) (sn := 23) hs (by omega) (i : Int) b false n (ok := true) (M2 := M.put (23 : Int) (i : Int) (false, n)) (lv' := lv) (dv' := dv) fun u hu => me_Set_yes (hA.below hu) 23 i a false n ha (by rw [haA, h.lenA]; exact c) h.h23 (may_n M n hn) hun
      unfold SetTo
      rw [if_pos ⟨rfl, c⟩, decide_eq_true ⟨rfl, c⟩]
      exact this
    · have hno : hasV (M.at 23).F (i : Int) = false := by
        obtain ⟨a, ha, haA⟩ := h.ar
        have : M.at 23 = a := by unfold MS.at; rw [show (23 : Int).toNat = 23 from rfl, ha]; rfl
        rw [this, haA]
        unfold hasV
        rw [h.lenA]
        exact decide_eq_false (by omega)
      have := sm_store_set hA (q := 26) (sn := 23) hs (by omega) (i : Int) b false n (ok := false) (M2 := M) (lv' := lv) (dv' := dv) fun u hu => (me_Set_no4 (hA.below hu) 23 (i : Int) false n h.h23 (may_n M n hn) hun hno).mono fun e w' ⟨he, hb⟩ => ⟨he, hbel (hA.below hu) hb⟩
      unfold SetTo
      rw [if_neg (fun e => c e.2), decide_eq_false (fun e => c e.2)]
      exact this
  · have := sm_store_num hA (q := 26) (sn := 5) hs (i : Int) b false n
    unfold SetTo
    rw [if_neg (by omega), decide_eq_false (by omega)]
    exact this.mono fun e w' ⟨he, hb⟩ => ⟨he, hbel hA hb⟩
  · have := sm_store_low hA (q := 26) (sn := 22) hs (by omega) (i : Int) b false n
    unfold SetTo
    rw [if_neg (by omega), decide_eq_false (by omega)]
    exact this.mono fun e w' ⟨he, hb⟩ => ⟨he, hbel hA hb⟩
/-- Op 6. -/
theorem sf_set (hA : MemAt w m li lv dv M) (h : Sf M k kd A F) (hc : M.isClass 23 = false) (hd : kd < 3) (hsp : elV F 2 = (false, 1)) (i : Nat) {n : Int} (hn : -1000 ≤ n ∧ n ≤ 1000) (hv : elV F 6 = (false, n)) (b : Int) :
    Calls Tryz.prog 23 #[.pointer (some ⟨m, 0, none⟩), .int .i64 26, .agg #[.int .i64 6, .int .i64 (i : Int), .int .i64 b]] w fun e w' => e = .returned (.bool (decide (kd = 0 ∧ i < k))) ∧ MemAt w' m li lv dv (SetTo M.pop0 kd k i (false, n)) ∧ Nx (ownM m li lv dv (M)) w (ownM m li lv dv (SetTo M.pop0 kd k i (false, n))) w' :=
  sm_Do_set hA (q := 26) h.fr.isF (i : Int) b (fun u hu => sf_Pop (hA.below hu) h hsp hv) fun u hu => sf_store hu h.pop (h.cls_pop.trans hc) hd i n hn b
end
end Go.Proofs.YtoklohfpkaiidaaGreat.Obj

namespace Go.Proofs.YtoklohfpkaiidaaGreat.Obj
open Go.Proofs.YtoklohfpkaiidaaGreat.Gen Go.Proofs.YtoklohfpkaiidaaGreat.Base Go.ChangeShapes Go.WideShapes Go.ChangeAt Go.RowKit
set_option linter.unusedVariables false
/-- Is there such a field of self? -/
def isFld (kd k i : Nat) : Prop := (kd = 0 ∧ i < k) ∨ (kd = 2 ∧ i = 0)
instance (kd k i : Nat) : Decidable (isFld kd k i) := by unfold isFld; infer_instance
def fldV (kd : Nat) (A : List V) (i : Nat) : V := if kd = 0 then elV A (i : Int) else (false, 0)
def FldTo (M : MS) (kd k i : Nat) (A : List V) : MS := if isFld kd k i then M.push0 (fldV kd A i) else M
section
variable {w u : World} {m li : Nat} {lv dv : Value} {M : MS} {k kd : Nat} {A F : List V}
theorem sf_fld (hA : MemAt w m li lv dv M) (h : Sf M k kd A F) (hd : kd < 3) (hsp : elV F 2 = (false, 0)) (i : Nat) (hm : kd = 0 → M.may (elV A (i : Int)) = true) (b : Int) :
    Calls Tryz.prog 23 #[.pointer (some ⟨m, 0, none⟩), .int .i64 26, .agg #[.int .i64 4, .int .i64 (i : Int), .int .i64 b]] w fun e w' => e = .returned (.bool (decide (isFld kd k i))) ∧ MemAt w' m li lv dv (FldTo M kd k i A) ∧ Nx (ownM m li lv dv (M)) w (ownM m li lv dv (FldTo M kd k i A)) w' := by
  have hs : M.get 26 4 = whoV kd := (h.fr.get 4).trans h.f4
  have hbel : ∀ {u v : World}, MemAt u m li lv dv M → Below u.heap.size u v → MemAt v m li lv dv M ∧ Nx (ownM m li lv dv M) u (ownM m li lv dv M) v := fun hm hb => ⟨hm.below hb, hb.os, hb.tape, hb.output, hb.size, fun k hk _ => hb.block k hk, fun k hk => .inl hk⟩
  have : kd = 0 ∨ kd = 1 ∨ kd = 2 := by omega
  rcases this with rfl | rfl | rfl
  · by_cases c : i < k
    · have hi : isFld 0 k i := .inl ⟨rfl, c⟩
      unfold FldTo
      rw [if_pos hi, decide_eq_true hi]
      have hv := h.get23 (i : Int)
      have hm' := hm rfl
      show Calls _ _ _ _ fun e w' => _ ∧ MemAt w' m li lv dv (M.push0 (elV A (i : Int))) ∧ Nx (ownM m li lv dv M) w (ownM m li lv dv (M.push0 (elV A (i : Int)))) w'
      revert hv hm'
      generalize elV A (i : Int) = v
      obtain ⟨vb, vn⟩ := v
      intro hv hm'
      refine sm_Do_fld hA (q := 26) (sb := true) (sn := 23) h.fr.isF hs (i : Int) b (vb := vb) (vn := vn) (fun u hu => ?_) fun u hu => sf_Push (hA.below hu) h hsp vb vn hm'
      have := sm_field_yes (hA.below hu) (n := 23) (i := (i : Int)) (by rw [h.fmt23]; decide) (by omega) (by rw [h.size23]; omega)
      rw [hv] at this
      exact this
    · have hi : ¬ isFld 0 k i := by rintro (e | e); exact c e.2; exact absurd e.1 (by decide)
      unfold FldTo
      rw [if_neg hi, decide_eq_false hi]
      exact (sm_Do_fld_no hA (q := 26) (sb := true) (sn := 23) h.fr.isF hs (i : Int) b (vb := false) (vn := 0) fun u hu => sm_field_out (hA.below hu) (by rw [h.fmt23]; decide) (by omega) (by rw [h.size23]; omega)).mono fun e w' ⟨he, hb⟩ => ⟨he, hbel hA hb⟩
  · have hi : ¬ isFld 1 k i := by rintro (e | e) <;> exact absurd e.1 (by decide)
    unfold FldTo
    rw [if_neg hi, decide_eq_false hi]
    exact (sm_Do_fld_no hA (q := 26) (sb := false) (sn := 5) h.fr.isF hs (i : Int) b (vb := false) (vn := 0) fun u hu => sm_field_num (hA.below hu) 5 (i : Int)).mono fun e w' ⟨he, hb⟩ => ⟨he, hbel hA hb⟩
  · by_cases c : i = 0
    · subst c
      have hi : isFld 2 k 0 := .inr ⟨rfl, rfl⟩
      unfold FldTo
      rw [if_pos hi, decide_eq_true hi]
      refine sm_Do_fld hA (q := 26) (sb := true) (sn := 22) h.fr.isF hs ((0 : Nat) : Int) b (vb := false) (vn := 0) (fun u hu => ?_) fun u hu => sf_Push (hA.below hu) h hsp false 0 (may_n M 0 (by omega))
      have := sm_field_yes (hA.below hu) (n := 22) (i := ((0 : Nat) : Int)) (by rw [h.fmt22]; decide) (by omega) (by rw [h.size22]; decide)
      have hv : M.get 22 ((0 : Nat) : Int) = (false, 0) := h.g22
      rw [hv] at this
      exact this
    · have hi : ¬ isFld 2 k i := by rintro (e | e); exact absurd e.1 (by decide); exact c e.2
      unfold FldTo
      rw [if_neg hi, decide_eq_false hi]
      exact (sm_Do_fld_no hA (q := 26) (sb := true) (sn := 22) h.fr.isF hs (i : Int) b (vb := false) (vn := 0) fun u hu => sm_field_out (hA.below hu) (by rw [h.fmt22]; decide) (by omega) (by rw [h.size22]; omega)).mono fun e w' ⟨he, hb⟩ => ⟨he, hbel hA hb⟩
end
end Go.Proofs.YtoklohfpkaiidaaGreat.Obj

namespace Go.Proofs.YtoklohfpkaiidaaGreat.Obj
open Go.Proofs.YtoklohfpkaiidaaGreat.Gen Go.Proofs.YtoklohfpkaiidaaGreat.Base Go.ChangeShapes Go.WideShapes Go.ChangeAt Go.RowKit
set_option linter.unusedVariables false
section
variable {w u : World} {m li : Nat} {lv dv : Value} {M : MS}
theorem sm_Does1 (w : World) : Calls Tryz.prog 7 #[.int .i64 1] w fun e w' => e = .returned (.bool true) ∧ w = w' := by
  go_enter Tryz.func7, Tryz.ntmps7
  go_wp2_with fail
  go_ret
  exact ⟨rfl, rfl⟩
theorem sm_Does22 (w : World) : Calls Tryz.prog 7 #[.int .i64 22] w fun e w' => e = .returned (.bool true) ∧ w = w' := by
  go_enter Tryz.func7, Tryz.ntmps7
  go_wp2_with fail
  go_ret
  exact ⟨rfl, rfl⟩
theorem sm_Does11 (w : World) : Calls Tryz.prog 7 #[.int .i64 11] w fun e w' => e = .returned (.bool false) ∧ w = w' := by
  go_enter Tryz.func7, Tryz.ntmps7
  go_wp2_with fail
  go_ret
  exact ⟨rfl, rfl⟩
theorem sm_Does0 (w : World) : Calls Tryz.prog 7 #[.int .i64 0] w fun e w' => e = .returned (.bool false) ∧ w = w' := by
  go_enter Tryz.func7, Tryz.ntmps7
  go_wp2_with fail
  go_ret
  exact ⟨rfl, rfl⟩
theorem sm_awake (w : World) : Calls Tryz.prog 10 #[] w fun e w' => e = .returned (.bool true) ∧ Below w.heap.size w w' := by
  go_enter Tryz.func10, Tryz.ntmps10
  go_wp2_with (first
    | (go_at_call 7; (with_reducible refine (sm_Does1 _).mono ?_); rintro e u1 ⟨rfl, rfl⟩; dsimp only)
    | (go_at_call 7; (with_reducible refine (sm_Does22 _).mono ?_); rintro e u1 ⟨rfl, rfl⟩; dsimp only)
    | (go_at_call 7; (with_reducible refine (sm_Does11 _).mono ?_); rintro e u1 ⟨rfl, rfl⟩; dsimp only)
    | (go_at_call 7; (with_reducible refine (sm_Does0 _).mono ?_); rintro e u1 ⟨rfl, rfl⟩; dsimp only))
  go_ret
  exact ⟨rfl, Below.refl _ _⟩
/-- Where the law stands: a memory in new memory. -/
structure Sst (W w : World) (m li : Nat) (lv dv : Value) (M : MS) : Prop where
  me : MemAt w m li lv dv M
  bel : Below W.heap.size W w
  new : ∀ k, ownM m li lv dv M k → W.heap.size ≤ k
theorem nx_Bel {W w w' : World} {P Q : Nat → Prop} (hb : Below W.heap.size W w) (hp : ∀ k, P k → W.heap.size ≤ k) (hN : Nx P w Q w') : Below W.heap.size W w' ∧ ∀ k, Q k → W.heap.size ≤ k :=
  ⟨⟨hN.os.trans hb.os, hN.tape.trans hb.tape, hN.output.trans hb.output, Nat.le_trans hb.size hN.size, fun k hk => (hN.block k (Nat.lt_of_lt_of_le hk hb.size) fun c => by have := hp k c; omega).trans (hb.block k hk)⟩,
   fun k hk => by rcases hN.own k hk with c | c; exact hp k c; have := hb.size; omega⟩
theorem Sst.below {W w w' : World} (h : Sst W w m li lv dv M) (hb : Below w.heap.size w w') : Sst W w' m li lv dv M := ⟨h.me.below hb, h.bel.trans (hb.mono h.bel.size), h.new⟩
theorem Sst.nx {W w w' : World} {lv' dv' : Value} {M' : MS} (h : Sst W w m li lv dv M) (hM : MemAt w' m li lv' dv' M') (hN : Nx (ownM m li lv dv M) w (ownM m li lv' dv' M') w') : Sst W w' m li lv' dv' M' :=
  have hx := nx_Bel h.bel h.new hN
  ⟨hM, hx.1, hx.2⟩
end
end Go.Proofs.YtoklohfpkaiidaaGreat.Obj

namespace Go.Proofs.YtoklohfpkaiidaaGreat.Obj
open Go.Proofs.YtoklohfpkaiidaaGreat.Gen Go.Proofs.YtoklohfpkaiidaaGreat.Base Go.ChangeShapes Go.WideShapes Go.ChangeAt Go.RowKit
set_option linter.unusedVariables false
section
variable {w u : World} {b : Nat} {lv : Value} {L : List Th} {k : Nat}
theorem Ps0 (k : Nat) : Ps 0 k = List.replicate k (false, 0) := by unfold Ps; simp [nilF]
theorem law_AddA (h : LB w u b 51 lv L 23) (hL : L.map Th.pl = (List.range 23).map firstT) (hk : k < 20) :
    Calls Tryz.prog 18 #[.pointer (some ⟨b, 0, none⟩), .int .i64 7, .int .i64 1, .slice (some ⟨u.heap.size, 0, none⟩) k k, .string ByteArray.empty] (u.alloc (.cells (vals (Ps 0 k)).toArray 54)) fun e w' => e = .returned (.int .i64 23) ∧ ∃ a c L', LB w w' b 51 (.slice a L'.length c) L' 24 ∧ L'.map Th.pl = stA k := by
  have hl : L.length = 23 := by
    have := congrArg List.length hL
    simpa using this
  have hFl : (List.replicate k ((false, 0) : V)).length = k := List.length_replicate
  have h2 := h.more ((Below.refl u.heap.size u).alloc (Nat.le_refl _) (.cells (vals (Ps 0 k)).toArray 54))
  have hrow : RowV (u.alloc (.cells (vals (Ps 0 k)).toArray 54)) 54 2 (.slice (some ⟨u.heap.size, 0, none⟩) (List.replicate k ((false, 0) : V)).length k) (List.replicate k ((false, 0) : V)).length (vals (List.replicate k (false, 0))) ∧ (∀ j, blk (.slice (some ⟨u.heap.size, 0, none⟩) (List.replicate k ((false, 0) : V)).length k) (List.replicate k ((false, 0) : V)).length = some j → j ≠ b ∧ lv.ownBlock ≠ some j) := by
    rcases Nat.eq_zero_or_pos k with e | e
    · subst e
      exact ⟨.inl ⟨rfl, rfl, _, _, rfl⟩, fun j hj => by simp [blk] at hj⟩
    · have := h.newF (List.replicate k (false, 0)) ⟨by rw [hFl]; exact e, by rw [hFl]; omega⟩
      rw [← Ps0] at this ⊢
      have hpl : (Ps 0 k).length = k := by rw [Ps0]; exact hFl
      rw [hpl] at this ⊢
      exact this
  have := b_Add h2 (by omega) (by omega) 7 1 (fa := some ⟨u.heap.size, 0, none⟩) (fc := k) (F := List.replicate k (false, 0)) hrow.1 ⟨hrow.2, by rw [hFl]; exact Nat.le_refl _, by omega⟩ ByteArray.empty
  rw [hFl] at this
  refine this.mono ?_
  rintro e w' ⟨rfl, va, vc, hB⟩
  refine ⟨by rw [hl]; rfl, va, vc, L ++ [⟨7, 1, 23 + 1, false, .slice (some ⟨u.heap.size, 0, none⟩) k k, List.replicate k (false, 0), ByteArray.empty⟩], ?_, ?_⟩
  · rw [List.length_append]; exact hB
  · rw [List.map_append, hL]; rfl
end
end Go.Proofs.YtoklohfpkaiidaaGreat.Obj

namespace Go.Proofs.YtoklohfpkaiidaaGreat.Obj
open Go.Proofs.YtoklohfpkaiidaaGreat.Gen Go.Proofs.YtoklohfpkaiidaaGreat.Base Go.ChangeShapes Go.WideShapes Go.ChangeAt Go.RowKit
set_option linter.unusedVariables false
structure Sq (W w : World) (m li : Nat) (lv dv : Value) (M : MS) (k kd : Nat) (A : List V) (c : Bool) (s : Nat) (top : V) : Prop where
  st : Sst W w m li lv dv M
  sf : ∃ F, Sf M k kd A F ∧ elV F 2 = (false, (s : Int)) ∧ (s = 1 → elV F 6 = top)
  cls : c = true → M.isClass 23 = false
section
variable {W w u : World} {m li : Nat} {lv dv : Value} {M : MS} {k kd s : Nat} {A F : List V} {c : Bool} {top : V} {b : Nat} {L : List Th}
theorem Sq.below (h : Sq W w m li lv dv M k kd A c s top) (hb : Below w.heap.size w u) : Sq W u m li lv dv M k kd A c s top := ⟨h.st.below hb, h.sf, h.cls⟩
theorem Sq.start (h : New u w L 28 m li lv dv M) (hL : L.map Th.pl = stF k kd) (hk : k < 20) (hd : kd < 3) (hb : Below W.heap.size W w) (hu : W.heap.size ≤ u.heap.size) : Sq W w m li lv dv M k kd (List.replicate k (false, 0)) true 0 (true, 0) := by
  obtain ⟨h1, h2⟩ := Sf.start h hL hk hd
  exact ⟨⟨h.me, hb, fun j hj => Nat.le_trans hu (h.new j hj)⟩, ⟨_, h1, rfl, fun e => by cases e⟩, fun _ => h2⟩
theorem sq_int (h : Sq W w m li lv dv M k kd A c 0 top) (x b : Int) (hx : 0 ≤ x ∧ x ≤ 255) :
    Calls Tryz.prog 23 #[.pointer (some ⟨m, 0, none⟩), .int .i64 26, .agg #[.int .i64 9, .int .i64 x, .int .i64 b]] w fun e w' => e = .returned (.bool true) ∧ ∃ M', Sq W w' m li lv dv M' k kd A c 1 (false, x - 128) := by
  obtain ⟨F, hF, h2, -⟩ := h.sf
  refine (sf_int h.st.me hF h2 x b hx).mono ?_
  rintro e w' ⟨rfl, hM, hN⟩
  refine ⟨rfl, _, h.st.nx hM hN, ⟨_, hF.push _, ?_, fun _ => ?_⟩, fun hc => (hF.cls_push _).trans (h.cls hc)⟩
  · exact elV_set_eq _ (by rw [List.length_set, hF.fr.len]; decide)
  · exact (elV_set_ne _ (by decide)).trans (elV_set_eq _ (by rw [hF.fr.len]; decide))
theorem sq_set {n : Int} (h : Sq W w m li lv dv M k kd A true 1 (false, n)) (hd : kd < 3) (i : Nat) (hn : -1000 ≤ n ∧ n ≤ 1000) (b : Int) :
    Calls Tryz.prog 23 #[.pointer (some ⟨m, 0, none⟩), .int .i64 26, .agg #[.int .i64 6, .int .i64 (i : Int), .int .i64 b]] w fun e w' => e = .returned (.bool (decide (kd = 0 ∧ i < k))) ∧ ∃ M', Sq W w' m li lv dv M' k kd (if kd = 0 ∧ i < k then A.set i (false, n) else A) false 0 (true, 0) := by
  obtain ⟨F, hF, h2, h6⟩ := h.sf
  refine (sf_set h.st.me hF (h.cls rfl) hd h2 i hn (h6 rfl) b).mono ?_
  rintro e w' ⟨rfl, hM, hN⟩
  have e2 : elV ((F.set 2 (false, 0)).set 6 (true, 0)) 2 = (false, ((0 : Nat) : Int)) := (elV_set_ne _ (by decide)).trans (elV_set_eq _ (by rw [hF.fr.len]; decide))
  by_cases ci : kd = 0 ∧ i < k
  · have hS : SetTo M.pop0 kd k i (false, n) = M.pop0.put (23 : Int) (i : Int) (false, n) := by unfold SetTo; rw [if_pos ci]
    rw [hS] at hM hN
    rw [if_pos ci]
    exact ⟨rfl, _, h.st.nx hM hN, ⟨_, hF.pop.putA ci.2 _, e2, fun e => by cases e⟩, fun e => by cases e⟩
  · have hS : SetTo M.pop0 kd k i (false, n) = M.pop0 := by unfold SetTo; rw [if_neg ci]
    rw [hS] at hM hN
    rw [if_neg ci]
    exact ⟨rfl, _, h.st.nx hM hN, ⟨_, hF.pop, e2, fun e => by cases e⟩, fun e => by cases e⟩
theorem sq_fld (h : Sq W w m li lv dv M k kd A c 0 top) (hd : kd < 3) (i : Nat) (hA : ∀ v ∈ A, v.1 = false ∧ -1000 ≤ v.2 ∧ v.2 ≤ 1000) (b : Int) :
    Calls Tryz.prog 23 #[.pointer (some ⟨m, 0, none⟩), .int .i64 26, .agg #[.int .i64 4, .int .i64 (i : Int), .int .i64 b]] w fun e w' => e = .returned (.bool (decide (isFld kd k i))) ∧ ∃ M', Sq W w' m li lv dv M' k kd A c (if isFld kd k i then 1 else 0) (fldV kd A i) := by
  obtain ⟨F, hF, h2, -⟩ := h.sf
  have hmay : kd = 0 → M.may (elV A (i : Int)) = true := fun _ => by
    have hh : (elV A (i : Int)).1 = false ∧ -1000 ≤ (elV A (i : Int)).2 ∧ (elV A (i : Int)).2 ≤ 1000 := by
      unfold elV
      rw [if_pos (by omega), Int.toNat_natCast]
      cases e : A[i]? with
      | none => exact ⟨rfl, by decide, by decide⟩
      | some v => exact hA v (List.mem_of_getElem? e)
    generalize elV A (i : Int) = v at *
    obtain ⟨vb, vn⟩ := v
    obtain ⟨rfl, h3⟩ := hh
    exact may_n M vn h3
  refine (sf_fld h.st.me hF hd h2 i hmay b).mono ?_
  rintro e w' ⟨rfl, hM, hN⟩
  by_cases ci : isFld kd k i
  · have hS : FldTo M kd k i A = M.push0 (fldV kd A i) := by unfold FldTo; rw [if_pos ci]
    rw [hS] at hM hN
    rw [if_pos ci]
    refine ⟨rfl, _, h.st.nx hM hN, ⟨_, hF.push _, ?_, fun _ => ?_⟩, fun hc => (hF.cls_push _).trans (h.cls hc)⟩
    · exact elV_set_eq _ (by rw [List.length_set, hF.fr.len]; decide)
    · exact (elV_set_ne _ (by decide)).trans (elV_set_eq _ (by rw [hF.fr.len]; decide))
  · have hS : FldTo M kd k i A = M := by unfold FldTo; rw [if_neg ci]
    rw [hS] at hM hN
    rw [if_neg ci]
    exact ⟨rfl, _, h.st.nx hM hN, ⟨_, hF, h2, fun e => by cases e⟩, h.cls⟩
theorem sq_Get22 (h : Sq W w m li lv dv M k kd A c s top) : Calls Tryz.prog 24 #[.pointer (some ⟨m, 0, none⟩), .int .i64 22, .int .i64 0] w fun e w' => e = .returned (.agg #[.bool false, .int .i64 0]) ∧ Below w.heap.size w w' := by
  obtain ⟨F, hF, -⟩ := h.sf
  have := me_Get2 h.st.me 22 0
  rw [hF.g22] at this
  exact this
theorem sq_Get23 (h : Sq W w m li lv dv M k kd A c s top) (j : Int) : Calls Tryz.prog 24 #[.pointer (some ⟨m, 0, none⟩), .int .i64 23, .int .i64 j] w fun e w' => e = .returned (.agg #[.bool (elV A j).1, .int .i64 (elV A j).2]) ∧ Below w.heap.size w w' := by
  obtain ⟨F, hF, -⟩ := h.sf
  have := me_Get2 h.st.me 23 j
  rw [hF.get23] at this
  exact this
theorem sq_Get6 (h : Sq W w m li lv dv M k kd A c 1 top) : Calls Tryz.prog 24 #[.pointer (some ⟨m, 0, none⟩), .int .i64 26, .int .i64 6] w fun e w' => e = .returned (.agg #[.bool top.1, .int .i64 top.2]) ∧ Below w.heap.size w w' := by
  obtain ⟨F, hF, -, h6⟩ := h.sf
  have := me_Get2 h.st.me 26 6
  have e : M.get 26 6 = top := (hF.fr.get 6).trans (h6 rfl)
  rw [e] at this
  exact this
theorem law_MethodFK (h : LB w u b 51 lv L 24) (hL : L.map Th.pl = stA k) :
    Calls Tryz.prog 20 #[.pointer (some ⟨b, 0, none⟩), .int .i64 0, .int .i64 0, .int .i64 0, .slice none 0 0, .slice none 0 0] u fun e w' => e = .returned (.int .i64 25) ∧ ∃ a c L', LB w w' b 51 (.slice a L'.length c) L' 26 ∧ L'.map Th.pl = stC k ∧ Kx b lv u (.slice a L'.length c) w' := by
  have hl : L.length = 24 := by
    have := congrArg List.length hL
    rw [List.length_map] at this
    rw [this]; rfl
  refine (b_MethodK h (by omega) (by omega) 0 0 0).mono ?_
  rintro e w' ⟨rfl, va, vc, t1, t2, hB, h1, h2, hK⟩
  rw [hl] at h2
  refine ⟨by rw [hl]; rfl, va, vc, L ++ [t1, t2], ?_, ?_, ?_⟩
  · rw [List.length_append]; exact hB
  · rw [List.map_append, hL, List.map_cons, List.map_cons, List.map_nil, h1, h2]; rfl
  · rw [List.length_append]; exact hK
end
end Go.Proofs.YtoklohfpkaiidaaGreat.Obj
