/- What stays where a thing more is made, and where a field is set; a frame, as plain data. -/
import Derived.Test.YtoklohfpkaiidaaGreatFg1
namespace Go.Proofs.YtoklohfpkaiidaaGreat.Obj
open Go.Proofs.YtoklohfpkaiidaaGreat.Gen Go.Proofs.YtoklohfpkaiidaaGreat.Base Go.ChangeShapes Go.WideShapes Go.ChangeAt Go.RowKit
set_option linter.unusedVariables false
section
variable {M : MS} {cls fmt : Int} {F : List V} {fv : Value}
theorem mkF_atO (hl : M.dead.length = M.bs.length) {id : Int} (h : M.has id = true) : (M.mkF cls fmt F fv).at id = M.at id := by
  have h1 := has_lt h
  unfold MS.at
  rw [mkF_old M (by omega)]
theorem mkF_getO (hl : M.dead.length = M.bs.length) {id : Int} (h : M.has id = true) (i : Int) : (M.mkF cls fmt F fv).get id i = M.get id i := by
  unfold MS.get; rw [mkF_hasT M h, h, mkF_atO hl h]
theorem mkF_fmtO (hl : M.dead.length = M.bs.length) {id : Int} (h : M.has id = true) : (M.mkF cls fmt F fv).fmt id = M.fmt id := by
  unfold MS.fmt; rw [mkF_hasT M h, h, mkF_atO hl h]
theorem mkF_sizeO (hl : M.dead.length = M.bs.length) {id : Int} (h : M.has id = true) : (M.mkF cls fmt F fv).size id = M.size id := by
  unfold MS.size; rw [mkF_hasT M h, h, mkF_atO hl h]
theorem fmt_has {id : Int} (h : M.fmt id ≠ 0) : M.has id = true := by
  unfold MS.fmt at h
  cases e : M.has id
  · rw [e] at h; exact absurd rfl h
  · rfl
theorem mkF_isClass (hl : M.dead.length = M.bs.length) {id : Int} (h : M.isClass id = true) : (M.mkF cls fmt F fv).isClass id = true := by
  unfold MS.isClass at h ⊢
  have h0 := h
  simp only [Bool.and_eq_true, decide_eq_true_eq] at h0
  have hh : M.has id = true := fmt_has (by rw [h0.1.1]; decide)
  rw [mkF_fmtO hl hh, mkF_sizeO hl hh, mkF_getO hl hh, mkF_getO hl hh]; exact h
theorem mkF_shape (hl : M.dead.length = M.bs.length) {id : Int} (h : M.isClass id = true) : (M.mkF cls fmt F fv).shape id = M.shape id := by
  have hh : M.has id = true := by
    have h0 := h
    unfold MS.isClass at h0
    simp only [Bool.and_eq_true, decide_eq_true_eq] at h0
    exact fmt_has (by rw [h0.1.1]; decide)
  unfold MS.shape
  rw [mkF_isClass hl h, h, mkF_getO hl hh, mkF_getO hl hh]
theorem mkF_like (hl : M.dead.length = M.bs.length) {id : Int} (h : M.like id = true) : (M.mkF cls fmt F fv).like id = true := by
  unfold MS.like at h ⊢
  have h0 := h
  simp only [Bool.and_eq_true, decide_eq_true_eq] at h0
  have hh : M.has id = true := fmt_has (by rw [h0.1]; decide)
  rw [mkF_fmtO hl hh, mkF_sizeO hl hh]; exact h
theorem isM_has {id : Int} (h : M.isM id = true) : M.has id = true := by
  unfold MS.isM at h
  simp only [Bool.and_eq_true, decide_eq_true_eq] at h
  exact fmt_has (by rw [h.1]; decide)
theorem isB_has {id : Int} (h : M.isB id = true) : M.has id = true := by
  unfold MS.isB at h
  simp only [Bool.and_eq_true, decide_eq_true_eq] at h
  exact fmt_has (by rw [h.1]; decide)
theorem like_has {id : Int} (h : M.like id = true) : M.has id = true := by
  unfold MS.like at h
  simp only [Bool.and_eq_true, decide_eq_true_eq] at h
  exact fmt_has (by rw [h.1]; decide)
theorem mkF_isM (hl : M.dead.length = M.bs.length) {id : Int} (h : M.isM id = true) : (M.mkF cls fmt F fv).isM id = true := by
  have hh := isM_has h
  unfold MS.isM MS.cnt at h ⊢
  have h0 := h
  simp only [Bool.and_eq_true, decide_eq_true_eq] at h0
  have hc : M.has (M.get id 3).2 = true := fmt_has (by rw [h0.2.2.2.2.2]; decide)
  rw [mkF_fmtO hl hh, mkF_sizeO hl hh, mkF_getO hl hh, mkF_getO hl hh, mkF_getO hl hh, mkF_getO hl hh, mkF_fmtO hl hc]; exact h
theorem mkF_isB (hl : M.dead.length = M.bs.length) {id : Int} (h : M.isB id = true) : (M.mkF cls fmt F fv).isB id = true := by
  have hh := isB_has h
  unfold MS.isB MS.cnt at h ⊢
  have h0 := h
  simp only [Bool.and_eq_true, decide_eq_true_eq] at h0
  have hk : M.like (M.get id 0).2 = true := h0.2.2.2.1
  rw [mkF_fmtO hl hh, mkF_sizeO hl hh, mkF_getO hl hh, mkF_getO hl hh, mkF_getO hl hh, mkF_getO hl hh, mkF_like hl hk]
  rw [hk] at h; exact h
end
section
variable {M : MS} {q : Nat} {b : Bd} {i : Int} {v : V}
theorem put_at (hb : M.bs[q]? = some b) : (M.put (q : Int) i v).bs[q]? = some { b with F := b.F.set i.toNat v } ∧ (M.put (q : Int) i v).at (q : Int) = { b with F := b.F.set i.toNat v } := by
  have hat : M.at (q : Int) = b := by unfold MS.at; rw [Int.toNat_natCast, hb]; rfl
  have hl := (List.getElem?_eq_some_iff.1 hb).1
  have h1 : (M.put (q : Int) i v).bs[q]? = some { b with F := b.F.set i.toNat v } := by
    show (M.bs.set (q : Int).toNat _)[q]? = _
    rw [hat, Int.toNat_natCast, List.getElem?_set_self hl]
  exact ⟨h1, by unfold MS.at; rw [Int.toNat_natCast, h1]; rfl⟩
theorem put_atO {j : Nat} (h : j ≠ q) : (M.put (q : Int) i v).bs[j]? = M.bs[j]? := by
  show (M.bs.set (q : Int).toNat _)[j]? = _
  rw [Int.toNat_natCast, List.getElem?_set_ne (fun e => h e.symm)]
theorem put_len : (M.put (q : Int) i v).bs.length = M.bs.length := by
  show (M.bs.set _ _).length = _
  rw [List.length_set]
theorem put_getO {id : Int} (h : id ≠ (q : Int)) (j : Int) : (M.put (q : Int) i v).get id j = M.get id j := by
  unfold MS.get
  rw [put_has]
  cases e : M.has id
  · rfl
  · have h1 := has_lt e
    rw [if_pos rfl, if_pos rfl]
    unfold MS.at
    rw [put_atO (by omega)]
theorem put_fmt (hb : M.bs[q]? = some b) (id : Int) : (M.put (q : Int) i v).fmt id = M.fmt id := by
  unfold MS.fmt
  rw [put_has]
  cases e : M.has id
  · rfl
  · have h1 := has_lt e
    rw [if_pos rfl, if_pos rfl]
    by_cases c : id = (q : Int)
    · subst c
      rw [(put_at hb).2]
      unfold MS.at
      rw [Int.toNat_natCast, hb]; rfl
    · unfold MS.at
      rw [put_atO (by omega)]
theorem put_size (hb : M.bs[q]? = some b) (id : Int) : (M.put (q : Int) i v).size id = M.size id := by
  unfold MS.size
  rw [put_has]
  cases e : M.has id
  · rfl
  · have h1 := has_lt e
    rw [if_pos rfl, if_pos rfl]
    by_cases c : id = (q : Int)
    · subst c
      rw [(put_at hb).2]
      unfold MS.at
      rw [Int.toNat_natCast, hb]
      simp
    · unfold MS.at
      rw [put_atO (by omega)]
theorem put_like (hb : M.bs[q]? = some b) (id : Int) : (M.put (q : Int) i v).like id = M.like id := by unfold MS.like; rw [put_fmt hb, put_size hb]
theorem put_isM (hb : M.bs[q]? = some b) {id : Int} (h : id ≠ (q : Int)) : (M.put (q : Int) i v).isM id = M.isM id := by
  unfold MS.isM MS.cnt; rw [put_fmt hb, put_size hb, put_getO h, put_getO h, put_getO h, put_getO h, put_fmt hb]
theorem put_isB (hb : M.bs[q]? = some b) {id : Int} (h : id ≠ (q : Int)) : (M.put (q : Int) i v).isB id = M.isB id := by
  unfold MS.isB MS.cnt; rw [put_fmt hb, put_size hb, put_getO h, put_getO h, put_getO h, put_getO h, put_like hb]
theorem put_isClass (hb : M.bs[q]? = some b) {id : Int} (h : id ≠ (q : Int)) : (M.put (q : Int) i v).isClass id = M.isClass id := by
  unfold MS.isClass; rw [put_fmt hb, put_size hb, put_getO h, put_getO h]
theorem put_shape (hb : M.bs[q]? = some b) {id : Int} (h : id ≠ (q : Int)) : (M.put (q : Int) i v).shape id = M.shape id := by
  unfold MS.shape; rw [put_isClass hb h, put_getO h, put_getO h]
theorem put_may (v' : V) : (M.put (q : Int) i v).may v' = M.may v' := rfl
end
/-- A frame, with these fields. -/
structure FrAt (M : MS) (q : Nat) (sn mn bn : Int) (F : List V) : Prop where
  bd : ∃ b, M.bs[q]? = some b ∧ b.F = F ∧ b.B = [] ∧ b.fmt = 1
  has : M.has q = true
  ne : q ≠ 0
  len : F.length = 22
  f0 : elV F 0 = (true, sn)
  f1 : (elV F 1).1 = false
  f2 : num (elV F 2) 0 16 = true
  f3 : elV F 3 = (true, mn)
  f5 : elV F 5 = (true, bn)
  s0 : sn = 0 ∨ M.like sn = true
  b0 : bn = 0 ∨ (M.isB bn = true ∧ bn ≠ q)
  m0 : M.isM mn = true
  m1 : mn ≠ q
section
variable {M : MS} {q : Nat} {sn mn bn : Int} {F : List V}
theorem FrAt.get (h : FrAt M q sn mn bn F) (i : Int) : M.get q i = elV F i := by
  obtain ⟨b, hb, hF, -, -⟩ := h.bd
  unfold MS.get
  rw [h.has, if_pos rfl]
  unfold MS.at
  rw [Int.toNat_natCast, hb, ← hF]; rfl
theorem FrAt.isF (h : FrAt M q sn mn bn F) : M.isF q sn mn bn := by
  obtain ⟨b, hb, hF, hB, hf⟩ := h.bd
  have hat : M.at (q : Int) = b := by unfold MS.at; rw [Int.toNat_natCast, hb]; rfl
  refine ⟨by have := h.ne; omega, ?_, by rw [h.get]; exact h.f0, by rw [h.get]; exact h.f3, by rw [h.get]; exact h.f5, by rw [h.get]; exact h.f1, by rw [h.get]; exact h.f2, h.s0, h.b0.imp id And.left, h.m0⟩
  unfold MS.like MS.fmt MS.size
  rw [h.has, if_pos rfl, if_pos rfl, hat, hf, hF, hB, h.len]; rfl
/-- A field that is no link is set. -/
theorem FrAt.put (h : FrAt M q sn mn bn F) {i : Nat} (hi : i < 22) (v : V) (h0 : i ≠ 0 ∧ i ≠ 3 ∧ i ≠ 5) (h1 : i = 1 → v.1 = false) (h2 : i = 2 → num v 0 16 = true) : FrAt (M.put (q : Int) (i : Int) v) q sn mn bn (F.set i v) := by
  obtain ⟨b, hb, hF, hB, hf⟩ := h.bd
  have ho : ∀ j : Nat, j ≠ i → elV (F.set i v) (j : Int) = elV F (j : Int) := fun j hj => by
    unfold elV
    rw [if_pos (by omega), if_pos (by omega), Int.toNat_natCast, List.getElem?_set_ne (fun e => hj e.symm)]
  have hs : elV (F.set i v) (i : Int) = v := by
    unfold elV
    rw [if_pos (by omega), Int.toNat_natCast, List.getElem?_set_self (by rw [h.len]; exact hi)]; rfl
  refine ⟨⟨_, (put_at hb).1, by rw [Int.toNat_natCast, hF], hB, hf⟩, h.has, h.ne, by rw [List.length_set]; exact h.len, ?_, ?_, ?_, ?_, ?_, ?_, ?_, ?_, h.m1⟩
  · exact (ho 0 (by omega)).trans h.f0
  · by_cases c : i = 1
    · subst c; rw [show (1 : Int) = ((1 : Nat) : Int) from rfl, hs]; exact h1 rfl
    · rw [show elV (F.set i v) 1 = elV F 1 from ho 1 (fun e => c e.symm)]; exact h.f1
  · by_cases c : i = 2
    · subst c; rw [show (2 : Int) = ((2 : Nat) : Int) from rfl, hs]; exact h2 rfl
    · rw [show elV (F.set i v) 2 = elV F 2 from ho 2 (fun e => c e.symm)]; exact h.f2
  · exact (ho 3 (by omega)).trans h.f3
  · exact (ho 5 (by omega)).trans h.f5
  · rw [put_like hb]; exact h.s0
  · rcases h.b0 with c | ⟨c1, c2⟩
    · exact .inl c
    · exact .inr ⟨by rw [put_isB hb c2]; exact c1, c2⟩
  · rw [put_isM hb h.m1]; exact h.m0
/-- Another thing's field is set. -/
theorem FrAt.putO {q' : Nat} {b' : Bd} {i : Int} {v : V} (h : FrAt M q sn mn bn F) (hb' : M.bs[q']? = some b') (hq : q ≠ q') (hm : mn ≠ q') (hbn : bn = 0 ∨ bn ≠ q') : FrAt (M.put (q' : Int) i v) q sn mn bn F := by
  obtain ⟨b, hb, hF, hB, hf⟩ := h.bd
  refine ⟨⟨b, by rw [put_atO hq]; exact hb, hF, hB, hf⟩, h.has, h.ne, h.len, h.f0, h.f1, h.f2, h.f3, h.f5, by rw [put_like hb']; exact h.s0, ?_, by rw [put_isM hb' hm]; exact h.m0, h.m1⟩
  rcases h.b0 with c | ⟨c1, c2⟩
  · exact .inl c
  · rcases hbn with c3 | c3
    · exact .inl c3
    · exact .inr ⟨by rw [put_isB hb' c3]; exact c1, c2⟩
theorem FrAt.mkF {cls fmt : Int} {G : List V} {fv : Value} (hl : M.dead.length = M.bs.length) (h : FrAt M q sn mn bn F) : FrAt (M.mkF cls fmt G fv) q sn mn bn F := by
  obtain ⟨b, hb, hF, hB, hf⟩ := h.bd
  exact ⟨⟨b, by rw [mkF_old M (List.getElem?_eq_some_iff.1 hb).1]; exact hb, hF, hB, hf⟩, mkF_hasT M h.has, h.ne, h.len, h.f0, h.f1, h.f2, h.f3, h.f5, h.s0.imp id (mkF_like hl), h.b0.imp id (fun c => ⟨mkF_isB hl c.1, c.2⟩), mkF_isM hl h.m0, h.m1⟩
/-- A new frame. -/
theorem FrAt.new {pc temps : Int} {self : V} {fv : Value} (hl : M.dead.length = M.bs.length) (h0 : 0 < M.bs.length) (ht : 0 ≤ temps ∧ temps ≤ 16) (hs : sn = 0 ∨ M.like sn = true) (hb : bn = 0 ∨ M.isB bn = true) (hm : M.isM mn = true) :
    FrAt (M.mkF 12 1 (hdF (hdL sn pc temps mn self bn) 6) fv) M.bs.length sn mn bn (hdF (hdL sn pc temps mn self bn) 6) := by
  refine ⟨⟨_, mkF_at M, rfl, rfl, rfl⟩, mkF_has M hl, by omega, hdF_len rfl (Nat.le_refl _), rfl, rfl, ?_, rfl, rfl, hs.imp id (mkF_like hl), hb.imp id (fun c => ⟨mkF_isB hl c, ?_⟩), mkF_isM hl hm, ?_⟩
  · show num (false, temps) 0 16 = true
    unfold num; simp; omega
  · have := has_lt (isB_has c); omega
  · have := has_lt (isM_has hm); omega
end
end Go.Proofs.YtoklohfpkaiidaaGreat.Obj
