/- A frame whose stack holds numbers, in memory: what its calls answer. -/
import Derived.Test.YtglilfjkjoogbaaFs1
namespace Go.Proofs.Ytglilfjkjoogbaa.Obj
open Go.Proofs.Ytglilfjkjoogbaa.Gen Go.Proofs.Ytglilfjkjoogbaa.Base Go.ChangeShapes Go.WideShapes Go.ChangeAt Go.RowKit
set_option linter.unusedVariables false
structure Fq (w : World) (m li : Nat) (lv dv : Value) (M : MS) (q t : Nat) (l : List Int) : Prop where
  me : MemAt w m li lv dv M
  fr : FrAt M q 0 24 0 (fsF t l)
  nil : M.has 0 = true
section
variable {w u : World} {m li q t : Nat} {lv dv : Value} {M : MS} {l : List Int}
theorem Fq.below (h : Fq w m li lv dv M q t l) (hb : Below w.heap.size w u) : Fq u m li lv dv M q t l := ⟨h.me.below hb, h.fr, h.nil⟩
theorem Fq.sp (h : Fq w m li lv dv M q t l) : M.get q 2 = (false, ((t + l.length : Nat) : Int)) := by rw [h.fr.get]; rfl
theorem Fq.small (h : Fq w m li lv dv M q t l) : t + l.length ≤ 16 := by
  have := h.fr.f2
  rw [fsF_2] at this
  unfold num at this
  simp at this
  omega
theorem fq_Push {id : Int} (hid : id = (q : Int)) (h : Fq w m li lv dv M q t l) (v : Int) (hv : 0 ≤ v ∧ v ≤ 1000) (hr : t + l.length < 16) :
    Calls Try.prog 11 #[.pointer (some ⟨m, 0, none⟩), .int .i64 id, .agg #[.bool false, .int .i64 v]] w fun e w' => e = .returned (.bool true) ∧ ∃ M', Fq w' m li lv dv M' q t (l ++ [v]) ∧ Nx (ownM m li lv dv M) w (ownM m li lv dv M') w' := by
  subst hid
  obtain ⟨b, hb, hF, -, -⟩ := h.fr.bd
  have hlen := h.fr.len
  refine (fr_Push h.me h.fr.isF hb (by rw [hF]; exact hlen) h.fr.has false v (by unfold MS.may fits; simp; omega) (s := t + l.length) hr h.sp).mono ?_
  rintro e w' ⟨rfl, hM, hN⟩
  refine ⟨rfl, _, ⟨hM, ?_, h.nil⟩, hN⟩
  have h1 := (h.fr.put (i := 6 + (t + l.length)) (by omega) (false, v) (by omega) (by omega) (by omega)).put (i := 2) (by omega) (false, ((t + l.length : Nat) : Int) + 1) (by omega) (by omega) (fun _ => by unfold num; simp; omega)
  rw [fsF_push t l v hr, show ((6 + (t + l.length) : Nat) : Int) = 6 + ((t + l.length : Nat) : Int) by omega] at h1
  exact h1
theorem fq_Push_full {id : Int} (hid : id = (q : Int)) (h : Fq w m li lv dv M q t l) (v : Int) (hv : 0 ≤ v ∧ v ≤ 1000) (hr : t + l.length = 16) :
    Calls Try.prog 11 #[.pointer (some ⟨m, 0, none⟩), .int .i64 id, .agg #[.bool false, .int .i64 v]] w fun e w' => e = .returned (.bool false) ∧ Below w.heap.size w w' := by
  subst hid
  exact fr_Push_full h.me h.fr.isF false v (by unfold MS.may fits; simp; omega) (by rw [h.sp, hr]; rfl)
theorem fq_Top {id : Int} (hid : id = (q : Int)) (h : Fq w m li lv dv M q t l) (d : Nat) (hd : d < l.length) :
    Calls Try.prog 12 #[.pointer (some ⟨m, 0, none⟩), .int .i64 id, .int .i64 (d : Int)] w fun e w' => e = .returned (.tuple #[.agg #[.bool false, .int .i64 l[l.length - 1 - d]], .bool true]) ∧ Below w.heap.size w w' := by
  subst hid
  have := fr_Top h.me h.fr.isF (s := t + l.length) (d := d) h.small (by omega) h.sp
  rw [h.fr.get, show 6 + ((t + l.length : Nat) : Int) - 1 - (d : Int) = 6 + ((t + (l.length - 1 - d) : Nat) : Int) by omega, fsF_at t l _ (by omega)] at this
  exact this
theorem fq_Pop {v : Int} {id : Int} (hid : id = (q : Int)) (h : Fq w m li lv dv M q t (l ++ [v])) :
    Calls Try.prog 13 #[.pointer (some ⟨m, 0, none⟩), .int .i64 id] w fun e w' => e = .returned (.tuple #[.agg #[.bool false, .int .i64 v], .bool true]) ∧ ∃ M', Fq w' m li lv dv M' q t l ∧ Nx (ownM m li lv dv M) w (ownM m li lv dv M') w' := by
  subst hid
  obtain ⟨b, hb, hF, -, -⟩ := h.fr.bd
  have hlen := h.fr.len
  have hsm := h.small
  have hl : (l ++ [v]).length = l.length + 1 := by simp
  have hsp := h.sp
  rw [hl] at hsp hsm
  have hp := fr_Pop h.me h.fr.isF hb (by rw [hF]; exact hlen) h.fr.has h.nil (s := t + (l.length + 1)) (by omega) hsm hsp
  have e1 : M.get q (6 + ((t + (l.length + 1) : Nat) : Int) - 1 - 0) = (false, v) := by
    rw [h.fr.get, show 6 + ((t + (l.length + 1) : Nat) : Int) - 1 - 0 = 6 + ((t + l.length : Nat) : Int) by omega, fsF_at t (l ++ [v]) l.length (by simp)]
    simp
  rw [e1, show ((t + (l.length + 1) : Nat) : Int) - 1 = ((t + l.length : Nat) : Int) by omega] at hp
  refine hp.mono ?_
  rintro e w' ⟨rfl, hM, hN⟩
  refine ⟨rfl, _, ⟨hM, ?_, h.nil⟩, hN⟩
  have h1 := (h.fr.put (i := 2) (by omega) (false, ((t + l.length : Nat) : Int)) (by omega) (by omega) (fun _ => by unfold num; simp; omega)).put (i := 6 + (t + l.length)) (by omega) (true, 0) (by omega) (by omega) (by omega)
  rw [fsF_pop t l v (by omega), show ((6 + (t + l.length) : Nat) : Int) = 6 + ((t + l.length : Nat) : Int) by omega] at h1
  exact h1
theorem fq_Pop_no {id : Int} (hid : id = (q : Int)) (h : Fq w m li lv dv M q 0 []) :
    Calls Try.prog 13 #[.pointer (some ⟨m, 0, none⟩), .int .i64 id] w fun e w' => e = .returned (.tuple #[.agg #[.bool false, .int .i64 0], .bool false]) ∧ Below w.heap.size w w' := by
  subst hid
  exact fr_Pop_no h.me h.fr.isF h.sp
theorem Fq.chain (h : Fq w m li lv dv M q t l) : M.chain (fun _ => (q : Int)) (fun _ => 0) 0 :=
  ⟨fun _ _ => ⟨0, 24, h.fr.isF⟩, fun j hj => by omega, rfl⟩
theorem fq_Temp15 {id : Int} (hid : id = (q : Int)) (h : Fq w m li lv dv M q t []) (ht : t ≤ 8) :
    Calls Try.prog 14 #[.pointer (some ⟨m, 0, none⟩), .int .i64 id, .int .i64 0, .int .i64 15] w fun e w' => e = .returned (.tuple #[.agg #[.bool true, .int .i64 0], .bool true]) ∧ Below w.heap.size w w' := by
  subst hid
  have := fr_Temp_of h.me (id := (q : Int)) (out := 0) (x := (q : Int)) (fun u hb => (fr_further (h.me.below hb) h.chain 0 (by omega)).mono fun e w' ⟨⟨x, he, hx⟩, hb2⟩ => ⟨by rw [he, hx (Nat.le_refl 0)]; rfl, hb2⟩) (t := 15) (by omega)
  rw [h.fr.get, show (6 + ((15 : Nat) : Int)) = 21 from rfl, fsF_15 t ht] at this
  exact this
theorem fq_Get {id : Int} (hid : id = (q : Int)) (h : Fq w m li lv dv M q t l) :
    Calls Try.prog 15 #[.pointer (some ⟨m, 0, none⟩), .int .i64 id, .int .i64 2] w fun e w' => e = .returned (.agg #[.bool false, .int .i64 ((t + l.length : Nat) : Int)]) ∧ Below w.heap.size w w' := by
  subst hid
  have := me_Get2 h.me (q : Int) 2
  rw [h.sp] at this
  exact this
theorem fq_Is {id : Int} (hid : id = (q : Int)) (h : Fq w m li lv dv M q t l) : Calls Try.prog 34 #[.pointer (some ⟨m, 0, none⟩), .int .i64 id] w fun e w' => e = .returned (.bool true) ∧ Below w.heap.size w w' := by
  subst hid
  exact fr_Is h.me h.fr.isF
theorem fq_IsMethod (h : Fq w m li lv dv M q t l) : Calls Try.prog 37 #[.pointer (some ⟨m, 0, none⟩), .int .i64 24] w fun e w' => e = .returned (.bool true) ∧ Below w.heap.size w w' := by
  have := fr_IsMethod h.me 24
  rw [h.fr.m0] at this
  exact this
theorem may_num (M : MS) (n : Int) (h : fits n = true) : M.may (false, n) = true := by unfold MS.may; rw [if_neg (by simp)]; exact h
theorem st_len (M : MS) (t : Int) : (stM M t).bs.length = 25 := by kernel_rfl
/-- A frame in a world that has just been made. -/
theorem fq_New {L : List Th} {w0 : World} (h : New w0 w L 25 m li lv dv M) (hL : L.map Th.pl = stL 0 0 0) (ht : t ≤ 8) :
    Calls Try.prog 10 #[.pointer (some ⟨m, 0, none⟩), .int .i64 0, .int .i64 24, .agg #[.bool false, .int .i64 5], .int .i64 0, .int .i64 0, .int .i64 (t : Int), .slice none 0 0] w fun e w' => e = .returned (.tuple #[.int .i64 25, .bool true]) ∧ ∃ lv' dv' M', Fq w' m li lv' dv' M' 25 t [] ∧ Nx (ownM m li lv dv M) w (ownM m li lv' dv' M') w' := by
  have hs := h.st hL
  have hb25 : M.bs.length = 25 := by
    have e : (M.bare).bs.length = M.bs.length := List.length_map _
    rw [← e, hs]; exact st_len M 0
  have hlast := h.last
  have hlen := h.me.len
  have h0 : M.has 0 = true := by rw [← bare_has, hs]; exact st_has0 M 0
  have h24 : M.has 24 = true := by rw [← bare_has, hs]; exact st_has24 M 0
  have hM : M.isM 24 = true := by rw [← bare_isM, hs]; exact st_isM0 M
  have hft : fits (t : Int) = true := by unfold fits; exact decide_eq_true (by omega)
  have hn := fr_New h.me (sender := 0) (method := 24) (sb := false) (sn := 5) (block := 0) (pc := 0) (temps := (t : Int)) (by rw [← bare_isClass, hs]; exact st_class M 0) (by rw [← bare_shape, hs]; exact st_shape M 0) (by omega)
    (fun k hk => by
      have : k = 0 ∨ k = 1 ∨ k = 2 ∨ k = 3 ∨ k = 4 ∨ k = 5 := by omega
      rcases this with rfl | rfl | rfl | rfl | rfl | rfl
      · exact h0
      · rfl
      · exact may_num M _ hft
      · exact h24
      · rfl
      · exact h0) (by omega) (by omega)
  rw [hb25] at hn
  refine hn.mono ?_
  rintro e w' ⟨rfl, lv', dv', fv, hM', hN⟩
  have hfr := FrAt.new (M := M) (sn := 0) (mn := 24) (bn := 0) (pc := 0) (temps := (t : Int)) (self := (false, 5)) (fv := fv) hlen (by omega) (by omega) (.inl rfl) (.inl rfl) hM
  rw [hb25, fsF_new t (by omega)] at hfr
  rw [fsF_new t (by omega)] at hM' hN
  exact ⟨rfl, lv', dv', _, ⟨hM', hfr, mkF_hasT M h0⟩, hN⟩
end
end Go.Proofs.Ytglilfjkjoogbaa.Obj
