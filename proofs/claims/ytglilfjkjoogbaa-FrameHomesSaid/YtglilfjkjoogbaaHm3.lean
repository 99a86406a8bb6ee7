/- Frames within one another, as plain data. -/
/- Frames within one another: what the calls answer. -/
/- The world that FrameHomes begins with. -/
import Derived.Test.YtglilfjkjoogbaaFs3
import Derived.Test.YtglilfjkjoogbaaB6
namespace Go.Proofs.Ytglilfjkjoogbaa.Obj
open Go.Proofs.Ytglilfjkjoogbaa.Gen Go.Proofs.Ytglilfjkjoogbaa.Base Go.ChangeShapes Go.WideShapes Go.ChangeAt Go.RowKit
set_option linter.unusedVariables false
/-- Where the frames are, and their blocks. -/
def fi (i : Nat) : Nat := if i = 0 then 25 else 26 + 2 * i
def bi (i : Nat) : Nat := 25 + 2 * i
def bz (i : Nat) : Nat := if i = 0 then 0 else bi i
theorem fi_inj {i j : Nat} (h : fi i = fi j) : i = j := by unfold fi at h; split at h <;> split at h <;> omega
theorem fi_bi (i j : Nat) (hj : 1 ≤ j) : bi j ≠ fi i := by unfold fi bi; split <;> omega
theorem fi_ge (i : Nat) : 25 ≤ fi i := by unfold fi; split <;> omega
theorem bz_fi (i j : Nat) : bz j = 0 ∨ bz j ≠ fi i := by
  unfold bz
  split
  · exact .inl rfl
  · exact .inr (fi_bi i j (by omega))
structure Hp (M : MS) (kk : Nat) (F : Nat → List V) : Prop where
  len : M.bs.length = 25 + 2 * kk
  dead : M.dead.length = M.bs.length
  last : M.last = ((25 + 2 * kk : Nat) : Int)
  c12 : M.isClass 12 = true
  s12 : M.shape 12 = (22, 1)
  c13 : M.isClass 13 = true
  s13 : M.shape 13 = (4, 1)
  h0 : M.has 0 = true
  m0 : M.isM 24 = true
  fr : ∀ i, i < kk → ∃ sn, FrAt M (fi i) sn 24 (bz i : Int) (F i)
  bl : ∀ i, 1 ≤ i → i < kk → M.isB (bi i : Int) = true ∧ (M.get (bi i : Int) 0).2 = (fi (i - 1) : Int)
section
variable {M : MS} {kk : Nat} {F : Nat → List V}
theorem Hp.put (h : Hp M kk F) {i j : Nat} (hi : i < kk) (hj : j < 16) (v : V) : Hp (M.put (fi i : Int) ((6 + j : Nat) : Int) v) kk (fun a => if a = i then (F i).set (6 + j) v else F a) := by
  obtain ⟨sn, hf⟩ := h.fr i hi
  obtain ⟨b, hb, -, -, -⟩ := hf.bd
  have hge := fi_ge i
  refine ⟨by rw [put_len]; exact h.len, by rw [put_len]; exact h.dead, h.last, by rw [put_isClass hb (by omega)]; exact h.c12, by rw [put_shape hb (by omega)]; exact h.s12, by rw [put_isClass hb (by omega)]; exact h.c13, by rw [put_shape hb (by omega)]; exact h.s13, h.h0, by rw [put_isM hb (by omega)]; exact h.m0, fun a ha => ?_, fun a ha1 ha2 => ?_⟩
  · by_cases c : a = i
    · subst c
      rw [if_pos rfl]
      exact ⟨sn, hf.put (i := 6 + j) (by omega) v (by omega) (by omega) (by omega)⟩
    · rw [if_neg c]
      obtain ⟨sa, ha⟩ := h.fr a ha
      exact ⟨sa, ha.putO hb (fun e => c (fi_inj e)) (by omega) (by rcases bz_fi i a with e | e; exact .inl (by rw [e]; rfl); exact .inr (by omega))⟩
  · obtain ⟨q1, q2⟩ := h.bl a ha1 ha2
    have hne : (bi a : Int) ≠ (fi i : Int) := by have := fi_bi i a ha1; omega
    exact ⟨by rw [put_isB hb hne]; exact q1, by rw [put_getO hne]; exact q2⟩
def blkG (id : Int) : List V := [(true, id), (false, 0), (false, 4), (false, 0)]
theorem mkF_isBnew (hl : M.dead.length = M.bs.length) {id : Int} {fv : Value} (h : M.like id = true) : (M.mkF 13 1 (blkG id) fv).isB (M.bs.length : Int) = true := by
  have hh := mkF_has M hl (cls := 13) (fmt := 1) (F := blkG id) (fv := fv)
  have hat : (M.mkF 13 1 (blkG id) fv).at (M.bs.length : Int) = ⟨13, 1, M.last + 1, 0, false, fv, blkG id, .slice none 0 0, []⟩ := by unfold MS.at; rw [Int.toNat_natCast, mkF_at]; rfl
  have e1 : (M.mkF 13 1 (blkG id) fv).fmt (M.bs.length : Int) = 1 := by unfold MS.fmt; rw [hh, if_pos rfl, hat]
  have e2 : (M.mkF 13 1 (blkG id) fv).size (M.bs.length : Int) = 4 := by unfold MS.size; rw [hh, if_pos rfl, hat]; rfl
  unfold MS.isB MS.cnt
  rw [e1, e2, mkF_get M hl, mkF_get M hl, mkF_get M hl, mkF_get M hl, show (elV (blkG id) 0) = (true, id) from rfl, mkF_like hl h]
  rfl
theorem mkF_no4 (hl : M.dead.length = M.bs.length) {G : List V} {fv : Value} (hG : G.length = 4) (i : Int) (v : V) : (M.mkF 13 1 G fv).unmakes (M.bs.length : Int) i v = false := by
  have hh := mkF_has M hl (cls := 13) (fmt := 1) (F := G) (fv := fv)
  have hat : (M.mkF 13 1 G fv).at (M.bs.length : Int) = ⟨13, 1, M.last + 1, 0, false, fv, G, .slice none 0 0, []⟩ := by unfold MS.at; rw [Int.toNat_natCast, mkF_at]; rfl
  have e2 : (M.mkF 13 1 G fv).size (M.bs.length : Int) = 4 := by unfold MS.size; rw [hh, if_pos rfl, hat, hG]; rfl
  unfold MS.unmakes MS.isClass
  rw [e2, show decide ((M.mkF 13 1 G fv).fmt (M.bs.length : Int) = 1 ∧ (5 : Int) ≤ 4) = false from decide_eq_false (by omega), Bool.false_and, Bool.and_false, Bool.false_and]
def newFr (kk : Nat) : List V := hdF (hdL (fi (kk - 1)) 0 4 24 (false, (kk : Int)) (bi kk)) 6
theorem Hp.step (h : Hp M kk F) (h1 : 1 ≤ kk) (fv fv2 : Value) : Hp ((M.mkF 13 1 (blkG (fi (kk - 1))) fv).mkF 12 1 (newFr kk) fv2) (kk + 1) (fun a => if a = kk then newFr kk else F a) := by
  obtain ⟨sp, hp⟩ := h.fr (kk - 1) (by omega)
  have hlk := hp.isF.like
  have hl1 : (M.mkF 13 1 (blkG (fi (kk - 1))) fv).dead.length = (M.mkF 13 1 (blkG (fi (kk - 1))) fv).bs.length := by
    show (M.dead ++ [false]).length = (M.bs ++ [_]).length
    rw [List.length_append, List.length_append, h.dead]; rfl
  have hn1 : (M.mkF 13 1 (blkG (fi (kk - 1))) fv).bs.length = 26 + 2 * kk := by
    show (M.bs ++ [_]).length = _
    rw [List.length_append, h.len]; simp; omega
  have hbn : (M.mkF 13 1 (blkG (fi (kk - 1))) fv).isB (bi kk : Int) = true := by
    have := mkF_isBnew h.dead (fv := fv) hlk
    rw [h.len] at this
    exact this
  have hbg : ((M.mkF 13 1 (blkG (fi (kk - 1))) fv).get (bi kk : Int) 0).2 = (fi (kk - 1) : Int) := by
    have := mkF_get M h.dead (cls := 13) (fmt := 1) (F := blkG (fi (kk - 1))) (fv := fv) 0
    rw [h.len] at this
    show ((M.mkF 13 1 (blkG (fi (kk - 1))) fv).get ((25 + 2 * kk : Nat) : Int) 0).2 = _
    rw [this]; rfl
  have hfk : fi kk = 26 + 2 * kk := by unfold fi; rw [if_neg (by omega)]
  have hnew := FrAt.new (M := M.mkF 13 1 (blkG (fi (kk - 1))) fv) (sn := (fi (kk - 1) : Int)) (mn := 24) (bn := (bi kk : Int)) (pc := 0) (temps := 4) (self := (false, (kk : Int))) (fv := fv2) hl1 (by omega) (by omega) (.inr (mkF_like h.dead hlk)) (.inr hbn) (mkF_isM h.dead h.m0)
  rw [hn1, ← hfk] at hnew
  refine ⟨?_, ?_, ?_, mkF_isClass hl1 (mkF_isClass h.dead h.c12), ?_, mkF_isClass hl1 (mkF_isClass h.dead h.c13), ?_, mkF_hasT _ (mkF_hasT M h.h0), mkF_isM hl1 (mkF_isM h.dead h.m0), fun a ha => ?_, fun a ha1 ha2 => ?_⟩
  · show ((M.mkF 13 1 (blkG (fi (kk - 1))) fv).bs ++ [_]).length = _
    rw [List.length_append, hn1]; simp; omega
  · show ((M.mkF 13 1 (blkG (fi (kk - 1))) fv).dead ++ [false]).length = ((M.mkF 13 1 (blkG (fi (kk - 1))) fv).bs ++ [_]).length
    rw [List.length_append, List.length_append, hl1]; rfl
  · show M.last + 1 + 1 = _
    rw [h.last]; omega
  · rw [mkF_shape hl1 (mkF_isClass h.dead h.c12), mkF_shape h.dead h.c12]; exact h.s12
  · rw [mkF_shape hl1 (mkF_isClass h.dead h.c13), mkF_shape h.dead h.c13]; exact h.s13
  · by_cases c : a = kk
    · subst c
      rw [if_pos rfl, show bz a = bi a by unfold bz; rw [if_neg (by omega)]]
      exact ⟨_, hnew⟩
    · rw [if_neg c]
      obtain ⟨sa, hfa⟩ := h.fr a (by omega)
      exact ⟨sa, (hfa.mkF h.dead).mkF hl1⟩
  · by_cases c : a = kk
    · subst c
      exact ⟨mkF_isB hl1 hbn, by rw [mkF_getO hl1 (isB_has hbn)]; exact hbg⟩
    · obtain ⟨q1, q2⟩ := h.bl a ha1 (by omega)
      exact ⟨mkF_isB hl1 (mkF_isB h.dead q1), by rw [mkF_getO hl1 (isB_has (mkF_isB h.dead q1)), mkF_getO h.dead (isB_has q1)]; exact q2⟩
theorem Hp.chain (h : Hp M kk F) (h1 : 1 ≤ kk) : M.chain (fun j => (fi (kk - 1 - j) : Int)) (fun j => (bz (kk - 1 - j) : Int)) (kk - 1) := by
  refine ⟨fun j hj => ?_, fun j hj => ?_, ?_⟩
  · obtain ⟨sn, hf⟩ := h.fr (kk - 1 - j) (by omega)
    exact ⟨sn, 24, hf.isF⟩
  · have e : bz (kk - 1 - j) = bi (kk - 1 - j) := by unfold bz; rw [if_neg (by omega)]
    obtain ⟨-, q2⟩ := h.bl (kk - 1 - j) (by omega) (by omega)
    refine ⟨by rw [e]; unfold bi; omega, ?_⟩
    rw [e, q2, show kk - 1 - j - 1 = kk - 1 - (j + 1) by omega]
  · show ((bz (kk - 1 - (kk - 1)) : Nat) : Int) = 0
    rw [Nat.sub_self]; rfl
end
end Go.Proofs.Ytglilfjkjoogbaa.Obj

namespace Go.Proofs.Ytglilfjkjoogbaa.Obj
open Go.Proofs.Ytglilfjkjoogbaa.Gen Go.Proofs.Ytglilfjkjoogbaa.Base Go.ChangeShapes Go.WideShapes Go.ChangeAt Go.RowKit
set_option linter.unusedVariables false
structure Hst (W w : World) (m li : Nat) (lv dv : Value) (M : MS) (vin : Value) (inl : List Int) : Prop where
  me : MemAt w m li lv dv M
  bel : Below W.heap.size W w
  new : ∀ k, ownM m li lv dv M k → W.heap.size ≤ k
  ins : w.ownsRow W.heap.size 3 1 vin inl.length (ints inl)
  apart : ∀ k, vin.ownBlock = some k → ¬ ownM m li lv dv M k
section
variable {W w u w' u8 : World} {m li kk : Nat} {lv dv lv' dv' vin v' : Value} {M M' : MS} {inl : List Int} {R : Obj} {F : Nat → List V}
theorem Hst.below (h : Hst W w m li lv dv M vin inl) (hb : Below w.heap.size w w') : Hst W w' m li lv dv M vin inl :=
  ⟨h.me.below hb, h.bel.trans (hb.mono h.bel.size), h.new, owns_at h.ins fun k hk => hb.block k (h.ins.lt k hk).2, h.apart⟩
theorem Hst.nx (h : Hst W w m li lv dv M vin inl) (hM : MemAt w' m li lv' dv' M') (hN : Nx (ownM m li lv dv M) w (ownM m li lv' dv' M') w') : Hst W w' m li lv' dv' M' vin inl :=
  have hx := nx_Bel h.bel h.new hN
  ⟨hM, hx.1, hx.2, owns_at h.ins fun k hk => hN.block k (h.ins.lt k hk).2 (h.apart k hk), fun k hk c => by
    rcases hN.own k c with c | c
    · exact h.apart k hk c
    · have := (h.ins.lt k hk).2; omega⟩
theorem Hst.lit (hM : MemAt w m li lv dv M) (hb : Below W.heap.size W w) (hn : ∀ k, ownM m li lv dv M k → W.heap.size ≤ k) (v : Int) : Hst W (w.alloc (.cells #[.int .i64 v] 3)) m li lv dv M (.slice (some ⟨w.heap.size, 0, none⟩) 1 1) [v] :=
  ⟨hM.below ((Below.refl _ _).alloc (Nat.le_refl _) _), hb.alloc hb.size _, hn, ⟨rfl, .inr ⟨w.heap.size, 1, #[.int .i64 v], rfl, hb.size, heap_alloc_new w _, Nat.le_refl _, by unfold maxLen; omega, rfl, rfl⟩⟩, fun k hk c => by
    have := hM.lt c
    have e : w.heap.size = k := by simpa [Value.ownBlock] using hk
    omega⟩
theorem Hst.app {v : Int} (h : Hst W w m li lv dv M vin inl) (own : u8.ownsRow W.heap.size 3 1 v' (inl.length + 1) (ints inl ++ [.int .i64 v])) (g8 : (w.alloc R).grownBy u8 vin.ownBlock) (e : v'.ownBlock = vin.ownBlock ∨ v'.ownBlock = some (w.alloc R).heap.size) :
    Hst W u8 m li lv dv M v' (inl ++ [v]) := by
  have hws := h.bel.size
  have hold : ∀ k, k < w.heap.size → vin.ownBlock ≠ some k → u8.heap[k]? = w.heap[k]? := fun k hk hn => (g8.block k (by simp; omega) fun e => hn e.symm).trans (heap_alloc_old _ _ hk)
  refine ⟨h.me.keep fun k hk => hold k (h.me.lt hk) fun e => h.apart k e hk, (h.bel.alloc hws R).grown g8 (by rw [World.size_alloc]; omega) (fun j hj => (h.ins.lt j hj).1), h.new, ?_, fun k hk c => ?_⟩
  · rw [List.length_append]
    have : ints (inl ++ [v]) = ints inl ++ [.int .i64 v] := by simp [ints]
    rw [this]; exact own
  · have hlt := h.me.lt c
    rcases e with e | e
    · exact h.apart k (e ▸ hk) c
    · rw [e, World.size_alloc] at hk
      have : w.heap.size + 1 = k := by simpa using hk
      omega
theorem Hst.cells (h : Hst W w m li lv dv M vin inl) : ∃ a c, vin = .slice a inl.length c ∧ inl.length ≤ c ∧ ∀ i (hi : i < inl.length), ∃ g, a = some ⟨g, 0, none⟩ ∧ w.cell? ⟨g, i, none⟩ = some (.int .i64 inl[i]) ∧ g < w.heap.size := by
  obtain ⟨hx, ⟨h1, h2⟩ | ⟨g, cap, cur, h3, h4, h5, h6, h7, h8, h9⟩⟩ := h.ins
  · exact ⟨none, 0, by rw [h1, h2], by omega, fun i hi => by omega⟩
  · refine ⟨_, cap, h3, h6, fun i hi => ⟨g, rfl, ?_, (Array.getElem?_eq_some_iff.1 h5).1⟩⟩
    have hu : (ints inl)[i]? = some (.int .i64 inl[i]) := by simp [ints, hi]
    rw [cell_row w g i _ _ _ h5]
    rw [← h9, List.getElem?_take, if_pos (show i < inl.length * 1 by omega)] at hu
    simpa using hu
theorem Hst.cellAt {g c : Nat} (h : Hst W w m li lv dv M (.slice (some ⟨g, 0, none⟩) inl.length c) inl) {i : Nat} (hi : i < inl.length) : w.cell? ⟨g, i, none⟩ = some (.int .i64 inl[i]) := by
  obtain ⟨a, c', e, -, hc⟩ := h.cells
  obtain ⟨g', e2, h2, -⟩ := hc i hi
  obtain ⟨e3, -, -⟩ := Value.slice.inj e
  rw [e2] at e3
  simp only [Option.some.injEq, Addr.mk.injEq, and_true] at e3
  rw [e3]; exact h2
theorem hm_Make (hA : MemAt w m li lv dv M) (hp : Hp M kk F) (hk : kk ≤ 100) : Calls Try.prog 19 #[.pointer (some ⟨m, 0, none⟩), .int .i64 13, .int .i64 0] w fun e w' => e = .returned (.tuple #[.int .i64 (bi kk : Int), .bool true]) ∧ ∃ lv' dv' fv, MemAt w' m li lv' dv' (M.mkF 13 1 (nilF 4) fv) ∧ Nx (ownM m li lv dv M) w (ownM m li lv' dv' (M.mkF 13 1 (nilF 4) fv)) w' := by
  have hl := hp.last
  have hn := hp.len
  have := me_Make hA hp.c13 hp.s13 (by decide) 0 (Int.le_refl _) (k := 4) rfl (by omega) (by omega) ⟨by omega, by omega⟩ (by omega)
  rw [hp.dead, hn] at this
  exact this
theorem hm_Set0 {u : World} {fv : Value} {id : Int} (hp : Hp M kk F) (hmay : M.has id = true) (hA : MemAt u m li lv dv (M.mkF 13 1 (nilF 4) fv)) : Calls Try.prog 20 #[.pointer (some ⟨m, 0, none⟩), .int .i64 (bi kk : Int), .int .i64 0, .agg #[.bool true, .int .i64 id]] u fun e w' => e = .returned (.bool true) ∧ MemAt w' m li lv dv (M.mkF 13 1 [(true, id), (true, 0), (true, 0), (true, 0)] fv) ∧ Nx (ownM m li lv dv (M.mkF 13 1 (nilF 4) fv)) u (ownM m li lv dv (M.mkF 13 1 [(true, id), (true, 0), (true, 0), (true, 0)] fv)) w' := by
  have := me_Set_yes hA M.bs.length 0 _ true id (mkF_at M) (by simp [nilF]) (mkF_has M hp.dead) (mkF_may M (show M.may (true, id) = true from hmay)) (mkF_no4 hp.dead rfl _ _)
  rw [mkF_put, hp.len] at this
  exact this
theorem hm_Set1 {u : World} {fv : Value} {id : Int} (hp : Hp M kk F) (hA : MemAt u m li lv dv (M.mkF 13 1 [(true, id), (true, 0), (true, 0), (true, 0)] fv)) : Calls Try.prog 20 #[.pointer (some ⟨m, 0, none⟩), .int .i64 (bi kk : Int), .int .i64 1, .agg #[.bool false, .int .i64 0]] u fun e w' => e = .returned (.bool true) ∧ MemAt w' m li lv dv (M.mkF 13 1 [(true, id), (false, 0), (true, 0), (true, 0)] fv) ∧ Nx (ownM m li lv dv (M.mkF 13 1 [(true, id), (true, 0), (true, 0), (true, 0)] fv)) u (ownM m li lv dv (M.mkF 13 1 [(true, id), (false, 0), (true, 0), (true, 0)] fv)) w' := by
  have := me_Set_yes hA M.bs.length 1 _ false 0 (mkF_at M) (by simp [nilF]) (mkF_has M hp.dead) (mkF_may M rfl) (mkF_no4 hp.dead rfl _ _)
  rw [mkF_put, hp.len] at this
  exact this
theorem hm_Set2 {u : World} {fv : Value} {id : Int} (hp : Hp M kk F) (hA : MemAt u m li lv dv (M.mkF 13 1 [(true, id), (false, 0), (true, 0), (true, 0)] fv)) : Calls Try.prog 20 #[.pointer (some ⟨m, 0, none⟩), .int .i64 (bi kk : Int), .int .i64 2, .agg #[.bool false, .int .i64 4]] u fun e w' => e = .returned (.bool true) ∧ MemAt w' m li lv dv (M.mkF 13 1 [(true, id), (false, 0), (false, 4), (true, 0)] fv) ∧ Nx (ownM m li lv dv (M.mkF 13 1 [(true, id), (false, 0), (true, 0), (true, 0)] fv)) u (ownM m li lv dv (M.mkF 13 1 [(true, id), (false, 0), (false, 4), (true, 0)] fv)) w' := by
  have := me_Set_yes hA M.bs.length 2 _ false 4 (mkF_at M) (by simp [nilF]) (mkF_has M hp.dead) (mkF_may M rfl) (mkF_no4 hp.dead rfl _ _)
  rw [mkF_put, hp.len] at this
  exact this
theorem hm_Set3 {u : World} {fv : Value} {id : Int} (hp : Hp M kk F) (hA : MemAt u m li lv dv (M.mkF 13 1 [(true, id), (false, 0), (false, 4), (true, 0)] fv)) : Calls Try.prog 20 #[.pointer (some ⟨m, 0, none⟩), .int .i64 (bi kk : Int), .int .i64 3, .agg #[.bool false, .int .i64 0]] u fun e w' => e = .returned (.bool true) ∧ MemAt w' m li lv dv (M.mkF 13 1 (blkG id) fv) ∧ Nx (ownM m li lv dv (M.mkF 13 1 [(true, id), (false, 0), (false, 4), (true, 0)] fv)) u (ownM m li lv dv (M.mkF 13 1 (blkG id) fv)) w' := by
  have := me_Set_yes hA M.bs.length 3 _ false 0 (mkF_at M) (by simp [nilF]) (mkF_has M hp.dead) (mkF_may M rfl) (mkF_no4 hp.dead rfl _ _)
  rw [mkF_put, hp.len] at this
  exact this
theorem hm_IsB {fv : Value} {id : Int} (hp : Hp M kk F) (hl : M.like id = true) (hA : MemAt w m li lv dv (M.mkF 13 1 (blkG id) fv)) : Calls Try.prog 22 #[.pointer (some ⟨m, 0, none⟩), .int .i64 (bi kk : Int)] w fun e w' => e = .returned (.bool true) ∧ Below w.heap.size w w' := by
  have := fr_IsBlock hA (bi kk : Int)
  have hb := mkF_isBnew hp.dead (fv := fv) hl
  rw [hp.len] at hb
  rw [show (M.mkF 13 1 (blkG id) fv).isB (bi kk : Int) = true from hb] at this
  exact this
theorem hm_New {fv : Value} (hp : Hp M kk F) (h1 : 1 ≤ kk) (hk : kk ≤ 100) (hA : MemAt w m li lv dv (M.mkF 13 1 (blkG (fi (kk - 1))) fv)) : Calls Try.prog 10 #[.pointer (some ⟨m, 0, none⟩), .int .i64 (fi (kk - 1) : Int), .int .i64 24, .agg #[.bool false, .int .i64 (kk : Int)], .int .i64 (bi kk : Int), .int .i64 0, .int .i64 4, .slice none 0 0] w fun e w' => e = .returned (.tuple #[.int .i64 (fi kk : Int), .bool true]) ∧ ∃ lv' dv' fv2, MemAt w' m li lv' dv' ((M.mkF 13 1 (blkG (fi (kk - 1))) fv).mkF 12 1 (newFr kk) fv2) ∧ Nx (ownM m li lv dv (M.mkF 13 1 (blkG (fi (kk - 1))) fv)) w (ownM m li lv' dv' ((M.mkF 13 1 (blkG (fi (kk - 1))) fv).mkF 12 1 (newFr kk) fv2)) w' := by
  have hl := hp.last
  have hn := hp.len
  obtain ⟨sp, hf⟩ := hp.fr (kk - 1) (by omega)
  have hq : M.has (fi (kk - 1) : Int) = true := hf.has
  have hbk := mkF_has M hp.dead (cls := 13) (fmt := 1) (F := blkG (fi (kk - 1))) (fv := fv)
  rw [hn] at hbk
  have hft : fits (kk : Int) = true := by unfold fits; exact decide_eq_true (by omega)
  have hn1 : (M.mkF 13 1 (blkG (fi (kk - 1))) fv).bs.length = 26 + 2 * kk := by
    show (M.bs ++ [_]).length = _
    rw [List.length_append, hn]; simp; omega
  have hl1 : (M.mkF 13 1 (blkG (fi (kk - 1))) fv).last = M.last + 1 := rfl
  have := fr_New hA (sender := (fi (kk - 1) : Int)) (method := 24) (sb := false) (sn := (kk : Int)) (block := (bi kk : Int)) (pc := 0) (temps := 4) (mkF_isClass hp.dead hp.c12) (by rw [mkF_shape hp.dead hp.c12]; exact hp.s12) (by omega)
    (fun k hk => by
      have : k = 0 ∨ k = 1 ∨ k = 2 ∨ k = 3 ∨ k = 4 ∨ k = 5 := by omega
      rcases this with rfl | rfl | rfl | rfl | rfl | rfl
      · exact mkF_hasT M hq
      · exact may_num _ 0 (by decide)
      · exact may_num _ 4 (by decide)
      · exact mkF_hasT M (isM_has hp.m0)
      · exact may_num _ _ hft
      · exact hbk) (by omega) (by omega)
  rw [hn1, show ((26 + 2 * kk : Nat) : Int) = (fi kk : Int) by unfold fi; rw [if_neg (by omega)]] at this
  exact this
theorem hm_SetTemp (hA : MemAt w m li lv dv M) (hp : Hp M kk F) {i j : Nat} (hi : i < kk) (hj : j < 16) (n : Int) (hn : fits n = true) : Calls Try.prog 23 #[.pointer (some ⟨m, 0, none⟩), .int .i64 (fi i : Int), .int .i64 0, .int .i64 (j : Int), .agg #[.bool false, .int .i64 n]] w fun e w' => e = .returned (.bool true) ∧ MemAt w' m li lv dv (M.put (fi i : Int) ((6 + j : Nat) : Int) (false, n)) ∧ Nx (ownM m li lv dv M) w (ownM m li lv dv (M.put (fi i : Int) ((6 + j : Nat) : Int) (false, n))) w' := by
  obtain ⟨sn, hf⟩ := hp.fr i hi
  obtain ⟨b, hb, hF, -, -⟩ := hf.bd
  have hlen := hf.len
  have := fr_SetTemp_of hA (id := (fi i : Int)) (out := 0) (q := fi i) (fun u hu => fr_further0 (hA.below hu) hf.isF) hj hb (by rw [hF]; exact hlen) hf.has false n (may_num M n hn)
  rw [show (6 + (j : Int)) = ((6 + j : Nat) : Int) by omega] at this
  exact this
theorem hm_fur (hA : MemAt w m li lv dv M) (hp : Hp M kk F) (h1 : 1 ≤ kk) (o : Nat) (ho : o ≤ 8) : Calls Try.prog 35 #[.pointer (some ⟨m, 0, none⟩), .int .i64 (fi (kk - 1) : Int), .int .i64 (o : Int)] w fun e w' => (∃ x : Int, e = .returned (.tuple #[.int .i64 x, .bool (decide (o ≤ kk - 1))]) ∧ (o ≤ kk - 1 → x = (fi (kk - 1 - o) : Int))) ∧ Below w.heap.size w w' :=
  fr_further hA (hp.chain h1) o ho
theorem hm_Temp (hA : MemAt w m li lv dv M) (hp : Hp M kk F) (h1 : 1 ≤ kk) {o t : Nat} (ho : o ≤ 8) (hk : o < kk) (ht : t < 16) {x : Int} (hx : elV (F (kk - 1 - o)) ((6 + t : Nat) : Int) = (false, x)) : Calls Try.prog 14 #[.pointer (some ⟨m, 0, none⟩), .int .i64 (fi (kk - 1) : Int), .int .i64 (o : Int), .int .i64 (t : Int)] w fun e w' => e = .returned (.tuple #[.agg #[.bool false, .int .i64 x], .bool true]) ∧ Below w.heap.size w w' := by
  obtain ⟨sn, hf⟩ := hp.fr (kk - 1 - o) (by omega)
  have := fr_Temp_of hA (id := (fi (kk - 1) : Int)) (out := (o : Int)) (x := (fi (kk - 1 - o) : Int)) (fun u hb => (hm_fur (hA.below hb) hp h1 o ho).mono fun e w' ⟨⟨x, he, hxx⟩, hb2⟩ => ⟨by rw [he, hxx (by omega), decide_eq_true (by omega)], hb2⟩) ht
  rw [hf.get, show (6 + (t : Int)) = ((6 + t : Nat) : Int) by omega, hx] at this
  exact this
theorem hm_Temp_out (hA : MemAt w m li lv dv M) (hp : Hp M kk F) (h1 : 1 ≤ kk) {o t : Nat} (ho : kk ≤ o ∨ 8 < o) : Calls Try.prog 14 #[.pointer (some ⟨m, 0, none⟩), .int .i64 (fi (kk - 1) : Int), .int .i64 (o : Int), .int .i64 (t : Int)] w fun e w' => e = .returned (.tuple #[.agg #[.bool false, .int .i64 0], .bool false]) ∧ Below w.heap.size w w' := by
  refine fr_Temp_none hA false (fun u hb => ?_) (.inl rfl)
  by_cases h8 : o ≤ 8
  · exact (hm_fur (hA.below hb) hp h1 o h8).mono fun e w' ⟨⟨x, he, hxx⟩, hb2⟩ => ⟨⟨x, by rw [he, decide_eq_false (by omega)]⟩, hb2⟩
  · obtain ⟨sn, hf⟩ := hp.fr (kk - 1) (by omega)
    exact (fr_further_out (hA.below hb) hf.isF (o : Int) (.inr (by omega))).mono fun e w' ⟨he, hb2⟩ => ⟨⟨0, he⟩, hb2⟩
theorem hm_Temp16 (hA : MemAt w m li lv dv M) (hp : Hp M kk F) (h1 : 1 ≤ kk) : Calls Try.prog 14 #[.pointer (some ⟨m, 0, none⟩), .int .i64 (fi (kk - 1) : Int), .int .i64 0, .int .i64 16] w fun e w' => e = .returned (.tuple #[.agg #[.bool false, .int .i64 0], .bool false]) ∧ Below w.heap.size w w' := by
  obtain ⟨sn, hf⟩ := hp.fr (kk - 1) (by omega)
  exact fr_Temp_none hA true (fun u hb => (fr_further0 (hA.below hb) hf.isF).mono fun e w' ⟨he, hb2⟩ => ⟨⟨_, he⟩, hb2⟩) (t := 16) (.inr (Nat.le_refl _))
theorem hm_Tempm1 (hA : MemAt w m li lv dv M) (hp : Hp M kk F) (h1 : 1 ≤ kk) : Calls Try.prog 14 #[.pointer (some ⟨m, 0, none⟩), .int .i64 (fi (kk - 1) : Int), .int .i64 (-1), .int .i64 0] w fun e w' => e = .returned (.tuple #[.agg #[.bool false, .int .i64 0], .bool false]) ∧ Below w.heap.size w w' := by
  obtain ⟨sn, hf⟩ := hp.fr (kk - 1) (by omega)
  exact fr_Temp_none hA false (fun u hb => (fr_further_out (hA.below hb) hf.isF (-1) (.inl (by omega))).mono fun e w' ⟨he, hb2⟩ => ⟨⟨0, he⟩, hb2⟩) (t := 0) (.inl rfl)
end
end Go.Proofs.Ytglilfjkjoogbaa.Obj

namespace Go.Proofs.Ytglilfjkjoogbaa.Obj
open Go.Proofs.Ytglilfjkjoogbaa.Gen Go.Proofs.Ytglilfjkjoogbaa.Base Go.ChangeShapes Go.WideShapes Go.ChangeAt Go.RowKit
set_option linter.unusedVariables false
def frF : List V := hdF (hdL 0 0 4 24 (false, 0) 0) 6
def stH : List Th := stL 0 4 0 ++ [⟨12, 1, 26, false, .slice none 0 0, frF, ByteArray.empty⟩, ⟨14, 1, 27, false, .slice none 0 0, [(true, 25), (false, 5)], ByteArray.empty⟩]
theorem ok_stH : okL 27 stH = true := by kernel_rfl
theorem small_stH : (stH.all fun t => decide (t.F.length ≤ 100000 ∧ t.B.size ≤ 100000)) = true := by kernel_rfl
def stMH (M : MS) : MS := { M with bs := stH.map Th.bare, dead := nos 27 }
section
variable {w u : World} {b m li : Nat} {lv dv : Value} {L : List Th} {M : MS}
theorem New.stH (h : New w u L 27 m li lv dv M) (hL : L.map Th.pl = stH) : M.bare = stMH M := by
  have h1 := h.bare
  have h2 := h.dead
  have hl : L.length = 27 := by
    have := congrArg List.length hL
    rw [List.length_map] at this
    rw [this]; rfl
  rw [← bare_pl, hL] at h1
  rw [hl] at h2
  unfold MS.bare stMH
  rw [h1, ← h2]
theorem sh_isM (M : MS) : (stMH M).isM 24 = true := by kernel_rfl
theorem sh_class (M : MS) : (stMH M).isClass 12 = true := by kernel_rfl
theorem sh_shape (M : MS) : (stMH M).shape 12 = (22, 1) := by kernel_rfl
theorem sh_classB (M : MS) : (stMH M).isClass 13 = true := by kernel_rfl
theorem sh_shapeB (M : MS) : (stMH M).shape 13 = (4, 1) := by kernel_rfl
theorem sh_has0 (M : MS) : (stMH M).has 0 = true := by kernel_rfl
theorem sh_has25 (M : MS) : (stMH M).has 25 = true := by kernel_rfl
theorem sh_len (M : MS) : (stMH M).bs.length = 27 := by kernel_rfl
theorem sh_25 (M : MS) : (stMH M).bs[25]? = some ⟨12, 1, 26, 0, false, .slice none 0 0, frF, .slice none 0 0, []⟩ := by kernel_rfl
theorem bare_bs {q : Nat} {x : Bd} (h : M.bare.bs[q]? = some x) : ∃ b, M.bs[q]? = some b ∧ b.bare = x := by
  have e : M.bare.bs[q]? = M.bs[q]?.map Bd.bare := List.getElem?_map
  rw [e] at h
  cases hb : M.bs[q]? with
  | none => rw [hb] at h; cases h
  | some b => rw [hb] at h; exact ⟨b, rfl, by simpa using h⟩
theorem Hp.start (h : New w u L 27 m li lv dv M) (hL : L.map Th.pl = Obj.stH) : Hp M 1 (fun _ => frF) := by
  have hs := h.stH hL
  have hb27 : M.bs.length = 27 := by
    have e : (M.bare).bs.length = M.bs.length := List.length_map _
    rw [← e, hs]; exact sh_len M
  obtain ⟨b, hb, hbx⟩ := bare_bs (M := M) (q := 25) (by rw [hs]; exact sh_25 M)
  have hM : M.isM 24 = true := by rw [← bare_isM, hs]; exact sh_isM M
  refine ⟨hb27, h.me.len, by rw [h.last]; rfl, by rw [← bare_isClass, hs]; exact sh_class M, by rw [← bare_shape, hs]; exact sh_shape M, by rw [← bare_isClass, hs]; exact sh_classB M, by rw [← bare_shape, hs]; exact sh_shapeB M, by rw [← bare_has, hs]; exact sh_has0 M, hM, fun i hi => ?_, fun i h1 h2 => by omega⟩
  obtain rfl : i = 0 := by omega
  refine ⟨0, ⟨b, hb, congrArg Bd.F hbx, congrArg Bd.B hbx, congrArg Bd.fmt hbx⟩, by show M.has ((25 : Nat) : Int) = true; rw [← bare_has, hs]; exact sh_has25 M, by unfold fi; simp, rfl, rfl, rfl, rfl, rfl, rfl, .inl rfl, .inl rfl, hM, by unfold fi; simp⟩
theorem law_Start (h : LB w u b 34 lv L 25) (hL : L.map Th.pl = stL 0 4 0) :
    Calls Try.prog 17 #[.pointer (some ⟨b, 0, none⟩), .int .i64 24, .int .i64 4, .agg #[.bool false, .int .i64 0], .int .i64 5] u fun e w' => e = .returned (.tuple #[.int .i64 26, .int .i64 25]) ∧ ∃ a c L', LB w w' b 34 (.slice a L'.length c) L' 27 ∧ L'.map Th.pl = stH := by
  have hl : L.length = 25 := by
    have := congrArg List.length hL
    rw [List.length_map] at this
    rw [this]; rfl
  refine (b_Start h (by omega) (by omega)).mono ?_
  rintro e w' ⟨rfl, va, vc, t1, t2, hB, h1, h2⟩
  rw [hl] at h2
  refine ⟨by rw [hl]; rfl, va, vc, L ++ [t1, t2], ?_, ?_⟩
  · rw [List.length_append]; exact hB
  · rw [List.map_append, hL, List.map_cons, List.map_cons, List.map_nil, h1, h2]; rfl
theorem law_NewH {a : Option Addr} {c : Nat} (h : LB w u b 34 (.slice a L.length c) L 27) (hL : L.map Th.pl = stH) :
    Calls Try.prog 8 #[.agg #[.slice a L.length c, .slice none 0 0, .int .i64 27, .int .i64 0, .int .i64 0, .slice none 0 0, .slice none 0 0, .slice none 0 0, .string ByteArray.empty, .string ByteArray.empty, .int .i64 0, .int .i64 0, .slice none 0 0], .int .i64 5] u fun e w' => ∃ m li lv dv M, e = .returned (.tuple #[.pointer (some ⟨m, 0, none⟩), .int .i64 0]) ∧ Below u.heap.size u w' ∧ New u w' L 27 m li lv dv M :=
  ob_New h.lat (by rw [← okL_pl, hL]; exact ok_stH) (small_of (by rw [hL]; exact small_stH)) 5
end
end Go.Proofs.Ytglilfjkjoogbaa.Obj
