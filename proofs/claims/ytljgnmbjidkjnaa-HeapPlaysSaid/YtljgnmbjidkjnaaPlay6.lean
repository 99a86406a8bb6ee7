/- A heap and the reference, apart from one another. -/
import Derived.Test.YtljgnmbjidkjnaaPlay5
namespace Go.Proofs.Ytljgnmbjidkjnaa.Rf5
open Go.Proofs.Ytljgnmbjidkjnaa.Gen Go.Proofs.Ytljgnmbjidkjnaa.Base Go.Proofs.Ytljgnmbjidkjnaa.Fr Go.Proofs.Ytljgnmbjidkjnaa.Hp Go.Proofs.Ytljgnmbjidkjnaa.Rf4 Go.ChangeShapes Go.WideShapes Go.ChangeAt Go.RowKit
set_option linter.unusedVariables false
structure T0 (w u : World) (X : HB) (ws : List Int) (l1 bg : List Bool) (h r g : Nat) (lv : Value) (obs : List Ob) (l2 : List Bool) : Prop where
  hp : HpAt u X ws l1 bg
  rf : R5 u h r g lv obs l2
  bel : Below w.heap.size w u
  o1 : ∀ k, own X k → w.heap.size ≤ k
  o2 : ∀ k, own5 h r g lv obs k → w.heap.size ≤ k
  ap : ∀ k, own X k → ¬ own5 h r g lv obs k
section
variable {w u u' : World} {X : HB} {ws : List Int} {l l1 l2 bg : List Bool} {N n h r g ot hh : Nat} {ro : Obj} {lv : Value} {obs : List Ob}
theorem Tw.t0 (hT : Tw w u X ws l1 bg h r g lv obs l2 ot ro) : T0 w u X ws l1 bg h r g lv obs l2 := ⟨hT.hp, hT.rf, hT.bel, hT.o1, hT.o2, hT.ap⟩
theorem T0.more (hT : T0 w u X ws l1 bg h r g lv obs l2) (hb : Below u.heap.size u u') : T0 w u' X ws l1 bg h r g lv obs l2 :=
  { hT with
    hp := hT.hp.below hb
    rf := hT.rf.keep fun k hk => hb.block k (hT.rf.lt hk)
    bel := hT.bel.trans (hb.mono hT.bel.size) }
theorem T0.alloc (hT : T0 w u X ws l1 bg h r g lv obs l2) (ro : Obj) : Tw w (u.alloc ro) X ws l1 bg h r g lv obs l2 u.heap.size ro :=
  have hM := hT.more ((Below.refl _ _).alloc (Nat.le_refl _) ro)
  ⟨hM.hp, hM.rf, hM.bel, hM.o1, hM.o2, hM.ap, heap_alloc_new u ro, fun hk => by have := hT.hp.lt hk; omega, fun hk => by have := hT.rf.lt hk; omega⟩
def Bt0 (w u : World) (hh h r g N n : Nat) : Prop := ∃ X ws l bg lv obs, X.h = hh ∧ T0 w u X ws l bg h r g lv obs l ∧ Kr N ws l bg obs ∧ obs.length ≤ n
theorem Bth.t0 (hB : Bth w u hh h r g N n ot ro) : Bt0 w u hh h r g N n := by
  obtain ⟨X, ws, l, bg, lv, obs, e, hT, hK, hn⟩ := hB
  exact ⟨X, ws, l, bg, lv, obs, e, hT.t0, hK, hn⟩
theorem Bt0.alloc (hB : Bt0 w u hh h r g N n) (ro : Obj) : Bth w (u.alloc ro) hh h r g N n u.heap.size ro := by
  obtain ⟨X, ws, l, bg, lv, obs, e, hT, hK, hn⟩ := hB
  exact ⟨X, ws, l, bg, lv, obs, e, hT.alloc ro, hK, hn⟩
theorem Bt0.bel (hB : Bt0 w u hh h r g N n) : Below w.heap.size w u := by
  obtain ⟨X, ws, l, bg, lv, obs, e, hT, hK, hn⟩ := hB
  exact hT.bel
theorem Bt0.start {u1 u2 : World} (hA : HpAt u1 X (List.replicate N 0) (List.replicate N true) (List.replicate N false)) (hO : HOwn w u1 X) (hR : R5 u2 h r g (.slice none 0 0) [] (List.replicate N true)) (ho : ∀ k, own5 h r g (.slice none 0 0) [] k → u1.heap.size ≤ k) (hb : Below u1.heap.size u1 u2) : Bt0 w u2 X.h h r g N 0 :=
  ⟨X, _, _, _, _, _, rfl, ⟨hA.below hb, hR, hO.below.trans (hb.mono hO.below.size), hO.own, fun k hk => by have := ho k hk; have := hO.below.size; omega, fun k hk h5 => by have := ho k h5; have := hA.lt hk; omega⟩, Kr.zero N, Nat.le_refl _⟩
end
theorem info6 : (Try.prog.info? 30).map (·.size) = some 6 := by kernel_rfl
def z6 : Array Value := #[.int .i64 0, .int .i64 0, .int .i64 0, .int .i64 0, .int .i64 0, .int .u32 0]
theorem z6_run : ∀ u, Sem.run Try.prog (zeroValue 30) u = .ok (.agg z6) u := fun u => by kernel_rfl
theorem range6 {w : World} {b o : Nat} {vs : List Value} (h : ∀ j, j < vs.length → w.cell? ⟨b, o + j, none⟩ = vs[j]?) : w.rangeAt b o vs := fun j v hv => by
  have hj := (List.getElem?_eq_some_iff.1 hv).1
  rw [h j hj, hv]
end Go.Proofs.Ytljgnmbjidkjnaa.Rf5
