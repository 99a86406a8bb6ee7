/- An argument that is a slice of structs of numbers: its cells. -/
import Derived.Test.YtljgnmbjidkjnaaBase2
import Derived.Deep.Slices
import Derived.Deep.Fields
import Derived.ChangeSame
namespace Go.Proofs.Ytljgnmbjidkjnaa.Rec
open Go.ChangeShapes Go.WideShapes Go.Deep
set_option linter.unusedVariables false
theorem open_recs {H : Type} {enc : TypeId × Value → H} {P : Program} {w : World} {base : Nat} {spare : Nat → Bool} {held : Bool} {t e : TypeId} {fs : Array Field} {fuel : Nat} {cs : List Value} {x : DataW H × List MemPlace} (ks : Nat → IntKind)
    (ht : P.underlying t = some (.slice e)) (he : P.underlying e = some (.struct fs)) (hone : oneCellFields P fs = true) (hC : P.cellsOf e = fs.size) (hk : ∀ j f, fs[j]? = some f → P.underlying f.type = some (.int (ks j)))
    (h : DataW.trod enc P w base spare held fuel t cs = some x) :
    cs = [.slice none 0 0] ∨ ∃ (a : Addr) (len cap : Nat) (z : Nat → Nat → Int), cs = [.slice (some a) len cap] ∧ len ≤ cap ∧ cap ≤ maxLen ∧
      ∀ i, i < len → ∀ j, j < fs.size → w.cell? (a.add (i * fs.size + j)) = some (.int (ks j) (z i j)) ∧ (Lit.int (ks j) (z i j)).wf = true := by
  rcases open_slice ht h with h0 | ⟨a, len, cap, m, n, D, Pl, hcs, _, hl, hm, hmm, _, hi⟩
  · exact .inl h0.1
  · have hlm : len ≤ m := by rw [hmm]; split <;> omega
    have key : ∀ i j, i < len → j < fs.size → ∃ v, w.cell? (a.add (i * fs.size + j)) = some (.int (ks j) v) ∧ (Lit.int (ks j) v).wf = true := by
      intro i j hi' hj
      obtain ⟨cs', hc, ht'⟩ := hi i (by omega)
      obtain ⟨ys, n', _, _, hlen, hyl, hf⟩ := DataW.trod_struct he ht'
      obtain ⟨f, hfj⟩ : ∃ f, fs[j]? = some f := ⟨fs[j], by simp [hj]⟩
      obtain ⟨ho, h1⟩ := hone_of hone j f hfj
      have h2 := hf j f hfj
      rw [ho, h1] at h2
      obtain ⟨y, hy⟩ : ∃ y, ys[j]? = some y := ⟨ys[j]'(by omega), List.getElem?_eq_getElem (by omega)⟩
      rw [hy] at h2
      obtain ⟨v, hv, _, hw⟩ := DataW.trod_int (hk j f hfj) h2
      have hj' : cs'[j]? = some (.int (ks j) v) := by
        have h3 := congrArg (fun l => l[0]?) hv
        simpa using h3
      obtain ⟨_, hcl, hat⟩ := World.cells?_some hc
      have h4 := hat j (by rw [hC]; exact hj)
      rw [Go.Deep.add_add, hC] at h4
      exact ⟨v, h4.trans hj', hw⟩
    refine .inr ⟨a, len, cap, fun i j => if h : i < len ∧ j < fs.size then Classical.choose (key i j h.1 h.2) else 0, hcs, hl, hm, fun i hi' j hj => ?_⟩
    have hs := Classical.choose_spec (key i j hi' hj)
    simp only [hi', hj, and_self, dif_pos]
    exact hs
/-- What a slice of structs of numbers is. -/
def IsRecs (w : World) (n : Nat) (ks : Nat → IntKind) (a : Option Addr) (len cap : Nat) (z : Nat → Nat → Int) : Prop :=
  len = 0 ∨ ∃ b o, a = some ⟨b, o, none⟩ ∧ len ≤ cap ∧ cap ≤ maxLen ∧ ∀ i, i < len → ∀ j, j < n → w.cell? ⟨b, o + (i * n + j), none⟩ = some (.int (ks j) (z i j)) ∧ (Lit.int (ks j) (z i j)).wf = true
theorem isRecs {w : World} {n : Nat} {ks : Nat → IntKind} {x : Addr} {len cap : Nat} {z : Nat → Nat → Int} (hn : 0 < n) (h1 : len ≤ cap) (h2 : cap ≤ maxLen) (h3 : ∀ i, i < len → ∀ j, j < n → w.cell? (x.add (i * n + j)) = some (.int (ks j) (z i j)) ∧ (Lit.int (ks j) (z i j)).wf = true) :
    (0 < len → IsRecs w n ks (some x) len cap z) := by
  intro hl
  obtain ⟨b, o, spot⟩ := x
  have hs : spot = none := by
    have h := (h3 0 hl 0 hn).1
    simp only [Nat.zero_mul, Nat.add_zero] at h
    simpa [Addr.add] using World.cell?_spot h
  subst hs
  refine .inr ⟨b, o, rfl, h1, h2, fun i hi j hj => ?_⟩
  have h := h3 i hi j hj
  refine ⟨?_, h.2⟩
  have e : (⟨b, o, none⟩ : Addr).add (i * n + j) = ⟨b, o + (i * n + j), none⟩ := by
    unfold Addr.add; split <;> simp_all
  rw [← e]; exact h.1
end Go.Proofs.Ytljgnmbjidkjnaa.Rec
