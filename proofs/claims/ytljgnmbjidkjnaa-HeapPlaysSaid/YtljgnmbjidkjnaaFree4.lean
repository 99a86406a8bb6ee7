/- unlist of package free. -/
import Derived.Test.YtljgnmbjidkjnaaFree3
namespace Go.Proofs.Ytljgnmbjidkjnaa.Fr
open Go.Proofs.Ytljgnmbjidkjnaa.Gen Go.Proofs.Ytljgnmbjidkjnaa.Base Go.Proofs.Ytljgnmbjidkjnaa.Bt Go.ChangeShapes Go.WideShapes Go.ChangeAt Go.RowKit
set_option linter.unusedVariables false
/-- The cells of a row of one's own. -/
theorem own_cells {w : World} {e : TypeId} {g n cap : Nat} {l : List Int} (h : w.ownsRow 0 e 1 (.slice (some ⟨g, 0, none⟩) n cap) n (ints l)) :
    (∀ i, i < n → w.cell? ⟨g, i, none⟩ = some (.int .i64 (l[i]?.getD 0))) ∧ (∀ i, w.frozen? ⟨g, i, none⟩ = false) ∧ l.length = n := by
  obtain ⟨h1, ⟨h2, _⟩ | ⟨g', cap', cur, h3, _, h5, h6, h7, h8, h9⟩⟩ := h
  · cases h2
  · obtain ⟨e1, e2, e3⟩ := Value.slice.inj h3
    obtain rfl : g = g' := by simpa using e1
    have hl : l.length = n := by simpa [ints] using h1
    refine ⟨fun i hi => ?_, fun i => frozen_of_row w g i _ _ h5, hl⟩
    rw [cell_of_row w g i _ _ _ h5]
    have : (cur.toList.take (n * 1))[i]? = (ints l)[i]? := by rw [h9]
    rw [List.getElem?_take_of_lt (by omega)] at this
    simp [ints] at this
    rw [this, List.getElem?_eq_getElem (by omega)]; simp
def strike (l : List Int) (p : Nat) : List Int := (l.set p (l[l.length - 1]?.getD 0)).take (l.length - 1)
theorem own_strike {w : World} {e : TypeId} {g n cap p : Nat} {y : Int} {l : List Int} (h : w.ownsRow 0 e 1 (.slice (some ⟨g, 0, none⟩) n cap) n (ints l)) (hp : p < n) :
    (w.setCell ⟨g, p, none⟩ (.int .i64 y)).ownsRow 0 e 1 (.slice (some ⟨g, 0, none⟩) (n - 1) cap) (n - 1) (ints ((l.set p y).take (n - 1))) := by
  obtain ⟨h1, ⟨h2, _⟩ | ⟨g', cap', cur, h3, h4, h5, h6, h7, h8, h9⟩⟩ := h
  · cases h2
  · obtain ⟨e1, e2, e3⟩ := Value.slice.inj h3
    obtain rfl : g = g' := by simpa using e1
    subst e3
    have hl : l.length = n := by simpa [ints] using h1
    refine ⟨by simp [ints]; omega, .inr ⟨g, cap, cur.setIfInBounds p (.int .i64 y), rfl, Nat.zero_le _, heap_setCell_same w g p _ _ _ h5, by omega, h7, by simpa using h8, ?_⟩⟩
    have h10 : (cur.toList.take n) = ints l := by rw [← h9, Nat.mul_one]
    rw [Array.toList_setIfInBounds, Nat.mul_one]
    have e4 : (cur.toList.set p (.int .i64 y)).take (n - 1) = ((cur.toList.take n).set p (.int .i64 y)).take (n - 1) := by
      apply List.ext_getElem?
      intro i
      by_cases hi : i < n - 1
      · rw [List.getElem?_take_of_lt hi, List.getElem?_take_of_lt hi, List.getElem?_set, List.getElem?_set]
        have hlen : n ≤ cur.toList.length := by rw [Array.length_toList]; omega
        by_cases hpi : p = i
        · subst hpi
          rw [if_pos rfl, if_pos rfl, if_pos (by omega), if_pos (by rw [List.length_take]; omega)]
        · simp only [if_neg hpi]; rw [List.getElem?_take_of_lt (by omega)]
      · rw [List.getElem?_take_eq_none (by omega), List.getElem?_take_eq_none (by omega)]
    rw [e4, h10]
    simp [ints, List.map_set, List.map_take]
theorem strike_end {w w1 : World} {B : FB} {F : FS} {j g m cap : Nat} {l : List Int} (h : Fr w B F) (hj : j < 18) (hg : (B.vs j).ownBlock = some g) (hkp : ∀ k, k ≠ g → w1.heap[k]? = w.heap[k]?) (hsz : w.heap.size ≤ w1.heap.size)
    (hos : w1.os = w.os ∧ w1.tape = w.tape ∧ w1.output = w.output) (hv : w1.ownsRow 0 3 1 (.slice (some ⟨g, 0, none⟩) m cap) m (ints l)) :
    Fr (w1.setCell ⟨B.r, 3 + j, none⟩ (.slice (some ⟨g, 0, none⟩) m cap)).drew { B with vs := upd B.vs j (.slice (some ⟨g, 0, none⟩) m cap) } { F with ls := upd F.ls j l } ∧
      Nx B w { B with vs := upd B.vs j (.slice (some ⟨g, 0, none⟩) m cap) } (w1.setCell ⟨B.r, 3 + j, none⟩ (.slice (some ⟨g, 0, none⟩) m cap)).drew := by
  have hm : mine B g := .inr (.inr (.inr (.inr ⟨j, hj, hg⟩)))
  have hl : l.length = m := by simpa [ints] using hv.1
  refine ⟨(h.newList j hj (fun k _ hne => hkp k fun e => hne (by rw [e]; exact hg)) _ l (by rw [hl]; exact hv) ?_ ?_).keep fun _ _ => rfl, Nx.drew ⟨hos.1, hos.2.1, hos.2.2, by simpa using hsz, ?_, ?_, rfl⟩⟩
  · intro k hk
    obtain rfl : g = k := by simpa [Value.ownBlock] using hk
    exact h.dl j g hj hg
  · intro i k hi hij hk hk'
    obtain rfl : g = k := by simpa [Value.ownBlock] using hk'
    exact h.dd i j g hi hj hij hk hg
  · intro k hk hmk
    rw [heap_setCell_other _ _ _ _ (fun e => hmk (.inl e))]
    exact hkp k fun e => hmk (by rw [e]; exact hm)
  · intro k hk
    rcases mine_upd hk with e | e
    · exact .inl e
    · obtain rfl : g = k := by simpa [Value.ownBlock] using e
      exact .inl hm
set_option maxHeartbeats 2000000 in
theorem unlist_any (w : World) (B : FB) (F : FS) (a n p : Nat) (h : Fr w B F) (ha : a < F.opn.length) (hn : F.lng[a]? = some (n : Int)) (hn2 : n ≤ 65536)
    (hp : (F.ls (kindOf n))[p]? = some (a : Int)) (hq : ∀ q, q < p → (F.ls (kindOf n))[q]? ≠ some (a : Int)) (hl : (F.ls (kindOf n)).length ≤ 1000000) :
    Calls Try.prog 70 #[.pointer (some ⟨B.r, 0, none⟩), .int .i64 a] w
      fun e w' => e = .returned (.tuple #[]) ∧ ∃ B', Fr w' B' { F with ls := upd F.ls (kindOf n) (strike (F.ls (kindOf n)) p) } ∧ Nx B w B' w' := by
  have hle := h.le
  have c1 := h.c1
  have i1 := h.ci a ha
  rw [hn] at i1
  dsimp only [Option.getD_some] at i1
  have hk : kindOf n ≤ 17 := kind_le hn2
  have hL := bits_len n w hn2
  generalize hkk : kindOf n = kk at *
  obtain ⟨la, cap, hvs, hcap1, hcap2⟩ := h.form kk (by omega)
  have hpl : p < (F.ls kk).length := by
    rcases Nat.lt_or_ge p (F.ls kk).length with h' | h'
    · exact h'
    · rw [List.getElem?_eq_none h'] at hp; cases hp
  have k0 := h.cl kk (by omega)
  have f0 := h.fz (3 + kk)
  have hown := h.ls kk (by omega)
  rw [hvs] at k0 hown
  obtain ⟨g, cap', hv2, _, _⟩ := own_form hown (by omega)
  obtain ⟨rfl, rfl⟩ : la = some ⟨g, 0, none⟩ ∧ cap = cap' := by simpa using hv2
  obtain ⟨hcl, hfz, _⟩ := own_cells hown
  have hgr : g ≠ B.r := (h.dl kk g (by omega) (by rw [hvs]; rfl)).1
  have wf3 : IntKind.u64.wrap (n : Int) = (n : Int) := IntWalk.u64_in _ ⟨by omega, by omega⟩
  have t1 : (a : Int) < (F.opn.length : Int) := by omega
  have HF := Lib.hid h; have HVS := Lib.hid hvs; have HO := Lib.hid hown; have HC := Lib.hid hcl; have HZ := Lib.hid hfz; have HQ := Lib.hid hq; have HP := Lib.hid hp
  clear h hvs hown hcl hfz hq hp
  have b1 : (kk : Int) < 18 := by omega
  have b0 : (0 : Int) ≤ (kk : Int) := by omega
  generalize hlen : (F.ls kk).length = L at *
  go_enter Try.func70, Try.ntmps70
  go_upto_region 3 with (go_at_call 78; refine hL.mono ?_; rintro e w2 ⟨rfl, e2⟩; subst w2; dsimp only)
  go_loop [24] (fun v24 => ∃ i : Nat, i ≤ p ∧ v24 = .int .i64 i) (fun v24 => p - (intOf v24).toNat)
  case atStart => exact ⟨0, by omega, rfl⟩
  case round =>
    obtain ⟨i, i0', rfl⟩ := hrel
    have t3 : (i : Int) < (L : Int) := by omega
    have t4 : (0 : Int) ≤ (i : Int) := by omega
    have ci := HC.out i (by omega)
    by_cases hi' : i < p
    · have hne : ¬ (F.ls kk)[i]?.getD 0 = (a : Int) := by
        intro e
        have hil : i < (F.ls kk).length := by omega
        have := HQ.out i hi'
        rw [List.getElem?_eq_getElem hil] at this e
        simp at this e
        exact this e
      generalize (F.ls kk)[i]?.getD 0 = V at *
      go_wp2_with fail
      exact ⟨⟨i + 1, by omega, by simp⟩, by simp only [intOf]; omega⟩
    · have e : i = p := by omega
      subst e
      have he : (F.ls kk)[i]?.getD 0 = (a : Int) := by rw [HP.out]; rfl
      rw [he] at ci
      have cl := HC.out (L - 1) (by omega)
      have z1 := HZ.out i
      have z2 : (L : Int) - 1 < (L : Int) := by omega
      have z3 : (0 : Int) ≤ (L : Int) - 1 := by omega
      have z4 : ((L : Int) - 1).toNat = L - 1 := by omega
      have wf5 : IntKind.i64.wrap ((L : Int) - 1) = (L : Int) - 1 := IntWalk.i64_in _ ⟨by omega, by omega⟩
      generalize hy : (F.ls kk)[L - 1]?.getD 0 = y at *
      have hrow := Lib.hid (own_strike (y := y) HO.out (show i < L by omega))
      have hkp : ∀ k, k ≠ g → (w.setCell ⟨g, i, none⟩ (.int .i64 y)).heap[k]? = w.heap[k]? := fun k hk => heap_setCell_other _ _ _ _ hk
      have k1 : (w.setCell ⟨g, i, none⟩ (.int .i64 y)).cell? ⟨B.r, 3 + kk, none⟩ = some (.slice (some ⟨g, 0, none⟩) L cap) := by
        rw [World.cell?_of_block (hkp B.r (Ne.symm hgr))]; exact k0
      have f1 : (w.setCell ⟨g, i, none⟩ (.int .i64 y)).frozen? ⟨B.r, 3 + kk, none⟩ = false := by
        rw [World.frozen?_of_block (hkp B.r (Ne.symm hgr))]; exact f0
      have hsz : w.heap.size ≤ (w.setCell ⟨g, i, none⟩ (.int .i64 y)).heap.size := by simp
      have hos : (w.setCell ⟨g, i, none⟩ (.int .i64 y)).os = w.os ∧ (w.setCell ⟨g, i, none⟩ (.int .i64 y)).tape = w.tape ∧ (w.setCell ⟨g, i, none⟩ (.int .i64 y)).output = w.output := ⟨rfl, rfl, rfl⟩
      have z5 : (L : Int) - 1 ≤ (cap : Int) := by omega
      have HKP := Lib.hid hkp; clear hkp
      go_upto_region 7 with fail
      change Code.wp _ _ _ _ (w.setCell ⟨g, i, none⟩ (.int .i64 y))
      generalize w.setCell ⟨g, i, none⟩ (.int .i64 y) = w1 at *
      clear k0 f0 ci cl z1
      go_region
      go_wp2_with fail
      refine bodyPost_ret (results_none rfl _ _ _) rfl ?_
      have hstr : strike (F.ls kk) i = ((F.ls kk).set i y).take (L - 1) := by unfold strike; rw [hlen, hy]
      rw [hstr]
      refine ⟨rfl, { B with vs := upd B.vs kk (.slice (some ⟨g, 0, none⟩) (L - 1) cap) }, ?_⟩
      exact strike_end HF.out (by omega) (by rw [HVS.out]; rfl) HKP.out hsz hos hrow.out
end Go.Proofs.Ytljgnmbjidkjnaa.Fr
