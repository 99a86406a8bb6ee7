/- get, put, head, Size, Fmt, Words, Next of package heap. -/
import Derived.Test.YtljgnmbjidkjnaaHeap
namespace Go.Proofs.Ytljgnmbjidkjnaa.Hp
open Go.Proofs.Ytljgnmbjidkjnaa.Gen Go.Proofs.Ytljgnmbjidkjnaa.Base Go.Proofs.Ytljgnmbjidkjnaa.Fr Go.ChangeShapes Go.WideShapes Go.ChangeAt Go.RowKit
set_option linter.unusedVariables false
theorem getS_bd {ws : List Int} (h : ∀ x ∈ ws, 0 ≤ x ∧ x ≤ 4294967295) (x : Int) : 0 ≤ Sr.getS ws x ∧ Sr.getS ws x ≤ 4294967295 := by
  unfold Sr.getS
  split
  · rename_i hx
    rw [List.getElem?_eq_getElem (by omega)]
    exact h _ (List.getElem_mem _)
  · omega
theorem putS_len (ws : List Int) (x v : Int) : (Sr.putS ws x v).length = ws.length := by unfold Sr.putS; split <;> simp
theorem putS_wf {ws : List Int} (h : ∀ x ∈ ws, 0 ≤ x ∧ x ≤ 4294967295) (x v : Int) (h0 : 0 ≤ v) (h1 : v ≤ 4294967295) : ∀ y ∈ Sr.putS ws x v, 0 ≤ y ∧ y ≤ 4294967295 := by
  unfold Sr.putS
  split
  · intro y hy
    rcases List.mem_or_eq_of_mem_set hy with h2 | rfl
    · exact h y h2
    · exact ⟨h0, h1⟩
  · exact h
section
variable {w : World} {X : HB} {ws : List Int} {l bg : List Bool}
theorem hp_get (h : HpAt w X ws l bg) (x : Int) (h0 : -100000 ≤ x) (h1 : x ≤ 100000) :
    Calls Try.prog 60 #[.pointer (some ⟨X.h, 0, none⟩), .int .i64 x] w fun e w' => e = .returned (.int .u32 (Sr.getS ws (x - 1))) ∧ w = w' := by
  have c0 := h.c0
  have hc := Sr.get_any w X.sb X.sg ws (x - 1) h.sto
  clear h
  go_enter Try.func60, Try.ntmps60
  go_wp2_with (go_at_call 75; (with_reducible refine hc.mono ?_); rintro e w2 ⟨rfl, rfl⟩; dsimp only)
  go_ret
  exact ⟨rfl, rfl⟩
theorem hp_put (h : HpAt w X ws l bg) (x v : Int) (h0 : -100000 ≤ x) (h1 : x ≤ 100000) (v0 : 0 ≤ v) (v1 : v ≤ 4294967295) :
    Calls Try.prog 39 #[.pointer (some ⟨X.h, 0, none⟩), .int .i64 x, .int .u32 v] w
      fun e w' => e = .returned (.bool (decide (1 ≤ x ∧ x ≤ bg.length))) ∧ HpAt w' X (Sr.putS ws (x - 1) v) l bg ∧ HNx X w X w' := by
  have c0 := h.c0
  have hc := Sr.put_any w X.sb X.sg ws (x - 1) v h.sto
  have e : decide (0 ≤ x - 1 ∧ x - 1 < (ws.length : Int)) = decide (1 ≤ x ∧ x ≤ (bg.length : Int)) := by
    have := h.e1
    rw [decide_eq_decide]; omega
  rw [e] at hc
  have H := Lib.hid h
  clear h e
  go_enter Try.func39, Try.ntmps39
  go_wp2_with (go_at_call 71; (with_reducible refine hc.mono ?_); rintro e w2 ⟨rfl, hs, hg⟩; dsimp only)
  go_ret
  have := H.out.words hs hg (putS_len _ _ _) (putS_wf H.out.wf _ _ v0 v1)
  exact ⟨rfl, this.1, this.2⟩
/-- The first word of what begins at a place; 0 of none. -/
def headW (ws : List Int) (bg : List Bool) (x : Int) : Int := if hasB bg x then Sr.getS ws (x - 1) else 0
theorem hasB_in {bg : List Bool} {x : Int} (h : hasB bg x = true) : 1 ≤ x ∧ x ≤ bg.length := by
  unfold hasB at h; split at h
  · assumption
  · cases h
theorem headW_bd (h : HpAt w X ws l bg) (x : Int) : 0 ≤ headW ws bg x ∧ headW ws bg x ≤ 4294967295 := by
  unfold headW; split
  · exact getS_bd h.wf _
  · omega
theorem headW_wf (h : HpAt w X ws l bg) (x : Int) : (Lit.int .u32 (headW ws bg x)).wf = true := u32_wf (headW_bd h x).1 (headW_bd h x).2
theorem hp_head (h : HpAt w X ws l bg) (x : Int) (hw : (Lit.int .i64 x).wf = true) :
    Calls Try.prog 54 #[.pointer (some ⟨X.h, 0, none⟩), .int .i64 x] w fun e w' => e = .returned (.int .u32 (headW ws bg x)) ∧ w = w' := by
  have hc1 := has_any h x hw
  have hle := h.len
  cases hb : hasB bg x
  · have e : headW ws bg x = 0 := by unfold headW; rw [hb]; rfl
    rw [e]; clear e
    rw [hb] at hc1
    clear h hb
    go_enter Try.func54, Try.ntmps54
    go_wp2_with (go_at_call 26; (with_reducible refine hc1.mono ?_); rintro e w2 ⟨rfl, rfl⟩; dsimp only)
    go_ret
    exact ⟨rfl, rfl⟩
  · have e : headW ws bg x = Sr.getS ws (x - 1) := by unfold headW; rw [hb]; rfl
    rw [e]; clear e
    have hin := hasB_in hb
    have hc2 := hp_get h x (by omega) (by omega)
    rw [hb] at hc1
    clear h hb
    go_enter Try.func54, Try.ntmps54
    go_wp2_with (first | (go_at_call 26; (with_reducible refine hc1.mono ?_); rintro e w2 ⟨rfl, rfl⟩; dsimp only) | (go_at_call 60; (with_reducible refine hc2.mono ?_); rintro e w2 ⟨rfl, rfl⟩; dsimp only))
    go_ret
    exact ⟨rfl, rfl⟩
/-- How many fields, or bytes. -/
def sizW (x : Int) : Int := if Hd.hfmt x = 3 then Hd.hsiz x * 4 - Hd.hodd x else Hd.hsiz x
theorem hp_Size (h : HpAt w X ws l bg) (x : Int) (hw : (Lit.int .i64 x).wf = true) :
    Calls Try.prog 27 #[.pointer (some ⟨X.h, 0, none⟩), .int .i64 x] w fun e w' => e = .returned (.int .i64 (if hasB bg x then sizW (headW ws bg x) else -1)) ∧ w = w' := by
  have hc1 := has_any h x hw
  have hc2 := hp_head h x hw
  have hwf := headW_wf h x
  clear h
  generalize headW ws bg x = H at *
  have hf := Hd.hd_Fmt H hwf w
  have hs := Hd.hd_Size H hwf w
  have ho := Hd.hd_Odd H hwf w
  have b1 := Hd.hsiz_bd H
  have b2 := Hd.hodd_bd H
  cases hb : hasB bg x
  · rw [hb] at hc1
    clear hb
    go_enter Try.func27, Try.ntmps27
    go_wp2_with (go_at_call 26; (with_reducible refine hc1.mono ?_); rintro e w2 ⟨rfl, rfl⟩; dsimp only)
    go_ret
    exact ⟨rfl, rfl⟩
  · rw [hb] at hc1
    by_cases h3 : Hd.hfmt H = 3
    · have e : sizW H = Hd.hsiz H * 4 - Hd.hodd H := by unfold sizW; rw [if_pos h3]
      simp only [if_true]
      rw [e]; clear e
      rw [h3] at hf
      generalize Hd.hsiz H = S at *
      generalize Hd.hodd H = O at *
      clear hb h3
      go_enter Try.func27, Try.ntmps27
      go_wp2_with (first | (go_at_call 26; (with_reducible refine hc1.mono ?_); rintro e w2 ⟨rfl, rfl⟩; dsimp only) | (go_at_call 54; (with_reducible refine hc2.mono ?_); rintro e w2 ⟨rfl, rfl⟩; dsimp only) | (go_at_call 64; (with_reducible refine hf.mono ?_); rintro e w2 ⟨rfl, rfl⟩; dsimp only) | (go_at_call 53; (with_reducible refine hs.mono ?_); rintro e w2 ⟨rfl, rfl⟩; dsimp only) | (go_at_call 65; (with_reducible refine ho.mono ?_); rintro e w2 ⟨rfl, rfl⟩; dsimp only))
      go_ret
      exact ⟨rfl, rfl⟩
    · have e : sizW H = Hd.hsiz H := by unfold sizW; rw [if_neg h3]
      simp only [if_true]
      rw [e]; clear e
      have d3 : (Hd.hfmt H == 3) = false := by simpa using h3
      generalize Hd.hsiz H = S at *
      generalize Hd.hodd H = O at *
      generalize Hd.hfmt H = Ft at *
      clear hb
      go_enter Try.func27, Try.ntmps27
      go_wp2_with (first | (go_at_call 26; (with_reducible refine hc1.mono ?_); rintro e w2 ⟨rfl, rfl⟩; dsimp only) | (go_at_call 54; (with_reducible refine hc2.mono ?_); rintro e w2 ⟨rfl, rfl⟩; dsimp only) | (go_at_call 64; (with_reducible refine hf.mono ?_); rintro e w2 ⟨rfl, rfl⟩; dsimp only) | (go_at_call 53; (with_reducible refine hs.mono ?_); rintro e w2 ⟨rfl, rfl⟩; dsimp only) | (go_at_call 65; (with_reducible refine ho.mono ?_); rintro e w2 ⟨rfl, rfl⟩; dsimp only))
      go_ret
      exact ⟨rfl, rfl⟩
theorem hp_Words (h : HpAt w X ws l bg) :
    Calls Try.prog 29 #[.pointer (some ⟨X.h, 0, none⟩)] w fun e w' => e = .returned (.tuple #[.int .i64 ((bg.length : Int) - cnt l), .int .i64 bg.length]) ∧ ∃ q, w' = w.drewN q := by
  have c0 := h.c0
  have c1 := h.c1
  have hle := h.len
  have hcl := cnt_le l
  have h2 := h.e2
  have hcn : cnt l ≤ bg.length := by omega
  have hl1 := fun q => Sr.len_any (w.drewN q) X.sb X.sg ws (h.keep (w' := w.drewN q) fun _ _ => rfl).sto
  have hf1 := fun q => free_words (w := w.drewN q) (h.keep (w' := w.drewN q) fun _ _ => rfl).free
  rw [h.e1] at hl1
  generalize cnt l = C at *
  generalize bg.length = n at *
  clear h hcl h2
  go_enter Try.func29, Try.ntmps29
  go_upto_region 1 with fail
  go_quiet ((first | (go_at_call 34; first | exact same_quiet (hl1 _) | exact Calls.quiet_of_same (hl1 0)) | (go_at_call 66; first | exact same_quiet (hf1 _) | exact Calls.quiet_of_same (hf1 0))))
  go_wp2_with fail
  go_ret2
  exact ⟨rfl, _, rfl⟩
end
end Go.Proofs.Ytljgnmbjidkjnaa.Hp
