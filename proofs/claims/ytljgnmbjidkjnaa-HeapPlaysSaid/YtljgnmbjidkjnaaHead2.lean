/- What is put in a first word is got from it: plain arithmetic. -/
import Derived.Test.YtljgnmbjidkjnaaHead
namespace Go.Proofs.Ytljgnmbjidkjnaa.Hd
open Go.Proofs.Ytljgnmbjidkjnaa.Gen Go.Proofs.Ytljgnmbjidkjnaa.Base
set_option linter.unusedVariables false
theorem b2_beq (b : Bool) (x : Int) (h : x = b2 b) : (x == 1) = b := by subst h; cases b <;> rfl
theorem hput_bd (s f o c : Int) (p q : Bool) : 0 ≤ hput s f o c p q ∧ hput s f o c p q < 16777216 := by have := b2_bd p; have := b2_bd q; unfold hput; omega
theorem siz_put {s : Int} (f o c : Int) (p q : Bool) (k : Int) (h0 : 0 ≤ s) (h1 : s < 65536) : hsiz (hput s f o c p q + k * 16777216) = s := by have := b2_bd p; have := b2_bd q; unfold hput hsiz; omega
theorem fmt_put (s : Int) {f : Int} (o c : Int) (p q : Bool) (k : Int) (h0 : 0 ≤ f) (h1 : f < 4) : hfmt (hput s f o c p q + k * 16777216) = f := by have := b2_bd p; have := b2_bd q; unfold hput hfmt; omega
theorem odd_put (s f : Int) {o : Int} (c : Int) (p q : Bool) (k : Int) (h0 : 0 ≤ o) (h1 : o < 4) : hodd (hput s f o c p q + k * 16777216) = o := by have := b2_bd p; have := b2_bd q; unfold hput hodd; omega
theorem col_put (s f o : Int) {c : Int} (p q : Bool) (k : Int) (h0 : 0 ≤ c) (h1 : c < 4) : hcol (hput s f o c p q + k * 16777216) = c := by have := b2_bd p; have := b2_bd q; unfold hput hcol; omega
theorem fin_put (s f o c : Int) (p q : Bool) (k : Int) : hfin (hput s f o c p q + k * 16777216) = p := by
  have := b2_bd p; have := b2_bd q
  exact b2_beq p _ (by unfold hput; omega)
theorem liv_put (s f o c : Int) (p q : Bool) (k : Int) : hliv (hput s f o c p q + k * 16777216) = q := by
  have := b2_bd p; have := b2_bd q
  exact b2_beq q _ (by unfold hput; omega)
theorem more_or (s f o c : Int) (p q : Bool) (m : Int) (h0 : 0 ≤ m) : bits .or .u32 (hput s f o c p q) (m * 16777216 % 4294967296) = hput s f o c p q + m % 256 * 16777216 := by
  have h := hput_bd s f o c p q
  rw [u32_join' 24 _ _ (by omega) (by omega) (by omega) (by omega) (by omega) (by omega)]; omega
theorem put_get (w : Int) : hput (hsiz w) (hfmt w) (hodd w) (hcol w) (hfin w) (hliv w) = w % 16777216 := by
  have e1 : b2 (hfin w) = w / 4194304 % 2 := by
    unfold hfin b2; by_cases h : w / 4194304 % 2 = 1
    · simp [h]
    · have : w / 4194304 % 2 = 0 := by omega
      simp [this]
  have e2 : b2 (hliv w) = w / 8388608 % 2 := by
    unfold hliv b2; by_cases h : w / 8388608 % 2 = 1
    · simp [h]
    · have : w / 8388608 % 2 = 0 := by omega
      simp [this]
  unfold hput; rw [e1, e2]; unfold hsiz hfmt hodd hcol; omega
theorem hsiz_bd (w : Int) : 0 ≤ hsiz w ∧ hsiz w < 65536 := by unfold hsiz; omega
theorem hfmt_bd (w : Int) : 0 ≤ hfmt w ∧ hfmt w < 4 := by unfold hfmt; omega
theorem hodd_bd (w : Int) : 0 ≤ hodd w ∧ hodd w < 4 := by unfold hodd; omega
theorem hcol_bd (w : Int) : 0 ≤ hcol w ∧ hcol w < 4 := by unfold hcol; omega
end Go.Proofs.Ytljgnmbjidkjnaa.Hd
