/- Fields of an object: package heap; and so many numbers more at the end of a row. -/
import Derived.Test.YtljgnmbjidkjnaaKeep
namespace Go.Proofs.Ytljgnmbjidkjnaa.Hp
open Go.Proofs.Ytljgnmbjidkjnaa.Gen Go.Proofs.Ytljgnmbjidkjnaa.Base Go.Proofs.Ytljgnmbjidkjnaa.Fr Go.ChangeShapes Go.WideShapes Go.ChangeAt Go.RowKit
set_option linter.unusedVariables false
/-- Fields: s of them, at place p + 1. -/
structure Fld (ws : List Int) (bg : List Bool) (p s : Nat) : Prop where
  has : hasB bg ((p : Int) + 1) = true
  fmt : Hd.hfmt (headW ws bg ((p : Int) + 1)) = 1
  siz : Hd.hsiz (headW ws bg ((p : Int) + 1)) = s
  room : p + 3 + s ≤ bg.length
theorem Kp.fld {i : Nat} {ws : List Int} {l bg : List Bool} {T : List (Nat × Nat × Nat)} (hK : Kp i ws l bg T) {q a s h : Nat} (hq : T[q]? = some (a, s, h)) : Fld ws bg a s := by
  have hf := hK.fit q a s h hq
  have hb : hasB bg ((a : Int) + 1) = true := by
    rw [hasB_nat _ _ (by rw [hK.lb]; omega)]; exact (hK.beg a).2 ⟨q, a, s, h, hq, rfl⟩
  have e := head_at (ws := ws) hb (by rw [hK.lw]; omega)
  rw [hK.head q a s h hq] at e
  have e1 := Hd.fmt_put (s : Int) (f := 1) 0 0 false true 0 (by omega) (by omega)
  have e2 := Hd.siz_put (s := (s : Int)) 1 0 0 false true 0 (by omega) (by omega)
  simp only [Int.zero_mul, Int.add_zero] at e1 e2
  exact ⟨hb, by rw [e]; exact e1, by rw [e]; exact e2, by rw [hK.lb]; omega⟩
section
variable {w : World} {X : HB} {ws : List Int} {l bg : List Bool}
theorem hp_hasField (h : HpAt w X ws l bg) (p s : Nat) (hb : Fld ws bg p s) (x i : Int) (hx : x = (p : Int) + 1) :
    Calls Try.prog 58 #[.pointer (some ⟨X.h, 0, none⟩), .int .i64 x, .int .i64 i] w fun e w' => e = .returned (.bool (decide (0 ≤ i ∧ i < s))) ∧ w = w' := by
  have hle := h.len
  have hrm := hb.room
  have hw : (Lit.int .i64 x).wf = true := i64_wf (by omega) (by omega)
  have hc2 := hp_head h x hw
  have hwf := headW_wf h x
  have h1 := hb.fmt
  have h2 := hb.siz
  rw [← hx] at h1 h2
  clear h hb
  generalize headW ws bg x = H at *
  have hf := Hd.hd_Fmt H hwf w
  have hs := Hd.hd_Size H hwf w
  rw [h1] at hf
  rw [h2] at hs
  clear h1 h2 hx
  by_cases c1 : 0 ≤ i
  · by_cases c2 : i < (s : Int)
    · rw [show decide (0 ≤ i ∧ i < (s : Int)) = true by simp; omega]
      have d2 : decide (i < (s : Int)) = true := by simpa using c2
      go_enter Try.func58, Try.ntmps58
      go_wp2_with (first | (go_at_call 54; (with_reducible refine hc2.mono ?_); rintro e w2 ⟨rfl, rfl⟩; dsimp only) | (go_at_call 64; (with_reducible refine hf.mono ?_); rintro e w2 ⟨rfl, rfl⟩; dsimp only) | (go_at_call 53; (with_reducible refine hs.mono ?_); rintro e w2 ⟨rfl, rfl⟩; dsimp only))
      go_ret
      exact ⟨rfl, rfl⟩
    · rw [show decide (0 ≤ i ∧ i < (s : Int)) = false by simp; omega]
      have d2 : decide (i < (s : Int)) = false := by simpa using c2
      go_enter Try.func58, Try.ntmps58
      go_wp2_with (first | (go_at_call 54; (with_reducible refine hc2.mono ?_); rintro e w2 ⟨rfl, rfl⟩; dsimp only) | (go_at_call 64; (with_reducible refine hf.mono ?_); rintro e w2 ⟨rfl, rfl⟩; dsimp only) | (go_at_call 53; (with_reducible refine hs.mono ?_); rintro e w2 ⟨rfl, rfl⟩; dsimp only))
      go_ret
      exact ⟨rfl, rfl⟩
  · rw [show decide (0 ≤ i ∧ i < (s : Int)) = false by simp; omega]
    go_enter Try.func58, Try.ntmps58
    go_wp2_with (first | (go_at_call 54; (with_reducible refine hc2.mono ?_); rintro e w2 ⟨rfl, rfl⟩; dsimp only) | (go_at_call 64; (with_reducible refine hf.mono ?_); rintro e w2 ⟨rfl, rfl⟩; dsimp only) | (go_at_call 53; (with_reducible refine hs.mono ?_); rintro e w2 ⟨rfl, rfl⟩; dsimp only))
    go_ret
    exact ⟨rfl, rfl⟩
theorem hp_Field (h : HpAt w X ws l bg) (p s j : Nat) (hb : Fld ws bg p s) (x i : Int) (hx : x = (p : Int) + 1) (hi : i = (j : Int)) (hj : j < s) :
    Calls Try.prog 28 #[.pointer (some ⟨X.h, 0, none⟩), .int .i64 x, .int .i64 i] w fun e w' => e = .returned (.int .u32 (ws[p + 3 + j]?.getD 0)) ∧ w = w' := by
  have hle := h.len
  have hrm := hb.room
  have hc := hp_hasField h p s hb x i hx
  rw [show decide (0 ≤ i ∧ i < (s : Int)) = true by simp; omega] at hc
  have hc3 := hp_getN h (x + 3 + i) (p + 3 + j) (by omega) (by omega)
  have hx0 : 1 ≤ x := by omega
  have hx1 : x ≤ 70000 := by omega
  have hi0 : 0 ≤ i := by omega
  have hi1 : i ≤ 70000 := by omega
  clear h hb hx hi hle hrm
  go_enter Try.func28, Try.ntmps28
  go_wp2_with (first | (go_at_call 58; (with_reducible refine hc.mono ?_); rintro e w2 ⟨rfl, rfl⟩; dsimp only) | (go_at_call 60; (with_reducible refine hc3.mono ?_); rintro e w2 ⟨rfl, rfl⟩; dsimp only))
  go_ret
  exact ⟨rfl, rfl⟩
theorem hp_SetField (h : HpAt w X ws l bg) (p s j : Nat) (hb : Fld ws bg p s) (x i v : Int) (hx : x = (p : Int) + 1) (hi : i = (j : Int)) (hj : j < s) (v0 : 0 ≤ v) (v1 : v ≤ 4294967295) :
    Calls Try.prog 17 #[.pointer (some ⟨X.h, 0, none⟩), .int .i64 x, .int .i64 i, .int .u32 v] w fun e w' => e = .returned (.bool true) ∧ HpAt w' X (ws.set (p + 3 + j) v) l bg ∧ HNx X w X w' := by
  have hle := h.len
  have hrm := hb.room
  have hc := hp_hasField h p s hb x i hx
  rw [show decide (0 ≤ i ∧ i < (s : Int)) = true by simp; omega] at hc
  have hc3 := hp_putN h (x + 3 + i) v (p + 3 + j) (by omega) (by omega) v0 v1
  have hx0 : 1 ≤ x := by omega
  have hx1 : x ≤ 70000 := by omega
  have hi0 : 0 ≤ i := by omega
  have hi1 : i ≤ 70000 := by omega
  clear h hb hx hi hle hrm
  go_enter Try.func17, Try.ntmps17
  go_wp2_with (first | (go_at_call 58; (with_reducible refine hc.mono ?_); rintro e w2 ⟨rfl, rfl⟩; dsimp only) | (go_at_call 39; (with_reducible refine hc3.mono ?_); rintro e w2 ⟨rfl, hA, hN⟩; dsimp only))
  go_ret
  exact ⟨rfl, hA, hN⟩
theorem hp_SizeF (h : HpAt w X ws l bg) (p s : Nat) (hb : Fld ws bg p s) : Calls Try.prog 27 #[.pointer (some ⟨X.h, 0, none⟩), .int .i64 ((p : Int) + 1)] w fun e w' => e = .returned (.int .i64 (s : Int)) ∧ w = w' := by
  have hle := h.len
  have hrm := hb.room
  have hc := hp_Size h ((p : Int) + 1) (i64_wf (by omega) (by omega))
  rw [hb.has] at hc
  unfold sizW at hc
  rw [hb.fmt, hb.siz] at hc
  exact hc
end
/-- So many numbers more at the end of a row of one's own. -/
theorem wp_appM {w : World} {o : Oper} {a : Act} {K : Act → World → Prop} {Q : Exit → Act → World → Prop} (s x : Operand)
    (ho : o.op = .call { callee := .builtin .append, args := #[s, x], argTypes := #[49, 49] })
    (v : Value) (n : Nat) (xs : List Value) (hs : a.eval s = v) (hown : w.ownsRow 0 3 1 v n xs) (ys : List Int) (ao : Option Addr) (m c : Nat) (hx : a.eval x = .slice ao m c) (hm : ys.length = m)
    (hy : ∃ ad, ao = some ad ∧ ∀ j, j < ys.length → w.cell? (ad.add j) = some (.int .i64 (ys[j]?.getD 0))) (hn : n + ys.length ≤ 1000000)
    (h : ∀ v' w', w'.ownsRow 0 3 1 v' (n + ys.length) (xs ++ ints ys) → w.grownBy w' v.ownBlock → (v'.ownBlock = v.ownBlock ∨ v'.ownBlock = some w.heap.size) → K (a.put o.dst v') w') : o.wp Try.prog a w K Q := by
  obtain ⟨ad, rfl, hy⟩ := hy
  subst hm
  obtain ⟨i0, hi, hz0, hz1, hz2⟩ := info_parts infoI
  obtain ⟨v', w', hr, h2, h3, _, h5⟩ := run_append_own_at (P := Try.prog) (w := w) 0 49 o.type 3 i0 (.int .i64 0) 1 8 Try.underlying49 hi hz0 hz1 hz2 rfl (by decide) v n xs hown ad ys.length c (ints ys) (by simp [ints])
    (fun j u hj => by
      have hl : j < ys.length := by have := (List.getElem?_eq_some_iff.1 hj).1; simpa [ints] using this
      rw [hy j hl]
      simpa [ints, hl] using hj)
    (fun u hu => by simp [ints] at hu; obtain ⟨y, _, rfl⟩ := hu; rfl) (by unfold maxLen; omega) (by omega) (Nat.zero_le _)
  unfold Oper.wp execOp
  simp only [ho, resolve, invoke, builtin, Sem.run_bind, Sem.run_pure, Result.andThen_ok, List.map_toArray, List.map_cons, List.map_nil, hs, hx, hr]
  exact h v' w' h2 h3 h5
end Go.Proofs.Ytljgnmbjidkjnaa.Hp
