/- The law HeapBytes returns true at every input, and leaves its arguments as they were. No condition. -/
import Derived.Test.YtljgnmbjidkjnaaRows
import Derived.WalkKit
import Derived.ProofKit
import Derived.OpenShut
import Derived.Test.YtljgnmbjidkjnaaByte3
import Derived.Deep.DeepCutAuto
import Derived.ShutString
import Derived.ChangeOld
import Derived.Below
namespace Go.Proofs.Ytljgnmbjidkjnaa.heapBytes
open Go.ChangeShapes Go.WideShapes Go.ChangeAt Go.RowKit
open Go.ChangeMaps (open_string shut_string)
open Go.Proofs.Ytljgnmbjidkjnaa.Gen Go.Proofs.Ytljgnmbjidkjnaa.Base Go.Proofs.Ytljgnmbjidkjnaa.Fr Go.Proofs.Ytljgnmbjidkjnaa.Hp
set_option linter.unusedVariables false

theorem own : ownKnob Try.prog.godebug = none := by kernel_rfl
theorem laidOut : laidOutB Try.prog = true := by kernel_rfl

/-- WHAT THE WALK IS TOLD OF A SLICE OF INTEGERS THAT CAME IN: it is nil; or it leads to a row of 'cap' cells, the numbers 'zs' (the first 'len' are its elements, the rest its spare room), each fitting its kind. -/
def IsRow (k : IntKind) (w : World) (a : Option Addr) (len cap : Nat) (zs : List Int) : Prop :=
  (a = none ∧ len = 0 ∧ cap = 0 ∧ zs = []) ∨
  ∃ x, a = some x ∧ len ≤ cap ∧ cap ≤ maxLen ∧ zs.length = cap ∧ (∀ i, i < zs.length → w.cell? (x.add i) = some (.int k (zs.getD i 0))) ∧ ∀ n ∈ zs, (Lit.int k n).wf = true

theorem row_at {w : World} {a : Option Addr} {len cap : Nat} {zs : List Int} (h : IsRow .i64 w a len cap zs) :
    (len : Int) ≤ 9223372036854775807 ∧ ∀ i, i < len → ∃ xb xo, a = some ⟨xb, xo, none⟩ ∧ xb < w.heap.size ∧ w.cell? ⟨xb, xo + i, none⟩ = some (.int .i64 (zs[i]?.getD 0)) ∧ (Lit.int .i64 (zs[i]?.getD 0)).wf = true := by
  rcases h with ⟨rfl, rfl, rfl, rfl⟩ | ⟨x, rfl, hl, hm, hz, hcell, hwz⟩
  · exact ⟨by omega, fun i hi => by omega⟩
  · refine ⟨by unfold maxLen at hm; omega, fun i hi => ?_⟩
    obtain ⟨xb, xo, spot⟩ := x
    have hspot : spot = none := by simpa [Addr.add] using World.cell?_spot (hcell 0 (by omega))
    subst hspot
    have hc : w.cell? ⟨xb, xo + i, none⟩ = some (.int .i64 (zs[i]?.getD 0)) := by
      have h := hcell i (by omega)
      by_cases e : i = 0
      · subst e; simpa [Addr.add] using h
      · simpa [Addr.add, e] using h
    exact ⟨xb, xo, rfl, World.block_lt_of_cell? _ _ hc, hc, hwz _ (by simp [show i < zs.length by omega])⟩

def z200 : Array Value := (ints (List.replicate 200 0)).toArray
theorem z200_run (w : World) : Sem.run Try.prog (zeroValue 55) w = .ok (.agg z200) w := by kernel_rfl
theorem shut_all (N : Nat) : ∀ i, o (setR (List.replicate N true) 0 N false) i = false := fun i => by
  rw [o_set _ _ _ _ (by simp), o_rep]
  by_cases h : i < N
  · rw [if_pos (by omega)]
  · rw [if_neg (by omega), if_neg h]
theorem no_run {l : List Bool} (h : ∀ i, o l i = false) (n : Nat) : ∀ a m, Run l a m → m < n := fun a m hr => by
  have := hr.all a (Nat.le_refl _) (by have := hr.pos; omega)
  rw [h a] at this; cases this
/-- What holds of the words: the object's head, its hash, and its bytes are those of L. -/
structure ByI (N k S : Nat) (hd : Int) (ws L : List Int) : Prop where
  len : ws.length = N
  head : ws[0]?.getD 0 = hd
  hash : ws[2]?.getD 0 = Wd.wi 1
  bytes : ∀ q c, c < 4 → q * 4 + c < k → byt c (ws[0 + 3 + q]?.getD 0) = L[q * 4 + c]?.getD 0
  lenL : L.length = 200
  valL : ∀ x ∈ L, 0 ≤ x ∧ x < 256
theorem ByI.wd {N k S : Nat} {hd : Int} {ws L : List Int} (h : ByI N k S hd ws L) {i : Nat} (hi : i < 200) : 0 ≤ L[i]?.getD 0 ∧ L[i]?.getD 0 < 256 := by
  rw [List.getElem?_eq_getElem (by rw [h.lenL]; exact hi)]; exact h.valL _ (List.getElem_mem _)
theorem ByI.set {N k S : Nat} {hd : Int} {ws L : List Int} (h : ByI N k S hd ws L) (hwf : ∀ x ∈ ws, 0 ≤ x ∧ x ≤ 4294967295) (hN : N = 3 + S) (hS : S = (k + 3) / 4) (hk : k ≤ 200) (q c : Nat) (hc : c < 4) (hq : q * 4 + c < k) (v : Int) :
    ByI N k S hd (ws.set (0 + 3 + q) (setb c (ws[0 + 3 + q]?.getD 0) v)) (L.set (q * 4 + c) (v % 256)) := by
  have hl := h.len
  have hlL := h.lenL
  have hb : 0 ≤ ws[0 + 3 + q]?.getD 0 ∧ ws[0 + 3 + q]?.getD 0 ≤ 4294967295 := by
    rw [List.getElem?_eq_getElem (by omega)]; exact hwf _ (List.getElem_mem _)
  refine ⟨by simpa using h.len, ?_, ?_, fun q' c' hc' hq' => ?_, by simpa using h.lenL, fun x hx => ?_⟩
  · rw [set_at _ _ _ _ (by omega), if_neg (by omega)]; exact h.head
  · rw [set_at _ _ _ _ (by omega), if_neg (by omega)]; exact h.hash
  · rw [set_at _ _ _ _ (by omega), set_at _ _ _ _ (by omega)]
    by_cases e : q' = q
    · subst e
      rw [if_pos rfl, byt_setb c c' hc hc' _ _ hb.1 hb.2]
      by_cases e2 : c' = c
      · rw [if_pos e2, if_pos (by omega)]
      · rw [if_neg e2, if_neg (by omega)]; exact h.bytes q' c' hc' hq'
    · rw [if_neg (by omega), if_neg (by omega)]; exact h.bytes q' c' hc' hq'
  · rcases List.mem_or_eq_of_mem_set hx with h2 | rfl
    · exact h.valL x h2
    · omega
theorem mk_byI (k S : Nat) (hd : Int) (hk : k ≤ 200) (hS : S = (k + 3) / 4) : ByI (3 + S) k S hd (mkW (List.replicate (3 + S) 0) 0 S hd (Wd.wr 0) (Wd.wi 1) 0) (List.replicate 200 0) := by
  have hl : (List.replicate (3 + S) (0 : Int)).length = 3 + S := by simp
  refine ⟨by rw [mkW_len, hl], ?_, ?_, fun q c hc hq => ?_, List.length_replicate, fun x hx => by rw [List.eq_of_mem_replicate hx]; omega⟩
  · rw [mkW_at _ _ _ _ _ _ _ _ (by omega), if_pos rfl]
  · rw [mkW_at _ _ _ _ _ _ _ _ (by omega), if_neg (by omega), if_neg (by omega), if_pos rfl]
  · rw [mkW_at _ _ _ _ _ _ _ _ (by omega), if_neg (by omega), if_neg (by omega), if_neg (by omega), if_pos (by omega), List.getElem?_replicate, if_pos (by omega)]
    unfold byt; simp
theorem byI_bts {N k S O : Nat} {ws L : List Int} {bg : List Bool} (h : ByI N k S (Hd.hput S 3 O 0 false true) ws L) (hbl : bg.length = N) (hb : hasB bg ((0 : Nat) + 1 : Int) = true) (hN : N = 3 + S) (hS : S = (k + 3) / 4) (hO : O = S * 4 - k) (hk : k ≤ 200) : Bts ws bg 0 k ∧ Hd.hsiz (headW ws bg ((0 : Nat) + 1 : Int)) = S ∧ Hd.hfmt (headW ws bg ((0 : Nat) + 1 : Int)) = 3 := by
  have e := head_at (ws := ws) (p := 0) hb (by rw [h.len]; omega)
  rw [h.head] at e
  have e1 := Hd.fmt_put (S : Int) (f := 3) (O : Int) 0 false true 0 (by omega) (by omega)
  have e2 := Hd.siz_put (s := (S : Int)) 3 (O : Int) 0 false true 0 (by omega) (by omega)
  simp only [Int.zero_mul, Int.add_zero] at e1 e2
  exact ⟨⟨hb, by rw [e]; exact e1, by rw [e]; exact siz_bytes k S O hk hS hO, by omega⟩, by rw [e]; exact e2, by rw [e]; exact e1⟩
/-- A heap, and a row of numbers in a block of its own. -/
structure HpL (W : Nat) (u : World) (X : HB) (ws : List Int) (l bg : List Bool) (d : Nat) (L : List Int) : Prop where
  hp : HpAt u X ws l bg
  is : u.heap[d]? = some (.cells (ints L).toArray 55 (0, 0))
  dW : W ≤ d
  dm : ¬ Hp.own X d
theorem HpL.nx {W : Nat} {u u' : World} {X : HB} {ws ws' : List Int} {l l' bg bg' : List Bool} {d : Nat} {L : List Int} (h : HpL W u X ws l bg d L) (hA : HpAt u' X ws' l' bg') (hn : HNx X u X u') : HpL W u' X ws' l' bg' d L :=
  ⟨hA, by rw [hn.block d (Array.getElem?_eq_some_iff.1 h.is).1 h.dm]; exact h.is, h.dW, h.dm⟩
theorem HpL.drewN {W : Nat} {u : World} {X : HB} {ws : List Int} {l bg : List Bool} {d : Nat} {L : List Int} (h : HpL W u X ws l bg d L) (q : Nat) : HpL W (u.drewN q) X ws l bg d L := ⟨h.hp.keep fun _ _ => rfl, h.is, h.dW, h.dm⟩
theorem HpL.store {W : Nat} {u : World} {X : HB} {ws : List Int} {l bg : List Bool} {d : Nat} {L : List Int} (h : HpL W u X ws l bg d L) (i : Nat) (v : Int) : HpL W (u.setCell ⟨d, i, none⟩ (.int .i64 v)) X ws l bg d (L.set i v) :=
  ⟨h.hp.keep fun k hk => heap_setCell_other _ _ _ _ fun e => h.dm (show Hp.own X d from (show k = d from e) ▸ hk), by rw [heap_setCell_same u d i _ _ _ h.is, Fr.ints_set], h.dW, h.dm⟩
theorem HpL.cell {W : Nat} {u : World} {X : HB} {ws : List Int} {l bg : List Bool} {d : Nat} {L : List Int} (h : HpL W u X ws l bg d L) (i : Nat) (hi : i < L.length) : u.cell? ⟨d, i, none⟩ = some (.int .i64 (L[i]?.getD 0)) := by rw [cell_of_row u d i _ _ _ h.is]; simp [ints, hi]
theorem HpL.fz {W : Nat} {u : World} {X : HB} {ws : List Int} {l bg : List Bool} {d : Nat} {L : List Int} (h : HpL W u X ws l bg d L) (i : Nat) : u.frozen? ⟨d, i, none⟩ = false := frozen_of_row u d i _ _ h.is
/-! ### STEP 1: THE WALK: the Go text returns true, AND WRITES NOTHING THAT WAS THERE: 'Below w.heap.size w w'' (Derived/Below.lean: '.refl', '.alloc', '.drew', '.setCell' at a new block, '.trans'). Open each 'IsRow' by 'rcases' AHEAD of 'go_enter'; part every test ahead of the walk. -/
set_option maxRecDepth 100000 in
set_option maxHeartbeats 16000000 in
theorem walk (a0 : Int) (a1 : Option Addr) (len1 cap1 : Nat) (z1 : List Int) (w : World) (w0 : (Lit.int .i64 a0).wf = true) (w1 : IsRow .i64 w a1 len1 cap1 z1) :
    Calls Try.prog 6 #[.int .i64 a0, .slice a1 len1 cap1] w fun e w' => e = .returned (.bool true) ∧ Below w.heap.size w w' := by
  obtain ⟨hl0, hcell⟩ := row_at w1
  have HCELL := Lib.hid hcell; clear hcell w1
  go_enter Try.func6, Try.ntmps6
  go_wp2_with fail
  refine (place_gen a0 201 (by omega) (by omega) w0 _).mono ?_
  rintro e w' ⟨k, k0, k1, rfl, rfl⟩
  obtain ⟨k, rfl⟩ := Int.eq_ofNat_of_zero_le k0
  have hk : k ≤ 200 := by omega
  obtain ⟨S, hS, hS2⟩ : ∃ S : Nat, ((k : Int) + 3) / 4 = (S : Int) ∧ S = (k + 3) / 4 := ⟨(k + 3) / 4, by push_cast; rfl, rfl⟩
  obtain ⟨N, hN, hN2⟩ : ∃ N : Nat, 3 + (S : Int) = (N : Int) ∧ N = 3 + S := ⟨3 + S, by push_cast; rfl, rfl⟩
  obtain ⟨O, hO2⟩ : ∃ O : Nat, O = S * 4 - k := ⟨_, rfl⟩
  have hN3 : N ≤ 60 := by omega
  have HS2 := Lib.hid hS2; have HN2 := Lib.hid hN2; have HO2 := Lib.hid hO2
  clear hS2 hN2 hO2
  dsimp only
  go_wp2_with fail
  refine (hp_New N (by omega) w).mono ?_
  rintro e u1 ⟨X1, rfl, hA1, hO1⟩
  clear hS hN
  have hmk : Calls Try.prog 12 #[.pointer (some ⟨X1.h, 0, none⟩), .int .i64 3, .int .i64 k, .int .i64 0, .int .i64 1] u1 fun e w' => e = .returned (.tuple #[.int .i64 1, .bool true]) ∧ ∃ X', HpAt w' X' (mkW (List.replicate N 0) 0 S (Hd.hput S 3 O 0 false true) (Wd.wr 0) (Wd.wi 1) 0) (setR (List.replicate N true) 0 (3 + S) false) ((List.replicate N false).set 0 true) ∧ HNx X1 u1 X' w' :=
    hp_Make_ok hA1 3 k S O 0 (.inr ⟨rfl, hk, HS2.out, HO2.out, rfl⟩) 0 1 (by omega) (by omega) 0 N ⟨(run_rep (by have := HN2.out; omega) _ _).2 ⟨rfl, rfl⟩, by have := HN2.out; omega, fun a' m' hr _ => by
      obtain ⟨rfl, rfl⟩ := (run_rep (by have := HN2.out; omega) _ _).1 hr; exact .inr ⟨rfl, Nat.le_refl _⟩⟩
  rw [← HN2.out] at hmk
  have hbyI := mk_byI k S (Hd.hput S 3 O 0 false true) hk HS2.out
  rw [← HN2.out] at hbyI
  have HBY := Lib.hid hbyI; have HO1 := Lib.hid hO1
  clear hbyI hO1 hA1
  generalize mkW (List.replicate N 0) 0 S (Hd.hput S 3 O 0 false true) (Wd.wr 0) (Wd.wi 1) 0 = ws1 at *
  have hsh := shut_all N
  generalize setR (List.replicate N true) 0 N false = l1 at *
  have hbg : ((List.replicate N false).set 0 true).length = N ∧ hasB ((List.replicate N false).set 0 true) ((0 : Nat) + 1 : Int) = true := ⟨by simp, by
    rw [hasB_nat _ 0 (by have := HN2.out; simp; omega), o_setl (by have := HN2.out; simp; omega), if_pos rfl]⟩
  generalize (List.replicate N false).set 0 true = bg1 at *
  have HSH := Lib.hid hsh; have HBG := Lib.hid hbg
  clear hsh hbg
  dsimp only
  go_wp2_with fail
  refine hmk.mono ?_
  rintro e u2 ⟨rfl, X, hA2, hN2⟩
  have hO2 := HO1.out.nx hN2
  have hX : X.h = X1.h := hN2.h
  have hfull : Calls Try.prog 12 #[.pointer (some ⟨X.h, 0, none⟩), .int .i64 3, .int .i64 0, .int .i64 0, .int .i64 2] u2 fun e w' => e = .returned (.tuple #[.int .i64 0, .bool false]) ∧ ∃ q, w' = u2.drewN q :=
    hp_Make_full hA2 3 0 0 0 0 (.inr ⟨rfl, by omega, rfl, rfl, rfl⟩) 0 2 (by omega) (by omega) (no_run HSH.out _)
  have hbt := byI_bts HBY.out HBG.out.1 HBG.out.2 HN2.out HS2.out HO2.out hk
  have hsz : ∀ q, Calls Try.prog 27 #[.pointer (some ⟨X.h, 0, none⟩), .int .i64 1] (u2.drewN q) fun e w' => e = .returned (.int .i64 k) ∧ u2.drewN q = w' := fun q => by
    have h := hp_Size (hA2.keep (w' := u2.drewN q) fun _ _ => rfl) ((0 : Nat) + 1 : Int) (by decide)
    rw [hbt.1.has, hbt.1.siz] at h
    exact h
  rw [hX] at hfull hsz
  have HA2 := Lib.hid hA2; have HO2' := Lib.hid hO2; have HX := Lib.hid hX
  generalize X1.h = r at *
  have hz := z200_run
  clear hmk hA2 hN2 hO2 hX hbt HO1
  dsimp only
  go_wp2_with fail
  refine hfull.mono ?_
  rintro e u3 ⟨rfl, q3, rfl⟩
  have hsz3 := hsz q3
  have HA3 := Lib.hid (HA2.out.keep (w' := u2.drewN q3) fun _ _ => rfl)
  have HO3 := Lib.hid (HO2'.out.nx (HNx.drewN X u2 q3))
  clear hfull hsz HA2 HO2'
  generalize u2.drewN q3 = u3 at *
  dsimp only
  go_wp2_with (go_at_call 27; (with_reducible refine hsz3.mono ?_); rintro e w2 ⟨rfl, rfl⟩; dsimp only)
  have hL : HpL w.heap.size (u3.alloc (.cells z200 55)) X ws1 l1 bg1 u3.heap.size (List.replicate 200 0) :=
    ⟨HA3.out.keep fun k hk => heap_alloc_old _ _ (HA3.out.lt hk), heap_alloc_new _ _, HO3.out.below.size, fun hm => by have := HA3.out.lt hm; omega⟩
  have hO4 : HOwn w (u3.alloc (.cells z200 55)) X := HO3.out.grow ((Below.refl _ _).alloc (Nat.le_refl _) _)
  have HL := Lib.hid hL; have HO4 := Lib.hid hO4
  clear hL hO4 hz hsz3 HA3 HO3
  generalize u3.alloc (.cells z200 55) = u4 at *
  generalize u3.heap.size = d at *
  go_loopw [12] (fun v12 wr => ∃ (i : Nat) (ws L : List Int), i ≤ min len1 100 ∧ v12 = .int .i64 i ∧ ByI N k S (Hd.hput S 3 O 0 false true) ws L ∧ HpL w.heap.size wr X ws l1 bg1 d L ∧ HOwn w wr X) (fun v12 wr => 100 - (intOf v12).toNat)
  case atStart => exact ⟨0, ws1, _, Nat.zero_le _, rfl, HBY.out, HL.out, HO4.out⟩
  case round =>
    clear HL HO4 HBY
    obtain ⟨i, ws, L, i1, rfl, hB, hL, hO⟩ := hrel
    have hbt := byI_bts hB HBG.out.1 HBG.out.2 HN2.out HS2.out HO2.out hk
    by_cases hlt : i < min len1 100
    · obtain ⟨xb, xo, rfl, hxb, hxc, hxw⟩ := HCELL.out i (by omega)
      have hx : wr.cell? ⟨xb, xo + i, none⟩ = some (.int .i64 (z1[i]?.getD 0)) := by rw [hO.below.cell (p := ⟨xb, xo + i, none⟩) hxb]; exact hxc
      have t1 : decide ((i : Int) < (len1 : Int)) = true := by simp; omega
      have t1' : (i : Int) < (len1 : Int) := by omega
      have t2 : (i : Int) < 100 := by omega
      have t0 : (0 : Int) ≤ (i : Int) := by omega
      have HB := Lib.hid hB; have HL := Lib.hid hL; have HO := Lib.hid hO; have HBT := Lib.hid hbt
      clear hB hL hO hxc hbt
      generalize z1[i]?.getD 0 = Z at *
      go_wp2_with fail
      refine (place_gen Z 1048576 (by omega) (by omega) hxw _).mono ?_
      rintro e w' ⟨v, v0, v1, rfl, rfl⟩
      obtain ⟨p, hp, hp2⟩ : ∃ p : Nat, v / 256 % 205 = (p : Int) ∧ p < 205 := ⟨(v / 256 % 205).toNat, by omega, by omega⟩
      dsimp only
      by_cases hpk : p < k
      · have dpk : decide ((p : Int) < (k : Int)) = true := by simp; omega
        have tpk : (p : Int) < (k : Int) := by omega
        have hc := hp_SetByte HL.out.hp 0 k (p / 4) (p % 4) HBT.out.1 1 (p : Int) v rfl (by omega) (by omega) (by omega) hk v0 (by omega)
        rw [HX.out] at hc
        have hset := HB.out.set HL.out.hp.wf HN2.out HS2.out hk (p / 4) (p % 4) (by omega) (by omega) v
        rw [show p / 4 * 4 + p % 4 = p by omega] at hset
        have HSET := Lib.hid hset
        clear hset
        generalize ws.set (0 + 3 + p / 4) (setb (p % 4) (ws[0 + 3 + p / 4]?.getD 0) v) = ws2 at *
        go_wp2_with (go_at_call 19; (with_reducible refine hc.mono ?_); rintro e w5 ⟨rfl, hA5, hN5⟩; have hL5 := HL.out.nx hA5 hN5; have HO5 := Lib.hid (HO.out.nx hN5); have cx5 := hL5.cell p (by rw [HB.out.lenL]; omega); have fx5 := hL5.fz p; have HST := Lib.hid (hL5.store p (v % 256)); have HL5 := Lib.hid hL5; clear hA5 hN5 hL5; dsimp only)
        refine ⟨⟨i + 1, ws2, _, by omega, by simp, HSET.out, HST.out, ⟨HO5.out.below.setCell HL5.out.dW _, HO5.out.own⟩⟩, by simp only [intOf]; omega⟩
      · have dpk : decide ((p : Int) < (k : Int)) = false := by simp; omega
        have tpk : ¬ (p : Int) < (k : Int) := by omega
        have hc := hp_SetByte_no HL.out.hp 0 k HBT.out.1 1 (p : Int) v rfl (by omega)
        rw [HX.out] at hc
        go_wp2_with (go_at_call 19; (with_reducible refine hc.mono ?_); rintro e w5 ⟨rfl, rfl⟩; dsimp only)
        refine ⟨⟨i + 1, ws, L, by omega, by simp, HB.out, HL.out, HO.out⟩, by simp only [intOf]; omega⟩
    · have t3 : (decide ((i : Int) < (len1 : Int)) = true ∧ (i : Int) < (len1 : Int) ∧ 100 ≤ (i : Int)) ∨ (decide ((i : Int) < (len1 : Int)) = false ∧ ¬ (i : Int) < (len1 : Int)) := by
        by_cases c : i < len1
        · exact .inl ⟨by simp; omega, by omega, by omega⟩
        · exact .inr ⟨by simp; omega, by omega⟩
      have HB := Lib.hid hB; have HL := Lib.hid hL; have HO := Lib.hid hO; have HBT := Lib.hid hbt
      clear hB hL hO hbt hlt i1
      go_upto_region 11 with fail
      go_cut [55] (fun s55 wx => s55 = .bool false ∧ wr = wx)
      case first =>
        rcases t3 with ⟨t3, t4, t5⟩ | ⟨t3, t4⟩
        all_goals
          go_wp2_with fail
          go_meet
          exact ⟨by first | rfl | (congr 1; simp; omega), rfl⟩
      case rest =>
        obtain ⟨rfl, rfl⟩ := hcut
        clear t3
        go_wp2_with fail
        go_loopw [15] (fun v15 wr' => ∃ j : Nat, j ≤ k ∧ v15 = .int .i64 j ∧ HpL w.heap.size wr' X ws l1 bg1 d L ∧ HOwn w wr' X) (fun v15 wr' => k - (intOf v15).toNat)
        case atStart => exact ⟨0, Nat.zero_le _, rfl, HL.out, HO.out⟩
        case round =>
          clear HL HO
          obtain ⟨j, j1, rfl, hL, hO⟩ := hrel
          by_cases hj : j < k
          · have tj : (j : Int) < (k : Int) := by omega
            have tj2 : (j : Int) < 200 := by omega
            have tj3 : j < 200 := by omega
            have hc := fun q => hp_Byte (hL.drewN q).hp 0 k (j / 4) (j % 4) HBT.out.1 1 (j : Int) rfl (by omega) (by omega) (by omega) hk
            have hbyt := HB.out.bytes (j / 4) (j % 4) (by omega) (by omega)
            rw [show j / 4 * 4 + j % 4 = j by omega] at hbyt
            rw [hbyt, HX.out] at hc
            have cx := hL.cell j (by rw [HB.out.lenL]; omega)
            have HL := Lib.hid hL; have HO := Lib.hid hO
            clear hL hO hbyt
            generalize L[j]?.getD 0 = V at *
            go_upto_region 22 with fail
            go_quiet ((go_at_call 31; first | exact same_quiet (hc _) | exact Calls.quiet_of_same (hc 0)))
            go_wp2_with fail
            refine ⟨⟨j + 1, by omega, by simp, HL.out.drewN _, HO.out.nx (HNx.drewN _ _ _)⟩, by simp only [intOf]; omega⟩
          · obtain rfl : j = k := by omega
            have hA := hL.hp
            have hc1 := hp_Byte_no hA 0 j HBT.out.1 1 (j : Int) rfl (by omega)
            have hc2 := hp_Field_no hA 1 0 (by decide) (.inl HBT.out.2.2)
            have hc3 := hp_SetField_no hA 1 0 5 (by decide) (.inl HBT.out.2.2)
            have hc4 := hp_Hash hA 0 1 rfl HBT.out.1.has (by have := HBG.out.1; have := HN2.out; omega)
            rw [show ws[0 + 2]?.getD 0 = Wd.wi 1 from HB.out.hash, Wd.iof_wi (by omega) (by omega)] at hc4
            have hc5 := hp_Drop hA 0 S 1 rfl HBT.out.1.has HBT.out.2.1 (by have := HBG.out.1; have := HN2.out; omega) (fun i _ _ => HSH.out i)
            rw [HX.out] at hc1 hc2 hc3 hc4 hc5
            have hno : ∀ (u : World) (X' : Hp.HB) (l' : List Bool), HpAt u X' ws l' (bg1.set 0 false) → X'.h = r → Calls Try.prog 15 #[.pointer (some ⟨r, 0, none⟩), .int .i64 1] u fun e w' => e = .returned (.bool false) ∧ u = w' := fun u X' l' hA' hr => by
              have := hp_Drop_no hA' 1 (by decide) (by
                show hasB (bg1.set 0 false) ((0 : Nat) + 1 : Int) = false
                rw [hasB_nat _ 0 (by have := HBG.out.1; have := HN2.out; simp; omega), o_setl (by have := HBG.out.1; have := HN2.out; omega), if_pos rfl])
              rwa [hr] at this
            have HNO := Lib.hid hno; have HO := Lib.hid hO
            clear hA hL hO hno
            go_wp2_with (first
              | (go_at_call 31; (with_reducible refine hc1.mono ?_); rintro e w2 ⟨rfl, rfl⟩; dsimp only)
              | (go_at_call 28; (with_reducible refine hc2.mono ?_); rintro e w2 ⟨rfl, rfl⟩; dsimp only)
              | (go_at_call 17; (with_reducible refine hc3.mono ?_); rintro e w2 ⟨rfl, rfl⟩; dsimp only)
              | (go_at_call 25; (with_reducible refine hc4.mono ?_); rintro e w2 ⟨rfl, rfl⟩; dsimp only))
            refine hc5.mono ?_
            rintro e w5 ⟨rfl, X5, hA5, hN5⟩
            have hc6 := HNO.out w5 X5 _ hA5 (hN5.h.trans HX.out)
            have HO5 := Lib.hid (HO.out.nx hN5)
            clear hA5 hN5 hc5
            dsimp only
            go_wp2_with (first
              | (go_at_call 15; (with_reducible refine hc6.mono ?_); rintro e w2 ⟨rfl, rfl⟩; dsimp only)
              | (go_at_call 8; refine (awake_any _).mono ?_; rintro e w6 ⟨rfl, hb6⟩; dsimp only))
            go_ret
            exact ⟨rfl, HO5.out.below.trans (hb6.mono HO5.out.below.size)⟩

/-! ### THE ROW's STEP: WRITTEN OUT: LEAVE IT -/
set_option maxRecDepth 100000 in
theorem lifted (os : Os) (started : os.Started) (H : Type) (enc : TypeId × Value → H) :
    ReturnsInHanded {} Try.checked os 6 .any (Rows.heapBytesSpec.pre6 enc Try.prog Try.f6 Rows.heapBytesRow.domain false) (Rows.heapBytesSpec.post enc Try.prog Try.f6 false true false false) := by
  refine returnsInHanded_of_change (C := Try.checked) own started (by kernel_rfl) Try.func6
    (ChangeSpec.witness6 (enc := enc) (C := Try.checked) false ⟨#[], #[.int .i64 0, .slice none 0 0], []⟩ 8 (by kernel_rfl) (by kernel_rfl) (by kernel_rfl) (by kernel_rfl)) ?_
  intro W base args ds gs before hval0 hW hcnd _
  have hval : ∀ (j : Nat) t v, Try.f6.params[j]? = some t → args[j]? = some v → Value.okWide Try.prog W .any base t v := hval0
  have hW' := hW
  obtain ⟨p, q, hA0, hV, rfl, hfz, hnd⟩ := hW
  have hA : DataW.TrodAll enc Try.prog W 0 (fun _ => true) true Try.f6.params.toList args.toList ds p := hA0
  rw [Try.params6] at hA hval
  obtain ⟨v0, vs0, d0, ds0, p0, q0, hargs, rfl, rfl, h0, r0⟩ := trodAll_cons hA
  obtain ⟨v1, vs1, d1, ds1, p1, q1, rfl, rfl, rfl, h1, r1⟩ := trodAll_cons r0
  obtain ⟨rfl, rfl, rfl⟩ := trodAll_nil r1
  obtain rfl : args = #[v0, v1] := by cases args; simp_all
  obtain ⟨rfl, rfl⟩ := trodVars_none hV
  obtain ⟨a0, rfl, rfl, rfl, w0⟩ := open_int Try.underlying3 (hval 0 3 v0 rfl rfl) h0
  obtain ⟨a1, len1, cap1, rfl⟩ := okWide_slice Try.underlying49 (hval 1 49 v1 rfl rfl)
  have k1 := h1
  have lt1 : ∀ x ∈ p1, x.block < W.heap.size := by obtain ⟨m, hm⟩ := k1; exact DataW.trod_lt m _ _ _ hm
  obtain ⟨z1, w1⟩ : ∃ zs, IsRow .i64 W a1 len1 cap1 zs := by
    obtain ⟨fuel, hf⟩ := h1
    rcases open_ints Try.underlying49 Try.underlying3 (by kernel_rfl) hf with ⟨hcs, _⟩ | ⟨x, l, c, zs, hcs, _, hl, hm, hz, _, hcell, hwz⟩
    · simp [Value.cells] at hcs
      obtain ⟨rfl, rfl, rfl⟩ := hcs
      exact ⟨[], .inl ⟨rfl, rfl, rfl, rfl⟩⟩
    · simp [Value.cells] at hcs
      obtain ⟨rfl, rfl, rfl⟩ := hcs
      exact ⟨zs, .inr ⟨_, rfl, hl, hm, by simpa using hz, hcell, hwz⟩⟩
  clear hA0 hval0
  refine (walk a0 a1 len1 cap1 z1 W w0 w1).mono fun e W' ⟨he, bel⟩ => ?_
  subst he
  exact ⟨_, rfl, _, _, _, [], _, [], hW', trodAll_mk1 (shut_bool Try.underlying4 _), (trodAll_cons_mk (shut_int Try.underlying3 w0) (trodAll_cons_mk (Below.trod laidOut (by kernel_rfl) (of_decide_eq_true (by kernel_rfl)) k1 bel lt1) trodAll_mk0)), rfl, bel.frame _, fun h => by cases h⟩

theorem over : Rows.heapBytesRow.holds Try.pinned (OpenSpec.ofChange Rows.heapBytesSpec) :=
  OpenClaim.holds_of_wide 6 Try.f6 rfl rfl rfl rfl rfl rfl rfl ⟨rfl, rfl, rfl, rfl, rfl⟩ rfl rfl rfl rfl rfl (by kernel_rfl) Try.func6 (by kernel_rfl)
    (of_decide_eq_true (by kernel_rfl)) (by unfold Func.isWrapper; first | (rw [if_pos (by decide +kernel)]; kernel_rfl) | (rw [if_neg (by decide +kernel)]; exact ⟨rfl, rfl⟩))
    (fun os started H enc _ => lifted os started H enc)

/-- THE STATEMENT -/
theorem proved : Rows.HeapBytesSaid := over
#print axioms proved
end Go.Proofs.Ytljgnmbjidkjnaa.heapBytes
