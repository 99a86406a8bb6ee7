/- What the statements of the frames begin with; a frame without temps: awake. -/
import Derived.Test.YtglilfjkjoogbaaFs2
import Derived.Test.YtglilfjkjoogbaaB4
namespace Go.Proofs.Ytglilfjkjoogbaa.Obj
open Go.Proofs.Ytglilfjkjoogbaa.Gen Go.Proofs.Ytglilfjkjoogbaa.Base Go.ChangeShapes Go.WideShapes Go.ChangeAt Go.RowKit
set_option linter.unusedVariables false
section
variable {w u : World} {b m li q t : Nat} {lv dv : Value} {L : List Th} {M : MS} {l : List Int}
theorem q25 : (25 : Int) = ((25 : Nat) : Int) := rfl
theorem law_Method (h : LB w u b 34 lv L 23) (hL : L.map Th.pl = (List.range 23).map firstT) (temps : Int) :
    Calls Try.prog 7 #[.pointer (some ⟨b, 0, none⟩), .int .i64 0, .int .i64 temps, .int .i64 0, .slice none 0 0, .slice none 0 0] u fun e w' => e = .returned (.int .i64 24) ∧ ∃ a c L', LB w w' b 34 (.slice a L'.length c) L' 25 ∧ L'.map Th.pl = stL 0 temps 0 := by
  have hl : L.length = 23 := by
    have := congrArg List.length hL
    simpa using this
  refine (b_Method h (by omega) (by omega) 0 temps 0).mono ?_
  rintro e w' ⟨rfl, va, vc, t1, t2, hB, h1, h2⟩
  rw [hl] at h2
  refine ⟨by rw [hl]; rfl, va, vc, L ++ [t1, t2], ?_, ?_⟩
  · rw [List.length_append]; exact hB
  · rw [List.map_append, hL, List.map_cons, List.map_cons, List.map_nil, h1, h2]; rfl
theorem law_New {a : Option Addr} {c : Nat} {temps : Int} (h : LB w u b 34 (.slice a L.length c) L 25) (hL : L.map Th.pl = stL 0 temps 0) (hok : okL 25 (stL 0 temps 0) = true) :
    Calls Try.prog 8 #[.agg #[.slice a L.length c, .slice none 0 0, .int .i64 25, .int .i64 0, .int .i64 0, .slice none 0 0, .slice none 0 0, .slice none 0 0, .string ByteArray.empty, .string ByteArray.empty, .int .i64 0, .int .i64 0, .slice none 0 0], .int .i64 5] u fun e w' => ∃ m li lv dv M, e = .returned (.tuple #[.pointer (some ⟨m, 0, none⟩), .int .i64 0]) ∧ Below u.heap.size u w' ∧ New u w' L 25 m li lv dv M :=
  ob_New h.lat (by rw [← okL_pl, hL]; exact hok) (small_of (by rw [hL]; exact small_st temps)) 5
structure Fw (W w : World) (m li : Nat) (lv dv : Value) (M : MS) (q t : Nat) (l : List Int) : Prop where
  fq : Fq w m li lv dv M q t l
  bel : Below W.heap.size W w
  new : ∀ k, ownM m li lv dv M k → W.heap.size ≤ k
theorem nx_Bel {W w w' : World} {P Q : Nat → Prop} (hb : Below W.heap.size W w) (hp : ∀ k, P k → W.heap.size ≤ k) (hN : Nx P w Q w') : Below W.heap.size W w' ∧ ∀ k, Q k → W.heap.size ≤ k :=
  ⟨⟨hN.os.trans hb.os, hN.tape.trans hb.tape, hN.output.trans hb.output, Nat.le_trans hb.size hN.size, fun k hk => (hN.block k (Nat.lt_of_lt_of_le hk hb.size) fun c => by have := hp k c; omega).trans (hb.block k hk)⟩,
   fun k hk => by rcases hN.own k hk with c | c; exact hp k c; have := hb.size; omega⟩
theorem Fw.below {W w w' : World} (h : Fw W w m li lv dv M q t l) (hb : Below w.heap.size w w') : Fw W w' m li lv dv M q t l := ⟨h.fq.below hb, h.bel.trans (hb.mono h.bel.size), h.new⟩
theorem Fw.nx {W w w' : World} {lv' dv' : Value} {M' : MS} {l' : List Int} (h : Fw W w m li lv dv M q t l) (hq : Fq w' m li lv' dv' M' q t l') (hN : Nx (ownM m li lv dv M) w (ownM m li lv' dv' M') w') : Fw W w' m li lv' dv' M' q t l' :=
  have hx := nx_Bel h.bel h.new hN
  ⟨hq, hx.1, hx.2⟩
/-- The first frame of a world. -/
theorem law_Frame {W w0 : World} (h : New w0 w L 25 m li lv dv M) (hL : L.map Th.pl = stL 0 0 0) (ht : t ≤ 8) (hb : Below W.heap.size W w) (hw : W.heap.size ≤ w0.heap.size) :
    Calls Try.prog 10 #[.pointer (some ⟨m, 0, none⟩), .int .i64 0, .int .i64 24, .agg #[.bool false, .int .i64 5], .int .i64 0, .int .i64 0, .int .i64 (t : Int), .slice none 0 0] w fun e w' => e = .returned (.tuple #[.int .i64 25, .bool true]) ∧ ∃ lv' dv' M', Fw W w' m li lv' dv' M' 25 t [] :=
  (fq_New h hL ht).mono fun e w' ⟨he, lv', dv', M', hq, hN⟩ => ⟨he, lv', dv', M', hq, (nx_Bel hb (fun k hk => Nat.le_trans hw (h.new k hk)) hN).1, (nx_Bel hb (fun k hk => Nat.le_trans hw (h.new k hk)) hN).2⟩
theorem law_Frame0 {W w0 : World} (h : New w0 w L 25 m li lv dv M) (hL : L.map Th.pl = stL 0 0 0) (hb : Below W.heap.size W w) (hw : W.heap.size ≤ w0.heap.size) :
    Calls Try.prog 10 #[.pointer (some ⟨m, 0, none⟩), .int .i64 0, .int .i64 24, .agg #[.bool false, .int .i64 5], .int .i64 0, .int .i64 0, .int .i64 0, .slice none 0 0] w fun e w' => e = .returned (.tuple #[.int .i64 25, .bool true]) ∧ ∃ lv' dv' M', Fw W w' m li lv' dv' M' 25 0 [] := law_Frame h hL (t := 0) (by omega) hb hw
set_option maxHeartbeats 4000000 in
set_option maxRecDepth 100000 in
theorem fr_awake (w : World) : Calls Try.prog 16 #[] w fun e w' => e = .returned (.bool true) ∧ Below w.heap.size w w' := by
  have hz := zV
  have HFS := Lib.hid (fs_First w)
  go_enter Try.func16, Try.ntmps16
  go_wp2_with (first
    | (go_at_call 6; (with_reducible refine HFS.out.mono ?_); rintro e u1 ⟨la, lc, L, rfl, hD, hL⟩; have HLB := Lib.hid (LB.of hD 34 23); have HL := Lib.hid hL; clear hD hL; dsimp only)
    | (go_at_call 7; (with_reducible refine (law_Method HLB.out HL.out _).mono ?_); rintro e u2 ⟨rfl, a, c, L', hB, hL'⟩; have HLB2 := Lib.hid hB; have HL2 := Lib.hid hL'; clear hB hL'; dsimp only)
    | (refine wpList_load_row rfl 31 (Operand.tmp 17) (by rfl) u1.heap.size (by rfl) _ _ (0, 0) _ HLB2.out.row Try.underlying31 rfl info13 ?_)
    | (go_at_call 8; (with_reducible refine (law_New HLB2.out HL2.out ok_st0).mono ?_); rintro e u3 ⟨m, li, lv, dv, M, rfl, hb3, hN⟩; have HNW := Lib.hid hN; have HB3 := Lib.hid (HLB2.out.bel.trans (hb3.mono HLB2.out.bel.size)); clear hN hb3; dsimp only)
    | (go_at_call 10; (with_reducible refine (law_Frame0 HNW.out HL2.out HB3.out HLB2.out.bel.size).mono ?_); rintro e u4 ⟨rfl, lv', dv', M', hF⟩; have HF4 := Lib.hid hF; clear hF; dsimp only)
    | (go_at_call 13; (with_reducible refine (fq_Pop_no q25 HF4.out.fq).mono ?_); rintro e u5 ⟨rfl, hb5⟩; have HF5 := Lib.hid ((HF4.out.below hb5).below ((Below.refl _ _).alloc (Nat.le_refl _) (.cells #[.bool false, .int .i64 0] 44))); clear hb5; dsimp only)
    | (refine wpList_store_row rfl 44 (Operand.tmp 7) (Operand.tmp 35) rfl u5.heap.size _ rfl rfl _ _ (heap_alloc_new u5 _) info2 (by rfl) (by simp [Value.oneCell']) ?_; rw [World.setRow_alloc_new])
    | (go_at_call 34; (with_reducible refine (fq_Is q25 HF5.out.fq).mono ?_); rintro e u6 ⟨rfl, hb6⟩; have HF6 := Lib.hid (HF5.out.below hb6); clear hb6; dsimp only)
    | (go_at_call 37; (with_reducible refine (fq_IsMethod HF6.out.fq).mono ?_); rintro e u7 ⟨rfl, hb7⟩; have HF7 := Lib.hid (HF6.out.below hb7); clear hb7; dsimp only)
    | (go_at_call 11; (with_reducible refine (fq_Push q25 HF7.out.fq 7 (by omega) (by decide)).mono ?_); rintro e u8 ⟨rfl, M8, hq8, hN8⟩; have HF8 := Lib.hid (HF7.out.nx hq8 hN8); clear hq8 hN8; dsimp only))
  go_ret
  exact ⟨rfl, HF8.out.bel⟩
end
end Go.Proofs.Ytglilfjkjoogbaa.Obj
