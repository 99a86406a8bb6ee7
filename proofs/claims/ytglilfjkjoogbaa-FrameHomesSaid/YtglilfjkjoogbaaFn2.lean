/- Frames: a new frame, without arguments. -/
import Derived.Test.YtglilfjkjoogbaaFn1
namespace Go.Proofs.Ytglilfjkjoogbaa.Obj
open Go.Proofs.Ytglilfjkjoogbaa.Gen Go.Proofs.Ytglilfjkjoogbaa.Base Go.ChangeShapes Go.WideShapes Go.ChangeAt Go.RowKit
set_option linter.unusedVariables false
theorem info12 : (Try.prog.info? 85).map (·.size) = some 12 := by kernel_rfl
theorem z12 (u : World) : Sem.run Try.prog (zeroValue 85) u = .ok (.agg #[.bool false, .int .i64 0, .bool false, .int .i64 0, .bool false, .int .i64 0, .bool false, .int .i64 0, .bool false, .int .i64 0, .bool false, .int .i64 0]) u := by kernel_rfl
/-- What a new frame begins with. -/
def hdL (sender pc temps method : Int) (self : V) (block : Int) : List V := [(true, sender), (false, pc), (false, temps), (true, method), self, (true, block)]
def hdF (L : List V) (k : Nat) : List V := L.take k ++ nilF (22 - k)
theorem hdF_len {L : List V} (hL : L.length = 6) {k : Nat} (h : k ≤ 6) : (hdF L k).length = 22 := by simp [hdF, nilF_len, hL]; omega
theorem hdF_set {L : List V} (hL : L.length = 6) {k : Nat} (h : k < 6) : (hdF L k).set k (L.getD k (false, 0)) = hdF L (k + 1) := by
  have e : nilF (22 - k) = (true, 0) :: nilF (22 - (k + 1)) := by unfold nilF; rw [show 22 - k = (22 - (k + 1)) + 1 by omega, List.replicate_succ]
  have hkl : k < L.length := by omega
  have e3 : L.take (k + 1) = L.take k ++ [L[k]] := by rw [List.take_add_one, List.getElem?_eq_getElem hkl]; rfl
  have e4 : L.getD k (false, 0) = L[k] := by simp [List.getD, List.getElem?_eq_getElem hkl]
  unfold hdF
  rw [List.set_append_right _ _ (by rw [List.length_take]; omega), show k - (L.take k).length = 0 by rw [List.length_take]; omega, e, List.set_cons_zero, e3, List.append_assoc, e4]
  rfl
theorem ix6_0 (sender pc temps method : Int) (sb : Bool) (sn block : Int) (u : World) : Sem.run Try.prog (Instr.index 85 (.agg #[.bool true, .int .i64 sender, .bool false, .int .i64 pc, .bool false, .int .i64 temps, .bool true, .int .i64 method, .bool sb, .int .i64 sn, .bool true, .int .i64 block]) (.int .i64 0)) u = .ok (.agg #[.bool true, .int .i64 sender]) u := by kernel_rfl
theorem ix6_1 (sender pc temps method : Int) (sb : Bool) (sn block : Int) (u : World) : Sem.run Try.prog (Instr.index 85 (.agg #[.bool true, .int .i64 sender, .bool false, .int .i64 pc, .bool false, .int .i64 temps, .bool true, .int .i64 method, .bool sb, .int .i64 sn, .bool true, .int .i64 block]) (.int .i64 1)) u = .ok (.agg #[.bool false, .int .i64 pc]) u := by kernel_rfl
theorem ix6_2 (sender pc temps method : Int) (sb : Bool) (sn block : Int) (u : World) : Sem.run Try.prog (Instr.index 85 (.agg #[.bool true, .int .i64 sender, .bool false, .int .i64 pc, .bool false, .int .i64 temps, .bool true, .int .i64 method, .bool sb, .int .i64 sn, .bool true, .int .i64 block]) (.int .i64 2)) u = .ok (.agg #[.bool false, .int .i64 temps]) u := by kernel_rfl
theorem ix6_3 (sender pc temps method : Int) (sb : Bool) (sn block : Int) (u : World) : Sem.run Try.prog (Instr.index 85 (.agg #[.bool true, .int .i64 sender, .bool false, .int .i64 pc, .bool false, .int .i64 temps, .bool true, .int .i64 method, .bool sb, .int .i64 sn, .bool true, .int .i64 block]) (.int .i64 3)) u = .ok (.agg #[.bool true, .int .i64 method]) u := by kernel_rfl
theorem ix6_4 (sender pc temps method : Int) (sb : Bool) (sn block : Int) (u : World) : Sem.run Try.prog (Instr.index 85 (.agg #[.bool true, .int .i64 sender, .bool false, .int .i64 pc, .bool false, .int .i64 temps, .bool true, .int .i64 method, .bool sb, .int .i64 sn, .bool true, .int .i64 block]) (.int .i64 4)) u = .ok (.agg #[.bool sb, .int .i64 sn]) u := by kernel_rfl
theorem ix6_5 (sender pc temps method : Int) (sb : Bool) (sn block : Int) (u : World) : Sem.run Try.prog (Instr.index 85 (.agg #[.bool true, .int .i64 sender, .bool false, .int .i64 pc, .bool false, .int .i64 temps, .bool true, .int .i64 method, .bool sb, .int .i64 sn, .bool true, .int .i64 block]) (.int .i64 5)) u = .ok (.agg #[.bool true, .int .i64 block]) u := by kernel_rfl
theorem ix6 (sender pc temps method : Int) (sb : Bool) (sn block : Int) (k : Nat) (h : k < 6) (u : World) : Sem.run Try.prog (Instr.index 85 (.agg #[.bool true, .int .i64 sender, .bool false, .int .i64 pc, .bool false, .int .i64 temps, .bool true, .int .i64 method, .bool sb, .int .i64 sn, .bool true, .int .i64 block]) (.int .i64 (k : Int))) u = .ok (.agg #[.bool ((hdL sender pc temps method (sb, sn) block).getD k (false, 0)).1, .int .i64 ((hdL sender pc temps method (sb, sn) block).getD k (false, 0)).2]) u := by
  have : k = 0 ∨ k = 1 ∨ k = 2 ∨ k = 3 ∨ k = 4 ∨ k = 5 := by omega
  rcases this with rfl | rfl | rfl | rfl | rfl | rfl
  · exact ix6_0 ..
  · exact ix6_1 ..
  · exact ix6_2 ..
  · exact ix6_3 ..
  · exact ix6_4 ..
  · exact ix6_5 ..
section
variable {w u u' : World} {m li : Nat} {lv dv fv : Value} {M : MS} {sb : Bool} {sn sender pc temps method block : Int} {b : Nat}
structure Hs (w u : World) (sb : Bool) (sn : Int) : Prop where
  bel : Below w.heap.size w u
  box : u.heap[w.heap.size]? = some (.cells #[.bool sb, .int .i64 sn] 44 (0, 0))
structure Hd (w u : World) (sb : Bool) (sn : Int) (b : Nat) (cs : Array Value) : Prop where
  bel : Below w.heap.size w u
  box : u.heap[w.heap.size]? = some (.cells #[.bool sb, .int .i64 sn] 44 (0, 0))
  row : u.heap[b]? = some (.cells cs 85 (0, 0))
  lt : w.heap.size < b
theorem Hs.more (h : Hs w u sb sn) (hb : Below u.heap.size u u') : Hs w u' sb sn := ⟨h.bel.trans (hb.mono h.bel.size), (hb.block _ (Array.getElem?_eq_some_iff.1 h.box).1).trans h.box⟩
theorem Hs.cells (h : Hs w u sb sn) : u.cell? ⟨w.heap.size, 0, none⟩ = some (.bool sb) ∧ u.cell? ⟨w.heap.size, 1, none⟩ = some (.int .i64 sn) := ⟨by rw [cell_row _ _ _ _ _ _ h.box]; rfl, by rw [cell_row _ _ _ _ _ _ h.box]; rfl⟩
theorem Hs.al (h : Hs w u sb sn) : Hd w (u.alloc (.cells #[.bool false, .int .i64 0, .bool false, .int .i64 0, .bool false, .int .i64 0, .bool false, .int .i64 0, .bool false, .int .i64 0, .bool false, .int .i64 0] 85)) sb sn u.heap.size #[.bool false, .int .i64 0, .bool false, .int .i64 0, .bool false, .int .i64 0, .bool false, .int .i64 0, .bool false, .int .i64 0, .bool false, .int .i64 0] :=
  ⟨h.bel.alloc h.bel.size _, (heap_alloc_old _ _ (Array.getElem?_eq_some_iff.1 h.box).1).trans h.box, heap_alloc_new _ _, (Array.getElem?_eq_some_iff.1 h.box).1⟩
theorem Hs.al2 (h : Hs w u sb sn) (hb : b = u.heap.size) : Hd w (u.alloc (.cells #[.bool false, .int .i64 0, .bool false, .int .i64 0, .bool false, .int .i64 0, .bool false, .int .i64 0, .bool false, .int .i64 0, .bool false, .int .i64 0] 85)) sb sn b #[.bool false, .int .i64 0, .bool false, .int .i64 0, .bool false, .int .i64 0, .bool false, .int .i64 0, .bool false, .int .i64 0, .bool false, .int .i64 0] := hb ▸ h.al
theorem Hd.more {cs : Array Value} (h : Hd w u sb sn b cs) (hb : Below u.heap.size u u') : Hd w u' sb sn b cs :=
  ⟨h.bel.trans (hb.mono h.bel.size), (hb.block _ (Array.getElem?_eq_some_iff.1 h.box).1).trans h.box, (hb.block _ (Array.getElem?_eq_some_iff.1 h.row).1).trans h.row, h.lt⟩
theorem Hd.cells {cs : Array Value} (h : Hd w u sb sn b cs) : u.cell? ⟨w.heap.size, 0, none⟩ = some (.bool sb) ∧ u.cell? ⟨w.heap.size, 1, none⟩ = some (.int .i64 sn) := ⟨by rw [cell_row _ _ _ _ _ _ h.box]; rfl, by rw [cell_row _ _ _ _ _ _ h.box]; rfl⟩
theorem Hd.put {cs : Array Value} (h : Hd w u sb sn b cs) : Hd w (u.setRow b #[.bool true, .int .i64 sender, .bool false, .int .i64 pc, .bool false, .int .i64 temps, .bool true, .int .i64 method, .bool sb, .int .i64 sn, .bool true, .int .i64 block]) sb sn b #[.bool true, .int .i64 sender, .bool false, .int .i64 pc, .bool false, .int .i64 temps, .bool true, .int .i64 method, .bool sb, .int .i64 sn, .bool true, .int .i64 block] :=
  ⟨below_setRow h.bel (Nat.le_of_lt h.lt) _, (setRow_other u b _ _ (by have := h.lt; omega)).trans h.box, setRow_heap _ _ _ _ _ _ h.row, h.lt⟩
set_option maxHeartbeats 4000000 in
set_option maxRecDepth 100000 in
theorem fr_New (h : MemAt w m li lv dv M) (hc : M.isClass 12 = true) (hs : M.shape 12 = (22, 1)) (ht : 0 ≤ temps ∧ temps ≤ 8) (hmay : ∀ k, k < 6 → M.may ((hdL sender pc temps method (sb, sn) block).getD k (false, 0)) = true) (hlast : 0 ≤ M.last ∧ M.last < 3000) (hlen : M.bs.length ≤ 3000) :
    Calls Try.prog 10 #[.pointer (some ⟨m, 0, none⟩), .int .i64 sender, .int .i64 method, .agg #[.bool sb, .int .i64 sn], .int .i64 block, .int .i64 pc, .int .i64 temps, .slice none 0 0] w fun e w' => e = .returned (.tuple #[.int .i64 (M.bs.length : Int), .bool true]) ∧ ∃ lv' dv' fv, MemAt w' m li lv' dv' (M.mkF 12 1 (hdF (hdL sender pc temps method (sb, sn) block) 6) fv) ∧ Nx (ownM m li lv dv M) w (ownM m li lv' dv' (M.mkF 12 1 (hdF (hdL sender pc temps method (sb, sn) block) 6) fv)) w' := by
  have hz := zV
  have hz12 := z12
  have b1 : ¬ temps < 0 := by omega
  have b2 : ¬ 8 < temps := by omega
  have HM := Lib.hid h
  have HMAY := Lib.hid hmay
  have hl := h.len
  have HFM : Hid (∀ u, Below w.heap.size w u → Calls Try.prog 33 #[.pointer (some ⟨m, 0, none⟩), .int .i64 12, .int .i64 22] u fun e w' => e = .returned (.tuple #[.int .i64 (M.bs.length : Int), .bool true]) ∧ ∃ lv' dv' fv, MemAt w' m li lv' dv' (M.mkF 12 1 (nilF 22) fv) ∧ Nx (ownM m li lv dv M) u (ownM m li lv' dv' (M.mkF 12 1 (nilF 22) fv)) w') := Lib.hid fun u hb => by
    have := fr_Make (h.below hb) hc hs (k := 22) (by omega) (by omega) (by omega) hlast hlen
    rw [hl] at this
    exact this
  have HST : Hid (∀ (lv' dv' fv : Value) (k : Nat), k < 6 → ∀ u, MemAt u m li lv' dv' (M.mkF 12 1 (hdF (hdL sender pc temps method (sb, sn) block) k) fv) → Calls Try.prog 20 #[.pointer (some ⟨m, 0, none⟩), .int .i64 (M.bs.length : Int), .int .i64 (k : Int), .agg #[.bool ((hdL sender pc temps method (sb, sn) block).getD k (false, 0)).1, .int .i64 ((hdL sender pc temps method (sb, sn) block).getD k (false, 0)).2]] u fun e w' => e = .returned (.bool true) ∧ MemAt w' m li lv' dv' (M.mkF 12 1 (hdF (hdL sender pc temps method (sb, sn) block) (k + 1)) fv) ∧ Nx (ownM m li lv' dv' (M.mkF 12 1 (hdF (hdL sender pc temps method (sb, sn) block) k) fv)) u (ownM m li lv' dv' (M.mkF 12 1 (hdF (hdL sender pc temps method (sb, sn) block) (k + 1)) fv)) w') := Lib.hid fun lv' dv' fv k hk u hu => by
    have h3 : (elV (hdF (hdL sender pc temps method (sb, sn) block) k) 3).1 = true := by
      have : k = 0 ∨ k = 1 ∨ k = 2 ∨ k = 3 ∨ k = 4 ∨ k = 5 := by omega
      rcases this with rfl | rfl | rfl | rfl | rfl | rfl <;> rfl
    have hse := hdF_set (L := hdL sender pc temps method (sb, sn) block) rfl hk
    have hmk := hmay k hk
    generalize (hdL sender pc temps method (sb, sn) block).getD k (false, 0) = p at *
    obtain ⟨pb, pn⟩ := p
    have := me_Set_yes hu M.bs.length k _ pb pn (mkF_at M) (by rw [hdF_len rfl (by omega)]; omega) (mkF_has M hl) (mkF_may M hmk) (mkF_noclass M hl h3 _ _)
    rw [mkF_put, Int.toNat_natCast, hse] at this
    exact this
  have hX : Below w.heap.size w (w.alloc (.cells #[.bool sb, .int .i64 sn] 44)) := (Below.refl _ _).alloc (Nat.le_refl _) _
  have HS : Hid (Hs w (w.alloc (.cells #[.bool sb, .int .i64 sn] 44)).drew sb sn) := Lib.hid ⟨below_drew hX, heap_alloc_new w _⟩
  clear h hc hs hmay hX
  go_enter Try.func10, Try.ntmps10
  go_upto_region 3 with fail
  go_cut [18] (fun s18 wx => ∃ b, s18 = .pointer (some ⟨b, 0, none⟩) ∧ Hd w wx sb sn b #[.bool true, .int .i64 sender, .bool false, .int .i64 pc, .bool false, .int .i64 temps, .bool true, .int .i64 method, .bool sb, .int .i64 sn, .bool true, .int .i64 block])
  case first =>
    refine wp_region_held_drew (S := (fun w' => w'.cell? ⟨w.heap.size, 0, none⟩ = some (.bool sb) ∧ w'.cell? ⟨w.heap.size, 1, none⟩ = some (.int .i64 sn))) (by kernel_rfl) ?_ (fun hH0 => ?_)
    · (try dsimp only); exact HS.out.cells
    refine wpAnyH_take (i := 0) (oi := { dst := some 41, op := Op.move (Operand.tmp 1), type := 3, pos := "frame.go:107", after := #[], guard := none }) (v := ?v1) rfl (by kernel_rfl) (by kernel_rfl) (by kernel_rfl) (fun _ _ _ h => h) (Or.inl ⟨by rfl, ?hy1⟩) (by assumption) ?_
    case hy1 => intro w hSw; (try dsimp only at hSw); go_simp; (try with_reducible rfl)
    try simp only [Act.put, List.setIfInBounds_toArray, List.set_cons_zero, List.set_cons_succ]
    refine wpAnyH_take (i := 2) (oi := { dst := some 43, op := Op.move (Operand.tmp 5), type := 3, pos := "frame.go:107", after := #[], guard := none }) (v := ?v2) rfl (by kernel_rfl) (by kernel_rfl) (by kernel_rfl) (fun _ _ _ h => h) (Or.inl ⟨by rfl, ?hy2⟩) (by assumption) ?_
    case hy2 => intro w hSw; (try dsimp only at hSw); go_simp; (try with_reducible rfl)
    try simp only [Act.put, List.setIfInBounds_toArray, List.set_cons_zero, List.set_cons_succ]
    refine wpAnyH_take (i := 3) (oi := { dst := some 44, op := Op.build 44 #[(1, Operand.tmp 43)], type := 44, pos := "frame.go:107", after := #[{ on := 2, ground := Ground.data }], guard := none }) (v := ?v3) rfl (by kernel_rfl) (by kernel_rfl) (by kernel_rfl) (fun _ _ _ h => h) (Or.inl ⟨by rfl, ?hy3⟩) (by assumption) ?_
    case hy3 => intro w hSw; (try dsimp only at hSw); go_simp; (try with_reducible rfl)
    try simp only [Act.put, List.setIfInBounds_toArray, List.set_cons_zero, List.set_cons_succ]
    refine wpAnyH_take (i := 4) (oi := { dst := some 45, op := Op.move (Operand.tmp 6), type := 3, pos := "frame.go:107", after := #[], guard := none }) (v := ?v4) rfl (by kernel_rfl) (by kernel_rfl) (by kernel_rfl) (fun _ _ _ h => h) (Or.inl ⟨by rfl, ?hy4⟩) (by assumption) ?_
    case hy4 => intro w hSw; (try dsimp only at hSw); go_simp; (try with_reducible rfl)
    try simp only [Act.put, List.setIfInBounds_toArray, List.set_cons_zero, List.set_cons_succ]
    refine wpAnyH_take (i := 5) (oi := { dst := some 46, op := Op.build 44 #[(1, Operand.tmp 45)], type := 44, pos := "frame.go:107", after := #[{ on := 4, ground := Ground.data }], guard := none }) (v := ?v5) rfl (by kernel_rfl) (by kernel_rfl) (by kernel_rfl) (fun _ _ _ h => h) (Or.inl ⟨by rfl, ?hy5⟩) (by assumption) ?_
    case hy5 => intro w hSw; (try dsimp only at hSw); go_simp; (try with_reducible rfl)
    try simp only [Act.put, List.setIfInBounds_toArray, List.set_cons_zero, List.set_cons_succ]
    refine wpAnyH_take (i := 6) (oi := { dst := some 47, op := Op.move (Operand.tmp 2), type := 3, pos := "frame.go:107", after := #[], guard := none }) (v := ?v6) rfl (by kernel_rfl) (by kernel_rfl) (by kernel_rfl) (fun _ _ _ h => h) (Or.inl ⟨by rfl, ?hy6⟩) (by assumption) ?_
    case hy6 => intro w hSw; (try dsimp only at hSw); go_simp; (try with_reducible rfl)
    try simp only [Act.put, List.setIfInBounds_toArray, List.set_cons_zero, List.set_cons_succ]
    refine wpAnyH_take (i := 8) (oi := { dst := some 49, op := Op.load 44 (Operand.tmp 11), type := 44, pos := "frame.go:107", after := #[], guard := none }) (v := ?v7) rfl (by kernel_rfl) (by kernel_rfl) (by kernel_rfl) (fun _ _ _ h => h) (Or.inl ⟨by rfl, ?hy7⟩) (by assumption) ?_
    case hy7 => intro w hSw; (try dsimp only at hSw); go_simp; (try with_reducible rfl)
    try simp only [Act.put, List.setIfInBounds_toArray, List.set_cons_zero, List.set_cons_succ]
    refine wpAnyH_take (i := 9) (oi := { dst := some 50, op := Op.move (Operand.tmp 4), type := 3, pos := "frame.go:107", after := #[], guard := none }) (v := ?v8) rfl (by kernel_rfl) (by kernel_rfl) (by kernel_rfl) (fun _ _ _ h => h) (Or.inl ⟨by rfl, ?hy8⟩) (by assumption) ?_
    case hy8 => intro w hSw; (try dsimp only at hSw); go_simp; (try with_reducible rfl)
    try simp only [Act.put, List.setIfInBounds_toArray, List.set_cons_zero, List.set_cons_succ]
    refine wpAnyH_ready (rs := [1, 12]) (by kernel_rfl) (by simp) ?_
    refine (AllReadyH.cons (o := { dst := some 42, op := Op.call { callee := Callee.value (Operand.func 31), args := #[Operand.tmp 41], argTypes := #[3] }, type := 44, pos := "frame.go:107", after := #[{ on := 0, ground := Ground.data }], guard := none }) rfl (fun K hK => ?_) (AllReadyH.cons (o := { dst := some 18, op := Op.alloc 85, type := 0, pos := "frame.go:107", after := #[], guard := none }) rfl (fun K hK => ?_) AllReadyH.nil))
    · go_simp; go_at_call 31; (with_reducible refine (fr_thing _ _).mono ?_); rintro e ux ⟨rfl, hbx⟩
      first | (have HD := Lib.hid (HD.out.more hbx)) | (have HS := Lib.hid (HS.out.more hbx))
      clear hbx
      dsimp only
      refine hK.out _ _ ?_ (fun hH1 => ?_)
      · (try dsimp only); (first | exact HE.out.cells | exact HD.out.cells | exact HS.out.cells)
      clear hK K
      clear hH0
      try simp only [Act.put, List.setIfInBounds_toArray, List.set_cons_zero, List.set_cons_succ]
      refine wpAnyH_ready (rs := [7, 12]) (by kernel_rfl) (by simp) ?_
      refine (AllReadyH.cons (o := { dst := some 48, op := Op.call { callee := Callee.value (Operand.func 31), args := #[Operand.tmp 47], argTypes := #[3] }, type := 44, pos := "frame.go:107", after := #[{ on := 6, ground := Ground.data }, { on := 1, ground := Ground.chain }], guard := none }) rfl (fun K hK => ?_) (AllReadyH.cons (o := { dst := some 18, op := Op.alloc 85, type := 0, pos := "frame.go:107", after := #[], guard := none }) rfl (fun K hK => ?_) AllReadyH.nil))
      · go_simp; go_at_call 31; (with_reducible refine (fr_thing _ _).mono ?_); rintro e ux ⟨rfl, hbx⟩
        first | (have HD := Lib.hid (HD.out.more hbx)) | (have HS := Lib.hid (HS.out.more hbx))
        clear hbx
        dsimp only
        refine hK.out _ _ ?_ (fun hH2 => ?_)
        · (try dsimp only); (first | exact HE.out.cells | exact HD.out.cells | exact HS.out.cells)
        clear hK K
        clear hH1
        try simp only [Act.put, List.setIfInBounds_toArray, List.set_cons_zero, List.set_cons_succ]
        refine wpAnyH_ready (rs := [10, 12]) (by kernel_rfl) (by simp) ?_
        refine (AllReadyH.cons (o := { dst := some 51, op := Op.call { callee := Callee.value (Operand.func 31), args := #[Operand.tmp 50], argTypes := #[3] }, type := 44, pos := "frame.go:107", after := #[{ on := 9, ground := Ground.data }, { on := 7, ground := Ground.chain }], guard := none }) rfl (fun K hK => ?_) (AllReadyH.cons (o := { dst := some 18, op := Op.alloc 85, type := 0, pos := "frame.go:107", after := #[], guard := none }) rfl (fun K hK => ?_) AllReadyH.nil))
        · go_simp; go_at_call 31; (with_reducible refine (fr_thing _ _).mono ?_); rintro e ux ⟨rfl, hbx⟩
          first | (have HD := Lib.hid (HD.out.more hbx)) | (have HS := Lib.hid (HS.out.more hbx))
          clear hbx
          dsimp only
          refine hK.out _ _ ?_ (fun hH3 => ?_)
          · (try dsimp only); (first | exact HE.out.cells | exact HD.out.cells | exact HS.out.cells)
          clear hK K
          clear hH2
          try simp only [Act.put, List.setIfInBounds_toArray, List.set_cons_zero, List.set_cons_succ]
          refine wpAnyH_take (i := 11) (oi := { dst := some 52, op := Op.build 85 #[(0, Operand.tmp 42), (1, Operand.tmp 44), (2, Operand.tmp 46), (3, Operand.tmp 48), (4, Operand.tmp 49), (5, Operand.tmp 51)], type := 85, pos := "frame.go:107", after := #[{ on := 1, ground := Ground.data }, { on := 3, ground := Ground.data }, { on := 5, ground := Ground.data }, { on := 7, ground := Ground.data }, { on := 8, ground := Ground.data }, { on := 10, ground := Ground.data }], guard := none }) (v := ?v9) rfl (by kernel_rfl) (by kernel_rfl) (by kernel_rfl) (fun _ _ _ h => h) (Or.inl ⟨by rfl, ?hy9⟩) (by assumption) ?_
          case hy9 => intro w hSw; (try dsimp only at hSw); go_simp; (try with_reducible rfl)
          try simp only [Act.put, List.setIfInBounds_toArray, List.set_cons_zero, List.set_cons_succ]
          refine wpAnyH_ready (rs := [12]) (by kernel_rfl) (by simp) ?_
          refine (AllReadyH.cons (o := { dst := some 18, op := Op.alloc 85, type := 0, pos := "frame.go:107", after := #[], guard := none }) rfl (fun K hK => ?_) AllReadyH.nil)
          go_simp
          first | (have HD := Lib.hid (HS.out.al2 (b := w.heap.size + 1) (by simp))) | (have HD := Lib.hid (HS.out.al))
          refine hK.out _ _ ?_ (fun hH4 => ?_)
          · (try dsimp only); (first | exact HE.out.cells | exact HD.out.cells | exact HS.out.cells)
          clear hK K
          clear hH3
          try simp only [Act.put, List.setIfInBounds_toArray, List.set_cons_zero, List.set_cons_succ]
          refine wpAnyH_ready (rs := [13]) (by kernel_rfl) (by simp) ?_
          refine (AllReadyH.cons (o := { dst := none, op := Op.store 85 (Operand.tmp 18) (Operand.tmp 52), type := 0, pos := "frame.go:107", after := #[{ on := 12, ground := Ground.data }, { on := 11, ground := Ground.data }, { on := 10, ground := Ground.chain }, { on := 0, ground := Ground.phase }, { on := 1, ground := Ground.phase }, { on := 2, ground := Ground.phase }, { on := 3, ground := Ground.phase }, { on := 4, ground := Ground.phase }, { on := 5, ground := Ground.phase }, { on := 6, ground := Ground.phase }, { on := 7, ground := Ground.phase }, { on := 8, ground := Ground.phase }, { on := 9, ground := Ground.phase }, { on := 10, ground := Ground.phase }, { on := 11, ground := Ground.phase }, { on := 12, ground := Ground.phase }], guard := none }) rfl (fun K hK => ?_) AllReadyH.nil)
          rw [if_pos (by rfl)]; refine wp_store_row 85 (.tmp 18) (.tmp 52) (by rfl) _ #[.bool true, .int .i64 sender, .bool false, .int .i64 pc, .bool false, .int .i64 temps, .bool true, .int .i64 method, .bool sb, .int .i64 sn, .bool true, .int .i64 block] (by rfl) (by rfl) _ _ HD.out.row info12 (by rfl) (by simp [Value.oneCell']) ?_
          have HE := Lib.hid (HD.out.put (sender := sender) (pc := pc) (temps := temps) (method := method) (block := block))
          refine hK.out _ _ ?_ (fun hH5 => ?_)
          · (try dsimp only); (first | exact HE.out.cells | exact HD.out.cells | exact HS.out.cells)
          clear hK K
          clear hH4
          try simp only [Act.put, List.setIfInBounds_toArray, List.set_cons_zero, List.set_cons_succ]
          refine wpAnyH_done (by kernel_rfl) ?_ _
          go_wp2_with fail
          go_meet
          exact ⟨_, rfl, HE.out⟩
        · go_simp
          first | (have HD := Lib.hid (HS.out.al2 (b := w.heap.size + 1) (by simp))) | (have HD := Lib.hid (HS.out.al))
          refine hK.out _ _ ?_ (fun hH3 => ?_)
          · (try dsimp only); (first | exact HE.out.cells | exact HD.out.cells | exact HS.out.cells)
          clear hK K
          clear hH2
          try simp only [Act.put, List.setIfInBounds_toArray, List.set_cons_zero, List.set_cons_succ]
          refine wpAnyH_ready (rs := [10]) (by kernel_rfl) (by simp) ?_
          refine (AllReadyH.cons (o := { dst := some 51, op := Op.call { callee := Callee.value (Operand.func 31), args := #[Operand.tmp 50], argTypes := #[3] }, type := 44, pos := "frame.go:107", after := #[{ on := 9, ground := Ground.data }, { on := 7, ground := Ground.chain }], guard := none }) rfl (fun K hK => ?_) AllReadyH.nil)
          go_simp; go_at_call 31; (with_reducible refine (fr_thing _ _).mono ?_); rintro e ux ⟨rfl, hbx⟩
          first | (have HD := Lib.hid (HD.out.more hbx)) | (have HS := Lib.hid (HS.out.more hbx))
          clear hbx
          dsimp only
          refine hK.out _ _ ?_ (fun hH4 => ?_)
          · (try dsimp only); (first | exact HE.out.cells | exact HD.out.cells | exact HS.out.cells)
          clear hK K
          clear hH3
          try simp only [Act.put, List.setIfInBounds_toArray, List.set_cons_zero, List.set_cons_succ]
          refine wpAnyH_take (i := 11) (oi := { dst := some 52, op := Op.build 85 #[(0, Operand.tmp 42), (1, Operand.tmp 44), (2, Operand.tmp 46), (3, Operand.tmp 48), (4, Operand.tmp 49), (5, Operand.tmp 51)], type := 85, pos := "frame.go:107", after := #[{ on := 1, ground := Ground.data }, { on := 3, ground := Ground.data }, { on := 5, ground := Ground.data }, { on := 7, ground := Ground.data }, { on := 8, ground := Ground.data }, { on := 10, ground := Ground.data }], guard := none }) (v := ?v10) rfl (by kernel_rfl) (by kernel_rfl) (by kernel_rfl) (fun _ _ _ h => h) (Or.inl ⟨by rfl, ?hy10⟩) (by assumption) ?_
          case hy10 => intro w hSw; (try dsimp only at hSw); go_simp; (try with_reducible rfl)
          try simp only [Act.put, List.setIfInBounds_toArray, List.set_cons_zero, List.set_cons_succ]
          refine wpAnyH_ready (rs := [13]) (by kernel_rfl) (by simp) ?_
          refine (AllReadyH.cons (o := { dst := none, op := Op.store 85 (Operand.tmp 18) (Operand.tmp 52), type := 0, pos := "frame.go:107", after := #[{ on := 12, ground := Ground.data }, { on := 11, ground := Ground.data }, { on := 10, ground := Ground.chain }, { on := 0, ground := Ground.phase }, { on := 1, ground := Ground.phase }, { on := 2, ground := Ground.phase }, { on := 3, ground := Ground.phase }, { on := 4, ground := Ground.phase }, { on := 5, ground := Ground.phase }, { on := 6, ground := Ground.phase }, { on := 7, ground := Ground.phase }, { on := 8, ground := Ground.phase }, { on := 9, ground := Ground.phase }, { on := 10, ground := Ground.phase }, { on := 11, ground := Ground.phase }, { on := 12, ground := Ground.phase }], guard := none }) rfl (fun K hK => ?_) AllReadyH.nil)
          rw [if_pos (by rfl)]; refine wp_store_row 85 (.tmp 18) (.tmp 52) (by rfl) _ #[.bool true, .int .i64 sender, .bool false, .int .i64 pc, .bool false, .int .i64 temps, .bool true, .int .i64 method, .bool sb, .int .i64 sn, .bool true, .int .i64 block] (by rfl) (by rfl) _ _ HD.out.row info12 (by rfl) (by simp [Value.oneCell']) ?_
          have HE := Lib.hid (HD.out.put (sender := sender) (pc := pc) (temps := temps) (method := method) (block := block))
          refine hK.out _ _ ?_ (fun hH5 => ?_)
          · (try dsimp only); (first | exact HE.out.cells | exact HD.out.cells | exact HS.out.cells)
          clear hK K
          clear hH4
          try simp only [Act.put, List.setIfInBounds_toArray, List.set_cons_zero, List.set_cons_succ]
          refine wpAnyH_done (by kernel_rfl) ?_ _
          go_wp2_with fail
          go_meet
          exact ⟨_, rfl, HE.out⟩
      · go_simp
        first | (have HD := Lib.hid (HS.out.al2 (b := w.heap.size + 1) (by simp))) | (have HD := Lib.hid (HS.out.al))
        refine hK.out _ _ ?_ (fun hH2 => ?_)
        · (try dsimp only); (first | exact HE.out.cells | exact HD.out.cells | exact HS.out.cells)
        clear hK K
        clear hH1
        try simp only [Act.put, List.setIfInBounds_toArray, List.set_cons_zero, List.set_cons_succ]
        refine wpAnyH_ready (rs := [7]) (by kernel_rfl) (by simp) ?_
        refine (AllReadyH.cons (o := { dst := some 48, op := Op.call { callee := Callee.value (Operand.func 31), args := #[Operand.tmp 47], argTypes := #[3] }, type := 44, pos := "frame.go:107", after := #[{ on := 6, ground := Ground.data }, { on := 1, ground := Ground.chain }], guard := none }) rfl (fun K hK => ?_) AllReadyH.nil)
        go_simp; go_at_call 31; (with_reducible refine (fr_thing _ _).mono ?_); rintro e ux ⟨rfl, hbx⟩
        first | (have HD := Lib.hid (HD.out.more hbx)) | (have HS := Lib.hid (HS.out.more hbx))
        clear hbx
        dsimp only
        refine hK.out _ _ ?_ (fun hH3 => ?_)
        · (try dsimp only); (first | exact HE.out.cells | exact HD.out.cells | exact HS.out.cells)
        clear hK K
        clear hH2
        try simp only [Act.put, List.setIfInBounds_toArray, List.set_cons_zero, List.set_cons_succ]
        refine wpAnyH_ready (rs := [10]) (by kernel_rfl) (by simp) ?_
        refine (AllReadyH.cons (o := { dst := some 51, op := Op.call { callee := Callee.value (Operand.func 31), args := #[Operand.tmp 50], argTypes := #[3] }, type := 44, pos := "frame.go:107", after := #[{ on := 9, ground := Ground.data }, { on := 7, ground := Ground.chain }], guard := none }) rfl (fun K hK => ?_) AllReadyH.nil)
        go_simp; go_at_call 31; (with_reducible refine (fr_thing _ _).mono ?_); rintro e ux ⟨rfl, hbx⟩
        first | (have HD := Lib.hid (HD.out.more hbx)) | (have HS := Lib.hid (HS.out.more hbx))
        clear hbx
        dsimp only
        refine hK.out _ _ ?_ (fun hH4 => ?_)
        · (try dsimp only); (first | exact HE.out.cells | exact HD.out.cells | exact HS.out.cells)
        clear hK K
        clear hH3
        try simp only [Act.put, List.setIfInBounds_toArray, List.set_cons_zero, List.set_cons_succ]
        refine wpAnyH_take (i := 11) (oi := { dst := some 52, op := Op.build 85 #[(0, Operand.tmp 42), (1, Operand.tmp 44), (2, Operand.tmp 46), (3, Operand.tmp 48), (4, Operand.tmp 49), (5, Operand.tmp 51)], type := 85, pos := "frame.go:107", after := #[{ on := 1, ground := Ground.data }, { on := 3, ground := Ground.data }, { on := 5, ground := Ground.data }, { on := 7, ground := Ground.data }, { on := 8, ground := Ground.data }, { on := 10, ground := Ground.data }], guard := none }) (v := ?v11) rfl (by kernel_rfl) (by kernel_rfl) (by kernel_rfl) (fun _ _ _ h => h) (Or.inl ⟨by rfl, ?hy11⟩) (by assumption) ?_
        case hy11 => intro w hSw; (try dsimp only at hSw); go_simp; (try with_reducible rfl)
        try simp only [Act.put, List.setIfInBounds_toArray, List.set_cons_zero, List.set_cons_succ]
        refine wpAnyH_ready (rs := [13]) (by kernel_rfl) (by simp) ?_
        refine (AllReadyH.cons (o := { dst := none, op := Op.store 85 (Operand.tmp 18) (Operand.tmp 52), type := 0, pos := "frame.go:107", after := #[{ on := 12, ground := Ground.data }, { on := 11, ground := Ground.data }, { on := 10, ground := Ground.chain }, { on := 0, ground := Ground.phase }, { on := 1, ground := Ground.phase }, { on := 2, ground := Ground.phase }, { on := 3, ground := Ground.phase }, { on := 4, ground := Ground.phase }, { on := 5, ground := Ground.phase }, { on := 6, ground := Ground.phase }, { on := 7, ground := Ground.phase }, { on := 8, ground := Ground.phase }, { on := 9, ground := Ground.phase }, { on := 10, ground := Ground.phase }, { on := 11, ground := Ground.phase }, { on := 12, ground := Ground.phase }], guard := none }) rfl (fun K hK => ?_) AllReadyH.nil)
        rw [if_pos (by rfl)]; refine wp_store_row 85 (.tmp 18) (.tmp 52) (by rfl) _ #[.bool true, .int .i64 sender, .bool false, .int .i64 pc, .bool false, .int .i64 temps, .bool true, .int .i64 method, .bool sb, .int .i64 sn, .bool true, .int .i64 block] (by rfl) (by rfl) _ _ HD.out.row info12 (by rfl) (by simp [Value.oneCell']) ?_
        have HE := Lib.hid (HD.out.put (sender := sender) (pc := pc) (temps := temps) (method := method) (block := block))
        refine hK.out _ _ ?_ (fun hH5 => ?_)
        · (try dsimp only); (first | exact HE.out.cells | exact HD.out.cells | exact HS.out.cells)
        clear hK K
        clear hH4
        try simp only [Act.put, List.setIfInBounds_toArray, List.set_cons_zero, List.set_cons_succ]
        refine wpAnyH_done (by kernel_rfl) ?_ _
        go_wp2_with fail
        go_meet
        exact ⟨_, rfl, HE.out⟩
    · go_simp
      first | (have HD := Lib.hid (HS.out.al2 (b := w.heap.size + 1) (by simp))) | (have HD := Lib.hid (HS.out.al))
      refine hK.out _ _ ?_ (fun hH1 => ?_)
      · (try dsimp only); (first | exact HE.out.cells | exact HD.out.cells | exact HS.out.cells)
      clear hK K
      clear hH0
      try simp only [Act.put, List.setIfInBounds_toArray, List.set_cons_zero, List.set_cons_succ]
      refine wpAnyH_ready (rs := [1]) (by kernel_rfl) (by simp) ?_
      refine (AllReadyH.cons (o := { dst := some 42, op := Op.call { callee := Callee.value (Operand.func 31), args := #[Operand.tmp 41], argTypes := #[3] }, type := 44, pos := "frame.go:107", after := #[{ on := 0, ground := Ground.data }], guard := none }) rfl (fun K hK => ?_) AllReadyH.nil)
      go_simp; go_at_call 31; (with_reducible refine (fr_thing _ _).mono ?_); rintro e ux ⟨rfl, hbx⟩
      first | (have HD := Lib.hid (HD.out.more hbx)) | (have HS := Lib.hid (HS.out.more hbx))
      clear hbx
      dsimp only
      refine hK.out _ _ ?_ (fun hH2 => ?_)
      · (try dsimp only); (first | exact HE.out.cells | exact HD.out.cells | exact HS.out.cells)
      clear hK K
      clear hH1
      try simp only [Act.put, List.setIfInBounds_toArray, List.set_cons_zero, List.set_cons_succ]
      refine wpAnyH_ready (rs := [7]) (by kernel_rfl) (by simp) ?_
      refine (AllReadyH.cons (o := { dst := some 48, op := Op.call { callee := Callee.value (Operand.func 31), args := #[Operand.tmp 47], argTypes := #[3] }, type := 44, pos := "frame.go:107", after := #[{ on := 6, ground := Ground.data }, { on := 1, ground := Ground.chain }], guard := none }) rfl (fun K hK => ?_) AllReadyH.nil)
      go_simp; go_at_call 31; (with_reducible refine (fr_thing _ _).mono ?_); rintro e ux ⟨rfl, hbx⟩
      first | (have HD := Lib.hid (HD.out.more hbx)) | (have HS := Lib.hid (HS.out.more hbx))
      clear hbx
      dsimp only
      refine hK.out _ _ ?_ (fun hH3 => ?_)
      · (try dsimp only); (first | exact HE.out.cells | exact HD.out.cells | exact HS.out.cells)
      clear hK K
      clear hH2
      try simp only [Act.put, List.setIfInBounds_toArray, List.set_cons_zero, List.set_cons_succ]
      refine wpAnyH_ready (rs := [10]) (by kernel_rfl) (by simp) ?_
      refine (AllReadyH.cons (o := { dst := some 51, op := Op.call { callee := Callee.value (Operand.func 31), args := #[Operand.tmp 50], argTypes := #[3] }, type := 44, pos := "frame.go:107", after := #[{ on := 9, ground := Ground.data }, { on := 7, ground := Ground.chain }], guard := none }) rfl (fun K hK => ?_) AllReadyH.nil)
      go_simp; go_at_call 31; (with_reducible refine (fr_thing _ _).mono ?_); rintro e ux ⟨rfl, hbx⟩
      first | (have HD := Lib.hid (HD.out.more hbx)) | (have HS := Lib.hid (HS.out.more hbx))
      clear hbx
      dsimp only
      refine hK.out _ _ ?_ (fun hH4 => ?_)
      · (try dsimp only); (first | exact HE.out.cells | exact HD.out.cells | exact HS.out.cells)
      clear hK K
      clear hH3
      try simp only [Act.put, List.setIfInBounds_toArray, List.set_cons_zero, List.set_cons_succ]
      refine wpAnyH_take (i := 11) (oi := { dst := some 52, op := Op.build 85 #[(0, Operand.tmp 42), (1, Operand.tmp 44), (2, Operand.tmp 46), (3, Operand.tmp 48), (4, Operand.tmp 49), (5, Operand.tmp 51)], type := 85, pos := "frame.go:107", after := #[{ on := 1, ground := Ground.data }, { on := 3, ground := Ground.data }, { on := 5, ground := Ground.data }, { on := 7, ground := Ground.data }, { on := 8, ground := Ground.data }, { on := 10, ground := Ground.data }], guard := none }) (v := ?v12) rfl (by kernel_rfl) (by kernel_rfl) (by kernel_rfl) (fun _ _ _ h => h) (Or.inl ⟨by rfl, ?hy12⟩) (by assumption) ?_
      case hy12 => intro w hSw; (try dsimp only at hSw); go_simp; (try with_reducible rfl)
      try simp only [Act.put, List.setIfInBounds_toArray, List.set_cons_zero, List.set_cons_succ]
      refine wpAnyH_ready (rs := [13]) (by kernel_rfl) (by simp) ?_
      refine (AllReadyH.cons (o := { dst := none, op := Op.store 85 (Operand.tmp 18) (Operand.tmp 52), type := 0, pos := "frame.go:107", after := #[{ on := 12, ground := Ground.data }, { on := 11, ground := Ground.data }, { on := 10, ground := Ground.chain }, { on := 0, ground := Ground.phase }, { on := 1, ground := Ground.phase }, { on := 2, ground := Ground.phase }, { on := 3, ground := Ground.phase }, { on := 4, ground := Ground.phase }, { on := 5, ground := Ground.phase }, { on := 6, ground := Ground.phase }, { on := 7, ground := Ground.phase }, { on := 8, ground := Ground.phase }, { on := 9, ground := Ground.phase }, { on := 10, ground := Ground.phase }, { on := 11, ground := Ground.phase }, { on := 12, ground := Ground.phase }], guard := none }) rfl (fun K hK => ?_) AllReadyH.nil)
      rw [if_pos (by rfl)]; refine wp_store_row 85 (.tmp 18) (.tmp 52) (by rfl) _ #[.bool true, .int .i64 sender, .bool false, .int .i64 pc, .bool false, .int .i64 temps, .bool true, .int .i64 method, .bool sb, .int .i64 sn, .bool true, .int .i64 block] (by rfl) (by rfl) _ _ HD.out.row info12 (by rfl) (by simp [Value.oneCell']) ?_
      have HE := Lib.hid (HD.out.put (sender := sender) (pc := pc) (temps := temps) (method := method) (block := block))
      refine hK.out _ _ ?_ (fun hH5 => ?_)
      · (try dsimp only); (first | exact HE.out.cells | exact HD.out.cells | exact HS.out.cells)
      clear hK K
      clear hH4
      try simp only [Act.put, List.setIfInBounds_toArray, List.set_cons_zero, List.set_cons_succ]
      refine wpAnyH_done (by kernel_rfl) ?_ _
      go_wp2_with fail
      go_meet
      exact ⟨_, rfl, HE.out⟩

  case rest =>
    obtain ⟨b, rfl, hD⟩ := hcut
    have HD := Lib.hid hD
    have HIX := Lib.hid (ix6 sender pc temps method sb sn block)
    have HMY := Lib.hid fun u (hb : Below w.heap.size w u) (pb : Bool) (pn : Int) => me_May2 (HM.out.below hb) pb pn
    clear hD
    go_wp2_with (refine wpList_load_row rfl 85 (Operand.tmp 18) (by rfl) b (by rfl) _ _ (0, 0) _ HD.out.row Try.underlying85 rfl info12 ?_)
    go_loopw [54] (fun v54 wr => ∃ k : Nat, k ≤ 6 ∧ v54 = .int .i64 k ∧ Below wc.heap.size wc wr) (fun v54 wr => 6 - (intOf v54).toNat)
    case atStart => exact ⟨0, by omega, rfl, Below.refl _ _⟩
    case round =>
      obtain ⟨k, hk, rfl, hb⟩ := hrel
      by_cases hlt : k < 6
      · have t1 : (k : Int) < 6 := by omega
        have t0 : (0 : Int) ≤ (k : Int) := by omega
        have hix := HIX.out k hlt
        have hmy := HMAY.out k hlt
        have HB := Lib.hid hb
        clear hb
        generalize (hdL sender pc temps method (sb, sn) block).getD k (false, 0) = p at *
        obtain ⟨pb, pn⟩ := p
        dsimp only at hix
        have HMYk := Lib.hid hmy
        have HBY : Hid (Below w.heap.size w (wr.alloc (.cells #[.bool pb, .int .i64 pn] 44))) := Lib.hid (by
          have h1 := HD.out.bel.trans (HB.out.mono HD.out.bel.size)
          exact h1.alloc h1.size _)
        have HBZ : Hid (Below wc.heap.size wc (wr.alloc (.cells #[.bool pb, .int .i64 pn] 44))) := Lib.hid (HB.out.alloc HB.out.size _)
        clear hmy
        go_wp2_with (first
          | (refine wpList_store_row rfl 44 (Operand.tmp 20) (Operand.tmp 56) rfl wr.heap.size _ rfl rfl _ _ (heap_alloc_new wr _) info2 (by rfl) (by simp [Value.oneCell']) ?_; rw [World.setRow_alloc_new])
          | (go_at_call 32; (with_reducible refine (HMY.out _ HBY.out pb pn).mono ?_); rintro e u2 ⟨rfl, hb2⟩; rw [HMYk.out]; have HB2 := Lib.hid (HBZ.out.trans (hb2.mono HBZ.out.size)); clear hb2; dsimp only))
        exact ⟨⟨k + 1, by omega, by simp, HB2.out⟩, by simp only [intOf]; omega⟩
      · obtain rfl : k = 6 := by omega
        have HB := Lib.hid hb
        clear hb
        go_wp2_with fail
        go_loopw [64] (fun v64 wx => v64 = .int .i64 0 ∧ Below wc.heap.size wc wx) (fun _ _ => 0)
        case atStart => exact ⟨rfl, HB.out⟩
        case round =>
          obtain ⟨rfl, hb⟩ := hrel
          have HBW := Lib.hid (HD.out.bel.trans (hb.mono HD.out.bel.size))
          have HRW := Lib.hid ((hb.block _ (Array.getElem?_eq_some_iff.1 HD.out.row).1).trans HD.out.row)
          clear hb
          go_wp2_with (first
            | (go_at_call 33; (with_reducible refine (HFM.out _ HBW.out).mono ?_); rintro e u2 ⟨rfl, lv', dv', fv, hM2, hN2⟩; have HM2 := Lib.hid hM2; have HN2 := Lib.hid (nx_bel HBW.out hN2); have HR2 := Lib.hid (pop_row hN2 (Array.getElem?_eq_some_iff.1 HRW.out).1 (fun c => by have := HM.out.lt c; have := HD.out.lt; omega) HRW.out); clear hM2 hN2; dsimp only)
            | (refine wpList_load_row rfl 85 (Operand.tmp 18) (by rfl) b (by rfl) _ _ (0, 0) _ HR2.out Try.underlying85 rfl info12 ?_))
          go_loopw [81] (fun v81 wr => ∃ k : Nat, k ≤ 6 ∧ v81 = .int .i64 k ∧ MemAt wr m li lv' dv' (M.mkF 12 1 (hdF (hdL sender pc temps method (sb, sn) block) k) fv) ∧ Nx (ownM m li lv dv M) w (ownM m li lv' dv' (M.mkF 12 1 (hdF (hdL sender pc temps method (sb, sn) block) k) fv)) wr) (fun v81 wr => 6 - (intOf v81).toNat)
          case atStart => exact ⟨0, by omega, rfl, HM2.out, HN2.out⟩
          case round =>
            obtain ⟨k, hk, rfl, hMk, hNk⟩ := hrel
            by_cases hlt : k < 6
            · have t1 : (k : Int) < 6 := by omega
              have t0 : (0 : Int) ≤ (k : Int) := by omega
              have hix := HIX.out k hlt
              have hset := HST.out lv' dv' fv k hlt
              have HMk := Lib.hid hMk
              have HNk := Lib.hid hNk
              clear hMk hNk
              generalize (hdL sender pc temps method (sb, sn) block).getD k (false, 0) = p at hix hset
              obtain ⟨pb, pn⟩ := p
              dsimp only at hix
              have HSET := Lib.hid hset
              have hA : Below wr.heap.size wr (wr.alloc (.cells #[.bool pb, .int .i64 pn] 44)) := (Below.refl _ _).alloc (Nat.le_refl _) _
              have HA := Lib.hid hA
              clear hset hA
              go_wp2_with (first
                | (refine wpList_store_row rfl 44 (Operand.tmp 26) (Operand.tmp 84) rfl wr.heap.size _ rfl rfl _ _ (heap_alloc_new wr _) info2 (by rfl) (by simp [Value.oneCell']) ?_; rw [World.setRow_alloc_new])
                | (go_at_call 20; (with_reducible refine (HSET.out _ (HMk.out.below HA.out)).mono ?_); rintro e u5 ⟨rfl, hM5, hN5⟩; have HM5 := Lib.hid hM5; have HN5 := Lib.hid (HNk.out.trans (nx_bel HA.out hN5)); clear hM5 hN5; dsimp only))
              exact ⟨⟨k + 1, by omega, by simp, HM5.out, HN5.out⟩, by simp only [intOf]; omega⟩
            · obtain rfl : k = 6 := by omega
              have HM6 := Lib.hid hMk
              have HN6 := Lib.hid hNk
              clear hMk hNk
              go_wp2_with fail
              go_loopw [93] (fun v93 wr => v93 = .int .i64 0 ∧ MemAt wr m li lv' dv' (M.mkF 12 1 (hdF (hdL sender pc temps method (sb, sn) block) 6) fv) ∧ Nx (ownM m li lv dv M) w (ownM m li lv' dv' (M.mkF 12 1 (hdF (hdL sender pc temps method (sb, sn) block) 6) fv)) wr) (fun _ _ => 0)
              case atStart => exact ⟨rfl, HM6.out, HN6.out⟩
              case round =>
                obtain ⟨rfl, hM7, hN7⟩ := hrel
                have HM7 := Lib.hid hM7
                have HN7 := Lib.hid hN7
                clear hM7 hN7
                go_wp2_with fail
                go_ret2
                exact ⟨rfl, _, _, fv, HM7.out, HN7.out⟩
end
end Go.Proofs.Ytglilfjkjoogbaa.Obj
