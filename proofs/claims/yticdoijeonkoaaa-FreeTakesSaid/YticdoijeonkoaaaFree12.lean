/- Runs of package free. -/
import Derived.Test.YticdoijeonkoaaaFree11
namespace Go.Proofs.Yticdoijeonkoaaa.Fr
open Go.Proofs.Yticdoijeonkoaaa.Gen Go.Proofs.Yticdoijeonkoaaa.Base Go.Proofs.Yticdoijeonkoaaa.Bt Go.ChangeShapes Go.WideShapes Go.ChangeAt Go.RowKit
set_option linter.unusedVariables false
/-- The runs that begin below a, from the lowest on. -/
structure Upto (l : List Bool) (a : Nat) (R : List (Nat × Nat)) : Prop where
  mem : ∀ x n, (x, n) ∈ R ↔ Run l x n ∧ x < a
  sorted : R.Pairwise (fun p q => p.1 < q.1)
theorem Upto.zero (l : List Bool) : Upto l 0 [] := ⟨fun x n => by simp, List.Pairwise.nil⟩
theorem Upto.shut {l : List Bool} {a : Nat} {R : List (Nat × Nat)} (h : Upto l a R) (hc : o l a = false) : Upto l (a + 1) R :=
  ⟨(fun x n => by
    rw [h.mem]
    constructor
    · rintro ⟨q1, q2⟩; exact ⟨q1, by omega⟩
    · rintro ⟨q1, q2⟩
      refine ⟨q1, ?_⟩
      rcases Nat.lt_or_ge x a with c | c
      · exact c
      · have := q1.all x (Nat.le_refl _) (by have := q1.pos; omega)
        rw [show x = a by omega, hc] at this; cases this), h.sorted⟩
theorem Upto.run {l : List Bool} {a n : Nat} {R : List (Nat × Nat)} (h : Upto l a R) (hr : Run l a n) : Upto l (a + n) (R ++ [(a, n)]) := by
  have hp := hr.pos
  refine ⟨fun x m => ?_, ?_⟩
  · rw [List.mem_append, h.mem, List.mem_singleton]
    constructor
    · rintro (⟨q1, q2⟩ | q)
      · exact ⟨q1, by omega⟩
      · cases q; exact ⟨hr, by omega⟩
    · rintro ⟨q1, q2⟩
      rcases Nat.lt_or_ge x a with c | c
      · exact .inl ⟨q1, c⟩
      · obtain ⟨rfl, rfl⟩ := q1.eq hr (x := x) (Nat.le_refl _) (by have := q1.pos; omega) c q2
        exact .inr rfl
  · rw [List.pairwise_append]
    refine ⟨h.sorted, by simp, fun p hp' q hq => ?_⟩
    rw [List.mem_singleton] at hq; subst hq
    exact ((h.mem p.1 p.2).1 hp').2
theorem Upto.len {l : List Bool} {a : Nat} {R : List (Nat × Nat)} (h : Upto l a R) : R.length ≤ a := by
  have := nodup_len a (l := R.map fun p => (p.1 : Int)) (List.pairwise_map.2 (h.sorted.imp fun {p q} hpq => by omega)) (fun x hx => by
    obtain ⟨p, hp, rfl⟩ := List.mem_map.1 hx
    have := ((h.mem p.1 p.2).1 hp).2
    omega)
  simpa using this
def pairs (R : List (Nat × Nat)) : List Value := R.flatMap fun p => [.int .i64 (p.1 : Int), .int .i64 (p.2 : Int)]
theorem pairs_app (R : List (Nat × Nat)) (a n : Nat) : pairs (R ++ [(a, n)]) = pairs R ++ [.int .i64 (a : Int), .int .i64 (n : Int)] := by simp [pairs]
theorem infoP : (Try.prog.info? 34).map (fun i => (i.zero, i.size, i.bytes)) = some (some (.agg #[.int .i64 0, .int .i64 0]), 2, 16) := by kernel_rfl
set_option maxHeartbeats 2000000 in
theorem runs_any (w : World) (B : FB) (l : List Bool) (h : FreeAt w B l) :
    Calls Try.prog 12 #[.pointer (some ⟨B.r, 0, none⟩)] w
      fun e w' => ∃ v R, e = .returned v ∧ Upto l l.length R ∧ w'.ownsRow w.heap.size 34 2 v R.length (pairs R) ∧ Below w.heap.size w w' := by
  have hle := h.len
  obtain ⟨F, hF, e1, hL, e3⟩ := h
  obtain ⟨ti, hti, hz0, hz1, hz2⟩ := info_parts infoP
  have HTI := Lib.hid hti; have HZ0 := Lib.hid hz0; have HZ1 := Lib.hid hz1; have HZ2 := Lib.hid hz2
  have HF := Lib.hid hF; have HL := Lib.hid hL; have E1 := Lib.hid e1
  clear hti hz0 hz1 hz2 hF hL e1 e3
  have c0 := HF.out.c0
  have c1 := HF.out.c1
  rw [E1.out] at c0 c1
  have hrlt := HF.out.mine_lt (k := B.r) (.inl rfl)
  go_enter Try.func12, Try.ntmps12
  go_wp2_with fail
  go_loopw [3, 4] (fun v3 v4 wr => ∃ (a : Nat) (R : List (Nat × Nat)), a ≤ l.length ∧ v4 = .int .i64 a ∧ Upto l a R ∧ (a = 0 ∨ o l (a - 1) = false ∨ o l a = false) ∧ wr.ownsRow w.heap.size 34 2 v3 R.length (pairs R) ∧ Below w.heap.size w wr) (fun _ v4 wr => l.length - (intOf v4).toNat)
  case atStart => exact ⟨0, [], by omega, rfl, Upto.zero l, .inl rfl, ⟨rfl, .inl ⟨rfl, rfl⟩⟩, Below.refl _ _⟩
  case round =>
    obtain ⟨a, R, a1, rfl, hU, hlo, hown, hb⟩ := hrel
    have c0' := (hb.cell (p := ⟨B.r, 0, none⟩) hrlt).trans c0
    have c1' := (hb.cell (p := ⟨B.r, 1, none⟩) hrlt).trans c1
    by_cases hlt : a < l.length
    · have t1 : (a : Int) < (l.length : Int) := by omega
      have t0 : (0 : Int) ≤ (a : Int) := by omega
      have co := HF.out.co a (by rw [E1.out]; exact hlt)
      have ci := HF.out.ci a (by rw [E1.out]; exact hlt)
      have co' := (hb.cell (p := ⟨B.bo, a, none⟩) (lt_of_cell co)).trans co
      have ci' := (hb.cell (p := ⟨B.bl, a, none⟩) (lt_of_cell ci)).trans ci
      rw [E1.out, show l[a]?.getD false = o l a from rfl] at co'
      cases hx : o l a
      · rw [hx] at co'
        have HU := Lib.hid (hU.shut hx); have HX := Lib.hid hx; have HOWN := Lib.hid hown
        clear hU hlo hown hx co ci ci'
        go_wp2_with fail
        refine ⟨⟨a + 1, R, by omega, by simp, HU.out, .inr (.inl (by simpa using HX.out)), HOWN.out, hb⟩, by simp only [intOf]; omega⟩
      · rw [hx] at co'
        obtain ⟨b, n, hr, q1, q2⟩ := run_of hx
        have hba : b = a := by
          rcases Nat.lt_or_ge b a with c | c
          · have := hr.all (a - 1) (by omega) (by omega)
            rcases hlo with d | d | d
            · omega
            · rw [this] at d; cases d
            · rw [hx] at d; cases d
          · omega
        subst b
        have hrl := hr.le
        have hrp := hr.pos
        rw [HL.out.at1 a n hr] at ci'
        dsimp only [Option.getD_some] at ci'
        have HU := Lib.hid (hU.run hr); have HX := Lib.hid hr.hi; have HOWN := Lib.hid hown
        have hsz := hb.size
        have hRlen : R.length ≤ 65536 := by have := hU.len; omega
        clear hU hlo hown hx co ci hr
        go_wp2_with (at_builtin; refine wpList_append_own _ rfl _ _ 32 rfl w.heap.size 34 ti (.agg #[.int .i64 0, .int .i64 0]) 2 16 Try.underlying32 HTI.out HZ0.out HZ1.out HZ2.out rfl (by decide) _ _ _ rfl (World.ownsRow.alloc HOWN.out _) ⟨wr.heap.size, 0, none⟩ 1 1 [.int .i64 a, .int .i64 n] rfl rfl ?c1 ?c2 ?c3 ?c4 ?c5 ?_)
        case c1 => exact World.news_of_block (heap_alloc_new wr _)
        case c2 => intro u hu; simp at hu; rcases hu with rfl | rfl <;> rfl
        case c3 => unfold maxLen; omega
        case c4 => omega
        case c5 => simp; omega
        intro v' w1 hown1 hgrow _
        have hb1 : Below w.heap.size w w1 := Below.grown (hb.alloc hsz _) hgrow (by simp; omega) (fun k hk => by
          obtain ⟨_, ⟨h2, _⟩ | ⟨g, cap, cur, h3, h4, _⟩⟩ := HOWN.out
          · subst h2; simp [Value.ownBlock] at hk
          · subst h3; simp [Value.ownBlock] at hk; omega)
        clear hgrow
        have c1'' := (hb1.cell (p := ⟨B.r, 1, none⟩) hrlt).trans c1
        have ci'' : w1.cell? ⟨B.bl, a, none⟩ = some (.int .i64 n) := by
          have h5 := HF.out.ci a (by rw [E1.out]; exact hlt)
          rw [(hb1.cell (p := ⟨B.bl, a, none⟩) (lt_of_cell h5)), ← hb.cell (p := ⟨B.bl, a, none⟩) (lt_of_cell h5)]; exact ci'
        have HO1 := Lib.hid hown1
        clear hown1 c0' c1' ci' co'
        go_wp2_with fail
        refine ⟨⟨a + n, R ++ [(a, n)], by omega, by simp, HU.out, .inr (.inr HX.out), by rw [pairs_app]; simpa using HO1.out, hb1⟩, by simp only [intOf]; omega⟩
    · obtain rfl : a = l.length := by omega
      have HU := Lib.hid hU; have HOWN := Lib.hid hown
      clear hU hown hlo
      go_wp2_with fail
      go_ret
      exact ⟨_, R, rfl, HU.out, HOWN.out, hb⟩
end Go.Proofs.Yticdoijeonkoaaa.Fr
