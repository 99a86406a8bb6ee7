/- A frame whose stack holds numbers, and a row of numbers beside it. -/
import Derived.Test.YtglilfjkjoogbaaAw1
namespace Go.Proofs.Ytglilfjkjoogbaa.Obj
open Go.Proofs.Ytglilfjkjoogbaa.Gen Go.Proofs.Ytglilfjkjoogbaa.Base Go.ChangeShapes Go.WideShapes Go.ChangeAt Go.RowKit
set_option linter.unusedVariables false
theorem infoI : (Try.prog.info? 3).map (fun i => (i.zero, i.size, i.bytes)) = some (some (.int .i64 0), 1, 8) := by kernel_rfl
def ints (l : List Int) : List Value := l.map (Value.int .i64)
set_option maxRecDepth 100000 in
theorem wpl_appI {base : Nat} {ops : Array Oper} {rest : List Oper} {w : World} {o : Oper} {a : Act} {Q : Exit → Act → World → Prop} (hgd : o.guard = none) (s x : Operand)
    (ho : o.op = .call { callee := .builtin .append, args := #[s, x], argTypes := #[22, 22] })
    (v : Value) (n : Nat) (xs : List Value) (hs : a.eval s = v) (hown : w.ownsRow base 3 1 v n xs) (hbase : base ≤ w.heap.size) (ad : Addr) (m c : Nat) (hx : a.eval x = .slice (some ad) m c) (ys : List Value) (hl : ys.length = m * 1) (hc : ∀ j u, ys[j]? = some u → w.cell? (ad.add j) = some u) (h1 : ∀ u ∈ ys, u.oneCell' = true) (hn : n + m ≤ 1000000)
    (h : ∀ v' w', w'.ownsRow base 3 1 v' (n + m) (xs ++ ys) → w.grownBy w' v.ownBlock → (v'.ownBlock = v.ownBlock ∨ v'.ownBlock = some w.heap.size) → wpList Try.prog ops Q rest (a.put o.dst v') w') : wpList Try.prog ops Q (o :: rest) a w := by
  refine wpList_plain hgd fun _ hK => ?_
  obtain ⟨i0, hi, hz0, hz1, hz2⟩ := info_parts infoI
  obtain ⟨v', w', hr, h2, h3, _, h5⟩ := run_append_own_at (P := Try.prog) (w := w) base 22 o.type 3 i0 (.int .i64 0) 1 8 Try.underlying22 hi hz0 hz1 hz2 rfl (by decide) v n xs hown ad m c ys hl hc h1 (by unfold maxLen; omega) (by omega) hbase
  unfold Oper.wp execOp
  simp only [ho, resolve, invoke, builtin, Sem.run_bind, Sem.run_pure, Result.andThen_ok, List.map_toArray, List.map_cons, List.map_nil, hs, hx, hr]
  exact hK _ _ (h v' w' h2 h3 h5)
structure Fst (W w : World) (m li : Nat) (lv dv : Value) (M : MS) (t : Nat) (l : List Int) (vin : Value) (inl : List Int) : Prop where
  fw : Fw W w m li lv dv M 25 t l
  ins : w.ownsRow W.heap.size 3 1 vin inl.length (ints inl)
  apart : ∀ k, vin.ownBlock = some k → ¬ ownM m li lv dv M k
section
variable {W w u w' u8 : World} {m li t : Nat} {lv dv vin v' : Value} {M M' : MS} {l l' inl : List Int} {R : Obj}
theorem Fst.below (h : Fst W w m li lv dv M t l vin inl) (hb : Below w.heap.size w w') : Fst W w' m li lv dv M t l vin inl :=
  ⟨h.fw.below hb, owns_at h.ins fun k hk => hb.block k (h.ins.lt k hk).2, h.apart⟩
theorem Fst.nx (h : Fst W w m li lv dv M t l vin inl) (hq : Fq w' m li lv dv M' 25 t l') (hN : Nx (ownM m li lv dv M) w (ownM m li lv dv M') w') : Fst W w' m li lv dv M' t l' vin inl :=
  ⟨h.fw.nx hq hN, owns_at h.ins fun k hk => hN.block k (h.ins.lt k hk).2 (h.apart k hk), fun k hk c => by
    rcases hN.own k c with c | c
    · exact h.apart k hk c
    · have := (h.ins.lt k hk).2; omega⟩
theorem Fst.start (h : Fw W w m li lv dv M 25 t l) : Fst W w m li lv dv M t l (.slice none 0 0) [] :=
  ⟨h, World.ownsRow_nil _ _ _ _, fun k hk => by simp [Value.ownBlock] at hk⟩
theorem Fst.app {v : Int} (h : Fst W w m li lv dv M t l vin inl) (own : u8.ownsRow W.heap.size 3 1 v' (inl.length + 1) (ints inl ++ [.int .i64 v])) (g8 : (w.alloc R).grownBy u8 vin.ownBlock) (e : v'.ownBlock = vin.ownBlock ∨ v'.ownBlock = some (w.alloc R).heap.size) :
    Fst W u8 m li lv dv M t l v' (inl ++ [v]) := by
  have hws := h.fw.bel.size
  have hold : ∀ k, k < w.heap.size → vin.ownBlock ≠ some k → u8.heap[k]? = w.heap[k]? := fun k hk hn => (g8.block k (by simp; omega) fun e => hn e.symm).trans (heap_alloc_old _ _ hk)
  refine ⟨⟨⟨h.fw.fq.me.keep fun k hk => hold k (h.fw.fq.me.lt hk) fun e => h.apart k e hk, h.fw.fq.fr, h.fw.fq.nil⟩, (h.fw.bel.alloc hws R).grown g8 (by rw [World.size_alloc]; omega) (fun j hj => (h.ins.lt j hj).1), h.fw.new⟩, ?_, fun k hk c => ?_⟩
  · rw [List.length_append]
    have : ints (inl ++ [v]) = ints inl ++ [.int .i64 v] := by simp [ints]
    rw [this]; exact own
  · have hlt := h.fw.fq.me.lt c
    rcases e with e | e
    · exact h.apart k (e ▸ hk) c
    · rw [e, World.size_alloc] at hk
      have : w.heap.size + 1 = k := by simpa using hk
      omega
theorem Fst.cells (h : Fst W w m li lv dv M t l vin inl) : ∃ a c, vin = .slice a inl.length c ∧ inl.length ≤ c ∧ ∀ i (hi : i < inl.length), ∃ g, a = some ⟨g, 0, none⟩ ∧ w.cell? ⟨g, i, none⟩ = some (.int .i64 inl[i]) ∧ g < w.heap.size := by
  obtain ⟨hx, ⟨h1, h2⟩ | ⟨g, cap, cur, h3, h4, h5, h6, h7, h8, h9⟩⟩ := h.ins
  · exact ⟨none, 0, by rw [h1, h2], by omega, fun i hi => by omega⟩
  · refine ⟨_, cap, h3, h6, fun i hi => ⟨g, rfl, ?_, (Array.getElem?_eq_some_iff.1 h5).1⟩⟩
    have hu : (ints inl)[i]? = some (.int .i64 inl[i]) := by simp [ints, hi]
    rw [cell_row w g i _ _ _ h5]
    rw [← h9, List.getElem?_take, if_pos (show i < inl.length * 1 by omega)] at hu
    simpa using hu
theorem Fst.cellAt {g c : Nat} (h : Fst W w m li lv dv M t l (.slice (some ⟨g, 0, none⟩) inl.length c) inl) {i : Nat} (hi : i < inl.length) : w.cell? ⟨g, i, none⟩ = some (.int .i64 inl[i]) := by
  obtain ⟨a, c', e, -, hc⟩ := h.cells
  obtain ⟨g', e2, h2, -⟩ := hc i hi
  obtain ⟨e3, -, -⟩ := Value.slice.inj e
  rw [e2] at e3
  simp only [Option.some.injEq, Addr.mk.injEq, and_true] at e3
  rw [e3]; exact h2
/-- A block beside the memory stays. -/
theorem Fst.far {Q : Nat → Prop} {k : Nat} {o : Obj} (h : Fst W w m li lv dv M t l vin inl) (hb : Below w.heap.size w u) (hk : w.heap.size ≤ k) (hN : Nx (ownM m li lv dv M) u Q w') (hr : u.heap[k]? = some o) : w'.heap[k]? = some o :=
  (hN.block k (Array.getElem?_eq_some_iff.1 hr).1 fun c => by have := h.fw.fq.me.lt c; omega).trans hr
end
end Go.Proofs.Ytglilfjkjoogbaa.Obj
