/- Runs of package free. -/
import Derived.Test.YtljgnmbjidkjnaaFree11
namespace Go.Proofs.Ytljgnmbjidkjnaa.Fr
open Go.Proofs.Ytljgnmbjidkjnaa.Gen Go.Proofs.Ytljgnmbjidkjnaa.Base Go.Proofs.Ytljgnmbjidkjnaa.Bt Go.ChangeShapes Go.WideShapes Go.ChangeAt Go.RowKit
set_option linter.unusedVariables false
/-- The runs that begin below a, from the lowest on. -/
structure Upto (l : List Bool) (a : Nat) (R : List (Nat × Nat)) : Prop where
  mem : ∀ x n, (x, n) ∈ R ↔ Run l x n ∧ x < a
  sorted : R.Pairwise (fun p q => p.1 < q.1)
theorem Upto.zero (l : List Bool) : Upto l 0 [] := ⟨fun x n => by simp, List.Pairwise.nil⟩
theorem Upto.shut {l : List Bool} {a : Nat} {R : List (Nat × Nat)} (h : Upto l a R) (hc : o l a = false) : Upto l (a + 1) R :=
  ⟨(fun x n => by
    rw [h.mem]
    constructor
    · rintro ⟨q1, q2⟩; exact ⟨q1, by omega⟩
    · rintro ⟨q1, q2⟩
      refine ⟨q1, ?_⟩
      rcases Nat.lt_or_ge x a with c | c
      · exact c
      · have := q1.all x (Nat.le_refl _) (by have := q1.pos; omega)
        rw [show x = a by omega, hc] at this; cases this), h.sorted⟩
theorem Upto.run {l : List Bool} {a n : Nat} {R : List (Nat × Nat)} (h : Upto l a R) (hr : Run l a n) : Upto l (a + n) (R ++ [(a, n)]) := by
  have hp := hr.pos
  refine ⟨fun x m => ?_, ?_⟩
  · rw [List.mem_append, h.mem, List.mem_singleton]
    constructor
    · rintro (⟨q1, q2⟩ | q)
      · exact ⟨q1, by omega⟩
      · cases q; exact ⟨hr, by omega⟩
    · rintro ⟨q1, q2⟩
      rcases Nat.lt_or_ge x a with c | c
      · exact .inl ⟨q1, c⟩
      · obtain ⟨rfl, rfl⟩ := q1.eq hr (x := x) (Nat.le_refl _) (by have := q1.pos; omega) c q2
        exact .inr rfl
  · rw [List.pairwise_append]
    refine ⟨h.sorted, by simp, fun p hp' q hq => ?_⟩
    rw [List.mem_singleton] at hq; subst hq
    exact ((h.mem p.1 p.2).1 hp').2
theorem Upto.len {l : List Bool} {a : Nat} {R : List (Nat × Nat)} (h : Upto l a R) : R.length ≤ a := by
  have := nodup_len a (l := R.map fun p => (p.1 : Int)) (List.pairwise_map.2 (h.sorted.imp fun {p q} hpq => by omega)) (fun x hx => by
    obtain ⟨p, hp, rfl⟩ := List.mem_map.1 hx
    have := ((h.mem p.1 p.2).1 hp).2
    omega)
  simpa using this
def pairs (R : List (Nat × Nat)) : List Value := R.flatMap fun p => [.int .i64 (p.1 : Int), .int .i64 (p.2 : Int)]
theorem pairs_app (R : List (Nat × Nat)) (a n : Nat) : pairs (R ++ [(a, n)]) = pairs R ++ [.int .i64 (a : Int), .int .i64 (n : Int)] := by simp [pairs]
theorem infoP : (Try.prog.info? 91).map (fun i => (i.zero, i.size, i.bytes)) = some (some (.agg #[.int .i64 0, .int .i64 0]), 2, 16) := by kernel_rfl
end Go.Proofs.Ytljgnmbjidkjnaa.Fr
