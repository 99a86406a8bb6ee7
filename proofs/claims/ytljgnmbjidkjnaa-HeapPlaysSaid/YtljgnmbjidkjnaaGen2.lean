/- A scope that is left by gotos to one label, each with less to go: a law of the model, without any program. -/
import Derived.Test.YtljgnmbjidkjnaaGen
namespace Go.Proofs.Ytljgnmbjidkjnaa.Gen
/-- As Q; by a goto: to label l, and then inv holds of a number below M. -/
def jumpQ (inv : Nat → Act → World → Prop) (l M : Nat) (Q : Exit → Act → World → Prop) : Exit → Act → World → Prop := fun e a w =>
  match e with
  | .goto l' => l' = l ∧ ∃ m, m < M ∧ inv m a w
  | e => Q e a w
section
variable {P : Program} {a : Act} {w : World} {Q : Exit → Act → World → Prop} {c : Code} {inv : Nat → Act → World → Prop} {l M : Nat}
theorem jumpQ_ret : jumpQ inv l M Q .ret a w = Q .ret a w := rfl
theorem jumpQ_normal : jumpQ inv l M Q .normal a w = Q .normal a w := rfl
theorem jumpQ_goto {m : Nat} (hm : m < M) (h : inv m a w) : jumpQ inv l M Q (.goto l) a w := ⟨rfl, m, hm, h⟩
theorem wp_scope_loop (inv : Nat → Act → World → Prop) (l M : Nat) (rest : Code) (hf : findLabel c l = some rest)
    (h0 : c.wp P (jumpQ inv l M Q) a w) (hs : ∀ m a w, inv m a w → rest.wp P (jumpQ inv l m Q) a w) : (Code.scope c).wp P Q a w := by
  have key : ∀ n m a w, m < n → inv m a w → rest.wp P (gotoN P c n Q) a w := by
    intro n
    induction n with
    | zero => intro m a w h; omega
    | succ n ih =>
      intro m a w hm hi
      refine Code.wp_mono ?_ (hs m a w hi)
      intro e a' w' hq
      cases e with
      | goto l' =>
        obtain ⟨rfl, m', hm', hi'⟩ := hq
        exact ⟨rest, hf, ih m' a' w' (by omega) hi'⟩
      | normal => exact hq
      | exit id => exact hq
      | ret => exact hq
      | panic ch => exact hq
      | outgrown => exact hq
  refine wp_scope_gotos (M + 1) (Code.wp_mono ?_ h0)
  intro e a' w' hq
  cases e with
  | goto l' =>
    obtain ⟨rfl, m', hm', hi'⟩ := hq
    exact ⟨rest, hf, key M m' a' w' hm' hi'⟩
  | normal => exact hq
  | exit id => exact hq
  | ret => exact hq
  | panic ch => exact hq
  | outgrown => exact hq
end
end Go.Proofs.Ytljgnmbjidkjnaa.Gen
