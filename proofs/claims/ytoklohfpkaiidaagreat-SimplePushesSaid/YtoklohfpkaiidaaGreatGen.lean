/- A scope that is left by at most so many gotos, each of which goes on at its label: a law of the model, without any program. -/
import Derived.WalkKit
import Derived.WalkMore
import Derived.ScopeJumps
namespace Go.Proofs.YtoklohfpkaiidaaGreat.Gen

/-- As Q; by a goto: on behind its label, at most n times. -/
def gotoN (P : Program) (c : Code) : Nat → (Exit → Act → World → Prop) → Exit → Act → World → Prop
  | 0, Q, e, a, w => (match e with | .goto _ => False | e => Q e a w)
  | n + 1, Q, e, a, w => (match e with | .goto l => ∃ rest, findLabel c l = some rest ∧ rest.wp P (gotoN P c n Q) a w | e => Q e a w)

section
variable {P : Program} {a : Act} {w : World} {Q : Exit → Act → World → Prop} {c : Code}
theorem gotoN_normal (n : Nat) : gotoN P c n Q .normal a w = Q .normal a w := by cases n <;> rfl
theorem gotoN_exit (n id : Nat) : gotoN P c n Q (.exit id) a w = Q (.exit id) a w := by cases n <;> rfl
theorem gotoN_ret (n : Nat) : gotoN P c n Q .ret a w = Q .ret a w := by cases n <;> rfl
theorem gotoN_panic (n : Nat) (ch : List PanicEntry) : gotoN P c n Q (.panic ch) a w = Q (.panic ch) a w := by cases n <;> rfl
theorem gotoN_goto {n l : Nat} {rest : Code} (hf : findLabel c l = some rest) (h : rest.wp P (gotoN P c n Q) a w) : gotoN P c (n + 1) Q (.goto l) a w := ⟨rest, hf, h⟩

theorem wp_scope_gotos (n : Nat) (h : c.wp P (gotoN P c n Q) a w) : (Code.scope c).wp P Q a w := by
  intro b k cs
  have key : ∀ (n : Nat) (c' : Code) (a : Act) (w : World), c'.wp P (gotoN P c n Q) a w → ∃ e a' w', Q e a' w' ∧ Arrives P (lone (b.at a (.code c' :: .inScope c :: k)) cs w) b k cs e a' w' := by
    intro n
    induction n with
    | zero =>
      intro c' a w h
      obtain ⟨e, a₁, w₁, hq, harr⟩ := h b (.inScope c :: k) cs
      cases e with
      | normal => exact ⟨.normal, a₁, w₁, hq, Steps.trans harr (.one step_inScope)⟩
      | exit id => exact ⟨.exit id, a₁, w₁, hq, fun k' hk => harr k' (by simp [exitTo, hk])⟩
      | goto l => exact hq.elim
      | ret => exact ⟨_, a₁, w₁, hq, harr⟩
      | panic ch => exact ⟨_, a₁, w₁, hq, harr⟩
      | outgrown => exact ⟨_, a₁, w₁, hq, harr⟩
    | succ n ih =>
      intro c' a w h
      obtain ⟨e, a₁, w₁, hq, harr⟩ := h b (.inScope c :: k) cs
      cases e with
      | normal => exact ⟨.normal, a₁, w₁, hq, Steps.trans harr (.one step_inScope)⟩
      | exit id => exact ⟨.exit id, a₁, w₁, hq, fun k' hk => harr k' (by simp [exitTo, hk])⟩
      | goto l =>
        obtain ⟨rest, hf, hr⟩ := hq
        have hg : gotoIn l (.inScope c :: k) = some (.code rest :: .inScope c :: k) := by simp [gotoIn, hf]
        obtain ⟨e₂, a₂, w₂, hq₂, harr₂⟩ := ih rest a₁ w₁ hr
        exact ⟨e₂, a₂, w₂, hq₂, .of_steps (harr _ hg) harr₂⟩
      | ret => exact ⟨_, a₁, w₁, hq, harr⟩
      | panic ch => exact ⟨_, a₁, w₁, hq, harr⟩
      | outgrown => exact ⟨_, a₁, w₁, hq, harr⟩
  obtain ⟨e, a₁, w₁, hq, harr⟩ := key n c a w h
  exact ⟨e, a₁, w₁, hq, .of_steps (.one step_scope) harr⟩
end
end Go.Proofs.YtoklohfpkaiidaaGreat.Gen
