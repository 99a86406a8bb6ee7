/-
  No cell of these rows narrows 'for every input' (looked for: loops, veiled, ifaces, maps, wideKeys, modest, calm, conditions, laid).
  DERIVED. THE GIVEN ROWS OF THIS SEAT. 3 by the template 'for every input the law returns true; each argument reads behind the call as it read before'; 0 by the template 'total and deterministic' (their statements: YtlancbacdjiciaaTotals.lean).
  GIVEN WITH THE SEED: the statements are not yours to turn. If you find one false, say at which input.
  Laid BY PROGRAM, IN A SANDBOX (cutbox-rows.mjs): the forced cells as the released guide's own fill.sh prints them over the translation adb4c2ae6bc7543a… (all of the seat's roots in one cut). By AI agents, Wed Nov 11 2026. No macro, syntax, notation, axiom, sorry.
-/
import Derived.Test.YtlancbacdjiciaaChecked
import GoSem.Claim
import GoSem.ClaimJoined
import GoSem.ClaimMapViews
import Derived.JoinedTies
import Derived.KernelRfl
namespace Go.Proofs.Ytlancbacdjiciaa
/- THE CELL 'sum', in the pinned program and in every row, IS THE sha256 OF THE DUMP (.gsa) THAT YtlancbacdjiciaaProg.lean LOADS. Nothing in Lean hashes anything: it is a label: what it is worth is what the hold of that sum in a sandbox is worth. -/
noncomputable def Try.pinned : Pinned := { name := "ytlancbacdjiciaa", sum := "adb4c2ae6bc7543a2f6a8024957668334e56c30f7ab8e0c90f9eb7b7dcf7fc84", checked := Try.checked }
namespace Rows
def none {H : Type} : Left H := { results := [], args := [] }

/-- 'colloquylaw09.GreyPlays': WHATEVER THE INPUT: true; the input reads as it did. -/
def greyPlaysSpec : ChangeSpec := { name := "greyPlays", fn := fun _ => fun
  | [d1, d2] => { results := [.lit (.bool true)], args := [d1, d2] }
  | _ => none }
def greyPlaysRow : OpenClaim := { program := "ytlancbacdjiciaa", sum := "adb4c2ae6bc7543a2f6a8024957668334e56c30f7ab8e0c90f9eb7b7dcf7fc84", func := "colloquy/colloquylaw09.GreyPlays", spec := "greyPlays", apart := false }
def GreyPlaysSaid : Prop := greyPlaysRow.holds Try.pinned (OpenSpec.ofChange greyPlaysSpec)

/-- ITS FALSE NEIGHBOUR: 'it returns false'. Refute it at one input. -/
def greyPlaysWrong : ChangeSpec := { name := "greyPlays", fn := fun _ => fun
  | [d1, d2] => { results := [.lit (.bool false)], args := [d1, d2] }
  | _ => none }
def GreyPlaysWrongFalsely : Prop := greyPlaysRow.holds Try.pinned (OpenSpec.ofChange greyPlaysWrong)

/-- 'colloquylaw09.GreyOrder': WHATEVER THE INPUT: true; the input reads as it did. -/
def greyOrderSpec : ChangeSpec := { name := "greyOrder", fn := fun _ => fun
  | [d1, d2] => { results := [.lit (.bool true)], args := [d1, d2] }
  | _ => none }
def greyOrderRow : OpenClaim := { program := "ytlancbacdjiciaa", sum := "adb4c2ae6bc7543a2f6a8024957668334e56c30f7ab8e0c90f9eb7b7dcf7fc84", func := "colloquy/colloquylaw09.GreyOrder", spec := "greyOrder", apart := false }
def GreyOrderSaid : Prop := greyOrderRow.holds Try.pinned (OpenSpec.ofChange greyOrderSpec)

/-- ITS FALSE NEIGHBOUR: 'it returns false'. Refute it at one input. -/
def greyOrderWrong : ChangeSpec := { name := "greyOrder", fn := fun _ => fun
  | [d1, d2] => { results := [.lit (.bool false)], args := [d1, d2] }
  | _ => none }
def GreyOrderWrongFalsely : Prop := greyOrderRow.holds Try.pinned (OpenSpec.ofChange greyOrderWrong)

/-- 'colloquylaw09.GreyMixed': WHATEVER THE INPUT: true; the input reads as it did. -/
def greyMixedSpec : ChangeSpec := { name := "greyMixed", fn := fun _ => fun
  | [d1, d2] => { results := [.lit (.bool true)], args := [d1, d2] }
  | _ => none }
def greyMixedRow : OpenClaim := { program := "ytlancbacdjiciaa", sum := "adb4c2ae6bc7543a2f6a8024957668334e56c30f7ab8e0c90f9eb7b7dcf7fc84", func := "colloquy/colloquylaw09.GreyMixed", spec := "greyMixed", apart := false }
def GreyMixedSaid : Prop := greyMixedRow.holds Try.pinned (OpenSpec.ofChange greyMixedSpec)

/-- ITS FALSE NEIGHBOUR: 'it returns false'. Refute it at one input. -/
def greyMixedWrong : ChangeSpec := { name := "greyMixed", fn := fun _ => fun
  | [d1, d2] => { results := [.lit (.bool false)], args := [d1, d2] }
  | _ => none }
def GreyMixedWrongFalsely : Prop := greyMixedRow.holds Try.pinned (OpenSpec.ofChange greyMixedWrong)

/- THE SECOND FORM. 'bulk': how many values and letters a reading holds, each counted each time it is reached (what is shared counts as often as it is met; a slice's spare places count too). A statement '..UptoSaid' is the law's where the arguments, and the package variables that the reading takes, are together of bulk at most 1048576: NARROWER than '..Said'. Prove '..Said' where nothing that the law and all that it calls make is longer than what came in: it says more and counts as full. Else prove '..UptoSaid'. A law counts once. -/
mutual
def uptoBulk {H : Type} : DataW H → Nat
  | .lit (.string bytes) => bytes.length + 1
  | .lit _ => 1
  | .nil => 1
  | .ptr d => uptoBulk d + 1
  | .slice elems spare => uptoBulkAll elems + uptoBulkAll spare + 1
  | .agg parts => uptoBulkAll parts + 1
  | .iface _ d => uptoBulk d + 1
  | .map entries => uptoBulkEntries entries + 1
  | .held _ => 1
def uptoBulkAll {H : Type} : List (DataW H) → Nat
  | [] => 0
  | d :: r => uptoBulk d + uptoBulkAll r
def uptoBulkEntries {H : Type} : List (Lit × DataW H) → Nat
  | [] => 0
  | x :: r => uptoBulkEntry x + uptoBulkEntries r
def uptoBulkEntry {H : Type} : Lit × DataW H → Nat
  | (.string bytes, d) => bytes.length + uptoBulk d + 1
  | (_, d) => uptoBulk d + 1
 end
def uptoSmall : (H : Type) → List (DataW H) → Bool := fun _ ds => decide (uptoBulkAll ds ≤ 1048576)
def OpenSpec.upto (s : _root_.Go.ChangeSpec) : _root_.Go.OpenSpec := { _root_.Go.OpenSpec.ofChange s with cond := some uptoSmall }

/-- 'colloquylaw09.GreyPlays', WHERE WHAT IT READS IS OF BULK AT MOST 1048576: true; the input reads as it did. -/
def greyPlaysUptoRow : OpenClaim := { program := "ytlancbacdjiciaa", sum := "adb4c2ae6bc7543a2f6a8024957668334e56c30f7ab8e0c90f9eb7b7dcf7fc84", func := "colloquy/colloquylaw09.GreyPlays", spec := "greyPlays", apart := false, narrowed := true }
def GreyPlaysUptoSaid : Prop := greyPlaysUptoRow.holds Try.pinned (OpenSpec.upto greyPlaysSpec)

/-- 'colloquylaw09.GreyOrder', WHERE WHAT IT READS IS OF BULK AT MOST 1048576: true; the input reads as it did. -/
def greyOrderUptoRow : OpenClaim := { program := "ytlancbacdjiciaa", sum := "adb4c2ae6bc7543a2f6a8024957668334e56c30f7ab8e0c90f9eb7b7dcf7fc84", func := "colloquy/colloquylaw09.GreyOrder", spec := "greyOrder", apart := false, narrowed := true }
def GreyOrderUptoSaid : Prop := greyOrderUptoRow.holds Try.pinned (OpenSpec.upto greyOrderSpec)

/-- 'colloquylaw09.GreyMixed', WHERE WHAT IT READS IS OF BULK AT MOST 1048576: true; the input reads as it did. -/
def greyMixedUptoRow : OpenClaim := { program := "ytlancbacdjiciaa", sum := "adb4c2ae6bc7543a2f6a8024957668334e56c30f7ab8e0c90f9eb7b7dcf7fc84", func := "colloquy/colloquylaw09.GreyMixed", spec := "greyMixed", apart := false, narrowed := true }
def GreyMixedUptoSaid : Prop := greyMixedUptoRow.holds Try.pinned (OpenSpec.upto greyMixedSpec)

end Rows
end Go.Proofs.Ytlancbacdjiciaa
