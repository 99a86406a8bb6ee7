/-
  No cell of these rows narrows 'for every input' (looked for: loops, veiled, ifaces, maps, wideKeys, modest, calm, conditions, laid).
  DERIVED. THE GIVEN ROWS OF THIS SEAT. 3 by the template 'for every input the law returns true; each argument reads behind the call as it read before'; 0 by the template 'total and deterministic' (their statements: YticdoijeonkoaaaTotals.lean).
  GIVEN WITH THE SEED: the statements are not yours to turn. If you find one false, say at which input.
  Laid BY PROGRAM, IN A SANDBOX (cutbox-rows.mjs): the forced cells as the released guide's own fill.sh prints them over the translation 1bc96561a5864faf… (all of the seat's roots in one cut). By AI agents, Wed Nov 11 2026. No macro, syntax, notation, axiom, sorry.
-/
import Derived.Test.YticdoijeonkoaaaChecked
import GoSem.Claim
import GoSem.ClaimJoined
import GoSem.ClaimMapViews
import Derived.JoinedTies
import Derived.KernelRfl
namespace Go.Proofs.Yticdoijeonkoaaa
/- THE CELL 'sum', in the pinned program and in every row, IS THE sha256 OF THE DUMP (.gsa) THAT YticdoijeonkoaaaProg.lean LOADS. Nothing in Lean hashes anything: it is a label: what it is worth is what the hold of that sum in a sandbox is worth. -/
noncomputable def Try.pinned : Pinned := { name := "yticdoijeonkoaaa", sum := "1bc96561a5864faf8da7c18ae0defd46b58f65e0fdbc1d52d676e3748331582b", checked := Try.checked }
namespace Rows
def none {H : Type} : Left H := { results := [], args := [] }

/-- 'colloquylaw04.FreeTakes': WHATEVER THE INPUT: true; the input reads as it did. -/
def freeTakesSpec : ChangeSpec := { name := "freeTakes", fn := fun _ => fun
  | [d1, d2, d3] => { results := [.lit (.bool true)], args := [d1, d2, d3] }
  | _ => none }
def freeTakesRow : OpenClaim := { program := "yticdoijeonkoaaa", sum := "1bc96561a5864faf8da7c18ae0defd46b58f65e0fdbc1d52d676e3748331582b", func := "colloquy/colloquylaw04.FreeTakes", spec := "freeTakes", apart := false }
def FreeTakesSaid : Prop := freeTakesRow.holds Try.pinned (OpenSpec.ofChange freeTakesSpec)

/-- ITS FALSE NEIGHBOUR: 'it returns false'. Refute it at one input. -/
def freeTakesWrong : ChangeSpec := { name := "freeTakes", fn := fun _ => fun
  | [d1, d2, d3] => { results := [.lit (.bool false)], args := [d1, d2, d3] }
  | _ => none }
def FreeTakesWrongFalsely : Prop := freeTakesRow.holds Try.pinned (OpenSpec.ofChange freeTakesWrong)

/-- 'colloquylaw04.FreeBest': WHATEVER THE INPUT: true; the input reads as it did. -/
def freeBestSpec : ChangeSpec := { name := "freeBest", fn := fun _ => fun
  | [d1, d2] => { results := [.lit (.bool true)], args := [d1, d2] }
  | _ => none }
def freeBestRow : OpenClaim := { program := "yticdoijeonkoaaa", sum := "1bc96561a5864faf8da7c18ae0defd46b58f65e0fdbc1d52d676e3748331582b", func := "colloquy/colloquylaw04.FreeBest", spec := "freeBest", apart := false }
def FreeBestSaid : Prop := freeBestRow.holds Try.pinned (OpenSpec.ofChange freeBestSpec)

/-- ITS FALSE NEIGHBOUR: 'it returns false'. Refute it at one input. -/
def freeBestWrong : ChangeSpec := { name := "freeBest", fn := fun _ => fun
  | [d1, d2] => { results := [.lit (.bool false)], args := [d1, d2] }
  | _ => none }
def FreeBestWrongFalsely : Prop := freeBestRow.holds Try.pinned (OpenSpec.ofChange freeBestWrong)

/-- 'colloquylaw04.FreeJoins': WHATEVER THE INPUT: true; the input reads as it did. -/
def freeJoinsSpec : ChangeSpec := { name := "freeJoins", fn := fun _ => fun
  | [d1, d2, d3, d4] => { results := [.lit (.bool true)], args := [d1, d2, d3, d4] }
  | _ => none }
def freeJoinsRow : OpenClaim := { program := "yticdoijeonkoaaa", sum := "1bc96561a5864faf8da7c18ae0defd46b58f65e0fdbc1d52d676e3748331582b", func := "colloquy/colloquylaw04.FreeJoins", spec := "freeJoins", apart := false }
def FreeJoinsSaid : Prop := freeJoinsRow.holds Try.pinned (OpenSpec.ofChange freeJoinsSpec)

/-- ITS FALSE NEIGHBOUR: 'it returns false'. Refute it at one input. -/
def freeJoinsWrong : ChangeSpec := { name := "freeJoins", fn := fun _ => fun
  | [d1, d2, d3, d4] => { results := [.lit (.bool false)], args := [d1, d2, d3, d4] }
  | _ => none }
def FreeJoinsWrongFalsely : Prop := freeJoinsRow.holds Try.pinned (OpenSpec.ofChange freeJoinsWrong)

/- THE SECOND FORM. 'bulk': how many values and letters a reading holds, each counted each time it is reached (what is shared counts as often as it is met; a slice's spare places count too). A statement '..UptoSaid' is the law's where the arguments, and the package variables that the reading takes, are together of bulk at most 1048576: NARROWER than '..Said'. Prove '..Said' where nothing that the law and all that it calls make is longer than what came in: it says more and counts as full. Else prove '..UptoSaid'. A law counts once. -/
mutual
def uptoBulk {H : Type} : DataW H → Nat
  | .lit (.string bytes) => bytes.length + 1
  | .lit _ => 1
  | .nil => 1
  | .ptr d => uptoBulk d + 1
  | .slice elems spare => uptoBulkAll elems + uptoBulkAll spare + 1
  | .agg parts => uptoBulkAll parts + 1
  | .iface _ d => uptoBulk d + 1
  | .map entries => uptoBulkEntries entries + 1
  | .held _ => 1
def uptoBulkAll {H : Type} : List (DataW H) → Nat
  | [] => 0
  | d :: r => uptoBulk d + uptoBulkAll r
def uptoBulkEntries {H : Type} : List (Lit × DataW H) → Nat
  | [] => 0
  | x :: r => uptoBulkEntry x + uptoBulkEntries r
def uptoBulkEntry {H : Type} : Lit × DataW H → Nat
  | (.string bytes, d) => bytes.length + uptoBulk d + 1
  | (_, d) => uptoBulk d + 1
 end
def uptoSmall : (H : Type) → List (DataW H) → Bool := fun _ ds => decide (uptoBulkAll ds ≤ 1048576)
def OpenSpec.upto (s : _root_.Go.ChangeSpec) : _root_.Go.OpenSpec := { _root_.Go.OpenSpec.ofChange s with cond := some uptoSmall }

/-- 'colloquylaw04.FreeTakes', WHERE WHAT IT READS IS OF BULK AT MOST 1048576: true; the input reads as it did. -/
def freeTakesUptoRow : OpenClaim := { program := "yticdoijeonkoaaa", sum := "1bc96561a5864faf8da7c18ae0defd46b58f65e0fdbc1d52d676e3748331582b", func := "colloquy/colloquylaw04.FreeTakes", spec := "freeTakes", apart := false, narrowed := true }
def FreeTakesUptoSaid : Prop := freeTakesUptoRow.holds Try.pinned (OpenSpec.upto freeTakesSpec)

/-- 'colloquylaw04.FreeBest', WHERE WHAT IT READS IS OF BULK AT MOST 1048576: true; the input reads as it did. -/
def freeBestUptoRow : OpenClaim := { program := "yticdoijeonkoaaa", sum := "1bc96561a5864faf8da7c18ae0defd46b58f65e0fdbc1d52d676e3748331582b", func := "colloquy/colloquylaw04.FreeBest", spec := "freeBest", apart := false, narrowed := true }
def FreeBestUptoSaid : Prop := freeBestUptoRow.holds Try.pinned (OpenSpec.upto freeBestSpec)

/-- 'colloquylaw04.FreeJoins', WHERE WHAT IT READS IS OF BULK AT MOST 1048576: true; the input reads as it did. -/
def freeJoinsUptoRow : OpenClaim := { program := "yticdoijeonkoaaa", sum := "1bc96561a5864faf8da7c18ae0defd46b58f65e0fdbc1d52d676e3748331582b", func := "colloquy/colloquylaw04.FreeJoins", spec := "freeJoins", apart := false, narrowed := true }
def FreeJoinsUptoSaid : Prop := freeJoinsUptoRow.holds Try.pinned (OpenSpec.upto freeJoinsSpec)

end Rows
end Go.Proofs.Yticdoijeonkoaaa
