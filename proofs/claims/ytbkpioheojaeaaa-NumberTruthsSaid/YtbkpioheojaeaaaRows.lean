/-
  No cell of these rows narrows 'for every input' (looked for: loops, veiled, ifaces, maps, wideKeys, modest, calm, conditions, laid).
  DERIVED. THE GIVEN ROWS OF THIS SEAT. 5 by the template 'for every input the law returns true; each argument reads behind the call as it read before'; 0 by the template 'total and deterministic' (their statements: YtbkpioheojaeaaaTotals.lean).
  GIVEN WITH THE SEED: the statements are not yours to turn. If you find one false, say at which input.
  Laid BY PROGRAM, IN A SANDBOX (cutbox-rows.mjs): the forced cells as the released guide's own fill.sh prints them over the translation b653076420856e53… (all of the seat's roots in one cut). By AI agents, Wed Nov 11 2026. No macro, syntax, notation, axiom, sorry.
-/
import Derived.Test.YtbkpioheojaeaaaChecked
import GoSem.Claim
import GoSem.ClaimJoined
import GoSem.ClaimMapViews
import Derived.JoinedTies
import Derived.KernelRfl
namespace Go.Proofs.Ytbkpioheojaeaaa
/- THE CELL 'sum', in the pinned program and in every row, IS THE sha256 OF THE DUMP (.gsa) THAT YtbkpioheojaeaaaProg.lean LOADS. Nothing in Lean hashes anything: it is a label: what it is worth is what the hold of that sum in a sandbox is worth. -/
noncomputable def Try.pinned : Pinned := { name := "ytbkpioheojaeaaa", sum := "b653076420856e53581780ca44bb5cbf86c957af1f2381bbfe4fbfba91f8f06e", checked := Try.checked }
namespace Rows
def none {H : Type} : Left H := { results := [], args := [] }

/-- 'colloquylaw17.NumberAll': WHATEVER THE INPUT: true; the input reads as it did. -/
def numberAllSpec : ChangeSpec := { name := "numberAll", fn := fun _ => fun
  | [d1, d2, d3] => { results := [.lit (.bool true)], args := [d1, d2, d3] }
  | _ => none }
def numberAllRow : OpenClaim := { program := "ytbkpioheojaeaaa", sum := "b653076420856e53581780ca44bb5cbf86c957af1f2381bbfe4fbfba91f8f06e", func := "colloquy/colloquylaw17.NumberAll", spec := "numberAll", apart := false }
def NumberAllSaid : Prop := numberAllRow.holds Try.pinned (OpenSpec.ofChange numberAllSpec)

/-- ITS FALSE NEIGHBOUR: 'it returns false'. Refute it at one input. -/
def numberAllWrong : ChangeSpec := { name := "numberAll", fn := fun _ => fun
  | [d1, d2, d3] => { results := [.lit (.bool false)], args := [d1, d2, d3] }
  | _ => none }
def NumberAllWrongFalsely : Prop := numberAllRow.holds Try.pinned (OpenSpec.ofChange numberAllWrong)

/-- 'colloquylaw17.NumberLaws': WHATEVER THE INPUT: true; the input reads as it did. -/
def numberLawsSpec : ChangeSpec := { name := "numberLaws", fn := fun _ => fun
  | [d1, d2] => { results := [.lit (.bool true)], args := [d1, d2] }
  | _ => none }
def numberLawsRow : OpenClaim := { program := "ytbkpioheojaeaaa", sum := "b653076420856e53581780ca44bb5cbf86c957af1f2381bbfe4fbfba91f8f06e", func := "colloquy/colloquylaw17.NumberLaws", spec := "numberLaws", unfollowed := true, recurses := true, apart := false }
def NumberLawsSaid : Prop := numberLawsRow.holds Try.pinned (OpenSpec.ofChange numberLawsSpec)

/-- ITS FALSE NEIGHBOUR: 'it returns false'. Refute it at one input. -/
def numberLawsWrong : ChangeSpec := { name := "numberLaws", fn := fun _ => fun
  | [d1, d2] => { results := [.lit (.bool false)], args := [d1, d2] }
  | _ => none }
def NumberLawsWrongFalsely : Prop := numberLawsRow.holds Try.pinned (OpenSpec.ofChange numberLawsWrong)

/-- 'colloquylaw17.NumberEdges': WHATEVER THE INPUT: true; the input reads as it did. -/
def numberEdgesSpec : ChangeSpec := { name := "numberEdges", fn := fun _ => fun
  | [d1, d2] => { results := [.lit (.bool true)], args := [d1, d2] }
  | _ => none }
def numberEdgesRow : OpenClaim := { program := "ytbkpioheojaeaaa", sum := "b653076420856e53581780ca44bb5cbf86c957af1f2381bbfe4fbfba91f8f06e", func := "colloquy/colloquylaw17.NumberEdges", spec := "numberEdges", apart := false }
def NumberEdgesSaid : Prop := numberEdgesRow.holds Try.pinned (OpenSpec.ofChange numberEdgesSpec)

/-- ITS FALSE NEIGHBOUR: 'it returns false'. Refute it at one input. -/
def numberEdgesWrong : ChangeSpec := { name := "numberEdges", fn := fun _ => fun
  | [d1, d2] => { results := [.lit (.bool false)], args := [d1, d2] }
  | _ => none }
def NumberEdgesWrongFalsely : Prop := numberEdgesRow.holds Try.pinned (OpenSpec.ofChange numberEdgesWrong)

/-- 'colloquylaw17.NumberTruths': WHATEVER THE INPUT: true; the input reads as it did. -/
def numberTruthsSpec : ChangeSpec := { name := "numberTruths", fn := fun _ => fun
  | [d1, d2, d3] => { results := [.lit (.bool true)], args := [d1, d2, d3] }
  | _ => none }
def numberTruthsRow : OpenClaim := { program := "ytbkpioheojaeaaa", sum := "b653076420856e53581780ca44bb5cbf86c957af1f2381bbfe4fbfba91f8f06e", func := "colloquy/colloquylaw17.NumberTruths", spec := "numberTruths", unfollowed := true, recurses := true, apart := false }
def NumberTruthsSaid : Prop := numberTruthsRow.holds Try.pinned (OpenSpec.ofChange numberTruthsSpec)

/-- ITS FALSE NEIGHBOUR: 'it returns false'. Refute it at one input. -/
def numberTruthsWrong : ChangeSpec := { name := "numberTruths", fn := fun _ => fun
  | [d1, d2, d3] => { results := [.lit (.bool false)], args := [d1, d2, d3] }
  | _ => none }
def NumberTruthsWrongFalsely : Prop := numberTruthsRow.holds Try.pinned (OpenSpec.ofChange numberTruthsWrong)

/-- 'colloquylaw17.NumberNone': WHATEVER THE INPUT: true; the input reads as it did. -/
def numberNoneSpec : ChangeSpec := { name := "numberNone", fn := fun _ => fun
  | [d1, d2, d3] => { results := [.lit (.bool true)], args := [d1, d2, d3] }
  | _ => none }
def numberNoneRow : OpenClaim := { program := "ytbkpioheojaeaaa", sum := "b653076420856e53581780ca44bb5cbf86c957af1f2381bbfe4fbfba91f8f06e", func := "colloquy/colloquylaw17.NumberNone", spec := "numberNone", apart := false }
def NumberNoneSaid : Prop := numberNoneRow.holds Try.pinned (OpenSpec.ofChange numberNoneSpec)

/-- ITS FALSE NEIGHBOUR: 'it returns false'. Refute it at one input. -/
def numberNoneWrong : ChangeSpec := { name := "numberNone", fn := fun _ => fun
  | [d1, d2, d3] => { results := [.lit (.bool false)], args := [d1, d2, d3] }
  | _ => none }
def NumberNoneWrongFalsely : Prop := numberNoneRow.holds Try.pinned (OpenSpec.ofChange numberNoneWrong)

/- THE SECOND FORM. 'bulk': how many values and letters a reading holds, each counted each time it is reached (what is shared counts as often as it is met; a slice's spare places count too). A statement '..UptoSaid' is the law's where the arguments, and the package variables that the reading takes, are together of bulk at most 1048576: NARROWER than '..Said'. Prove '..Said' where nothing that the law and all that it calls make is longer than what came in: it says more and counts as full. Else prove '..UptoSaid'. A law counts once. -/
mutual
def uptoBulk {H : Type} : DataW H → Nat
  | .lit (.string bytes) => bytes.length + 1
  | .lit _ => 1
  | .nil => 1
  | .ptr d => uptoBulk d + 1
  | .slice elems spare => uptoBulkAll elems + uptoBulkAll spare + 1
  | .agg parts => uptoBulkAll parts + 1
  | .iface _ d => uptoBulk d + 1
  | .map entries => uptoBulkEntries entries + 1
  | .held _ => 1
def uptoBulkAll {H : Type} : List (DataW H) → Nat
  | [] => 0
  | d :: r => uptoBulk d + uptoBulkAll r
def uptoBulkEntries {H : Type} : List (Lit × DataW H) → Nat
  | [] => 0
  | x :: r => uptoBulkEntry x + uptoBulkEntries r
def uptoBulkEntry {H : Type} : Lit × DataW H → Nat
  | (.string bytes, d) => bytes.length + uptoBulk d + 1
  | (_, d) => uptoBulk d + 1
 end
def uptoSmall : (H : Type) → List (DataW H) → Bool := fun _ ds => decide (uptoBulkAll ds ≤ 1048576)
def OpenSpec.upto (s : _root_.Go.ChangeSpec) : _root_.Go.OpenSpec := { _root_.Go.OpenSpec.ofChange s with cond := some uptoSmall }

/-- 'colloquylaw17.NumberAll', WHERE WHAT IT READS IS OF BULK AT MOST 1048576: true; the input reads as it did. -/
def numberAllUptoRow : OpenClaim := { program := "ytbkpioheojaeaaa", sum := "b653076420856e53581780ca44bb5cbf86c957af1f2381bbfe4fbfba91f8f06e", func := "colloquy/colloquylaw17.NumberAll", spec := "numberAll", apart := false, narrowed := true }
def NumberAllUptoSaid : Prop := numberAllUptoRow.holds Try.pinned (OpenSpec.upto numberAllSpec)

/-- 'colloquylaw17.NumberLaws', WHERE WHAT IT READS IS OF BULK AT MOST 1048576: true; the input reads as it did. -/
def numberLawsUptoRow : OpenClaim := { program := "ytbkpioheojaeaaa", sum := "b653076420856e53581780ca44bb5cbf86c957af1f2381bbfe4fbfba91f8f06e", func := "colloquy/colloquylaw17.NumberLaws", spec := "numberLaws", unfollowed := true, recurses := true, apart := false, narrowed := true }
def NumberLawsUptoSaid : Prop := numberLawsUptoRow.holds Try.pinned (OpenSpec.upto numberLawsSpec)

/-- 'colloquylaw17.NumberEdges', WHERE WHAT IT READS IS OF BULK AT MOST 1048576: true; the input reads as it did. -/
def numberEdgesUptoRow : OpenClaim := { program := "ytbkpioheojaeaaa", sum := "b653076420856e53581780ca44bb5cbf86c957af1f2381bbfe4fbfba91f8f06e", func := "colloquy/colloquylaw17.NumberEdges", spec := "numberEdges", apart := false, narrowed := true }
def NumberEdgesUptoSaid : Prop := numberEdgesUptoRow.holds Try.pinned (OpenSpec.upto numberEdgesSpec)

/-- 'colloquylaw17.NumberTruths', WHERE WHAT IT READS IS OF BULK AT MOST 1048576: true; the input reads as it did. -/
def numberTruthsUptoRow : OpenClaim := { program := "ytbkpioheojaeaaa", sum := "b653076420856e53581780ca44bb5cbf86c957af1f2381bbfe4fbfba91f8f06e", func := "colloquy/colloquylaw17.NumberTruths", spec := "numberTruths", unfollowed := true, recurses := true, apart := false, narrowed := true }
def NumberTruthsUptoSaid : Prop := numberTruthsUptoRow.holds Try.pinned (OpenSpec.upto numberTruthsSpec)

/-- 'colloquylaw17.NumberNone', WHERE WHAT IT READS IS OF BULK AT MOST 1048576: true; the input reads as it did. -/
def numberNoneUptoRow : OpenClaim := { program := "ytbkpioheojaeaaa", sum := "b653076420856e53581780ca44bb5cbf86c957af1f2381bbfe4fbfba91f8f06e", func := "colloquy/colloquylaw17.NumberNone", spec := "numberNone", apart := false, narrowed := true }
def NumberNoneUptoSaid : Prop := numberNoneUptoRow.holds Try.pinned (OpenSpec.upto numberNoneSpec)

end Rows
end Go.Proofs.Ytbkpioheojaeaaa
