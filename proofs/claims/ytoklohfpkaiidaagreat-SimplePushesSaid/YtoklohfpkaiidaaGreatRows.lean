/-
  No cell of these rows narrows 'for every input' (looked for: loops, veiled, ifaces, maps, wideKeys, modest, calm, conditions, laid).
  DERIVED. THE GIVEN ROWS OF THIS SEAT. 4 by the template 'for every input the law returns true; each argument reads behind the call as it read before'; 0 by the template 'total and deterministic' (their statements: YtoklohfpkaiidaaGreatTotals.lean).
  GIVEN WITH THE SEED: the statements are not yours to turn. If you find one false, say at which input.
  Laid BY PROGRAM, IN A SANDBOX (cutbox-rows.mjs): the forced cells as the released guide's own fill.sh prints them over the translation 1beaffc892e8cf10… (all of the seat's roots in one cut). By AI agents, Wed Nov 11 2026. No macro, syntax, notation, axiom, sorry.
-/
import Derived.Test.YtoklohfpkaiidaaGreatChecked
import GoSem.Claim
import GoSem.ClaimJoined
import GoSem.ClaimMapViews
import Derived.JoinedTies
import Derived.KernelRfl
namespace Go.Proofs.YtoklohfpkaiidaaGreat
/- THE CELL 'sum', in the pinned program and in every row, IS THE sha256 OF THE DUMP (.gsa) THAT YtoklohfpkaiidaaGreatProg.lean LOADS. Nothing in Lean hashes anything: it is a label: what it is worth is what the hold of that sum in a sandbox is worth. -/
noncomputable def Tryz.pinned : Pinned := { name := "ytoklohfpkaiidaagreat", sum := "1beaffc892e8cf10d13923456a87c9ffa21ff6086c122f15d280f2421b6a448c", checked := Tryz.checked }
namespace Rows
def none {H : Type} : Left H := { results := [], args := [] }

/-- 'colloquylaw15.SimpleAll': WHATEVER THE INPUT: true; the input reads as it did. -/
def simpleAllSpec : ChangeSpec := { name := "simpleAll", fn := fun _ => fun
  | [d1, d2, d3, d4] => { results := [.lit (.bool true)], args := [d1, d2, d3, d4] }
  | _ => none }
def simpleAllRow : OpenClaim := { program := "ytoklohfpkaiidaagreat", sum := "1beaffc892e8cf10d13923456a87c9ffa21ff6086c122f15d280f2421b6a448c", func := "colloquy/colloquylaw15.SimpleAll", spec := "simpleAll", unfollowed := true, recurses := true, apart := false }
def SimpleAllSaid : Prop := simpleAllRow.holds Tryz.pinned (OpenSpec.ofChange simpleAllSpec)

/-- ITS FALSE NEIGHBOUR: 'it returns false'. Refute it at one input. -/
def simpleAllWrong : ChangeSpec := { name := "simpleAll", fn := fun _ => fun
  | [d1, d2, d3, d4] => { results := [.lit (.bool false)], args := [d1, d2, d3, d4] }
  | _ => none }
def SimpleAllWrongFalsely : Prop := simpleAllRow.holds Tryz.pinned (OpenSpec.ofChange simpleAllWrong)

/-- 'colloquylaw15.SimplePushes': WHATEVER THE INPUT: true; the input reads as it did. -/
def simplePushesSpec : ChangeSpec := { name := "simplePushes", fn := fun _ => fun
  | [d1, d2] => { results := [.lit (.bool true)], args := [d1, d2] }
  | _ => none }
def simplePushesRow : OpenClaim := { program := "ytoklohfpkaiidaagreat", sum := "1beaffc892e8cf10d13923456a87c9ffa21ff6086c122f15d280f2421b6a448c", func := "colloquy/colloquylaw15.SimplePushes", spec := "simplePushes", unfollowed := true, recurses := true, apart := false }
def SimplePushesSaid : Prop := simplePushesRow.holds Tryz.pinned (OpenSpec.ofChange simplePushesSpec)

/-- ITS FALSE NEIGHBOUR: 'it returns false'. Refute it at one input. -/
def simplePushesWrong : ChangeSpec := { name := "simplePushes", fn := fun _ => fun
  | [d1, d2] => { results := [.lit (.bool false)], args := [d1, d2] }
  | _ => none }
def SimplePushesWrongFalsely : Prop := simplePushesRow.holds Tryz.pinned (OpenSpec.ofChange simplePushesWrong)

/-- 'colloquylaw15.SimpleBlocks': WHATEVER THE INPUT: true; the input reads as it did. -/
def simpleBlocksSpec : ChangeSpec := { name := "simpleBlocks", fn := fun _ => fun
  | [d1, d2, d3] => { results := [.lit (.bool true)], args := [d1, d2, d3] }
  | _ => none }
def simpleBlocksRow : OpenClaim := { program := "ytoklohfpkaiidaagreat", sum := "1beaffc892e8cf10d13923456a87c9ffa21ff6086c122f15d280f2421b6a448c", func := "colloquy/colloquylaw15.SimpleBlocks", spec := "simpleBlocks", unfollowed := true, recurses := true, apart := false }
def SimpleBlocksSaid : Prop := simpleBlocksRow.holds Tryz.pinned (OpenSpec.ofChange simpleBlocksSpec)

/-- ITS FALSE NEIGHBOUR: 'it returns false'. Refute it at one input. -/
def simpleBlocksWrong : ChangeSpec := { name := "simpleBlocks", fn := fun _ => fun
  | [d1, d2, d3] => { results := [.lit (.bool false)], args := [d1, d2, d3] }
  | _ => none }
def SimpleBlocksWrongFalsely : Prop := simpleBlocksRow.holds Tryz.pinned (OpenSpec.ofChange simpleBlocksWrong)

/-- 'colloquylaw15.SimpleFields': WHATEVER THE INPUT: true; the input reads as it did. -/
def simpleFieldsSpec : ChangeSpec := { name := "simpleFields", fn := fun _ => fun
  | [d1, d2, d3, d4] => { results := [.lit (.bool true)], args := [d1, d2, d3, d4] }
  | _ => none }
def simpleFieldsRow : OpenClaim := { program := "ytoklohfpkaiidaagreat", sum := "1beaffc892e8cf10d13923456a87c9ffa21ff6086c122f15d280f2421b6a448c", func := "colloquy/colloquylaw15.SimpleFields", spec := "simpleFields", unfollowed := true, recurses := true, apart := false }
def SimpleFieldsSaid : Prop := simpleFieldsRow.holds Tryz.pinned (OpenSpec.ofChange simpleFieldsSpec)

/-- ITS FALSE NEIGHBOUR: 'it returns false'. Refute it at one input. -/
def simpleFieldsWrong : ChangeSpec := { name := "simpleFields", fn := fun _ => fun
  | [d1, d2, d3, d4] => { results := [.lit (.bool false)], args := [d1, d2, d3, d4] }
  | _ => none }
def SimpleFieldsWrongFalsely : Prop := simpleFieldsRow.holds Tryz.pinned (OpenSpec.ofChange simpleFieldsWrong)

/- THE SECOND FORM. 'bulk': how many values and letters a reading holds, each counted each time it is reached (what is shared counts as often as it is met; a slice's spare places count too). A statement '..UptoSaid' is the law's where the arguments, and the package variables that the reading takes, are together of bulk at most 1048576: NARROWER than '..Said'. Prove '..Said' where nothing that the law and all that it calls make is longer than what came in: it says more and counts as full. Else prove '..UptoSaid'. A law counts once. -/
mutual
def uptoBulk {H : Type} : DataW H → Nat
  | .lit (.string bytes) => bytes.length + 1
  | .lit _ => 1
  | .nil => 1
  | .ptr d => uptoBulk d + 1
  | .slice elems spare => uptoBulkAll elems + uptoBulkAll spare + 1
  | .agg parts => uptoBulkAll parts + 1
  | .iface _ d => uptoBulk d + 1
  | .map entries => uptoBulkEntries entries + 1
  | .held _ => 1
def uptoBulkAll {H : Type} : List (DataW H) → Nat
  | [] => 0
  | d :: r => uptoBulk d + uptoBulkAll r
def uptoBulkEntries {H : Type} : List (Lit × DataW H) → Nat
  | [] => 0
  | x :: r => uptoBulkEntry x + uptoBulkEntries r
def uptoBulkEntry {H : Type} : Lit × DataW H → Nat
  | (.string bytes, d) => bytes.length + uptoBulk d + 1
  | (_, d) => uptoBulk d + 1
 end
def uptoSmall : (H : Type) → List (DataW H) → Bool := fun _ ds => decide (uptoBulkAll ds ≤ 1048576)
def OpenSpec.upto (s : _root_.Go.ChangeSpec) : _root_.Go.OpenSpec := { _root_.Go.OpenSpec.ofChange s with cond := some uptoSmall }

/-- 'colloquylaw15.SimpleAll', WHERE WHAT IT READS IS OF BULK AT MOST 1048576: true; the input reads as it did. -/
def simpleAllUptoRow : OpenClaim := { program := "ytoklohfpkaiidaagreat", sum := "1beaffc892e8cf10d13923456a87c9ffa21ff6086c122f15d280f2421b6a448c", func := "colloquy/colloquylaw15.SimpleAll", spec := "simpleAll", unfollowed := true, recurses := true, apart := false, narrowed := true }
def SimpleAllUptoSaid : Prop := simpleAllUptoRow.holds Tryz.pinned (OpenSpec.upto simpleAllSpec)

/-- 'colloquylaw15.SimplePushes', WHERE WHAT IT READS IS OF BULK AT MOST 1048576: true; the input reads as it did. -/
def simplePushesUptoRow : OpenClaim := { program := "ytoklohfpkaiidaagreat", sum := "1beaffc892e8cf10d13923456a87c9ffa21ff6086c122f15d280f2421b6a448c", func := "colloquy/colloquylaw15.SimplePushes", spec := "simplePushes", unfollowed := true, recurses := true, apart := false, narrowed := true }
def SimplePushesUptoSaid : Prop := simplePushesUptoRow.holds Tryz.pinned (OpenSpec.upto simplePushesSpec)

/-- 'colloquylaw15.SimpleBlocks', WHERE WHAT IT READS IS OF BULK AT MOST 1048576: true; the input reads as it did. -/
def simpleBlocksUptoRow : OpenClaim := { program := "ytoklohfpkaiidaagreat", sum := "1beaffc892e8cf10d13923456a87c9ffa21ff6086c122f15d280f2421b6a448c", func := "colloquy/colloquylaw15.SimpleBlocks", spec := "simpleBlocks", unfollowed := true, recurses := true, apart := false, narrowed := true }
def SimpleBlocksUptoSaid : Prop := simpleBlocksUptoRow.holds Tryz.pinned (OpenSpec.upto simpleBlocksSpec)

/-- 'colloquylaw15.SimpleFields', WHERE WHAT IT READS IS OF BULK AT MOST 1048576: true; the input reads as it did. -/
def simpleFieldsUptoRow : OpenClaim := { program := "ytoklohfpkaiidaagreat", sum := "1beaffc892e8cf10d13923456a87c9ffa21ff6086c122f15d280f2421b6a448c", func := "colloquy/colloquylaw15.SimpleFields", spec := "simpleFields", unfollowed := true, recurses := true, apart := false, narrowed := true }
def SimpleFieldsUptoSaid : Prop := simpleFieldsUptoRow.holds Tryz.pinned (OpenSpec.upto simpleFieldsSpec)

end Rows
end Go.Proofs.YtoklohfpkaiidaaGreat
