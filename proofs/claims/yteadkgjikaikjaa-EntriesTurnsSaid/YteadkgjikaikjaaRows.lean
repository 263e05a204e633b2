/-
  No cell of these rows narrows 'for every input' (looked for: loops, veiled, ifaces, maps, wideKeys, modest, calm, conditions, laid).
  DERIVED. THE GIVEN ROWS OF THIS SEAT. 6 by the template 'for every input the law returns true; each argument reads behind the call as it read before'; 0 by the template 'total and deterministic' (their statements: YteadkgjikaikjaaTotals.lean).
  GIVEN WITH THE SEED: the statements are not yours to turn. If you find one false, say at which input.
  Laid BY PROGRAM, IN A SANDBOX (cutbox-rows.mjs): the forced cells as the released guide's own fill.sh prints them over the translation edb8680cf1a57554… (all of the seat's roots in one cut). By AI agents, Wed Nov 11 2026. No macro, syntax, notation, axiom, sorry.
-/
import Derived.Test.YteadkgjikaikjaaChecked
import GoSem.Claim
import GoSem.ClaimJoined
import GoSem.ClaimMapViews
import Derived.JoinedTies
import Derived.KernelRfl
namespace Go.Proofs.Yteadkgjikaikjaa
/- THE CELL 'sum', in the pinned program and in every row, IS THE sha256 OF THE DUMP (.gsa) THAT YteadkgjikaikjaaProg.lean LOADS. Nothing in Lean hashes anything: it is a label: what it is worth is what the hold of that sum in a sandbox is worth. -/
noncomputable def Try.pinned : Pinned := { name := "yteadkgjikaikjaa", sum := "edb8680cf1a575541b1de809dafd9fd61ae615512a7d05f11b84a00b41fa6363", checked := Try.checked }
namespace Rows
def none {H : Type} : Left H := { results := [], args := [] }

/-- 'antipodelaw12.EntriesTell': WHATEVER THE INPUT: true; the input reads as it did. -/
def entriesTellSpec : ChangeSpec := { name := "entriesTell", fn := fun _ => fun
  | [d1, d2, d3, d4] => { results := [.lit (.bool true)], args := [d1, d2, d3, d4] }
  | _ => none }
def entriesTellRow : OpenClaim := { program := "yteadkgjikaikjaa", sum := "edb8680cf1a575541b1de809dafd9fd61ae615512a7d05f11b84a00b41fa6363", func := "antipode/antipodelaw12.EntriesTell", spec := "entriesTell", apart := false }
def EntriesTellSaid : Prop := entriesTellRow.holds Try.pinned (OpenSpec.ofChange entriesTellSpec)

/-- ITS FALSE NEIGHBOUR: 'it returns false'. Refute it at one input. -/
def entriesTellWrong : ChangeSpec := { name := "entriesTell", fn := fun _ => fun
  | [d1, d2, d3, d4] => { results := [.lit (.bool false)], args := [d1, d2, d3, d4] }
  | _ => none }
def EntriesTellWrongFalsely : Prop := entriesTellRow.holds Try.pinned (OpenSpec.ofChange entriesTellWrong)

/-- 'antipodelaw12.EntriesTurns': WHATEVER THE INPUT: true; the input reads as it did. -/
def entriesTurnsSpec : ChangeSpec := { name := "entriesTurns", fn := fun _ => fun
  | [d1, d2, d3, d4, d5, d6] => { results := [.lit (.bool true)], args := [d1, d2, d3, d4, d5, d6] }
  | _ => none }
def entriesTurnsRow : OpenClaim := { program := "yteadkgjikaikjaa", sum := "edb8680cf1a575541b1de809dafd9fd61ae615512a7d05f11b84a00b41fa6363", func := "antipode/antipodelaw12.EntriesTurns", spec := "entriesTurns", apart := false }
def EntriesTurnsSaid : Prop := entriesTurnsRow.holds Try.pinned (OpenSpec.ofChange entriesTurnsSpec)

/-- ITS FALSE NEIGHBOUR: 'it returns false'. Refute it at one input. -/
def entriesTurnsWrong : ChangeSpec := { name := "entriesTurns", fn := fun _ => fun
  | [d1, d2, d3, d4, d5, d6] => { results := [.lit (.bool false)], args := [d1, d2, d3, d4, d5, d6] }
  | _ => none }
def EntriesTurnsWrongFalsely : Prop := entriesTurnsRow.holds Try.pinned (OpenSpec.ofChange entriesTurnsWrong)

/-- 'antipodelaw12.EntriesMerge': WHATEVER THE INPUT: true; the input reads as it did. -/
def entriesMergeSpec : ChangeSpec := { name := "entriesMerge", fn := fun _ => fun
  | [d1, d2, d3, d4] => { results := [.lit (.bool true)], args := [d1, d2, d3, d4] }
  | _ => none }
def entriesMergeRow : OpenClaim := { program := "yteadkgjikaikjaa", sum := "edb8680cf1a575541b1de809dafd9fd61ae615512a7d05f11b84a00b41fa6363", func := "antipode/antipodelaw12.EntriesMerge", spec := "entriesMerge", apart := false }
def EntriesMergeSaid : Prop := entriesMergeRow.holds Try.pinned (OpenSpec.ofChange entriesMergeSpec)

/-- ITS FALSE NEIGHBOUR: 'it returns false'. Refute it at one input. -/
def entriesMergeWrong : ChangeSpec := { name := "entriesMerge", fn := fun _ => fun
  | [d1, d2, d3, d4] => { results := [.lit (.bool false)], args := [d1, d2, d3, d4] }
  | _ => none }
def EntriesMergeWrongFalsely : Prop := entriesMergeRow.holds Try.pinned (OpenSpec.ofChange entriesMergeWrong)

/-- 'antipodelaw12.EntriesCompact': WHATEVER THE INPUT: true; the input reads as it did. -/
def entriesCompactSpec : ChangeSpec := { name := "entriesCompact", fn := fun _ => fun
  | [d1, d2, d3, d4] => { results := [.lit (.bool true)], args := [d1, d2, d3, d4] }
  | _ => none }
def entriesCompactRow : OpenClaim := { program := "yteadkgjikaikjaa", sum := "edb8680cf1a575541b1de809dafd9fd61ae615512a7d05f11b84a00b41fa6363", func := "antipode/antipodelaw12.EntriesCompact", spec := "entriesCompact", apart := false }
def EntriesCompactSaid : Prop := entriesCompactRow.holds Try.pinned (OpenSpec.ofChange entriesCompactSpec)

/-- ITS FALSE NEIGHBOUR: 'it returns false'. Refute it at one input. -/
def entriesCompactWrong : ChangeSpec := { name := "entriesCompact", fn := fun _ => fun
  | [d1, d2, d3, d4] => { results := [.lit (.bool false)], args := [d1, d2, d3, d4] }
  | _ => none }
def EntriesCompactWrongFalsely : Prop := entriesCompactRow.holds Try.pinned (OpenSpec.ofChange entriesCompactWrong)

/-- 'antipodelaw12.EntriesOrder': WHATEVER THE INPUT: true; the input reads as it did. -/
def entriesOrderSpec : ChangeSpec := { name := "entriesOrder", fn := fun _ => fun
  | [d1, d2, d3] => { results := [.lit (.bool true)], args := [d1, d2, d3] }
  | _ => none }
def entriesOrderRow : OpenClaim := { program := "yteadkgjikaikjaa", sum := "edb8680cf1a575541b1de809dafd9fd61ae615512a7d05f11b84a00b41fa6363", func := "antipode/antipodelaw12.EntriesOrder", spec := "entriesOrder", apart := false }
def EntriesOrderSaid : Prop := entriesOrderRow.holds Try.pinned (OpenSpec.ofChange entriesOrderSpec)

/-- ITS FALSE NEIGHBOUR: 'it returns false'. Refute it at one input. -/
def entriesOrderWrong : ChangeSpec := { name := "entriesOrder", fn := fun _ => fun
  | [d1, d2, d3] => { results := [.lit (.bool false)], args := [d1, d2, d3] }
  | _ => none }
def EntriesOrderWrongFalsely : Prop := entriesOrderRow.holds Try.pinned (OpenSpec.ofChange entriesOrderWrong)

/-- 'antipodelaw12.EntriesPieces': WHATEVER THE INPUT: true; the input reads as it did. -/
def entriesPiecesSpec : ChangeSpec := { name := "entriesPieces", fn := fun _ => fun
  | [d1, d2, d3] => { results := [.lit (.bool true)], args := [d1, d2, d3] }
  | _ => none }
def entriesPiecesRow : OpenClaim := { program := "yteadkgjikaikjaa", sum := "edb8680cf1a575541b1de809dafd9fd61ae615512a7d05f11b84a00b41fa6363", func := "antipode/antipodelaw12.EntriesPieces", spec := "entriesPieces", apart := false }
def EntriesPiecesSaid : Prop := entriesPiecesRow.holds Try.pinned (OpenSpec.ofChange entriesPiecesSpec)

/-- ITS FALSE NEIGHBOUR: 'it returns false'. Refute it at one input. -/
def entriesPiecesWrong : ChangeSpec := { name := "entriesPieces", fn := fun _ => fun
  | [d1, d2, d3] => { results := [.lit (.bool false)], args := [d1, d2, d3] }
  | _ => none }
def EntriesPiecesWrongFalsely : Prop := entriesPiecesRow.holds Try.pinned (OpenSpec.ofChange entriesPiecesWrong)

/- THE SECOND FORM. 'bulk': how many values and letters a reading holds, each counted each time it is reached (what is shared counts as often as it is met; a slice's spare places count too). A statement '..UptoSaid' is the law's where the arguments, and the package variables that the reading takes, are together of bulk at most 1048576: NARROWER than '..Said'. Prove '..Said' where nothing that the law and all that it calls make is longer than what came in: it says more and counts as full. Else prove '..UptoSaid'. A law counts once. -/
mutual
def uptoBulk {H : Type} : DataW H → Nat
  | .lit (.string bytes) => bytes.length + 1
  | .lit _ => 1
  | .nil => 1
  | .ptr d => uptoBulk d + 1
  | .slice elems spare => uptoBulkAll elems + uptoBulkAll spare + 1
  | .agg parts => uptoBulkAll parts + 1
  | .iface _ d => uptoBulk d + 1
  | .map entries => uptoBulkEntries entries + 1
  | .held _ => 1
def uptoBulkAll {H : Type} : List (DataW H) → Nat
  | [] => 0
  | d :: r => uptoBulk d + uptoBulkAll r
def uptoBulkEntries {H : Type} : List (Lit × DataW H) → Nat
  | [] => 0
  | x :: r => uptoBulkEntry x + uptoBulkEntries r
def uptoBulkEntry {H : Type} : Lit × DataW H → Nat
  | (.string bytes, d) => bytes.length + uptoBulk d + 1
  | (_, d) => uptoBulk d + 1
 end
def uptoSmall : (H : Type) → List (DataW H) → Bool := fun _ ds => decide (uptoBulkAll ds ≤ 1048576)
def OpenSpec.upto (s : _root_.Go.ChangeSpec) : _root_.Go.OpenSpec := { _root_.Go.OpenSpec.ofChange s with cond := some uptoSmall }

/-- 'antipodelaw12.EntriesTell', WHERE WHAT IT READS IS OF BULK AT MOST 1048576: true; the input reads as it did. -/
def entriesTellUptoRow : OpenClaim := { program := "yteadkgjikaikjaa", sum := "edb8680cf1a575541b1de809dafd9fd61ae615512a7d05f11b84a00b41fa6363", func := "antipode/antipodelaw12.EntriesTell", spec := "entriesTell", apart := false, narrowed := true }
def EntriesTellUptoSaid : Prop := entriesTellUptoRow.holds Try.pinned (OpenSpec.upto entriesTellSpec)

/-- 'antipodelaw12.EntriesTurns', WHERE WHAT IT READS IS OF BULK AT MOST 1048576: true; the input reads as it did. -/
def entriesTurnsUptoRow : OpenClaim := { program := "yteadkgjikaikjaa", sum := "edb8680cf1a575541b1de809dafd9fd61ae615512a7d05f11b84a00b41fa6363", func := "antipode/antipodelaw12.EntriesTurns", spec := "entriesTurns", apart := false, narrowed := true }
def EntriesTurnsUptoSaid : Prop := entriesTurnsUptoRow.holds Try.pinned (OpenSpec.upto entriesTurnsSpec)

/-- 'antipodelaw12.EntriesMerge', WHERE WHAT IT READS IS OF BULK AT MOST 1048576: true; the input reads as it did. -/
def entriesMergeUptoRow : OpenClaim := { program := "yteadkgjikaikjaa", sum := "edb8680cf1a575541b1de809dafd9fd61ae615512a7d05f11b84a00b41fa6363", func := "antipode/antipodelaw12.EntriesMerge", spec := "entriesMerge", apart := false, narrowed := true }
def EntriesMergeUptoSaid : Prop := entriesMergeUptoRow.holds Try.pinned (OpenSpec.upto entriesMergeSpec)

/-- 'antipodelaw12.EntriesCompact', WHERE WHAT IT READS IS OF BULK AT MOST 1048576: true; the input reads as it did. -/
def entriesCompactUptoRow : OpenClaim := { program := "yteadkgjikaikjaa", sum := "edb8680cf1a575541b1de809dafd9fd61ae615512a7d05f11b84a00b41fa6363", func := "antipode/antipodelaw12.EntriesCompact", spec := "entriesCompact", apart := false, narrowed := true }
def EntriesCompactUptoSaid : Prop := entriesCompactUptoRow.holds Try.pinned (OpenSpec.upto entriesCompactSpec)

/-- 'antipodelaw12.EntriesOrder', WHERE WHAT IT READS IS OF BULK AT MOST 1048576: true; the input reads as it did. -/
def entriesOrderUptoRow : OpenClaim := { program := "yteadkgjikaikjaa", sum := "edb8680cf1a575541b1de809dafd9fd61ae615512a7d05f11b84a00b41fa6363", func := "antipode/antipodelaw12.EntriesOrder", spec := "entriesOrder", apart := false, narrowed := true }
def EntriesOrderUptoSaid : Prop := entriesOrderUptoRow.holds Try.pinned (OpenSpec.upto entriesOrderSpec)

/-- 'antipodelaw12.EntriesPieces', WHERE WHAT IT READS IS OF BULK AT MOST 1048576: true; the input reads as it did. -/
def entriesPiecesUptoRow : OpenClaim := { program := "yteadkgjikaikjaa", sum := "edb8680cf1a575541b1de809dafd9fd61ae615512a7d05f11b84a00b41fa6363", func := "antipode/antipodelaw12.EntriesPieces", spec := "entriesPieces", apart := false, narrowed := true }
def EntriesPiecesUptoSaid : Prop := entriesPiecesUptoRow.holds Try.pinned (OpenSpec.upto entriesPiecesSpec)

end Rows
end Go.Proofs.Yteadkgjikaikjaa
