/-
  No cell of these rows narrows 'for every input' (looked for: loops, veiled, ifaces, maps, wideKeys, modest, calm, conditions, laid).
  DERIVED. THE GIVEN ROWS OF THIS SEAT. 8 by the template 'for every input the law returns true; each argument reads behind the call as it read before'; 0 by the template 'total and deterministic' (their statements: YtlkhmpfdajefiaaTotals.lean).
  GIVEN WITH THE SEED: the statements are not yours to turn. If you find one false, say at which input.
  Laid BY PROGRAM, IN A SANDBOX (cutbox-rows.mjs): the forced cells as the released guide's own fill.sh prints them over the translation 895492f06718d96f… (all of the seat's roots in one cut). By AI agents, Wed Nov 11 2026. No macro, syntax, notation, axiom, sorry.
-/
import Derived.Test.YtlkhmpfdajefiaaChecked
import GoSem.Claim
import GoSem.ClaimJoined
import GoSem.ClaimMapViews
import Derived.JoinedTies
import Derived.KernelRfl
namespace Go.Proofs.Ytlkhmpfdajefiaa
/- THE CELL 'sum', in the pinned program and in every row, IS THE sha256 OF THE DUMP (.gsa) THAT YtlkhmpfdajefiaaProg.lean LOADS. Nothing in Lean hashes anything: it is a label: what it is worth is what the hold of that sum in a sandbox is worth. -/
noncomputable def Try.pinned : Pinned := { name := "ytlkhmpfdajefiaa", sum := "895492f06718d96f01779c91a2780638ef40412497b742d05cd59d9d7a3601ad", checked := Try.checked }
namespace Rows
def none {H : Type} : Left H := { results := [], args := [] }

/-- 'antipodelaw8.MvccAll': WHATEVER THE INPUT: true; the input reads as it did. -/
def mvccAllSpec : ChangeSpec := { name := "mvccAll", fn := fun _ => fun
  | [d1, d2, d3, d4, d5, d6] => { results := [.lit (.bool true)], args := [d1, d2, d3, d4, d5, d6] }
  | _ => none }
def mvccAllRow : OpenClaim := { program := "ytlkhmpfdajefiaa", sum := "895492f06718d96f01779c91a2780638ef40412497b742d05cd59d9d7a3601ad", func := "antipode/antipodelaw8.MvccAll", spec := "mvccAll", inPlace := ["internal/bytealg.abigen_runtime_cmpstring", "slices.overlaps[antipode/api.Cell]", "slices.overlaps[antipode/api.Version]"], unfollowed := true, recurses := true, apart := false }
def MvccAllSaid : Prop := mvccAllRow.holds Try.pinned (OpenSpec.ofChange mvccAllSpec)

/-- ITS FALSE NEIGHBOUR: 'it returns false'. Refute it at one input. -/
def mvccAllWrong : ChangeSpec := { name := "mvccAll", fn := fun _ => fun
  | [d1, d2, d3, d4, d5, d6] => { results := [.lit (.bool false)], args := [d1, d2, d3, d4, d5, d6] }
  | _ => none }
def MvccAllWrongFalsely : Prop := mvccAllRow.holds Try.pinned (OpenSpec.ofChange mvccAllWrong)

/-- 'antipodelaw8.MvccAny': WHATEVER THE INPUT: true; the input reads as it did. -/
def mvccAnySpec : ChangeSpec := { name := "mvccAny", fn := fun _ => fun
  | [d1, d2, d3, d4, d5, d6, d7] => { results := [.lit (.bool true)], args := [d1, d2, d3, d4, d5, d6, d7] }
  | _ => none }
def mvccAnyRow : OpenClaim := { program := "ytlkhmpfdajefiaa", sum := "895492f06718d96f01779c91a2780638ef40412497b742d05cd59d9d7a3601ad", func := "antipode/antipodelaw8.MvccAny", spec := "mvccAny", inPlace := ["internal/bytealg.abigen_runtime_cmpstring", "slices.overlaps[antipode/api.Cell]", "slices.overlaps[antipode/api.Version]"], unfollowed := true, recurses := true, apart := false }
def MvccAnySaid : Prop := mvccAnyRow.holds Try.pinned (OpenSpec.ofChange mvccAnySpec)

/-- ITS FALSE NEIGHBOUR: 'it returns false'. Refute it at one input. -/
def mvccAnyWrong : ChangeSpec := { name := "mvccAny", fn := fun _ => fun
  | [d1, d2, d3, d4, d5, d6, d7] => { results := [.lit (.bool false)], args := [d1, d2, d3, d4, d5, d6, d7] }
  | _ => none }
def MvccAnyWrongFalsely : Prop := mvccAnyRow.holds Try.pinned (OpenSpec.ofChange mvccAnyWrong)

/-- 'antipodelaw8.MvccTrims': WHATEVER THE INPUT: true; the input reads as it did. -/
def mvccTrimsSpec : ChangeSpec := { name := "mvccTrims", fn := fun _ => fun
  | [d1, d2, d3, d4] => { results := [.lit (.bool true)], args := [d1, d2, d3, d4] }
  | _ => none }
def mvccTrimsRow : OpenClaim := { program := "ytlkhmpfdajefiaa", sum := "895492f06718d96f01779c91a2780638ef40412497b742d05cd59d9d7a3601ad", func := "antipode/antipodelaw8.MvccTrims", spec := "mvccTrims", inPlace := ["internal/bytealg.abigen_runtime_cmpstring", "slices.overlaps[antipode/api.Cell]", "slices.overlaps[antipode/api.Version]"], unfollowed := true, recurses := true, apart := false }
def MvccTrimsSaid : Prop := mvccTrimsRow.holds Try.pinned (OpenSpec.ofChange mvccTrimsSpec)

/-- ITS FALSE NEIGHBOUR: 'it returns false'. Refute it at one input. -/
def mvccTrimsWrong : ChangeSpec := { name := "mvccTrims", fn := fun _ => fun
  | [d1, d2, d3, d4] => { results := [.lit (.bool false)], args := [d1, d2, d3, d4] }
  | _ => none }
def MvccTrimsWrongFalsely : Prop := mvccTrimsRow.holds Try.pinned (OpenSpec.ofChange mvccTrimsWrong)

/-- 'antipodelaw8.MvccPast': WHATEVER THE INPUT: true; the input reads as it did. -/
def mvccPastSpec : ChangeSpec := { name := "mvccPast", fn := fun _ => fun
  | [d1, d2, d3, d4, d5] => { results := [.lit (.bool true)], args := [d1, d2, d3, d4, d5] }
  | _ => none }
def mvccPastRow : OpenClaim := { program := "ytlkhmpfdajefiaa", sum := "895492f06718d96f01779c91a2780638ef40412497b742d05cd59d9d7a3601ad", func := "antipode/antipodelaw8.MvccPast", spec := "mvccPast", inPlace := ["internal/bytealg.abigen_runtime_cmpstring", "slices.overlaps[antipode/api.Cell]", "slices.overlaps[antipode/api.Version]"], unfollowed := true, recurses := true, apart := false }
def MvccPastSaid : Prop := mvccPastRow.holds Try.pinned (OpenSpec.ofChange mvccPastSpec)

/-- ITS FALSE NEIGHBOUR: 'it returns false'. Refute it at one input. -/
def mvccPastWrong : ChangeSpec := { name := "mvccPast", fn := fun _ => fun
  | [d1, d2, d3, d4, d5] => { results := [.lit (.bool false)], args := [d1, d2, d3, d4, d5] }
  | _ => none }
def MvccPastWrongFalsely : Prop := mvccPastRow.holds Try.pinned (OpenSpec.ofChange mvccPastWrong)

/-- 'antipodelaw8.MvccApart': WHATEVER THE INPUT: true; the input reads as it did. -/
def mvccApartSpec : ChangeSpec := { name := "mvccApart", fn := fun _ => fun
  | [d1, d2, d3, d4, d5, d6] => { results := [.lit (.bool true)], args := [d1, d2, d3, d4, d5, d6] }
  | _ => none }
def mvccApartRow : OpenClaim := { program := "ytlkhmpfdajefiaa", sum := "895492f06718d96f01779c91a2780638ef40412497b742d05cd59d9d7a3601ad", func := "antipode/antipodelaw8.MvccApart", spec := "mvccApart", inPlace := ["internal/bytealg.abigen_runtime_cmpstring", "slices.overlaps[antipode/api.Cell]", "slices.overlaps[antipode/api.Version]"], unfollowed := true, recurses := true, apart := false }
def MvccApartSaid : Prop := mvccApartRow.holds Try.pinned (OpenSpec.ofChange mvccApartSpec)

/-- ITS FALSE NEIGHBOUR: 'it returns false'. Refute it at one input. -/
def mvccApartWrong : ChangeSpec := { name := "mvccApart", fn := fun _ => fun
  | [d1, d2, d3, d4, d5, d6] => { results := [.lit (.bool false)], args := [d1, d2, d3, d4, d5, d6] }
  | _ => none }
def MvccApartWrongFalsely : Prop := mvccApartRow.holds Try.pinned (OpenSpec.ofChange mvccApartWrong)

/-- 'antipodelaw8.MvccScans': WHATEVER THE INPUT: true; the input reads as it did. -/
def mvccScansSpec : ChangeSpec := { name := "mvccScans", fn := fun _ => fun
  | [d1, d2, d3] => { results := [.lit (.bool true)], args := [d1, d2, d3] }
  | _ => none }
def mvccScansRow : OpenClaim := { program := "ytlkhmpfdajefiaa", sum := "895492f06718d96f01779c91a2780638ef40412497b742d05cd59d9d7a3601ad", func := "antipode/antipodelaw8.MvccScans", spec := "mvccScans", inPlace := ["internal/bytealg.abigen_runtime_cmpstring", "slices.overlaps[antipode/api.Cell]", "slices.overlaps[antipode/api.Version]"], unfollowed := true, recurses := true, apart := false }
def MvccScansSaid : Prop := mvccScansRow.holds Try.pinned (OpenSpec.ofChange mvccScansSpec)

/-- ITS FALSE NEIGHBOUR: 'it returns false'. Refute it at one input. -/
def mvccScansWrong : ChangeSpec := { name := "mvccScans", fn := fun _ => fun
  | [d1, d2, d3] => { results := [.lit (.bool false)], args := [d1, d2, d3] }
  | _ => none }
def MvccScansWrongFalsely : Prop := mvccScansRow.holds Try.pinned (OpenSpec.ofChange mvccScansWrong)

/-- 'antipodelaw8.MvccTurns': WHATEVER THE INPUT: true; the input reads as it did. -/
def mvccTurnsSpec : ChangeSpec := { name := "mvccTurns", fn := fun _ => fun
  | [d1, d2, d3, d4, d5] => { results := [.lit (.bool true)], args := [d1, d2, d3, d4, d5] }
  | _ => none }
def mvccTurnsRow : OpenClaim := { program := "ytlkhmpfdajefiaa", sum := "895492f06718d96f01779c91a2780638ef40412497b742d05cd59d9d7a3601ad", func := "antipode/antipodelaw8.MvccTurns", spec := "mvccTurns", inPlace := ["internal/bytealg.abigen_runtime_cmpstring", "slices.overlaps[antipode/api.Cell]", "slices.overlaps[antipode/api.Version]"], unfollowed := true, recurses := true, apart := false }
def MvccTurnsSaid : Prop := mvccTurnsRow.holds Try.pinned (OpenSpec.ofChange mvccTurnsSpec)

/-- ITS FALSE NEIGHBOUR: 'it returns false'. Refute it at one input. -/
def mvccTurnsWrong : ChangeSpec := { name := "mvccTurns", fn := fun _ => fun
  | [d1, d2, d3, d4, d5] => { results := [.lit (.bool false)], args := [d1, d2, d3, d4, d5] }
  | _ => none }
def MvccTurnsWrongFalsely : Prop := mvccTurnsRow.holds Try.pinned (OpenSpec.ofChange mvccTurnsWrong)

/-- 'antipodelaw8.MvccFree': WHATEVER THE INPUT: true; the input reads as it did. -/
def mvccFreeSpec : ChangeSpec := { name := "mvccFree", fn := fun _ => fun
  | [d1, d2, d3] => { results := [.lit (.bool true)], args := [d1, d2, d3] }
  | _ => none }
def mvccFreeRow : OpenClaim := { program := "ytlkhmpfdajefiaa", sum := "895492f06718d96f01779c91a2780638ef40412497b742d05cd59d9d7a3601ad", func := "antipode/antipodelaw8.MvccFree", spec := "mvccFree", inPlace := ["internal/bytealg.abigen_runtime_cmpstring", "slices.overlaps[antipode/api.Cell]", "slices.overlaps[antipode/api.Version]"], unfollowed := true, recurses := true, apart := false }
def MvccFreeSaid : Prop := mvccFreeRow.holds Try.pinned (OpenSpec.ofChange mvccFreeSpec)

/-- ITS FALSE NEIGHBOUR: 'it returns false'. Refute it at one input. -/
def mvccFreeWrong : ChangeSpec := { name := "mvccFree", fn := fun _ => fun
  | [d1, d2, d3] => { results := [.lit (.bool false)], args := [d1, d2, d3] }
  | _ => none }
def MvccFreeWrongFalsely : Prop := mvccFreeRow.holds Try.pinned (OpenSpec.ofChange mvccFreeWrong)

/- THE SECOND FORM. 'bulk': how many values and letters a reading holds, each counted each time it is reached (what is shared counts as often as it is met; a slice's spare places count too). A statement '..UptoSaid' is the law's where the arguments, and the package variables that the reading takes, are together of bulk at most 1048576: NARROWER than '..Said'. Prove '..Said' where nothing that the law and all that it calls make is longer than what came in: it says more and counts as full. Else prove '..UptoSaid'. A law counts once. -/
mutual
def uptoBulk {H : Type} : DataW H → Nat
  | .lit (.string bytes) => bytes.length + 1
  | .lit _ => 1
  | .nil => 1
  | .ptr d => uptoBulk d + 1
  | .slice elems spare => uptoBulkAll elems + uptoBulkAll spare + 1
  | .agg parts => uptoBulkAll parts + 1
  | .iface _ d => uptoBulk d + 1
  | .map entries => uptoBulkEntries entries + 1
  | .held _ => 1
def uptoBulkAll {H : Type} : List (DataW H) → Nat
  | [] => 0
  | d :: r => uptoBulk d + uptoBulkAll r
def uptoBulkEntries {H : Type} : List (Lit × DataW H) → Nat
  | [] => 0
  | x :: r => uptoBulkEntry x + uptoBulkEntries r
def uptoBulkEntry {H : Type} : Lit × DataW H → Nat
  | (.string bytes, d) => bytes.length + uptoBulk d + 1
  | (_, d) => uptoBulk d + 1
 end
def uptoSmall : (H : Type) → List (DataW H) → Bool := fun _ ds => decide (uptoBulkAll ds ≤ 1048576)
def OpenSpec.upto (s : _root_.Go.ChangeSpec) : _root_.Go.OpenSpec := { _root_.Go.OpenSpec.ofChange s with cond := some uptoSmall }

/-- 'antipodelaw8.MvccAll', WHERE WHAT IT READS IS OF BULK AT MOST 1048576: true; the input reads as it did. -/
def mvccAllUptoRow : OpenClaim := { program := "ytlkhmpfdajefiaa", sum := "895492f06718d96f01779c91a2780638ef40412497b742d05cd59d9d7a3601ad", func := "antipode/antipodelaw8.MvccAll", spec := "mvccAll", inPlace := ["internal/bytealg.abigen_runtime_cmpstring", "slices.overlaps[antipode/api.Cell]", "slices.overlaps[antipode/api.Version]"], unfollowed := true, recurses := true, apart := false, narrowed := true }
def MvccAllUptoSaid : Prop := mvccAllUptoRow.holds Try.pinned (OpenSpec.upto mvccAllSpec)

/-- 'antipodelaw8.MvccAny', WHERE WHAT IT READS IS OF BULK AT MOST 1048576: true; the input reads as it did. -/
def mvccAnyUptoRow : OpenClaim := { program := "ytlkhmpfdajefiaa", sum := "895492f06718d96f01779c91a2780638ef40412497b742d05cd59d9d7a3601ad", func := "antipode/antipodelaw8.MvccAny", spec := "mvccAny", inPlace := ["internal/bytealg.abigen_runtime_cmpstring", "slices.overlaps[antipode/api.Cell]", "slices.overlaps[antipode/api.Version]"], unfollowed := true, recurses := true, apart := false, narrowed := true }
def MvccAnyUptoSaid : Prop := mvccAnyUptoRow.holds Try.pinned (OpenSpec.upto mvccAnySpec)

/-- 'antipodelaw8.MvccTrims', WHERE WHAT IT READS IS OF BULK AT MOST 1048576: true; the input reads as it did. -/
def mvccTrimsUptoRow : OpenClaim := { program := "ytlkhmpfdajefiaa", sum := "895492f06718d96f01779c91a2780638ef40412497b742d05cd59d9d7a3601ad", func := "antipode/antipodelaw8.MvccTrims", spec := "mvccTrims", inPlace := ["internal/bytealg.abigen_runtime_cmpstring", "slices.overlaps[antipode/api.Cell]", "slices.overlaps[antipode/api.Version]"], unfollowed := true, recurses := true, apart := false, narrowed := true }
def MvccTrimsUptoSaid : Prop := mvccTrimsUptoRow.holds Try.pinned (OpenSpec.upto mvccTrimsSpec)

/-- 'antipodelaw8.MvccPast', WHERE WHAT IT READS IS OF BULK AT MOST 1048576: true; the input reads as it did. -/
def mvccPastUptoRow : OpenClaim := { program := "ytlkhmpfdajefiaa", sum := "895492f06718d96f01779c91a2780638ef40412497b742d05cd59d9d7a3601ad", func := "antipode/antipodelaw8.MvccPast", spec := "mvccPast", inPlace := ["internal/bytealg.abigen_runtime_cmpstring", "slices.overlaps[antipode/api.Cell]", "slices.overlaps[antipode/api.Version]"], unfollowed := true, recurses := true, apart := false, narrowed := true }
def MvccPastUptoSaid : Prop := mvccPastUptoRow.holds Try.pinned (OpenSpec.upto mvccPastSpec)

/-- 'antipodelaw8.MvccApart', WHERE WHAT IT READS IS OF BULK AT MOST 1048576: true; the input reads as it did. -/
def mvccApartUptoRow : OpenClaim := { program := "ytlkhmpfdajefiaa", sum := "895492f06718d96f01779c91a2780638ef40412497b742d05cd59d9d7a3601ad", func := "antipode/antipodelaw8.MvccApart", spec := "mvccApart", inPlace := ["internal/bytealg.abigen_runtime_cmpstring", "slices.overlaps[antipode/api.Cell]", "slices.overlaps[antipode/api.Version]"], unfollowed := true, recurses := true, apart := false, narrowed := true }
def MvccApartUptoSaid : Prop := mvccApartUptoRow.holds Try.pinned (OpenSpec.upto mvccApartSpec)

/-- 'antipodelaw8.MvccScans', WHERE WHAT IT READS IS OF BULK AT MOST 1048576: true; the input reads as it did. -/
def mvccScansUptoRow : OpenClaim := { program := "ytlkhmpfdajefiaa", sum := "895492f06718d96f01779c91a2780638ef40412497b742d05cd59d9d7a3601ad", func := "antipode/antipodelaw8.MvccScans", spec := "mvccScans", inPlace := ["internal/bytealg.abigen_runtime_cmpstring", "slices.overlaps[antipode/api.Cell]", "slices.overlaps[antipode/api.Version]"], unfollowed := true, recurses := true, apart := false, narrowed := true }
def MvccScansUptoSaid : Prop := mvccScansUptoRow.holds Try.pinned (OpenSpec.upto mvccScansSpec)

/-- 'antipodelaw8.MvccTurns', WHERE WHAT IT READS IS OF BULK AT MOST 1048576: true; the input reads as it did. -/
def mvccTurnsUptoRow : OpenClaim := { program := "ytlkhmpfdajefiaa", sum := "895492f06718d96f01779c91a2780638ef40412497b742d05cd59d9d7a3601ad", func := "antipode/antipodelaw8.MvccTurns", spec := "mvccTurns", inPlace := ["internal/bytealg.abigen_runtime_cmpstring", "slices.overlaps[antipode/api.Cell]", "slices.overlaps[antipode/api.Version]"], unfollowed := true, recurses := true, apart := false, narrowed := true }
def MvccTurnsUptoSaid : Prop := mvccTurnsUptoRow.holds Try.pinned (OpenSpec.upto mvccTurnsSpec)

/-- 'antipodelaw8.MvccFree', WHERE WHAT IT READS IS OF BULK AT MOST 1048576: true; the input reads as it did. -/
def mvccFreeUptoRow : OpenClaim := { program := "ytlkhmpfdajefiaa", sum := "895492f06718d96f01779c91a2780638ef40412497b742d05cd59d9d7a3601ad", func := "antipode/antipodelaw8.MvccFree", spec := "mvccFree", inPlace := ["internal/bytealg.abigen_runtime_cmpstring", "slices.overlaps[antipode/api.Cell]", "slices.overlaps[antipode/api.Version]"], unfollowed := true, recurses := true, apart := false, narrowed := true }
def MvccFreeUptoSaid : Prop := mvccFreeUptoRow.holds Try.pinned (OpenSpec.upto mvccFreeSpec)

end Rows
end Go.Proofs.Ytlkhmpfdajefiaa
