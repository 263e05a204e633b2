/-
  No cell of these rows narrows 'for every input' (looked for: loops, veiled, ifaces, maps, wideKeys, modest, calm, conditions, laid).
  DERIVED. THE GIVEN ROWS OF THIS SEAT. 8 by the template 'for every input the law returns true; each argument reads behind the call as it read before'; 0 by the template 'total and deterministic' (their statements: YtegnfkbmlalkeaaGreatTotals.lean).
  GIVEN WITH THE SEED: the statements are not yours to turn. If you find one false, say at which input.
  Laid BY PROGRAM, IN A SANDBOX (cutbox-rows.mjs): the forced cells as the released guide's own fill.sh prints them over the translation 5d34831f0e1508f9… (all of the seat's roots in one cut). By AI agents, Wed Nov 11 2026. No macro, syntax, notation, axiom, sorry.
-/
import Derived.Test.YtegnfkbmlalkeaaGreatChecked
import GoSem.Claim
import GoSem.ClaimJoined
import GoSem.ClaimMapViews
import Derived.JoinedTies
import Derived.KernelRfl
namespace Go.Proofs.YtegnfkbmlalkeaaGreat
/- THE CELL 'sum', in the pinned program and in every row, IS THE sha256 OF THE DUMP (.gsa) THAT YtegnfkbmlalkeaaGreatProg.lean LOADS. Nothing in Lean hashes anything: it is a label: what it is worth is what the hold of that sum in a sandbox is worth. -/
noncomputable def Tryz.pinned : Pinned := { name := "ytegnfkbmlalkeaagreat", sum := "5d34831f0e1508f930369247871a94d896ef94a03911581d00054a93ed202bfb", checked := Tryz.checked }
namespace Rows
def none {H : Type} : Left H := { results := [], args := [] }

/-- 'antipodelaw13.CoreTicks': WHATEVER THE INPUT: true; the input reads as it did. -/
def coreTicksSpec : ChangeSpec := { name := "coreTicks", fn := fun _ => fun
  | [d1, d2] => { results := [.lit (.bool true)], args := [d1, d2] }
  | _ => none }
def coreTicksRow : OpenClaim := { program := "ytegnfkbmlalkeaagreat", sum := "5d34831f0e1508f930369247871a94d896ef94a03911581d00054a93ed202bfb", func := "antipode/antipodelaw13.CoreTicks", spec := "coreTicks", unfollowed := true, recurses := true, apart := false }
def CoreTicksSaid : Prop := coreTicksRow.holds Tryz.pinned (OpenSpec.ofChange coreTicksSpec)

/-- ITS FALSE NEIGHBOUR: 'it returns false'. Refute it at one input. -/
def coreTicksWrong : ChangeSpec := { name := "coreTicks", fn := fun _ => fun
  | [d1, d2] => { results := [.lit (.bool false)], args := [d1, d2] }
  | _ => none }
def CoreTicksWrongFalsely : Prop := coreTicksRow.holds Tryz.pinned (OpenSpec.ofChange coreTicksWrong)

/-- 'antipodelaw13.CoreSteps': WHATEVER THE INPUT: true; the input reads as it did. -/
def coreStepsSpec : ChangeSpec := { name := "coreSteps", fn := fun _ => fun
  | [d1, d2] => { results := [.lit (.bool true)], args := [d1, d2] }
  | _ => none }
def coreStepsRow : OpenClaim := { program := "ytegnfkbmlalkeaagreat", sum := "5d34831f0e1508f930369247871a94d896ef94a03911581d00054a93ed202bfb", func := "antipode/antipodelaw13.CoreSteps", spec := "coreSteps", unfollowed := true, recurses := true, apart := false }
def CoreStepsSaid : Prop := coreStepsRow.holds Tryz.pinned (OpenSpec.ofChange coreStepsSpec)

/-- ITS FALSE NEIGHBOUR: 'it returns false'. Refute it at one input. -/
def coreStepsWrong : ChangeSpec := { name := "coreSteps", fn := fun _ => fun
  | [d1, d2] => { results := [.lit (.bool false)], args := [d1, d2] }
  | _ => none }
def CoreStepsWrongFalsely : Prop := coreStepsRow.holds Tryz.pinned (OpenSpec.ofChange coreStepsWrong)

/-- 'antipodelaw13.CoreProposes': WHATEVER THE INPUT: true; the input reads as it did. -/
def coreProposesSpec : ChangeSpec := { name := "coreProposes", fn := fun _ => fun
  | [d1, d2, d3, d4] => { results := [.lit (.bool true)], args := [d1, d2, d3, d4] }
  | _ => none }
def coreProposesRow : OpenClaim := { program := "ytegnfkbmlalkeaagreat", sum := "5d34831f0e1508f930369247871a94d896ef94a03911581d00054a93ed202bfb", func := "antipode/antipodelaw13.CoreProposes", spec := "coreProposes", unfollowed := true, recurses := true, apart := false }
def CoreProposesSaid : Prop := coreProposesRow.holds Tryz.pinned (OpenSpec.ofChange coreProposesSpec)

/-- ITS FALSE NEIGHBOUR: 'it returns false'. Refute it at one input. -/
def coreProposesWrong : ChangeSpec := { name := "coreProposes", fn := fun _ => fun
  | [d1, d2, d3, d4] => { results := [.lit (.bool false)], args := [d1, d2, d3, d4] }
  | _ => none }
def CoreProposesWrongFalsely : Prop := coreProposesRow.holds Tryz.pinned (OpenSpec.ofChange coreProposesWrong)

/-- 'antipodelaw13.CoreLends': WHATEVER THE INPUT: true; the input reads as it did. -/
def coreLendsSpec : ChangeSpec := { name := "coreLends", fn := fun _ => fun
  | [d] => { results := [.lit (.bool true)], args := [d] }
  | _ => none }
def coreLendsRow : OpenClaim := { program := "ytegnfkbmlalkeaagreat", sum := "5d34831f0e1508f930369247871a94d896ef94a03911581d00054a93ed202bfb", func := "antipode/antipodelaw13.CoreLends", spec := "coreLends", unfollowed := true, recurses := true, apart := false }
def CoreLendsSaid : Prop := coreLendsRow.holds Tryz.pinned (OpenSpec.ofChange coreLendsSpec)

/-- ITS FALSE NEIGHBOUR: 'it returns false'. Refute it at one input. -/
def coreLendsWrong : ChangeSpec := { name := "coreLends", fn := fun _ => fun
  | [d] => { results := [.lit (.bool false)], args := [d] }
  | _ => none }
def CoreLendsWrongFalsely : Prop := coreLendsRow.holds Tryz.pinned (OpenSpec.ofChange coreLendsWrong)

/-- 'antipodelaw13.CoreVotes': WHATEVER THE INPUT: true; the input reads as it did. -/
def coreVotesSpec : ChangeSpec := { name := "coreVotes", fn := fun _ => fun
  | [d1, d2, d3] => { results := [.lit (.bool true)], args := [d1, d2, d3] }
  | _ => none }
def coreVotesRow : OpenClaim := { program := "ytegnfkbmlalkeaagreat", sum := "5d34831f0e1508f930369247871a94d896ef94a03911581d00054a93ed202bfb", func := "antipode/antipodelaw13.CoreVotes", spec := "coreVotes", unfollowed := true, recurses := true, apart := false }
def CoreVotesSaid : Prop := coreVotesRow.holds Tryz.pinned (OpenSpec.ofChange coreVotesSpec)

/-- ITS FALSE NEIGHBOUR: 'it returns false'. Refute it at one input. -/
def coreVotesWrong : ChangeSpec := { name := "coreVotes", fn := fun _ => fun
  | [d1, d2, d3] => { results := [.lit (.bool false)], args := [d1, d2, d3] }
  | _ => none }
def CoreVotesWrongFalsely : Prop := coreVotesRow.holds Tryz.pinned (OpenSpec.ofChange coreVotesWrong)

/-- 'antipodelaw13.CoreStale': WHATEVER THE INPUT: true; the input reads as it did. -/
def coreStaleSpec : ChangeSpec := { name := "coreStale", fn := fun _ => fun
  | [d1, d2] => { results := [.lit (.bool true)], args := [d1, d2] }
  | _ => none }
def coreStaleRow : OpenClaim := { program := "ytegnfkbmlalkeaagreat", sum := "5d34831f0e1508f930369247871a94d896ef94a03911581d00054a93ed202bfb", func := "antipode/antipodelaw13.CoreStale", spec := "coreStale", unfollowed := true, recurses := true, apart := false }
def CoreStaleSaid : Prop := coreStaleRow.holds Tryz.pinned (OpenSpec.ofChange coreStaleSpec)

/-- ITS FALSE NEIGHBOUR: 'it returns false'. Refute it at one input. -/
def coreStaleWrong : ChangeSpec := { name := "coreStale", fn := fun _ => fun
  | [d1, d2] => { results := [.lit (.bool false)], args := [d1, d2] }
  | _ => none }
def CoreStaleWrongFalsely : Prop := coreStaleRow.holds Tryz.pinned (OpenSpec.ofChange coreStaleWrong)

/-- 'antipodelaw13.CoreAlone': WHATEVER THE INPUT: true; the input reads as it did. -/
def coreAloneSpec : ChangeSpec := { name := "coreAlone", fn := fun _ => fun
  | [d1, d2, d3] => { results := [.lit (.bool true)], args := [d1, d2, d3] }
  | _ => none }
def coreAloneRow : OpenClaim := { program := "ytegnfkbmlalkeaagreat", sum := "5d34831f0e1508f930369247871a94d896ef94a03911581d00054a93ed202bfb", func := "antipode/antipodelaw13.CoreAlone", spec := "coreAlone", unfollowed := true, recurses := true, apart := false }
def CoreAloneSaid : Prop := coreAloneRow.holds Tryz.pinned (OpenSpec.ofChange coreAloneSpec)

/-- ITS FALSE NEIGHBOUR: 'it returns false'. Refute it at one input. -/
def coreAloneWrong : ChangeSpec := { name := "coreAlone", fn := fun _ => fun
  | [d1, d2, d3] => { results := [.lit (.bool false)], args := [d1, d2, d3] }
  | _ => none }
def CoreAloneWrongFalsely : Prop := coreAloneRow.holds Tryz.pinned (OpenSpec.ofChange coreAloneWrong)

/-- 'antipodelaw13.CorePromotes': WHATEVER THE INPUT: true; the input reads as it did. -/
def corePromotesSpec : ChangeSpec := { name := "corePromotes", fn := fun _ => fun
  | [d] => { results := [.lit (.bool true)], args := [d] }
  | _ => none }
def corePromotesRow : OpenClaim := { program := "ytegnfkbmlalkeaagreat", sum := "5d34831f0e1508f930369247871a94d896ef94a03911581d00054a93ed202bfb", func := "antipode/antipodelaw13.CorePromotes", spec := "corePromotes", unfollowed := true, recurses := true, apart := false }
def CorePromotesSaid : Prop := corePromotesRow.holds Tryz.pinned (OpenSpec.ofChange corePromotesSpec)

/-- ITS FALSE NEIGHBOUR: 'it returns false'. Refute it at one input. -/
def corePromotesWrong : ChangeSpec := { name := "corePromotes", fn := fun _ => fun
  | [d] => { results := [.lit (.bool false)], args := [d] }
  | _ => none }
def CorePromotesWrongFalsely : Prop := corePromotesRow.holds Tryz.pinned (OpenSpec.ofChange corePromotesWrong)

/- THE SECOND FORM. 'bulk': how many values and letters a reading holds, each counted each time it is reached (what is shared counts as often as it is met; a slice's spare places count too). A statement '..UptoSaid' is the law's where the arguments, and the package variables that the reading takes, are together of bulk at most 1048576: NARROWER than '..Said'. Prove '..Said' where nothing that the law and all that it calls make is longer than what came in: it says more and counts as full. Else prove '..UptoSaid'. A law counts once. -/
mutual
def uptoBulk {H : Type} : DataW H → Nat
  | .lit (.string bytes) => bytes.length + 1
  | .lit _ => 1
  | .nil => 1
  | .ptr d => uptoBulk d + 1
  | .slice elems spare => uptoBulkAll elems + uptoBulkAll spare + 1
  | .agg parts => uptoBulkAll parts + 1
  | .iface _ d => uptoBulk d + 1
  | .map entries => uptoBulkEntries entries + 1
  | .held _ => 1
def uptoBulkAll {H : Type} : List (DataW H) → Nat
  | [] => 0
  | d :: r => uptoBulk d + uptoBulkAll r
def uptoBulkEntries {H : Type} : List (Lit × DataW H) → Nat
  | [] => 0
  | x :: r => uptoBulkEntry x + uptoBulkEntries r
def uptoBulkEntry {H : Type} : Lit × DataW H → Nat
  | (.string bytes, d) => bytes.length + uptoBulk d + 1
  | (_, d) => uptoBulk d + 1
 end
def uptoSmall : (H : Type) → List (DataW H) → Bool := fun _ ds => decide (uptoBulkAll ds ≤ 1048576)
def OpenSpec.upto (s : _root_.Go.ChangeSpec) : _root_.Go.OpenSpec := { _root_.Go.OpenSpec.ofChange s with cond := some uptoSmall }

/-- 'antipodelaw13.CoreTicks', WHERE WHAT IT READS IS OF BULK AT MOST 1048576: true; the input reads as it did. -/
def coreTicksUptoRow : OpenClaim := { program := "ytegnfkbmlalkeaagreat", sum := "5d34831f0e1508f930369247871a94d896ef94a03911581d00054a93ed202bfb", func := "antipode/antipodelaw13.CoreTicks", spec := "coreTicks", unfollowed := true, recurses := true, apart := false, narrowed := true }
def CoreTicksUptoSaid : Prop := coreTicksUptoRow.holds Tryz.pinned (OpenSpec.upto coreTicksSpec)

/-- 'antipodelaw13.CoreSteps', WHERE WHAT IT READS IS OF BULK AT MOST 1048576: true; the input reads as it did. -/
def coreStepsUptoRow : OpenClaim := { program := "ytegnfkbmlalkeaagreat", sum := "5d34831f0e1508f930369247871a94d896ef94a03911581d00054a93ed202bfb", func := "antipode/antipodelaw13.CoreSteps", spec := "coreSteps", unfollowed := true, recurses := true, apart := false, narrowed := true }
def CoreStepsUptoSaid : Prop := coreStepsUptoRow.holds Tryz.pinned (OpenSpec.upto coreStepsSpec)

/-- 'antipodelaw13.CoreProposes', WHERE WHAT IT READS IS OF BULK AT MOST 1048576: true; the input reads as it did. -/
def coreProposesUptoRow : OpenClaim := { program := "ytegnfkbmlalkeaagreat", sum := "5d34831f0e1508f930369247871a94d896ef94a03911581d00054a93ed202bfb", func := "antipode/antipodelaw13.CoreProposes", spec := "coreProposes", unfollowed := true, recurses := true, apart := false, narrowed := true }
def CoreProposesUptoSaid : Prop := coreProposesUptoRow.holds Tryz.pinned (OpenSpec.upto coreProposesSpec)

/-- 'antipodelaw13.CoreLends', WHERE WHAT IT READS IS OF BULK AT MOST 1048576: true; the input reads as it did. -/
def coreLendsUptoRow : OpenClaim := { program := "ytegnfkbmlalkeaagreat", sum := "5d34831f0e1508f930369247871a94d896ef94a03911581d00054a93ed202bfb", func := "antipode/antipodelaw13.CoreLends", spec := "coreLends", unfollowed := true, recurses := true, apart := false, narrowed := true }
def CoreLendsUptoSaid : Prop := coreLendsUptoRow.holds Tryz.pinned (OpenSpec.upto coreLendsSpec)

/-- 'antipodelaw13.CoreVotes', WHERE WHAT IT READS IS OF BULK AT MOST 1048576: true; the input reads as it did. -/
def coreVotesUptoRow : OpenClaim := { program := "ytegnfkbmlalkeaagreat", sum := "5d34831f0e1508f930369247871a94d896ef94a03911581d00054a93ed202bfb", func := "antipode/antipodelaw13.CoreVotes", spec := "coreVotes", unfollowed := true, recurses := true, apart := false, narrowed := true }
def CoreVotesUptoSaid : Prop := coreVotesUptoRow.holds Tryz.pinned (OpenSpec.upto coreVotesSpec)

/-- 'antipodelaw13.CoreStale', WHERE WHAT IT READS IS OF BULK AT MOST 1048576: true; the input reads as it did. -/
def coreStaleUptoRow : OpenClaim := { program := "ytegnfkbmlalkeaagreat", sum := "5d34831f0e1508f930369247871a94d896ef94a03911581d00054a93ed202bfb", func := "antipode/antipodelaw13.CoreStale", spec := "coreStale", unfollowed := true, recurses := true, apart := false, narrowed := true }
def CoreStaleUptoSaid : Prop := coreStaleUptoRow.holds Tryz.pinned (OpenSpec.upto coreStaleSpec)

/-- 'antipodelaw13.CoreAlone', WHERE WHAT IT READS IS OF BULK AT MOST 1048576: true; the input reads as it did. -/
def coreAloneUptoRow : OpenClaim := { program := "ytegnfkbmlalkeaagreat", sum := "5d34831f0e1508f930369247871a94d896ef94a03911581d00054a93ed202bfb", func := "antipode/antipodelaw13.CoreAlone", spec := "coreAlone", unfollowed := true, recurses := true, apart := false, narrowed := true }
def CoreAloneUptoSaid : Prop := coreAloneUptoRow.holds Tryz.pinned (OpenSpec.upto coreAloneSpec)

/-- 'antipodelaw13.CorePromotes', WHERE WHAT IT READS IS OF BULK AT MOST 1048576: true; the input reads as it did. -/
def corePromotesUptoRow : OpenClaim := { program := "ytegnfkbmlalkeaagreat", sum := "5d34831f0e1508f930369247871a94d896ef94a03911581d00054a93ed202bfb", func := "antipode/antipodelaw13.CorePromotes", spec := "corePromotes", unfollowed := true, recurses := true, apart := false, narrowed := true }
def CorePromotesUptoSaid : Prop := corePromotesUptoRow.holds Tryz.pinned (OpenSpec.upto corePromotesSpec)

end Rows
end Go.Proofs.YtegnfkbmlalkeaaGreat
