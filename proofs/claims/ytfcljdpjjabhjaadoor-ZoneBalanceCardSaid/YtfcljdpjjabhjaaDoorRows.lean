/-
  NARROWER THAN 'FOR EVERY INPUT', by the rows' own cells (each row's printed sentence says how): ZoneAll: laid · ZoneSurvives: laid · ZoneRight: laid · ZoneBalance: laid.
  DERIVED. THE GIVEN ROWS OF THIS SEAT. 4 by the template 'for every input the law returns true; each argument reads behind the call as it read before'; 0 by the template 'total and deterministic' (their statements: YtfcljdpjjabhjaaDoorTotals.lean).
  GIVEN WITH THE SEED: the statements are not yours to turn. If you find one false, say at which input.
  Laid BY PROGRAM, IN A SANDBOX (cutbox-rows.mjs): the forced cells as the released guide's own fill.sh prints them over the translation 4331e13bd0cf0c98… (all of the seat's roots in one cut). By AI agents, Wed Nov 11 2026. No macro, syntax, notation, axiom, sorry.
-/
import Derived.Test.YtfcljdpjjabhjaaDoorChecked
import GoSem.Claim
import GoSem.ClaimJoined
import GoSem.ClaimMapViews
import Derived.JoinedTies
import Derived.KernelRfl
namespace Go.Proofs.YtfcljdpjjabhjaaDoor
/- THE CELL 'sum', in the pinned program and in every row, IS THE sha256 OF THE DUMP (.gsa) THAT YtfcljdpjjabhjaaDoorProg.lean LOADS. Nothing in Lean hashes anything: it is a label: what it is worth is what the hold of that sum in a sandbox is worth. -/
noncomputable def Tryd.pinned : Pinned := { name := "ytfcljdpjjabhjaadoor", sum := "4331e13bd0cf0c983040904022e82a72db4cc09af699acc3803553519a20a6a0", checked := Tryd.checked }
namespace Rows
def none {H : Type} : Left H := { results := [], args := [] }

/- WHAT THE LISTED PACKAGE-LEVEL VARIABLES READ AS WHEN THE CALL BEGINS. Each datum BY PROGRAM (the guide's laid-datum.mjs) off the statement by which the dump's own 'gosem.cut.vars' lays the variable. In a bare row this is a premise. The card (YtfcljdpjjabhjaaDoorCards.lean) ties it to the program's text. -/
def laid_math_bits_deBruijn32tab {H : Type} : DataW H := .agg [.lit (.int .u8 0), .lit (.int .u8 1), .lit (.int .u8 28), .lit (.int .u8 2), .lit (.int .u8 29), .lit (.int .u8 14), .lit (.int .u8 24), .lit (.int .u8 3), .lit (.int .u8 30), .lit (.int .u8 22), .lit (.int .u8 20), .lit (.int .u8 15), .lit (.int .u8 25), .lit (.int .u8 17), .lit (.int .u8 4), .lit (.int .u8 8), .lit (.int .u8 31), .lit (.int .u8 27), .lit (.int .u8 13), .lit (.int .u8 23), .lit (.int .u8 21), .lit (.int .u8 19), .lit (.int .u8 16), .lit (.int .u8 7), .lit (.int .u8 26), .lit (.int .u8 12), .lit (.int .u8 18), .lit (.int .u8 6), .lit (.int .u8 11), .lit (.int .u8 5), .lit (.int .u8 10), .lit (.int .u8 9)]

/-- 'antipodelaw11.ZoneAll': WHATEVER THE INPUT: true; the input reads as it did. -/
def zoneAllSpec : ChangeSpec := { name := "zoneAll", fn := fun _ => fun
  | [d1, d2, d3] => { results := [.lit (.bool true)], args := [d1, d2, d3] }
  | _ => none }
def zoneAllRow : OpenClaim := { program := "ytfcljdpjjabhjaadoor", sum := "4331e13bd0cf0c983040904022e82a72db4cc09af699acc3803553519a20a6a0", func := "antipode/antipodelaw11.ZoneAll", spec := "zoneAll", unfollowed := true, recurses := true, named := ["math/bits.deBruijn32tab"], apart := false, laid := [("math/bits.deBruijn32tab", laid_math_bits_deBruijn32tab)] }
def ZoneAllSaid : Prop := zoneAllRow.holds Tryd.pinned (OpenSpec.ofChange zoneAllSpec)

/-- ITS FALSE NEIGHBOUR: 'it returns false'. Refute it at one input. -/
def zoneAllWrong : ChangeSpec := { name := "zoneAll", fn := fun _ => fun
  | [d1, d2, d3] => { results := [.lit (.bool false)], args := [d1, d2, d3] }
  | _ => none }
def ZoneAllWrongFalsely : Prop := zoneAllRow.holds Tryd.pinned (OpenSpec.ofChange zoneAllWrong)

/-- 'antipodelaw11.ZoneSurvives': WHATEVER THE INPUT: true; the input reads as it did. -/
def zoneSurvivesSpec : ChangeSpec := { name := "zoneSurvives", fn := fun _ => fun
  | [d1, d2, d3] => { results := [.lit (.bool true)], args := [d1, d2, d3] }
  | _ => none }
def zoneSurvivesRow : OpenClaim := { program := "ytfcljdpjjabhjaadoor", sum := "4331e13bd0cf0c983040904022e82a72db4cc09af699acc3803553519a20a6a0", func := "antipode/antipodelaw11.ZoneSurvives", spec := "zoneSurvives", unfollowed := true, recurses := true, named := ["math/bits.deBruijn32tab"], apart := false, laid := [("math/bits.deBruijn32tab", laid_math_bits_deBruijn32tab)] }
def ZoneSurvivesSaid : Prop := zoneSurvivesRow.holds Tryd.pinned (OpenSpec.ofChange zoneSurvivesSpec)

/-- ITS FALSE NEIGHBOUR: 'it returns false'. Refute it at one input. -/
def zoneSurvivesWrong : ChangeSpec := { name := "zoneSurvives", fn := fun _ => fun
  | [d1, d2, d3] => { results := [.lit (.bool false)], args := [d1, d2, d3] }
  | _ => none }
def ZoneSurvivesWrongFalsely : Prop := zoneSurvivesRow.holds Tryd.pinned (OpenSpec.ofChange zoneSurvivesWrong)

/-- 'antipodelaw11.ZoneRight': WHATEVER THE INPUT: true; the input reads as it did. -/
def zoneRightSpec : ChangeSpec := { name := "zoneRight", fn := fun _ => fun
  | [d1, d2, d3] => { results := [.lit (.bool true)], args := [d1, d2, d3] }
  | _ => none }
def zoneRightRow : OpenClaim := { program := "ytfcljdpjjabhjaadoor", sum := "4331e13bd0cf0c983040904022e82a72db4cc09af699acc3803553519a20a6a0", func := "antipode/antipodelaw11.ZoneRight", spec := "zoneRight", unfollowed := true, recurses := true, named := ["math/bits.deBruijn32tab"], apart := false, laid := [("math/bits.deBruijn32tab", laid_math_bits_deBruijn32tab)] }
def ZoneRightSaid : Prop := zoneRightRow.holds Tryd.pinned (OpenSpec.ofChange zoneRightSpec)

/-- ITS FALSE NEIGHBOUR: 'it returns false'. Refute it at one input. -/
def zoneRightWrong : ChangeSpec := { name := "zoneRight", fn := fun _ => fun
  | [d1, d2, d3] => { results := [.lit (.bool false)], args := [d1, d2, d3] }
  | _ => none }
def ZoneRightWrongFalsely : Prop := zoneRightRow.holds Tryd.pinned (OpenSpec.ofChange zoneRightWrong)

/-- 'antipodelaw11.ZoneBalance': WHATEVER THE INPUT: true; the input reads as it did. -/
def zoneBalanceSpec : ChangeSpec := { name := "zoneBalance", fn := fun _ => fun
  | [d1, d2, d3] => { results := [.lit (.bool true)], args := [d1, d2, d3] }
  | _ => none }
def zoneBalanceRow : OpenClaim := { program := "ytfcljdpjjabhjaadoor", sum := "4331e13bd0cf0c983040904022e82a72db4cc09af699acc3803553519a20a6a0", func := "antipode/antipodelaw11.ZoneBalance", spec := "zoneBalance", unfollowed := true, recurses := true, named := ["math/bits.deBruijn32tab"], apart := false, laid := [("math/bits.deBruijn32tab", laid_math_bits_deBruijn32tab)] }
def ZoneBalanceSaid : Prop := zoneBalanceRow.holds Tryd.pinned (OpenSpec.ofChange zoneBalanceSpec)

/-- ITS FALSE NEIGHBOUR: 'it returns false'. Refute it at one input. -/
def zoneBalanceWrong : ChangeSpec := { name := "zoneBalance", fn := fun _ => fun
  | [d1, d2, d3] => { results := [.lit (.bool false)], args := [d1, d2, d3] }
  | _ => none }
def ZoneBalanceWrongFalsely : Prop := zoneBalanceRow.holds Tryd.pinned (OpenSpec.ofChange zoneBalanceWrong)

/- THE SECOND FORM. 'bulk': how many values and letters a reading holds, each counted each time it is reached (what is shared counts as often as it is met; a slice's spare places count too). A statement '..UptoSaid' is the law's where the arguments, and the package variables that the reading takes, are together of bulk at most 1048576: NARROWER than '..Said'. Prove '..Said' where nothing that the law and all that it calls make is longer than what came in: it says more and counts as full. Else prove '..UptoSaid'. A law counts once. -/
mutual
def uptoBulk {H : Type} : DataW H → Nat
  | .lit (.string bytes) => bytes.length + 1
  | .lit _ => 1
  | .nil => 1
  | .ptr d => uptoBulk d + 1
  | .slice elems spare => uptoBulkAll elems + uptoBulkAll spare + 1
  | .agg parts => uptoBulkAll parts + 1
  | .iface _ d => uptoBulk d + 1
  | .map entries => uptoBulkEntries entries + 1
  | .held _ => 1
def uptoBulkAll {H : Type} : List (DataW H) → Nat
  | [] => 0
  | d :: r => uptoBulk d + uptoBulkAll r
def uptoBulkEntries {H : Type} : List (Lit × DataW H) → Nat
  | [] => 0
  | x :: r => uptoBulkEntry x + uptoBulkEntries r
def uptoBulkEntry {H : Type} : Lit × DataW H → Nat
  | (.string bytes, d) => bytes.length + uptoBulk d + 1
  | (_, d) => uptoBulk d + 1
 end
def uptoSmall : (H : Type) → List (DataW H) → Bool := fun _ ds => decide (uptoBulkAll ds ≤ 1048576)
def OpenSpec.upto (s : _root_.Go.ChangeSpec) : _root_.Go.OpenSpec := { _root_.Go.OpenSpec.ofChange s with cond := some uptoSmall }

/-- 'antipodelaw11.ZoneAll', WHERE WHAT IT READS IS OF BULK AT MOST 1048576: true; the input reads as it did. -/
def zoneAllUptoRow : OpenClaim := { program := "ytfcljdpjjabhjaadoor", sum := "4331e13bd0cf0c983040904022e82a72db4cc09af699acc3803553519a20a6a0", func := "antipode/antipodelaw11.ZoneAll", spec := "zoneAll", unfollowed := true, recurses := true, named := ["math/bits.deBruijn32tab"], apart := false, laid := [("math/bits.deBruijn32tab", laid_math_bits_deBruijn32tab)], narrowed := true }
def ZoneAllUptoSaid : Prop := zoneAllUptoRow.holds Tryd.pinned (OpenSpec.upto zoneAllSpec)

/-- 'antipodelaw11.ZoneSurvives', WHERE WHAT IT READS IS OF BULK AT MOST 1048576: true; the input reads as it did. -/
def zoneSurvivesUptoRow : OpenClaim := { program := "ytfcljdpjjabhjaadoor", sum := "4331e13bd0cf0c983040904022e82a72db4cc09af699acc3803553519a20a6a0", func := "antipode/antipodelaw11.ZoneSurvives", spec := "zoneSurvives", unfollowed := true, recurses := true, named := ["math/bits.deBruijn32tab"], apart := false, laid := [("math/bits.deBruijn32tab", laid_math_bits_deBruijn32tab)], narrowed := true }
def ZoneSurvivesUptoSaid : Prop := zoneSurvivesUptoRow.holds Tryd.pinned (OpenSpec.upto zoneSurvivesSpec)

/-- 'antipodelaw11.ZoneRight', WHERE WHAT IT READS IS OF BULK AT MOST 1048576: true; the input reads as it did. -/
def zoneRightUptoRow : OpenClaim := { program := "ytfcljdpjjabhjaadoor", sum := "4331e13bd0cf0c983040904022e82a72db4cc09af699acc3803553519a20a6a0", func := "antipode/antipodelaw11.ZoneRight", spec := "zoneRight", unfollowed := true, recurses := true, named := ["math/bits.deBruijn32tab"], apart := false, laid := [("math/bits.deBruijn32tab", laid_math_bits_deBruijn32tab)], narrowed := true }
def ZoneRightUptoSaid : Prop := zoneRightUptoRow.holds Tryd.pinned (OpenSpec.upto zoneRightSpec)

/-- 'antipodelaw11.ZoneBalance', WHERE WHAT IT READS IS OF BULK AT MOST 1048576: true; the input reads as it did. -/
def zoneBalanceUptoRow : OpenClaim := { program := "ytfcljdpjjabhjaadoor", sum := "4331e13bd0cf0c983040904022e82a72db4cc09af699acc3803553519a20a6a0", func := "antipode/antipodelaw11.ZoneBalance", spec := "zoneBalance", unfollowed := true, recurses := true, named := ["math/bits.deBruijn32tab"], apart := false, laid := [("math/bits.deBruijn32tab", laid_math_bits_deBruijn32tab)], narrowed := true }
def ZoneBalanceUptoSaid : Prop := zoneBalanceUptoRow.holds Tryd.pinned (OpenSpec.upto zoneBalanceSpec)

end Rows
end Go.Proofs.YtfcljdpjjabhjaaDoor
