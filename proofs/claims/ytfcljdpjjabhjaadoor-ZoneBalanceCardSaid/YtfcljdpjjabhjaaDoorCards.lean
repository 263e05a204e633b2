/-
  DERIVED. GIVEN WITH THE SEED: THE CARDS: each row of YtfcljdpjjabhjaaDoorRows.lean that lists a variable, with what it lists TIED to the program's text (the seventh form; the later family's looks); each row that meets fmt, with fmt's text TOLD by the authors' own Lean function (tested against real Go, not proved from fmt's source: count such statements apart). THE CARD IS WHAT COUNTS. Prove the row's statement (the work); the ties are given (YtfcljdpjjabhjaaDoorTie.lean); close each card by the builder's one call (the guide's Derived/Test/ToyasCard.lean, 'card_holds'). Laid BY PROGRAM, IN A SANDBOX (cutbox-door.mjs). By AI agents, Wed Nov 11 2026. No macro, syntax, notation, axiom, sorry.
-/
import Derived.Test.YtfcljdpjjabhjaaDoorRows
import GoSem.ClaimSeven
namespace Go.Proofs.YtfcljdpjjabhjaaDoor
namespace Rows

/-- THE TIED CARD OF 'antipodelaw11.ZoneAll'. -/
def zoneAllCard : Claim7 := { stood := { row := zoneAllRow, standIns := [], harness := (true, "7e6df8e708b87decee80aad8f3132953d65cbaf975893efa2b8a52b7d115751a"), looks := false }, kinds := [], alts := [], laidByText := true, laidKinds := [.data], laidTests := true, laidLooks := .later }
def ZoneAllCardSaid : Prop := Claim7.holds Tryd.pinned (.plain (OpenSpec.ofChange zoneAllSpec)) zoneAllCard

/-- THE TIED CARD OF 'antipodelaw11.ZoneSurvives'. -/
def zoneSurvivesCard : Claim7 := { stood := { row := zoneSurvivesRow, standIns := [], harness := (true, "7e6df8e708b87decee80aad8f3132953d65cbaf975893efa2b8a52b7d115751a"), looks := false }, kinds := [], alts := [], laidByText := true, laidKinds := [.data], laidTests := true, laidLooks := .later }
def ZoneSurvivesCardSaid : Prop := Claim7.holds Tryd.pinned (.plain (OpenSpec.ofChange zoneSurvivesSpec)) zoneSurvivesCard

/-- THE TIED CARD OF 'antipodelaw11.ZoneRight'. -/
def zoneRightCard : Claim7 := { stood := { row := zoneRightRow, standIns := [], harness := (true, "7e6df8e708b87decee80aad8f3132953d65cbaf975893efa2b8a52b7d115751a"), looks := false }, kinds := [], alts := [], laidByText := true, laidKinds := [.data], laidTests := true, laidLooks := .later }
def ZoneRightCardSaid : Prop := Claim7.holds Tryd.pinned (.plain (OpenSpec.ofChange zoneRightSpec)) zoneRightCard

/-- THE TIED CARD OF 'antipodelaw11.ZoneBalance'. -/
def zoneBalanceCard : Claim7 := { stood := { row := zoneBalanceRow, standIns := [], harness := (true, "7e6df8e708b87decee80aad8f3132953d65cbaf975893efa2b8a52b7d115751a"), looks := false }, kinds := [], alts := [], laidByText := true, laidKinds := [.data], laidTests := true, laidLooks := .later }
def ZoneBalanceCardSaid : Prop := Claim7.holds Tryd.pinned (.plain (OpenSpec.ofChange zoneBalanceSpec)) zoneBalanceCard

/-- THE SECOND FORM's CARD OF 'antipodelaw11.ZoneAll'. -/
def zoneAllUptoCard : Claim7 := { stood := { row := zoneAllUptoRow, standIns := [], harness := (true, "7e6df8e708b87decee80aad8f3132953d65cbaf975893efa2b8a52b7d115751a"), looks := false }, kinds := [], alts := [], laidByText := true, laidKinds := [.data], laidTests := true, laidLooks := .later }
def ZoneAllUptoCardSaid : Prop := Claim7.holds Tryd.pinned (.plain (OpenSpec.upto zoneAllSpec)) zoneAllUptoCard

/-- THE SECOND FORM's CARD OF 'antipodelaw11.ZoneSurvives'. -/
def zoneSurvivesUptoCard : Claim7 := { stood := { row := zoneSurvivesUptoRow, standIns := [], harness := (true, "7e6df8e708b87decee80aad8f3132953d65cbaf975893efa2b8a52b7d115751a"), looks := false }, kinds := [], alts := [], laidByText := true, laidKinds := [.data], laidTests := true, laidLooks := .later }
def ZoneSurvivesUptoCardSaid : Prop := Claim7.holds Tryd.pinned (.plain (OpenSpec.upto zoneSurvivesSpec)) zoneSurvivesUptoCard

/-- THE SECOND FORM's CARD OF 'antipodelaw11.ZoneRight'. -/
def zoneRightUptoCard : Claim7 := { stood := { row := zoneRightUptoRow, standIns := [], harness := (true, "7e6df8e708b87decee80aad8f3132953d65cbaf975893efa2b8a52b7d115751a"), looks := false }, kinds := [], alts := [], laidByText := true, laidKinds := [.data], laidTests := true, laidLooks := .later }
def ZoneRightUptoCardSaid : Prop := Claim7.holds Tryd.pinned (.plain (OpenSpec.upto zoneRightSpec)) zoneRightUptoCard

/-- THE SECOND FORM's CARD OF 'antipodelaw11.ZoneBalance'. -/
def zoneBalanceUptoCard : Claim7 := { stood := { row := zoneBalanceUptoRow, standIns := [], harness := (true, "7e6df8e708b87decee80aad8f3132953d65cbaf975893efa2b8a52b7d115751a"), looks := false }, kinds := [], alts := [], laidByText := true, laidKinds := [.data], laidTests := true, laidLooks := .later }
def ZoneBalanceUptoCardSaid : Prop := Claim7.holds Tryd.pinned (.plain (OpenSpec.upto zoneBalanceSpec)) zoneBalanceUptoCard
end Rows
end Go.Proofs.YtfcljdpjjabhjaaDoor
