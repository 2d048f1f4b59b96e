/-
  DERIVED. GIVEN WITH THE SEED: THE CARDS: each row of YtflbjjcpkhldkaaDoorRows.lean that lists a variable, with what it lists TIED to the program's text (the seventh form; the later family's looks); each row that meets fmt, with fmt's text TOLD by the authors' own Lean function (tested against real Go, not proved from fmt's source: count such statements apart). THE CARD IS WHAT COUNTS. Prove the row's statement (the work); the ties are given (YtflbjjcpkhldkaaDoorTie.lean); close each card by the builder's one call (the guide's Derived/Test/ToyasCard.lean, 'card_holds'). Laid BY PROGRAM, IN A SANDBOX (cutbox-door.mjs). By AI agents, Wed Nov 11 2026. No macro, syntax, notation, axiom, sorry.
-/
import Derived.Test.YtflbjjcpkhldkaaDoorRows
import GoSem.ClaimSeven
namespace Go.Proofs.YtflbjjcpkhldkaaDoor
namespace Rows

/-- THE TIED CARD OF 'laws.FnExactTimesOf'. -/
def fnExactTimesOfCard : Claim7 := { stood := { row := fnExactTimesOfRow, standIns := [], harness := (true, "2b1b7863ac42779cad44ec8cbc45cc0ccd874235fee0d8070bbca61dc1377ae0"), looks := true }, kinds := [], alts := [], laidByText := true, laidKinds := [.handle, .data], laidTests := true, laidLooks := .later }
def FnExactTimesOfCardSaid : Prop := Claim7.holds Tryd.pinned (.plain (OpenSpec.ofChange fnExactTimesOfSpec)) fnExactTimesOfCard

/-- THE TIED CARD OF 'laws.FnExactCheckTimes'. -/
def fnExactCheckTimesCard : Claim7 := { stood := { row := fnExactCheckTimesRow, standIns := [], harness := (true, "2b1b7863ac42779cad44ec8cbc45cc0ccd874235fee0d8070bbca61dc1377ae0"), looks := true }, kinds := [], alts := [], laidByText := true, laidKinds := [.handle, .data], laidTests := true, laidLooks := .later }
def FnExactCheckTimesCardSaid : Prop := Claim7.holds Tryd.pinned (.plain (OpenSpec.ofChange fnExactCheckTimesSpec)) fnExactCheckTimesCard

/-- THE TIED CARD OF 'laws.FnExactUnreached'. -/
def fnExactUnreachedCard : Claim7 := { stood := { row := fnExactUnreachedRow, standIns := [], harness := (true, "2b1b7863ac42779cad44ec8cbc45cc0ccd874235fee0d8070bbca61dc1377ae0"), looks := true }, kinds := [], alts := [], laidByText := true, laidKinds := [.handle, .data], laidTests := true, laidLooks := .later }
def FnExactUnreachedCardSaid : Prop := Claim7.holds Tryd.pinned (.plain (OpenSpec.ofChange fnExactUnreachedSpec)) fnExactUnreachedCard

/-- THE TIED CARD OF 'laws.FnExactAllClosed'. -/
def fnExactAllClosedCard : Claim7 := { stood := { row := fnExactAllClosedRow, standIns := [], harness := (true, "2b1b7863ac42779cad44ec8cbc45cc0ccd874235fee0d8070bbca61dc1377ae0"), looks := true }, kinds := [], alts := [], laidByText := true, laidKinds := [.handle, .data], laidTests := true, laidLooks := .later }
def FnExactAllClosedCardSaid : Prop := Claim7.holds Tryd.pinned (.plain (OpenSpec.ofChange fnExactAllClosedSpec)) fnExactAllClosedCard

/-- THE TIED CARD OF 'laws.FnExactWayToShip'. -/
def fnExactWayToShipCard : Claim7 := { stood := { row := fnExactWayToShipRow, standIns := [], harness := (true, "2b1b7863ac42779cad44ec8cbc45cc0ccd874235fee0d8070bbca61dc1377ae0"), looks := true }, kinds := [], alts := [], laidByText := true, laidKinds := [.handle, .data], laidTests := true, laidLooks := .later }
def FnExactWayToShipCardSaid : Prop := Claim7.holds Tryd.pinned (.plain (OpenSpec.ofChange fnExactWayToShipSpec)) fnExactWayToShipCard

/-- THE TIED CARD OF 'laws.FnExactHauledDown'. -/
def fnExactHauledDownCard : Claim7 := { stood := { row := fnExactHauledDownRow, standIns := [], harness := (true, "2b1b7863ac42779cad44ec8cbc45cc0ccd874235fee0d8070bbca61dc1377ae0"), looks := true }, kinds := [], alts := [], laidByText := true, laidKinds := [.handle, .data], laidTests := true, laidLooks := .later }
def FnExactHauledDownCardSaid : Prop := Claim7.holds Tryd.pinned (.plain (OpenSpec.ofChange fnExactHauledDownSpec)) fnExactHauledDownCard

/-- THE TIED CARD OF 'laws.FnExactLastDown'. -/
def fnExactLastDownCard : Claim7 := { stood := { row := fnExactLastDownRow, standIns := [], harness := (true, "2b1b7863ac42779cad44ec8cbc45cc0ccd874235fee0d8070bbca61dc1377ae0"), looks := true }, kinds := [], alts := [], laidByText := true, laidKinds := [.handle, .data], laidTests := true, laidLooks := .later }
def FnExactLastDownCardSaid : Prop := Claim7.holds Tryd.pinned (.plain (OpenSpec.ofChange fnExactLastDownSpec)) fnExactLastDownCard

/-- THE TIED CARD OF 'laws.FnExactClosedUntil'. -/
def fnExactClosedUntilCard : Claim7 := { stood := { row := fnExactClosedUntilRow, standIns := [], harness := (true, "2b1b7863ac42779cad44ec8cbc45cc0ccd874235fee0d8070bbca61dc1377ae0"), looks := true }, kinds := [], alts := [], laidByText := true, laidKinds := [.handle, .data], laidTests := true, laidLooks := .later }
def FnExactClosedUntilCardSaid : Prop := Claim7.holds Tryd.pinned (.plain (OpenSpec.ofChange fnExactClosedUntilSpec)) fnExactClosedUntilCard

/-- THE TIED CARD OF 'laws.FnExactWithoutShip'. -/
def fnExactWithoutShipCard : Claim7 := { stood := { row := fnExactWithoutShipRow, standIns := [], harness := (true, "2b1b7863ac42779cad44ec8cbc45cc0ccd874235fee0d8070bbca61dc1377ae0"), looks := true }, kinds := [], alts := [], laidByText := true, laidKinds := [.handle, .data], laidTests := true, laidLooks := .later }
def FnExactWithoutShipCardSaid : Prop := Claim7.holds Tryd.pinned (.plain (OpenSpec.ofChange fnExactWithoutShipSpec)) fnExactWithoutShipCard

/-- THE TIED CARD OF 'laws.FnExactLaterIf'. -/
def fnExactLaterIfCard : Claim7 := { stood := { row := fnExactLaterIfRow, standIns := [], harness := (true, "2b1b7863ac42779cad44ec8cbc45cc0ccd874235fee0d8070bbca61dc1377ae0"), looks := true }, kinds := [], alts := [], laidByText := true, laidKinds := [.handle, .data], laidTests := true, laidLooks := .later }
def FnExactLaterIfCardSaid : Prop := Claim7.holds Tryd.pinned (.plain (OpenSpec.ofChange fnExactLaterIfSpec)) fnExactLaterIfCard

/-- THE TIED CARD OF 'laws.FnExactSlackOf'. -/
def fnExactSlackOfCard : Claim7 := { stood := { row := fnExactSlackOfRow, standIns := [], harness := (true, "2b1b7863ac42779cad44ec8cbc45cc0ccd874235fee0d8070bbca61dc1377ae0"), looks := true }, kinds := [], alts := [], laidByText := true, laidKinds := [.handle, .data], laidTests := true, laidLooks := .later }
def FnExactSlackOfCardSaid : Prop := Claim7.holds Tryd.pinned (.plain (OpenSpec.ofChange fnExactSlackOfSpec)) fnExactSlackOfCard

/-- THE SECOND FORM's CARD OF 'laws.FnExactTimesOf'. -/
def fnExactTimesOfUptoCard : Claim7 := { stood := { row := fnExactTimesOfUptoRow, standIns := [], harness := (true, "2b1b7863ac42779cad44ec8cbc45cc0ccd874235fee0d8070bbca61dc1377ae0"), looks := true }, kinds := [], alts := [], laidByText := true, laidKinds := [.handle, .data], laidTests := true, laidLooks := .later }
def FnExactTimesOfUptoCardSaid : Prop := Claim7.holds Tryd.pinned (.plain (OpenSpec.upto fnExactTimesOfSpec)) fnExactTimesOfUptoCard

/-- THE SECOND FORM's CARD OF 'laws.FnExactCheckTimes'. -/
def fnExactCheckTimesUptoCard : Claim7 := { stood := { row := fnExactCheckTimesUptoRow, standIns := [], harness := (true, "2b1b7863ac42779cad44ec8cbc45cc0ccd874235fee0d8070bbca61dc1377ae0"), looks := true }, kinds := [], alts := [], laidByText := true, laidKinds := [.handle, .data], laidTests := true, laidLooks := .later }
def FnExactCheckTimesUptoCardSaid : Prop := Claim7.holds Tryd.pinned (.plain (OpenSpec.upto fnExactCheckTimesSpec)) fnExactCheckTimesUptoCard

/-- THE SECOND FORM's CARD OF 'laws.FnExactUnreached'. -/
def fnExactUnreachedUptoCard : Claim7 := { stood := { row := fnExactUnreachedUptoRow, standIns := [], harness := (true, "2b1b7863ac42779cad44ec8cbc45cc0ccd874235fee0d8070bbca61dc1377ae0"), looks := true }, kinds := [], alts := [], laidByText := true, laidKinds := [.handle, .data], laidTests := true, laidLooks := .later }
def FnExactUnreachedUptoCardSaid : Prop := Claim7.holds Tryd.pinned (.plain (OpenSpec.upto fnExactUnreachedSpec)) fnExactUnreachedUptoCard

/-- THE SECOND FORM's CARD OF 'laws.FnExactAllClosed'. -/
def fnExactAllClosedUptoCard : Claim7 := { stood := { row := fnExactAllClosedUptoRow, standIns := [], harness := (true, "2b1b7863ac42779cad44ec8cbc45cc0ccd874235fee0d8070bbca61dc1377ae0"), looks := true }, kinds := [], alts := [], laidByText := true, laidKinds := [.handle, .data], laidTests := true, laidLooks := .later }
def FnExactAllClosedUptoCardSaid : Prop := Claim7.holds Tryd.pinned (.plain (OpenSpec.upto fnExactAllClosedSpec)) fnExactAllClosedUptoCard

/-- THE SECOND FORM's CARD OF 'laws.FnExactWayToShip'. -/
def fnExactWayToShipUptoCard : Claim7 := { stood := { row := fnExactWayToShipUptoRow, standIns := [], harness := (true, "2b1b7863ac42779cad44ec8cbc45cc0ccd874235fee0d8070bbca61dc1377ae0"), looks := true }, kinds := [], alts := [], laidByText := true, laidKinds := [.handle, .data], laidTests := true, laidLooks := .later }
def FnExactWayToShipUptoCardSaid : Prop := Claim7.holds Tryd.pinned (.plain (OpenSpec.upto fnExactWayToShipSpec)) fnExactWayToShipUptoCard

/-- THE SECOND FORM's CARD OF 'laws.FnExactHauledDown'. -/
def fnExactHauledDownUptoCard : Claim7 := { stood := { row := fnExactHauledDownUptoRow, standIns := [], harness := (true, "2b1b7863ac42779cad44ec8cbc45cc0ccd874235fee0d8070bbca61dc1377ae0"), looks := true }, kinds := [], alts := [], laidByText := true, laidKinds := [.handle, .data], laidTests := true, laidLooks := .later }
def FnExactHauledDownUptoCardSaid : Prop := Claim7.holds Tryd.pinned (.plain (OpenSpec.upto fnExactHauledDownSpec)) fnExactHauledDownUptoCard

/-- THE SECOND FORM's CARD OF 'laws.FnExactLastDown'. -/
def fnExactLastDownUptoCard : Claim7 := { stood := { row := fnExactLastDownUptoRow, standIns := [], harness := (true, "2b1b7863ac42779cad44ec8cbc45cc0ccd874235fee0d8070bbca61dc1377ae0"), looks := true }, kinds := [], alts := [], laidByText := true, laidKinds := [.handle, .data], laidTests := true, laidLooks := .later }
def FnExactLastDownUptoCardSaid : Prop := Claim7.holds Tryd.pinned (.plain (OpenSpec.upto fnExactLastDownSpec)) fnExactLastDownUptoCard

/-- THE SECOND FORM's CARD OF 'laws.FnExactClosedUntil'. -/
def fnExactClosedUntilUptoCard : Claim7 := { stood := { row := fnExactClosedUntilUptoRow, standIns := [], harness := (true, "2b1b7863ac42779cad44ec8cbc45cc0ccd874235fee0d8070bbca61dc1377ae0"), looks := true }, kinds := [], alts := [], laidByText := true, laidKinds := [.handle, .data], laidTests := true, laidLooks := .later }
def FnExactClosedUntilUptoCardSaid : Prop := Claim7.holds Tryd.pinned (.plain (OpenSpec.upto fnExactClosedUntilSpec)) fnExactClosedUntilUptoCard

/-- THE SECOND FORM's CARD OF 'laws.FnExactWithoutShip'. -/
def fnExactWithoutShipUptoCard : Claim7 := { stood := { row := fnExactWithoutShipUptoRow, standIns := [], harness := (true, "2b1b7863ac42779cad44ec8cbc45cc0ccd874235fee0d8070bbca61dc1377ae0"), looks := true }, kinds := [], alts := [], laidByText := true, laidKinds := [.handle, .data], laidTests := true, laidLooks := .later }
def FnExactWithoutShipUptoCardSaid : Prop := Claim7.holds Tryd.pinned (.plain (OpenSpec.upto fnExactWithoutShipSpec)) fnExactWithoutShipUptoCard

/-- THE SECOND FORM's CARD OF 'laws.FnExactLaterIf'. -/
def fnExactLaterIfUptoCard : Claim7 := { stood := { row := fnExactLaterIfUptoRow, standIns := [], harness := (true, "2b1b7863ac42779cad44ec8cbc45cc0ccd874235fee0d8070bbca61dc1377ae0"), looks := true }, kinds := [], alts := [], laidByText := true, laidKinds := [.handle, .data], laidTests := true, laidLooks := .later }
def FnExactLaterIfUptoCardSaid : Prop := Claim7.holds Tryd.pinned (.plain (OpenSpec.upto fnExactLaterIfSpec)) fnExactLaterIfUptoCard

/-- THE SECOND FORM's CARD OF 'laws.FnExactSlackOf'. -/
def fnExactSlackOfUptoCard : Claim7 := { stood := { row := fnExactSlackOfUptoRow, standIns := [], harness := (true, "2b1b7863ac42779cad44ec8cbc45cc0ccd874235fee0d8070bbca61dc1377ae0"), looks := true }, kinds := [], alts := [], laidByText := true, laidKinds := [.handle, .data], laidTests := true, laidLooks := .later }
def FnExactSlackOfUptoCardSaid : Prop := Claim7.holds Tryd.pinned (.plain (OpenSpec.upto fnExactSlackOfSpec)) fnExactSlackOfUptoCard
end Rows
end Go.Proofs.YtflbjjcpkhldkaaDoor
