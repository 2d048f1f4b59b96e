/-
  DERIVED. GIVEN WITH THE SEED: THE CARDS: each row of YtlgfibiggiknjaaDoorRows.lean that lists a variable, with what it lists TIED to the program's text (the seventh form; the later family's looks); each row that meets fmt, with fmt's text TOLD by the authors' own Lean function (tested against real Go, not proved from fmt's source: count such statements apart). THE CARD IS WHAT COUNTS. Prove the row's statement (the work); the ties are given (YtlgfibiggiknjaaDoorTie.lean); close each card by the builder's one call (the guide's Derived/Test/ToyasCard.lean, 'card_holds'). Laid BY PROGRAM, IN A SANDBOX (cutbox-door.mjs). By AI agents, Wed Nov 11 2026. No macro, syntax, notation, axiom, sorry.
-/
import Derived.Test.YtlgfibiggiknjaaDoorRows
import GoSem.ClaimSeven
namespace Go.Proofs.YtlgfibiggiknjaaDoor
namespace Rows

/-- THE TIED CARD OF 'laws.FnExactExecutedIn'. -/
def fnExactExecutedInCard : Claim7 := { stood := { row := fnExactExecutedInRow, standIns := [], harness := (true, "b72293ac74a0f17ea9f600407a24040dd2ba96bd68aa2ee9a7f9d0df21bbceb9"), looks := true }, kinds := [], alts := [], laidByText := true, laidKinds := [.handle], laidTests := true, laidLooks := .later }
def FnExactExecutedInCardSaid : Prop := Claim7.holds Tryd.pinned (.plain (OpenSpec.ofChange fnExactExecutedInSpec)) fnExactExecutedInCard

/-- THE TIED CARD OF 'laws.FnExactLongestUp'. -/
def fnExactLongestUpCard : Claim7 := { stood := { row := fnExactLongestUpRow, standIns := [], harness := (true, "b72293ac74a0f17ea9f600407a24040dd2ba96bd68aa2ee9a7f9d0df21bbceb9"), looks := true }, kinds := [], alts := [], laidByText := true, laidKinds := [.handle], laidTests := true, laidLooks := .later }
def FnExactLongestUpCardSaid : Prop := Claim7.holds Tryd.pinned (.plain (OpenSpec.ofChange fnExactLongestUpSpec)) fnExactLongestUpCard

/-- THE TIED CARD OF 'laws.FnExactShiftLog'. -/
def fnExactShiftLogCard : Claim7 := { stood := { row := fnExactShiftLogRow, standIns := [], harness := (true, "b72293ac74a0f17ea9f600407a24040dd2ba96bd68aa2ee9a7f9d0df21bbceb9"), looks := true }, kinds := [], alts := [], laidByText := true, laidKinds := [.handle], laidTests := true, laidLooks := .later }
def FnExactShiftLogCardSaid : Prop := Claim7.holds Tryd.pinned (.plain (OpenSpec.ofChange fnExactShiftLogSpec)) fnExactShiftLogCard

/-- THE TIED CARD OF 'laws.FnExactCommonOf'. -/
def fnExactCommonOfCard : Claim7 := { stood := { row := fnExactCommonOfRow, standIns := [], harness := (true, "b72293ac74a0f17ea9f600407a24040dd2ba96bd68aa2ee9a7f9d0df21bbceb9"), looks := true }, kinds := [], alts := [], laidByText := true, laidKinds := [.handle], laidTests := true, laidLooks := .later }
def FnExactCommonOfCardSaid : Prop := Claim7.holds Tryd.pinned (.plain (OpenSpec.ofChange fnExactCommonOfSpec)) fnExactCommonOfCard

/-- THE TIED CARD OF 'laws.FnExactFaultsOf'. -/
def fnExactFaultsOfCard : Claim7 := { stood := { row := fnExactFaultsOfRow, standIns := [], harness := (true, "b72293ac74a0f17ea9f600407a24040dd2ba96bd68aa2ee9a7f9d0df21bbceb9"), looks := true }, kinds := [], alts := [], laidByText := true, laidKinds := [.handle], laidTests := true, laidLooks := .later }
def FnExactFaultsOfCardSaid : Prop := Claim7.holds Tryd.pinned (.plain (OpenSpec.ofChange fnExactFaultsOfSpec)) fnExactFaultsOfCard

/-- THE TIED CARD OF 'laws.FnExactStoryOf'. -/
def fnExactStoryOfCard : Claim7 := { stood := { row := fnExactStoryOfRow, standIns := [], harness := (true, "b72293ac74a0f17ea9f600407a24040dd2ba96bd68aa2ee9a7f9d0df21bbceb9"), looks := true }, kinds := [], alts := [], laidByText := true, laidKinds := [.handle], laidTests := true, laidLooks := .later }
def FnExactStoryOfCardSaid : Prop := Claim7.holds Tryd.pinned (.plain (OpenSpec.ofChange fnExactStoryOfSpec)) fnExactStoryOfCard

/-- THE TIED CARD OF 'laws.FnExactCheckStory'. -/
def fnExactCheckStoryCard : Claim7 := { stood := { row := fnExactCheckStoryRow, standIns := [], harness := (true, "b72293ac74a0f17ea9f600407a24040dd2ba96bd68aa2ee9a7f9d0df21bbceb9"), looks := true }, kinds := [], alts := [], laidByText := true, laidKinds := [.handle], laidTests := true, laidLooks := .later }
def FnExactCheckStoryCardSaid : Prop := Claim7.holds Tryd.pinned (.plain (OpenSpec.ofChange fnExactCheckStorySpec)) fnExactCheckStoryCard

/-- THE TIED CARD OF 'laws.FnExactMissedIn'. -/
def fnExactMissedInCard : Claim7 := { stood := { row := fnExactMissedInRow, standIns := [], harness := (true, "b72293ac74a0f17ea9f600407a24040dd2ba96bd68aa2ee9a7f9d0df21bbceb9"), looks := true }, kinds := [], alts := [], laidByText := true, laidKinds := [.handle], laidTests := true, laidLooks := .later }
def FnExactMissedInCardSaid : Prop := Claim7.holds Tryd.pinned (.plain (OpenSpec.ofChange fnExactMissedInSpec)) fnExactMissedInCard

/-- THE TIED CARD OF 'laws.FnExactMisreadIn'. -/
def fnExactMisreadInCard : Claim7 := { stood := { row := fnExactMisreadInRow, standIns := [], harness := (true, "b72293ac74a0f17ea9f600407a24040dd2ba96bd68aa2ee9a7f9d0df21bbceb9"), looks := true }, kinds := [], alts := [], laidByText := true, laidKinds := [.handle], laidTests := true, laidLooks := .later }
def FnExactMisreadInCardSaid : Prop := Claim7.holds Tryd.pinned (.plain (OpenSpec.ofChange fnExactMisreadInSpec)) fnExactMisreadInCard

/-- THE TIED CARD OF 'laws.FnExactSpreadOf'. -/
def fnExactSpreadOfCard : Claim7 := { stood := { row := fnExactSpreadOfRow, standIns := [], harness := (true, "b72293ac74a0f17ea9f600407a24040dd2ba96bd68aa2ee9a7f9d0df21bbceb9"), looks := true }, kinds := [], alts := [], laidByText := true, laidKinds := [.handle], laidTests := true, laidLooks := .later }
def FnExactSpreadOfCardSaid : Prop := Claim7.holds Tryd.pinned (.plain (OpenSpec.ofChange fnExactSpreadOfSpec)) fnExactSpreadOfCard

/-- THE TIED CARD OF 'laws.FnExactOffsetOf'. -/
def fnExactOffsetOfCard : Claim7 := { stood := { row := fnExactOffsetOfRow, standIns := [], harness := (true, "b72293ac74a0f17ea9f600407a24040dd2ba96bd68aa2ee9a7f9d0df21bbceb9"), looks := true }, kinds := [], alts := [], laidByText := true, laidKinds := [.handle], laidTests := true, laidLooks := .later }
def FnExactOffsetOfCardSaid : Prop := Claim7.holds Tryd.pinned (.plain (OpenSpec.ofChange fnExactOffsetOfSpec)) fnExactOffsetOfCard

/-- THE TIED CARD OF 'laws.FnExactLateShips'. -/
def fnExactLateShipsCard : Claim7 := { stood := { row := fnExactLateShipsRow, standIns := [], harness := (true, "b72293ac74a0f17ea9f600407a24040dd2ba96bd68aa2ee9a7f9d0df21bbceb9"), looks := true }, kinds := [], alts := [], laidByText := true, laidKinds := [.handle], laidTests := true, laidLooks := .later }
def FnExactLateShipsCardSaid : Prop := Claim7.holds Tryd.pinned (.plain (OpenSpec.ofChange fnExactLateShipsSpec)) fnExactLateShipsCard

/-- THE SECOND FORM's CARD OF 'laws.FnExactExecutedIn'. -/
def fnExactExecutedInUptoCard : Claim7 := { stood := { row := fnExactExecutedInUptoRow, standIns := [], harness := (true, "b72293ac74a0f17ea9f600407a24040dd2ba96bd68aa2ee9a7f9d0df21bbceb9"), looks := true }, kinds := [], alts := [], laidByText := true, laidKinds := [.handle], laidTests := true, laidLooks := .later }
def FnExactExecutedInUptoCardSaid : Prop := Claim7.holds Tryd.pinned (.plain (OpenSpec.upto fnExactExecutedInSpec)) fnExactExecutedInUptoCard

/-- THE SECOND FORM's CARD OF 'laws.FnExactLongestUp'. -/
def fnExactLongestUpUptoCard : Claim7 := { stood := { row := fnExactLongestUpUptoRow, standIns := [], harness := (true, "b72293ac74a0f17ea9f600407a24040dd2ba96bd68aa2ee9a7f9d0df21bbceb9"), looks := true }, kinds := [], alts := [], laidByText := true, laidKinds := [.handle], laidTests := true, laidLooks := .later }
def FnExactLongestUpUptoCardSaid : Prop := Claim7.holds Tryd.pinned (.plain (OpenSpec.upto fnExactLongestUpSpec)) fnExactLongestUpUptoCard

/-- THE SECOND FORM's CARD OF 'laws.FnExactShiftLog'. -/
def fnExactShiftLogUptoCard : Claim7 := { stood := { row := fnExactShiftLogUptoRow, standIns := [], harness := (true, "b72293ac74a0f17ea9f600407a24040dd2ba96bd68aa2ee9a7f9d0df21bbceb9"), looks := true }, kinds := [], alts := [], laidByText := true, laidKinds := [.handle], laidTests := true, laidLooks := .later }
def FnExactShiftLogUptoCardSaid : Prop := Claim7.holds Tryd.pinned (.plain (OpenSpec.upto fnExactShiftLogSpec)) fnExactShiftLogUptoCard

/-- THE SECOND FORM's CARD OF 'laws.FnExactCommonOf'. -/
def fnExactCommonOfUptoCard : Claim7 := { stood := { row := fnExactCommonOfUptoRow, standIns := [], harness := (true, "b72293ac74a0f17ea9f600407a24040dd2ba96bd68aa2ee9a7f9d0df21bbceb9"), looks := true }, kinds := [], alts := [], laidByText := true, laidKinds := [.handle], laidTests := true, laidLooks := .later }
def FnExactCommonOfUptoCardSaid : Prop := Claim7.holds Tryd.pinned (.plain (OpenSpec.upto fnExactCommonOfSpec)) fnExactCommonOfUptoCard

/-- THE SECOND FORM's CARD OF 'laws.FnExactFaultsOf'. -/
def fnExactFaultsOfUptoCard : Claim7 := { stood := { row := fnExactFaultsOfUptoRow, standIns := [], harness := (true, "b72293ac74a0f17ea9f600407a24040dd2ba96bd68aa2ee9a7f9d0df21bbceb9"), looks := true }, kinds := [], alts := [], laidByText := true, laidKinds := [.handle], laidTests := true, laidLooks := .later }
def FnExactFaultsOfUptoCardSaid : Prop := Claim7.holds Tryd.pinned (.plain (OpenSpec.upto fnExactFaultsOfSpec)) fnExactFaultsOfUptoCard

/-- THE SECOND FORM's CARD OF 'laws.FnExactStoryOf'. -/
def fnExactStoryOfUptoCard : Claim7 := { stood := { row := fnExactStoryOfUptoRow, standIns := [], harness := (true, "b72293ac74a0f17ea9f600407a24040dd2ba96bd68aa2ee9a7f9d0df21bbceb9"), looks := true }, kinds := [], alts := [], laidByText := true, laidKinds := [.handle], laidTests := true, laidLooks := .later }
def FnExactStoryOfUptoCardSaid : Prop := Claim7.holds Tryd.pinned (.plain (OpenSpec.upto fnExactStoryOfSpec)) fnExactStoryOfUptoCard

/-- THE SECOND FORM's CARD OF 'laws.FnExactCheckStory'. -/
def fnExactCheckStoryUptoCard : Claim7 := { stood := { row := fnExactCheckStoryUptoRow, standIns := [], harness := (true, "b72293ac74a0f17ea9f600407a24040dd2ba96bd68aa2ee9a7f9d0df21bbceb9"), looks := true }, kinds := [], alts := [], laidByText := true, laidKinds := [.handle], laidTests := true, laidLooks := .later }
def FnExactCheckStoryUptoCardSaid : Prop := Claim7.holds Tryd.pinned (.plain (OpenSpec.upto fnExactCheckStorySpec)) fnExactCheckStoryUptoCard

/-- THE SECOND FORM's CARD OF 'laws.FnExactMissedIn'. -/
def fnExactMissedInUptoCard : Claim7 := { stood := { row := fnExactMissedInUptoRow, standIns := [], harness := (true, "b72293ac74a0f17ea9f600407a24040dd2ba96bd68aa2ee9a7f9d0df21bbceb9"), looks := true }, kinds := [], alts := [], laidByText := true, laidKinds := [.handle], laidTests := true, laidLooks := .later }
def FnExactMissedInUptoCardSaid : Prop := Claim7.holds Tryd.pinned (.plain (OpenSpec.upto fnExactMissedInSpec)) fnExactMissedInUptoCard

/-- THE SECOND FORM's CARD OF 'laws.FnExactMisreadIn'. -/
def fnExactMisreadInUptoCard : Claim7 := { stood := { row := fnExactMisreadInUptoRow, standIns := [], harness := (true, "b72293ac74a0f17ea9f600407a24040dd2ba96bd68aa2ee9a7f9d0df21bbceb9"), looks := true }, kinds := [], alts := [], laidByText := true, laidKinds := [.handle], laidTests := true, laidLooks := .later }
def FnExactMisreadInUptoCardSaid : Prop := Claim7.holds Tryd.pinned (.plain (OpenSpec.upto fnExactMisreadInSpec)) fnExactMisreadInUptoCard

/-- THE SECOND FORM's CARD OF 'laws.FnExactSpreadOf'. -/
def fnExactSpreadOfUptoCard : Claim7 := { stood := { row := fnExactSpreadOfUptoRow, standIns := [], harness := (true, "b72293ac74a0f17ea9f600407a24040dd2ba96bd68aa2ee9a7f9d0df21bbceb9"), looks := true }, kinds := [], alts := [], laidByText := true, laidKinds := [.handle], laidTests := true, laidLooks := .later }
def FnExactSpreadOfUptoCardSaid : Prop := Claim7.holds Tryd.pinned (.plain (OpenSpec.upto fnExactSpreadOfSpec)) fnExactSpreadOfUptoCard

/-- THE SECOND FORM's CARD OF 'laws.FnExactOffsetOf'. -/
def fnExactOffsetOfUptoCard : Claim7 := { stood := { row := fnExactOffsetOfUptoRow, standIns := [], harness := (true, "b72293ac74a0f17ea9f600407a24040dd2ba96bd68aa2ee9a7f9d0df21bbceb9"), looks := true }, kinds := [], alts := [], laidByText := true, laidKinds := [.handle], laidTests := true, laidLooks := .later }
def FnExactOffsetOfUptoCardSaid : Prop := Claim7.holds Tryd.pinned (.plain (OpenSpec.upto fnExactOffsetOfSpec)) fnExactOffsetOfUptoCard

/-- THE SECOND FORM's CARD OF 'laws.FnExactLateShips'. -/
def fnExactLateShipsUptoCard : Claim7 := { stood := { row := fnExactLateShipsUptoRow, standIns := [], harness := (true, "b72293ac74a0f17ea9f600407a24040dd2ba96bd68aa2ee9a7f9d0df21bbceb9"), looks := true }, kinds := [], alts := [], laidByText := true, laidKinds := [.handle], laidTests := true, laidLooks := .later }
def FnExactLateShipsUptoCardSaid : Prop := Claim7.holds Tryd.pinned (.plain (OpenSpec.upto fnExactLateShipsSpec)) fnExactLateShipsUptoCard
end Rows
end Go.Proofs.YtlgfibiggiknjaaDoor
