/-
  DERIVED. GIVEN WITH THE SEED: THE CARDS: each row of YtnkoakneffjkbaaDoorRows.lean that lists a variable, with what it lists TIED to the program's text (the seventh form; the later family's looks); each row that meets fmt, with fmt's text TOLD by the authors' own Lean function (tested against real Go, not proved from fmt's source: count such statements apart). THE CARD IS WHAT COUNTS. Prove the row's statement (the work); the ties are given (YtnkoakneffjkbaaDoorTie.lean); close each card by the builder's one call (the guide's Derived/Test/ToyasCard.lean, 'card_holds'). Laid BY PROGRAM, IN A SANDBOX (cutbox-door.mjs). By AI agents, Wed Nov 11 2026. No macro, syntax, notation, axiom, sorry.
-/
import Derived.Test.YtnkoakneffjkbaaDoorRows
import GoSem.ClaimSeven
namespace Go.Proofs.YtnkoakneffjkbaaDoor
namespace Rows

/-- THE TIED CARD OF 'laws.FnExactCommonOf'. -/
def fnExactCommonOfCard : Claim7 := { stood := { row := fnExactCommonOfRow, standIns := [], harness := (true, "f09c4023705cf9b8933b062b48efeed0eb8c6bab3d043035f31c949a7980e735"), looks := true }, kinds := [], alts := [], laidByText := true, laidKinds := [.handle], laidTests := true, laidLooks := .later }
def FnExactCommonOfCardSaid : Prop := Claim7.holds Tryd.pinned (.plain (OpenSpec.ofChange fnExactCommonOfSpec)) fnExactCommonOfCard

/-- THE TIED CARD OF 'laws.FnExactOffsetOf'. -/
def fnExactOffsetOfCard : Claim7 := { stood := { row := fnExactOffsetOfRow, standIns := [], harness := (true, "f09c4023705cf9b8933b062b48efeed0eb8c6bab3d043035f31c949a7980e735"), looks := true }, kinds := [], alts := [], laidByText := true, laidKinds := [.handle], laidTests := true, laidLooks := .later }
def FnExactOffsetOfCardSaid : Prop := Claim7.holds Tryd.pinned (.plain (OpenSpec.ofChange fnExactOffsetOfSpec)) fnExactOffsetOfCard

/-- THE TIED CARD OF 'laws.FnExactSpreadOf'. -/
def fnExactSpreadOfCard : Claim7 := { stood := { row := fnExactSpreadOfRow, standIns := [], harness := (true, "f09c4023705cf9b8933b062b48efeed0eb8c6bab3d043035f31c949a7980e735"), looks := true }, kinds := [], alts := [], laidByText := true, laidKinds := [.handle], laidTests := true, laidLooks := .later }
def FnExactSpreadOfCardSaid : Prop := Claim7.holds Tryd.pinned (.plain (OpenSpec.ofChange fnExactSpreadOfSpec)) fnExactSpreadOfCard

/-- THE TIED CARD OF 'laws.FnExactLateShips'. -/
def fnExactLateShipsCard : Claim7 := { stood := { row := fnExactLateShipsRow, standIns := [], harness := (true, "f09c4023705cf9b8933b062b48efeed0eb8c6bab3d043035f31c949a7980e735"), looks := true }, kinds := [], alts := [], laidByText := true, laidKinds := [.handle], laidTests := true, laidLooks := .later }
def FnExactLateShipsCardSaid : Prop := Claim7.holds Tryd.pinned (.plain (OpenSpec.ofChange fnExactLateShipsSpec)) fnExactLateShipsCard

/-- THE SECOND FORM's CARD OF 'laws.FnExactCommonOf'. -/
def fnExactCommonOfUptoCard : Claim7 := { stood := { row := fnExactCommonOfUptoRow, standIns := [], harness := (true, "f09c4023705cf9b8933b062b48efeed0eb8c6bab3d043035f31c949a7980e735"), looks := true }, kinds := [], alts := [], laidByText := true, laidKinds := [.handle], laidTests := true, laidLooks := .later }
def FnExactCommonOfUptoCardSaid : Prop := Claim7.holds Tryd.pinned (.plain (OpenSpec.upto fnExactCommonOfSpec)) fnExactCommonOfUptoCard

/-- THE SECOND FORM's CARD OF 'laws.FnExactOffsetOf'. -/
def fnExactOffsetOfUptoCard : Claim7 := { stood := { row := fnExactOffsetOfUptoRow, standIns := [], harness := (true, "f09c4023705cf9b8933b062b48efeed0eb8c6bab3d043035f31c949a7980e735"), looks := true }, kinds := [], alts := [], laidByText := true, laidKinds := [.handle], laidTests := true, laidLooks := .later }
def FnExactOffsetOfUptoCardSaid : Prop := Claim7.holds Tryd.pinned (.plain (OpenSpec.upto fnExactOffsetOfSpec)) fnExactOffsetOfUptoCard

/-- THE SECOND FORM's CARD OF 'laws.FnExactSpreadOf'. -/
def fnExactSpreadOfUptoCard : Claim7 := { stood := { row := fnExactSpreadOfUptoRow, standIns := [], harness := (true, "f09c4023705cf9b8933b062b48efeed0eb8c6bab3d043035f31c949a7980e735"), looks := true }, kinds := [], alts := [], laidByText := true, laidKinds := [.handle], laidTests := true, laidLooks := .later }
def FnExactSpreadOfUptoCardSaid : Prop := Claim7.holds Tryd.pinned (.plain (OpenSpec.upto fnExactSpreadOfSpec)) fnExactSpreadOfUptoCard

/-- THE SECOND FORM's CARD OF 'laws.FnExactLateShips'. -/
def fnExactLateShipsUptoCard : Claim7 := { stood := { row := fnExactLateShipsUptoRow, standIns := [], harness := (true, "f09c4023705cf9b8933b062b48efeed0eb8c6bab3d043035f31c949a7980e735"), looks := true }, kinds := [], alts := [], laidByText := true, laidKinds := [.handle], laidTests := true, laidLooks := .later }
def FnExactLateShipsUptoCardSaid : Prop := Claim7.holds Tryd.pinned (.plain (OpenSpec.upto fnExactLateShipsSpec)) fnExactLateShipsUptoCard
end Rows
end Go.Proofs.YtnkoakneffjkbaaDoor
