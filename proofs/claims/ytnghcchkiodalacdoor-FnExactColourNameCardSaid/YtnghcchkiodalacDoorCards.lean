/-
  DERIVED. GIVEN WITH THE SEED: THE CARDS: each row of YtnghcchkiodalacDoorRows.lean that lists a variable, with what it lists TIED to the program's text (the seventh form; the later family's looks); each row that meets fmt, with fmt's text TOLD by the authors' own Lean function (tested against real Go, not proved from fmt's source: count such statements apart). THE CARD IS WHAT COUNTS. Prove the row's statement (the work); the ties are given (YtnghcchkiodalacDoorTie.lean); close each card by the builder's one call (the guide's Derived/Test/ToyasCard.lean, 'card_holds'). Laid BY PROGRAM, IN A SANDBOX (cutbox-door.mjs). By AI agents, Wed Nov 11 2026. No macro, syntax, notation, axiom, sorry.
-/
import Derived.Test.YtnghcchkiodalacDoorRows
import GoSem.ClaimSeven
namespace Go.Proofs.YtnghcchkiodalacDoor
namespace Rows

/-- THE TIED CARD OF 'laws.FnExactHoistText'. -/
def fnExactHoistTextCard : Claim7 := { stood := { row := fnExactHoistTextRow, standIns := [], harness := (true, "213924867240c8b47c2556ccaa4a2404ade79344605d59a4982ca9db4c1e2138"), looks := true }, kinds := [], alts := [], laidByText := true, laidKinds := [.data, .data, .data], laidTests := true, laidLooks := .later }
def FnExactHoistTextCardSaid : Prop := Claim7.holds Tryd.pinned (.plain (OpenSpec.ofChange fnExactHoistTextSpec)) fnExactHoistTextCard

/-- THE TIED CARD OF 'laws.FnExactReadHoist'. -/
def fnExactReadHoistCard : Claim7 := { stood := { row := fnExactReadHoistRow, standIns := [], harness := (true, "213924867240c8b47c2556ccaa4a2404ade79344605d59a4982ca9db4c1e2138"), looks := true }, kinds := [], alts := [], laidByText := true, laidKinds := [.data, .data, .data, .data, .sentinel, .sentinel, .pinned], laidTests := true, laidLooks := .later }
def FnExactReadHoistCardSaid : Prop := Claim7.holds Tryd.pinned (.plain (OpenSpec.ofChange fnExactReadHoistSpec)) fnExactReadHoistCard

/-- THE TIED CARD OF 'laws.FnExactReadFlag'. -/
def fnExactReadFlagCard : Claim7 := { stood := { row := fnExactReadFlagRow, standIns := [], harness := (true, "213924867240c8b47c2556ccaa4a2404ade79344605d59a4982ca9db4c1e2138"), looks := true }, kinds := [], alts := [], laidByText := true, laidKinds := [.data, .pinned], laidTests := true, laidLooks := .later }
def FnExactReadFlagCardSaid : Prop := Claim7.holds Tryd.pinned (.plain (OpenSpec.ofChange fnExactReadFlagSpec)) fnExactReadFlagCard

/-- THE TIED CARD OF 'laws.FnExactCodeName'. -/
def fnExactCodeNameCard : Claim7 := { stood := { row := fnExactCodeNameRow, standIns := [], harness := (true, "213924867240c8b47c2556ccaa4a2404ade79344605d59a4982ca9db4c1e2138"), looks := true }, kinds := [], alts := [], laidByText := true, laidKinds := [.data], laidTests := true, laidLooks := .later }
def FnExactCodeNameCardSaid : Prop := Claim7.holds Tryd.pinned (.plain (OpenSpec.ofChange fnExactCodeNameSpec)) fnExactCodeNameCard

/-- THE TIED CARD OF 'laws.FnExactColourName'. -/
def fnExactColourNameCard : Claim7 := { stood := { row := fnExactColourNameRow, standIns := [], harness := (true, "213924867240c8b47c2556ccaa4a2404ade79344605d59a4982ca9db4c1e2138"), looks := true }, kinds := [], alts := [], laidByText := true, laidKinds := [.data], laidTests := true, laidLooks := .later }
def FnExactColourNameCardSaid : Prop := Claim7.holds Tryd.pinned (.plain (OpenSpec.ofChange fnExactColourNameSpec)) fnExactColourNameCard

/-- THE SECOND FORM's CARD OF 'laws.FnExactHoistText'. -/
def fnExactHoistTextUptoCard : Claim7 := { stood := { row := fnExactHoistTextUptoRow, standIns := [], harness := (true, "213924867240c8b47c2556ccaa4a2404ade79344605d59a4982ca9db4c1e2138"), looks := true }, kinds := [], alts := [], laidByText := true, laidKinds := [.data, .data, .data], laidTests := true, laidLooks := .later }
def FnExactHoistTextUptoCardSaid : Prop := Claim7.holds Tryd.pinned (.plain (OpenSpec.upto fnExactHoistTextSpec)) fnExactHoistTextUptoCard

/-- THE SECOND FORM's CARD OF 'laws.FnExactReadHoist'. -/
def fnExactReadHoistUptoCard : Claim7 := { stood := { row := fnExactReadHoistUptoRow, standIns := [], harness := (true, "213924867240c8b47c2556ccaa4a2404ade79344605d59a4982ca9db4c1e2138"), looks := true }, kinds := [], alts := [], laidByText := true, laidKinds := [.data, .data, .data, .data, .sentinel, .sentinel, .pinned], laidTests := true, laidLooks := .later }
def FnExactReadHoistUptoCardSaid : Prop := Claim7.holds Tryd.pinned (.plain (OpenSpec.upto fnExactReadHoistSpec)) fnExactReadHoistUptoCard

/-- THE SECOND FORM's CARD OF 'laws.FnExactReadFlag'. -/
def fnExactReadFlagUptoCard : Claim7 := { stood := { row := fnExactReadFlagUptoRow, standIns := [], harness := (true, "213924867240c8b47c2556ccaa4a2404ade79344605d59a4982ca9db4c1e2138"), looks := true }, kinds := [], alts := [], laidByText := true, laidKinds := [.data, .pinned], laidTests := true, laidLooks := .later }
def FnExactReadFlagUptoCardSaid : Prop := Claim7.holds Tryd.pinned (.plain (OpenSpec.upto fnExactReadFlagSpec)) fnExactReadFlagUptoCard

/-- THE SECOND FORM's CARD OF 'laws.FnExactCodeName'. -/
def fnExactCodeNameUptoCard : Claim7 := { stood := { row := fnExactCodeNameUptoRow, standIns := [], harness := (true, "213924867240c8b47c2556ccaa4a2404ade79344605d59a4982ca9db4c1e2138"), looks := true }, kinds := [], alts := [], laidByText := true, laidKinds := [.data], laidTests := true, laidLooks := .later }
def FnExactCodeNameUptoCardSaid : Prop := Claim7.holds Tryd.pinned (.plain (OpenSpec.upto fnExactCodeNameSpec)) fnExactCodeNameUptoCard

/-- THE SECOND FORM's CARD OF 'laws.FnExactColourName'. -/
def fnExactColourNameUptoCard : Claim7 := { stood := { row := fnExactColourNameUptoRow, standIns := [], harness := (true, "213924867240c8b47c2556ccaa4a2404ade79344605d59a4982ca9db4c1e2138"), looks := true }, kinds := [], alts := [], laidByText := true, laidKinds := [.data], laidTests := true, laidLooks := .later }
def FnExactColourNameUptoCardSaid : Prop := Claim7.holds Tryd.pinned (.plain (OpenSpec.upto fnExactColourNameSpec)) fnExactColourNameUptoCard
end Rows
end Go.Proofs.YtnghcchkiodalacDoor
