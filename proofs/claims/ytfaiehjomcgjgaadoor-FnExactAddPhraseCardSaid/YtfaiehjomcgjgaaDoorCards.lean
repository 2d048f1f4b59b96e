/-
  DERIVED. GIVEN WITH THE SEED: THE CARDS: each row of YtfaiehjomcgjgaaDoorRows.lean that lists a variable, with what it lists TIED to the program's text (the seventh form; the later family's looks); each row that meets fmt, with fmt's text TOLD by the authors' own Lean function (tested against real Go, not proved from fmt's source: count such statements apart). THE CARD IS WHAT COUNTS. Prove the row's statement (the work); the ties are given (YtfaiehjomcgjgaaDoorTie.lean); close each card by the builder's one call (the guide's Derived/Test/ToyasCard.lean, 'card_holds'). Laid BY PROGRAM, IN A SANDBOX (cutbox-door.mjs). By AI agents, Wed Nov 11 2026. No macro, syntax, notation, axiom, sorry.
-/
import Derived.Test.YtfaiehjomcgjgaaDoorRows
import GoSem.ClaimSeven
namespace Go.Proofs.YtfaiehjomcgjgaaDoor
namespace Rows

/-- THE TIED CARD OF 'laws.FnExactHoistOf'. -/
def fnExactHoistOfCard : Claim7 := { stood := { row := fnExactHoistOfRow, standIns := [], harness := (true, "08d39ba5f70bedf9c344f520439c0e471c34ba88758b13ba2d029e6175d1a703"), looks := true }, kinds := [], alts := [], laidByText := true, laidKinds := [.sentinel, .sentinel, .sentinel], laidTests := true, laidLooks := .later }
def FnExactHoistOfCardSaid : Prop := Claim7.holds Tryd.pinned (.plain (OpenSpec.ofChange fnExactHoistOfSpec)) fnExactHoistOfCard

/-- THE TIED CARD OF 'laws.FnExactFlagsFor'. -/
def fnExactFlagsForCard : Claim7 := { stood := { row := fnExactFlagsForRow, standIns := [], harness := (true, "08d39ba5f70bedf9c344f520439c0e471c34ba88758b13ba2d029e6175d1a703"), looks := true }, kinds := [], alts := [], laidByText := true, laidKinds := [.sentinel, .sentinel, .sentinel], laidTests := true, laidLooks := .later }
def FnExactFlagsForCardSaid : Prop := Claim7.holds Tryd.pinned (.plain (OpenSpec.ofChange fnExactFlagsForSpec)) fnExactFlagsForCard

/-- THE TIED CARD OF 'laws.FnExactFlagsUntilSure'. -/
def fnExactFlagsUntilSureCard : Claim7 := { stood := { row := fnExactFlagsUntilSureRow, standIns := [], harness := (true, "08d39ba5f70bedf9c344f520439c0e471c34ba88758b13ba2d029e6175d1a703"), looks := true }, kinds := [], alts := [], laidByText := true, laidKinds := [.sentinel, .sentinel, .sentinel], laidTests := true, laidLooks := .later }
def FnExactFlagsUntilSureCardSaid : Prop := Claim7.holds Tryd.pinned (.plain (OpenSpec.ofChange fnExactFlagsUntilSureSpec)) fnExactFlagsUntilSureCard

/-- THE TIED CARD OF 'laws.FnExactDropPhrase'. -/
def fnExactDropPhraseCard : Claim7 := { stood := { row := fnExactDropPhraseRow, standIns := [], harness := (true, "08d39ba5f70bedf9c344f520439c0e471c34ba88758b13ba2d029e6175d1a703"), looks := true }, kinds := [], alts := [], laidByText := true, laidKinds := [.sentinel, .sentinel, .sentinel], laidTests := true, laidLooks := .later }
def FnExactDropPhraseCardSaid : Prop := Claim7.holds Tryd.pinned (.plain (OpenSpec.ofChange fnExactDropPhraseSpec)) fnExactDropPhraseCard

/-- THE TIED CARD OF 'laws.FnExactAddPhrase'. -/
def fnExactAddPhraseCard : Claim7 := { stood := { row := fnExactAddPhraseRow, standIns := [], harness := (true, "08d39ba5f70bedf9c344f520439c0e471c34ba88758b13ba2d029e6175d1a703"), looks := true }, kinds := [], alts := [], laidByText := true, laidKinds := [.sentinel, .sentinel, .sentinel], laidTests := true, laidLooks := .later }
def FnExactAddPhraseCardSaid : Prop := Claim7.holds Tryd.pinned (.plain (OpenSpec.ofChange fnExactAddPhraseSpec)) fnExactAddPhraseCard

/-- THE TIED CARD OF 'laws.FnExactReplacePhrase'. -/
def fnExactReplacePhraseCard : Claim7 := { stood := { row := fnExactReplacePhraseRow, standIns := [], harness := (true, "08d39ba5f70bedf9c344f520439c0e471c34ba88758b13ba2d029e6175d1a703"), looks := true }, kinds := [], alts := [], laidByText := true, laidKinds := [.sentinel, .sentinel, .sentinel], laidTests := true, laidLooks := .later }
def FnExactReplacePhraseCardSaid : Prop := Claim7.holds Tryd.pinned (.plain (OpenSpec.ofChange fnExactReplacePhraseSpec)) fnExactReplacePhraseCard

/-- THE TIED CARD OF 'laws.FnExactShortestBook'. -/
def fnExactShortestBookCard : Claim7 := { stood := { row := fnExactShortestBookRow, standIns := [], harness := (true, "08d39ba5f70bedf9c344f520439c0e471c34ba88758b13ba2d029e6175d1a703"), looks := true }, kinds := [], alts := [], laidByText := true, laidKinds := [.sentinel, .sentinel, .sentinel], laidTests := true, laidLooks := .later }
def FnExactShortestBookCardSaid : Prop := Claim7.holds Tryd.pinned (.plain (OpenSpec.ofChange fnExactShortestBookSpec)) fnExactShortestBookCard

/-- THE SECOND FORM's CARD OF 'laws.FnExactHoistOf'. -/
def fnExactHoistOfUptoCard : Claim7 := { stood := { row := fnExactHoistOfUptoRow, standIns := [], harness := (true, "08d39ba5f70bedf9c344f520439c0e471c34ba88758b13ba2d029e6175d1a703"), looks := true }, kinds := [], alts := [], laidByText := true, laidKinds := [.sentinel, .sentinel, .sentinel], laidTests := true, laidLooks := .later }
def FnExactHoistOfUptoCardSaid : Prop := Claim7.holds Tryd.pinned (.plain (OpenSpec.upto fnExactHoistOfSpec)) fnExactHoistOfUptoCard

/-- THE SECOND FORM's CARD OF 'laws.FnExactFlagsFor'. -/
def fnExactFlagsForUptoCard : Claim7 := { stood := { row := fnExactFlagsForUptoRow, standIns := [], harness := (true, "08d39ba5f70bedf9c344f520439c0e471c34ba88758b13ba2d029e6175d1a703"), looks := true }, kinds := [], alts := [], laidByText := true, laidKinds := [.sentinel, .sentinel, .sentinel], laidTests := true, laidLooks := .later }
def FnExactFlagsForUptoCardSaid : Prop := Claim7.holds Tryd.pinned (.plain (OpenSpec.upto fnExactFlagsForSpec)) fnExactFlagsForUptoCard

/-- THE SECOND FORM's CARD OF 'laws.FnExactFlagsUntilSure'. -/
def fnExactFlagsUntilSureUptoCard : Claim7 := { stood := { row := fnExactFlagsUntilSureUptoRow, standIns := [], harness := (true, "08d39ba5f70bedf9c344f520439c0e471c34ba88758b13ba2d029e6175d1a703"), looks := true }, kinds := [], alts := [], laidByText := true, laidKinds := [.sentinel, .sentinel, .sentinel], laidTests := true, laidLooks := .later }
def FnExactFlagsUntilSureUptoCardSaid : Prop := Claim7.holds Tryd.pinned (.plain (OpenSpec.upto fnExactFlagsUntilSureSpec)) fnExactFlagsUntilSureUptoCard

/-- THE SECOND FORM's CARD OF 'laws.FnExactDropPhrase'. -/
def fnExactDropPhraseUptoCard : Claim7 := { stood := { row := fnExactDropPhraseUptoRow, standIns := [], harness := (true, "08d39ba5f70bedf9c344f520439c0e471c34ba88758b13ba2d029e6175d1a703"), looks := true }, kinds := [], alts := [], laidByText := true, laidKinds := [.sentinel, .sentinel, .sentinel], laidTests := true, laidLooks := .later }
def FnExactDropPhraseUptoCardSaid : Prop := Claim7.holds Tryd.pinned (.plain (OpenSpec.upto fnExactDropPhraseSpec)) fnExactDropPhraseUptoCard

/-- THE SECOND FORM's CARD OF 'laws.FnExactAddPhrase'. -/
def fnExactAddPhraseUptoCard : Claim7 := { stood := { row := fnExactAddPhraseUptoRow, standIns := [], harness := (true, "08d39ba5f70bedf9c344f520439c0e471c34ba88758b13ba2d029e6175d1a703"), looks := true }, kinds := [], alts := [], laidByText := true, laidKinds := [.sentinel, .sentinel, .sentinel], laidTests := true, laidLooks := .later }
def FnExactAddPhraseUptoCardSaid : Prop := Claim7.holds Tryd.pinned (.plain (OpenSpec.upto fnExactAddPhraseSpec)) fnExactAddPhraseUptoCard

/-- THE SECOND FORM's CARD OF 'laws.FnExactReplacePhrase'. -/
def fnExactReplacePhraseUptoCard : Claim7 := { stood := { row := fnExactReplacePhraseUptoRow, standIns := [], harness := (true, "08d39ba5f70bedf9c344f520439c0e471c34ba88758b13ba2d029e6175d1a703"), looks := true }, kinds := [], alts := [], laidByText := true, laidKinds := [.sentinel, .sentinel, .sentinel], laidTests := true, laidLooks := .later }
def FnExactReplacePhraseUptoCardSaid : Prop := Claim7.holds Tryd.pinned (.plain (OpenSpec.upto fnExactReplacePhraseSpec)) fnExactReplacePhraseUptoCard

/-- THE SECOND FORM's CARD OF 'laws.FnExactShortestBook'. -/
def fnExactShortestBookUptoCard : Claim7 := { stood := { row := fnExactShortestBookUptoRow, standIns := [], harness := (true, "08d39ba5f70bedf9c344f520439c0e471c34ba88758b13ba2d029e6175d1a703"), looks := true }, kinds := [], alts := [], laidByText := true, laidKinds := [.sentinel, .sentinel, .sentinel], laidTests := true, laidLooks := .later }
def FnExactShortestBookUptoCardSaid : Prop := Claim7.holds Tryd.pinned (.plain (OpenSpec.upto fnExactShortestBookSpec)) fnExactShortestBookUptoCard
end Rows
end Go.Proofs.YtfaiehjomcgjgaaDoor
