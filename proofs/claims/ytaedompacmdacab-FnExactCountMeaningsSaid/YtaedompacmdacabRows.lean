/-
  No cell of these rows narrows 'for every input' (looked for: loops, veiled, ifaces, maps, wideKeys, modest, calm, conditions, laid).
  DERIVED. THE GIVEN ROWS OF THIS SEAT. 9 by the template 'for every input the law returns true; each argument reads behind the call as it read before'; 0 by the template 'total and deterministic' (their statements: YtaedompacmdacabTotals.lean).
  GIVEN WITH THE SEED: the statements are not yours to turn. If you find one false, say at which input.
  Laid BY PROGRAM, IN A SANDBOX (cutbox-rows.mjs): the forced cells as the released guide's own fill.sh prints them over the translation fda3ba4de50ff8b7… (all of the seat's roots in one cut). By AI agents, Wed Nov 11 2026. No macro, syntax, notation, axiom, sorry.
-/
import Derived.Test.YtaedompacmdacabChecked
import GoSem.Claim
import GoSem.ClaimJoined
import GoSem.ClaimMapViews
import Derived.JoinedTies
import Derived.KernelRfl
namespace Go.Proofs.Ytaedompacmdacab
/- THE CELL 'sum', in the pinned program and in every row, IS THE sha256 OF THE DUMP (.gsa) THAT YtaedompacmdacabProg.lean LOADS. Nothing in Lean hashes anything: it is a label: what it is worth is what the hold of that sum in a sandbox is worth. -/
noncomputable def Try.pinned : Pinned := { name := "ytaedompacmdacab", sum := "fda3ba4de50ff8b75f15d73b6bef60e482f3d29dc19be27c039c86afeb2bb831", checked := Try.checked }
namespace Rows
def none {H : Type} : Left H := { results := [], args := [] }

/-- 'laws.FnExactWaysToHoist': WHATEVER THE INPUT: true; the input reads as it did. -/
def fnExactWaysToHoistSpec : ChangeSpec := { name := "fnExactWaysToHoist", fn := fun _ => fun
  | [d1, d2, d3] => { results := [.lit (.bool true)], args := [d1, d2, d3] }
  | _ => none }
def fnExactWaysToHoistRow : OpenClaim := { program := "ytaedompacmdacab", sum := "fda3ba4de50ff8b75f15d73b6bef60e482f3d29dc19be27c039c86afeb2bb831", func := "loop.example/g01299/laws.FnExactWaysToHoist", spec := "fnExactWaysToHoist", unfollowed := true, recurses := true, plainKeys := false, leaving := true, apart := false }
def FnExactWaysToHoistSaid : Prop := fnExactWaysToHoistRow.holds Try.pinned (OpenSpec.ofChange fnExactWaysToHoistSpec)

/-- ITS FALSE NEIGHBOUR: 'it returns false'. Refute it at one input. -/
def fnExactWaysToHoistWrong : ChangeSpec := { name := "fnExactWaysToHoist", fn := fun _ => fun
  | [d1, d2, d3] => { results := [.lit (.bool false)], args := [d1, d2, d3] }
  | _ => none }
def FnExactWaysToHoistWrongFalsely : Prop := fnExactWaysToHoistRow.holds Try.pinned (OpenSpec.ofChange fnExactWaysToHoistWrong)

/-- 'laws.FnExactCountMeanings': WHATEVER THE INPUT: true; the input reads as it did. -/
def fnExactCountMeaningsSpec : ChangeSpec := { name := "fnExactCountMeanings", fn := fun _ => fun
  | [d1, d2, d3, d4] => { results := [.lit (.bool true)], args := [d1, d2, d3, d4] }
  | _ => none }
def fnExactCountMeaningsRow : OpenClaim := { program := "ytaedompacmdacab", sum := "fda3ba4de50ff8b75f15d73b6bef60e482f3d29dc19be27c039c86afeb2bb831", func := "loop.example/g01299/laws.FnExactCountMeanings", spec := "fnExactCountMeanings", unfollowed := true, recurses := true, plainKeys := false, leaving := true, apart := false }
def FnExactCountMeaningsSaid : Prop := fnExactCountMeaningsRow.holds Try.pinned (OpenSpec.ofChange fnExactCountMeaningsSpec)

/-- ITS FALSE NEIGHBOUR: 'it returns false'. Refute it at one input. -/
def fnExactCountMeaningsWrong : ChangeSpec := { name := "fnExactCountMeanings", fn := fun _ => fun
  | [d1, d2, d3, d4] => { results := [.lit (.bool false)], args := [d1, d2, d3, d4] }
  | _ => none }
def FnExactCountMeaningsWrongFalsely : Prop := fnExactCountMeaningsRow.holds Try.pinned (OpenSpec.ofChange fnExactCountMeaningsWrong)

/-- 'laws.FnExactHoistsFrom': WHATEVER THE INPUT: true; the input reads as it did. -/
def fnExactHoistsFromSpec : ChangeSpec := { name := "fnExactHoistsFrom", fn := fun _ => fun
  | [d1, d2, d3] => { results := [.lit (.bool true)], args := [d1, d2, d3] }
  | _ => none }
def fnExactHoistsFromRow : OpenClaim := { program := "ytaedompacmdacab", sum := "fda3ba4de50ff8b75f15d73b6bef60e482f3d29dc19be27c039c86afeb2bb831", func := "loop.example/g01299/laws.FnExactHoistsFrom", spec := "fnExactHoistsFrom", unfollowed := true, recurses := true, plainKeys := false, leaving := true, apart := false }
def FnExactHoistsFromSaid : Prop := fnExactHoistsFromRow.holds Try.pinned (OpenSpec.ofChange fnExactHoistsFromSpec)

/-- ITS FALSE NEIGHBOUR: 'it returns false'. Refute it at one input. -/
def fnExactHoistsFromWrong : ChangeSpec := { name := "fnExactHoistsFrom", fn := fun _ => fun
  | [d1, d2, d3] => { results := [.lit (.bool false)], args := [d1, d2, d3] }
  | _ => none }
def FnExactHoistsFromWrongFalsely : Prop := fnExactHoistsFromRow.holds Try.pinned (OpenSpec.ofChange fnExactHoistsFromWrong)

/-- 'laws.FnExactFlyInTurn': WHATEVER THE INPUT: true; the input reads as it did. -/
def fnExactFlyInTurnSpec : ChangeSpec := { name := "fnExactFlyInTurn", fn := fun _ => fun
  | [d1, d2] => { results := [.lit (.bool true)], args := [d1, d2] }
  | _ => none }
def fnExactFlyInTurnRow : OpenClaim := { program := "ytaedompacmdacab", sum := "fda3ba4de50ff8b75f15d73b6bef60e482f3d29dc19be27c039c86afeb2bb831", func := "loop.example/g01299/laws.FnExactFlyInTurn", spec := "fnExactFlyInTurn", unfollowed := true, recurses := true, plainKeys := false, leaving := true, apart := false }
def FnExactFlyInTurnSaid : Prop := fnExactFlyInTurnRow.holds Try.pinned (OpenSpec.ofChange fnExactFlyInTurnSpec)

/-- ITS FALSE NEIGHBOUR: 'it returns false'. Refute it at one input. -/
def fnExactFlyInTurnWrong : ChangeSpec := { name := "fnExactFlyInTurn", fn := fun _ => fun
  | [d1, d2] => { results := [.lit (.bool false)], args := [d1, d2] }
  | _ => none }
def FnExactFlyInTurnWrongFalsely : Prop := fnExactFlyInTurnRow.holds Try.pinned (OpenSpec.ofChange fnExactFlyInTurnWrong)

/-- 'laws.FnExactMostAtOnce': WHATEVER THE INPUT: true; the input reads as it did. -/
def fnExactMostAtOnceSpec : ChangeSpec := { name := "fnExactMostAtOnce", fn := fun _ => fun
  | [d1, d2] => { results := [.lit (.bool true)], args := [d1, d2] }
  | _ => none }
def fnExactMostAtOnceRow : OpenClaim := { program := "ytaedompacmdacab", sum := "fda3ba4de50ff8b75f15d73b6bef60e482f3d29dc19be27c039c86afeb2bb831", func := "loop.example/g01299/laws.FnExactMostAtOnce", spec := "fnExactMostAtOnce", unfollowed := true, recurses := true, plainKeys := false, leaving := true, apart := false }
def FnExactMostAtOnceSaid : Prop := fnExactMostAtOnceRow.holds Try.pinned (OpenSpec.ofChange fnExactMostAtOnceSpec)

/-- ITS FALSE NEIGHBOUR: 'it returns false'. Refute it at one input. -/
def fnExactMostAtOnceWrong : ChangeSpec := { name := "fnExactMostAtOnce", fn := fun _ => fun
  | [d1, d2] => { results := [.lit (.bool false)], args := [d1, d2] }
  | _ => none }
def FnExactMostAtOnceWrongFalsely : Prop := fnExactMostAtOnceRow.holds Try.pinned (OpenSpec.ofChange fnExactMostAtOnceWrong)

/-- 'laws.FnExactFewestToBuy': WHATEVER THE INPUT: true; the input reads as it did. -/
def fnExactFewestToBuySpec : ChangeSpec := { name := "fnExactFewestToBuy", fn := fun _ => fun
  | [d1, d2] => { results := [.lit (.bool true)], args := [d1, d2] }
  | _ => none }
def fnExactFewestToBuyRow : OpenClaim := { program := "ytaedompacmdacab", sum := "fda3ba4de50ff8b75f15d73b6bef60e482f3d29dc19be27c039c86afeb2bb831", func := "loop.example/g01299/laws.FnExactFewestToBuy", spec := "fnExactFewestToBuy", unfollowed := true, recurses := true, plainKeys := false, leaving := true, apart := false }
def FnExactFewestToBuySaid : Prop := fnExactFewestToBuyRow.holds Try.pinned (OpenSpec.ofChange fnExactFewestToBuySpec)

/-- ITS FALSE NEIGHBOUR: 'it returns false'. Refute it at one input. -/
def fnExactFewestToBuyWrong : ChangeSpec := { name := "fnExactFewestToBuy", fn := fun _ => fun
  | [d1, d2] => { results := [.lit (.bool false)], args := [d1, d2] }
  | _ => none }
def FnExactFewestToBuyWrongFalsely : Prop := fnExactFewestToBuyRow.holds Try.pinned (OpenSpec.ofChange fnExactFewestToBuyWrong)

/-- 'laws.FnExactRoundsFor': WHATEVER THE INPUT: true; the input reads as it did. -/
def fnExactRoundsForSpec : ChangeSpec := { name := "fnExactRoundsFor", fn := fun _ => fun
  | [d1, d2] => { results := [.lit (.bool true)], args := [d1, d2] }
  | _ => none }
def fnExactRoundsForRow : OpenClaim := { program := "ytaedompacmdacab", sum := "fda3ba4de50ff8b75f15d73b6bef60e482f3d29dc19be27c039c86afeb2bb831", func := "loop.example/g01299/laws.FnExactRoundsFor", spec := "fnExactRoundsFor", unfollowed := true, recurses := true, plainKeys := false, leaving := true, apart := false }
def FnExactRoundsForSaid : Prop := fnExactRoundsForRow.holds Try.pinned (OpenSpec.ofChange fnExactRoundsForSpec)

/-- ITS FALSE NEIGHBOUR: 'it returns false'. Refute it at one input. -/
def fnExactRoundsForWrong : ChangeSpec := { name := "fnExactRoundsFor", fn := fun _ => fun
  | [d1, d2] => { results := [.lit (.bool false)], args := [d1, d2] }
  | _ => none }
def FnExactRoundsForWrongFalsely : Prop := fnExactRoundsForRow.holds Try.pinned (OpenSpec.ofChange fnExactRoundsForWrong)

/-- 'laws.FnExactCheckRounds': WHATEVER THE INPUT: true; the input reads as it did. -/
def fnExactCheckRoundsSpec : ChangeSpec := { name := "fnExactCheckRounds", fn := fun _ => fun
  | [d1, d2, d3] => { results := [.lit (.bool true)], args := [d1, d2, d3] }
  | _ => none }
def fnExactCheckRoundsRow : OpenClaim := { program := "ytaedompacmdacab", sum := "fda3ba4de50ff8b75f15d73b6bef60e482f3d29dc19be27c039c86afeb2bb831", func := "loop.example/g01299/laws.FnExactCheckRounds", spec := "fnExactCheckRounds", unfollowed := true, recurses := true, plainKeys := false, leaving := true, apart := false }
def FnExactCheckRoundsSaid : Prop := fnExactCheckRoundsRow.holds Try.pinned (OpenSpec.ofChange fnExactCheckRoundsSpec)

/-- ITS FALSE NEIGHBOUR: 'it returns false'. Refute it at one input. -/
def fnExactCheckRoundsWrong : ChangeSpec := { name := "fnExactCheckRounds", fn := fun _ => fun
  | [d1, d2, d3] => { results := [.lit (.bool false)], args := [d1, d2, d3] }
  | _ => none }
def FnExactCheckRoundsWrongFalsely : Prop := fnExactCheckRoundsRow.holds Try.pinned (OpenSpec.ofChange fnExactCheckRoundsWrong)

/-- 'laws.FnTogether': WHATEVER THE INPUT: true; the input reads as it did. -/
def fnTogetherSpec : ChangeSpec := { name := "fnTogether", fn := fun _ => fun
  | [d1, d2] => { results := [.lit (.bool true)], args := [d1, d2] }
  | _ => none }
def fnTogetherRow : OpenClaim := { program := "ytaedompacmdacab", sum := "fda3ba4de50ff8b75f15d73b6bef60e482f3d29dc19be27c039c86afeb2bb831", func := "loop.example/g01299/laws.FnTogether", spec := "fnTogether", unfollowed := true, recurses := true, plainKeys := false, leaving := true, apart := false }
def FnTogetherSaid : Prop := fnTogetherRow.holds Try.pinned (OpenSpec.ofChange fnTogetherSpec)

/-- ITS FALSE NEIGHBOUR: 'it returns false'. Refute it at one input. -/
def fnTogetherWrong : ChangeSpec := { name := "fnTogether", fn := fun _ => fun
  | [d1, d2] => { results := [.lit (.bool false)], args := [d1, d2] }
  | _ => none }
def FnTogetherWrongFalsely : Prop := fnTogetherRow.holds Try.pinned (OpenSpec.ofChange fnTogetherWrong)

/- THE SECOND FORM. 'bulk': how many values and letters a reading holds, each counted each time it is reached (what is shared counts as often as it is met; a slice's spare places count too). A statement '..UptoSaid' is the law's where the arguments, and the package variables that the reading takes, are together of bulk at most 1048576: NARROWER than '..Said'. Prove '..Said' where nothing that the law and all that it calls make is longer than what came in: it says more and counts as full. Else prove '..UptoSaid'. A law counts once. -/
mutual
def uptoBulk {H : Type} : DataW H → Nat
  | .lit (.string bytes) => bytes.length + 1
  | .lit _ => 1
  | .nil => 1
  | .ptr d => uptoBulk d + 1
  | .slice elems spare => uptoBulkAll elems + uptoBulkAll spare + 1
  | .agg parts => uptoBulkAll parts + 1
  | .iface _ d => uptoBulk d + 1
  | .map entries => uptoBulkEntries entries + 1
  | .held _ => 1
def uptoBulkAll {H : Type} : List (DataW H) → Nat
  | [] => 0
  | d :: r => uptoBulk d + uptoBulkAll r
def uptoBulkEntries {H : Type} : List (Lit × DataW H) → Nat
  | [] => 0
  | x :: r => uptoBulkEntry x + uptoBulkEntries r
def uptoBulkEntry {H : Type} : Lit × DataW H → Nat
  | (.string bytes, d) => bytes.length + uptoBulk d + 1
  | (_, d) => uptoBulk d + 1
 end
def uptoSmall : (H : Type) → List (DataW H) → Bool := fun _ ds => decide (uptoBulkAll ds ≤ 1048576)
def OpenSpec.upto (s : _root_.Go.ChangeSpec) : _root_.Go.OpenSpec := { _root_.Go.OpenSpec.ofChange s with cond := some uptoSmall }

/-- 'laws.FnExactWaysToHoist', WHERE WHAT IT READS IS OF BULK AT MOST 1048576: true; the input reads as it did. -/
def fnExactWaysToHoistUptoRow : OpenClaim := { program := "ytaedompacmdacab", sum := "fda3ba4de50ff8b75f15d73b6bef60e482f3d29dc19be27c039c86afeb2bb831", func := "loop.example/g01299/laws.FnExactWaysToHoist", spec := "fnExactWaysToHoist", unfollowed := true, recurses := true, plainKeys := false, leaving := true, apart := false, narrowed := true }
def FnExactWaysToHoistUptoSaid : Prop := fnExactWaysToHoistUptoRow.holds Try.pinned (OpenSpec.upto fnExactWaysToHoistSpec)

/-- 'laws.FnExactCountMeanings', WHERE WHAT IT READS IS OF BULK AT MOST 1048576: true; the input reads as it did. -/
def fnExactCountMeaningsUptoRow : OpenClaim := { program := "ytaedompacmdacab", sum := "fda3ba4de50ff8b75f15d73b6bef60e482f3d29dc19be27c039c86afeb2bb831", func := "loop.example/g01299/laws.FnExactCountMeanings", spec := "fnExactCountMeanings", unfollowed := true, recurses := true, plainKeys := false, leaving := true, apart := false, narrowed := true }
def FnExactCountMeaningsUptoSaid : Prop := fnExactCountMeaningsUptoRow.holds Try.pinned (OpenSpec.upto fnExactCountMeaningsSpec)

/-- 'laws.FnExactHoistsFrom', WHERE WHAT IT READS IS OF BULK AT MOST 1048576: true; the input reads as it did. -/
def fnExactHoistsFromUptoRow : OpenClaim := { program := "ytaedompacmdacab", sum := "fda3ba4de50ff8b75f15d73b6bef60e482f3d29dc19be27c039c86afeb2bb831", func := "loop.example/g01299/laws.FnExactHoistsFrom", spec := "fnExactHoistsFrom", unfollowed := true, recurses := true, plainKeys := false, leaving := true, apart := false, narrowed := true }
def FnExactHoistsFromUptoSaid : Prop := fnExactHoistsFromUptoRow.holds Try.pinned (OpenSpec.upto fnExactHoistsFromSpec)

/-- 'laws.FnExactFlyInTurn', WHERE WHAT IT READS IS OF BULK AT MOST 1048576: true; the input reads as it did. -/
def fnExactFlyInTurnUptoRow : OpenClaim := { program := "ytaedompacmdacab", sum := "fda3ba4de50ff8b75f15d73b6bef60e482f3d29dc19be27c039c86afeb2bb831", func := "loop.example/g01299/laws.FnExactFlyInTurn", spec := "fnExactFlyInTurn", unfollowed := true, recurses := true, plainKeys := false, leaving := true, apart := false, narrowed := true }
def FnExactFlyInTurnUptoSaid : Prop := fnExactFlyInTurnUptoRow.holds Try.pinned (OpenSpec.upto fnExactFlyInTurnSpec)

/-- 'laws.FnExactMostAtOnce', WHERE WHAT IT READS IS OF BULK AT MOST 1048576: true; the input reads as it did. -/
def fnExactMostAtOnceUptoRow : OpenClaim := { program := "ytaedompacmdacab", sum := "fda3ba4de50ff8b75f15d73b6bef60e482f3d29dc19be27c039c86afeb2bb831", func := "loop.example/g01299/laws.FnExactMostAtOnce", spec := "fnExactMostAtOnce", unfollowed := true, recurses := true, plainKeys := false, leaving := true, apart := false, narrowed := true }
def FnExactMostAtOnceUptoSaid : Prop := fnExactMostAtOnceUptoRow.holds Try.pinned (OpenSpec.upto fnExactMostAtOnceSpec)

/-- 'laws.FnExactFewestToBuy', WHERE WHAT IT READS IS OF BULK AT MOST 1048576: true; the input reads as it did. -/
def fnExactFewestToBuyUptoRow : OpenClaim := { program := "ytaedompacmdacab", sum := "fda3ba4de50ff8b75f15d73b6bef60e482f3d29dc19be27c039c86afeb2bb831", func := "loop.example/g01299/laws.FnExactFewestToBuy", spec := "fnExactFewestToBuy", unfollowed := true, recurses := true, plainKeys := false, leaving := true, apart := false, narrowed := true }
def FnExactFewestToBuyUptoSaid : Prop := fnExactFewestToBuyUptoRow.holds Try.pinned (OpenSpec.upto fnExactFewestToBuySpec)

/-- 'laws.FnExactRoundsFor', WHERE WHAT IT READS IS OF BULK AT MOST 1048576: true; the input reads as it did. -/
def fnExactRoundsForUptoRow : OpenClaim := { program := "ytaedompacmdacab", sum := "fda3ba4de50ff8b75f15d73b6bef60e482f3d29dc19be27c039c86afeb2bb831", func := "loop.example/g01299/laws.FnExactRoundsFor", spec := "fnExactRoundsFor", unfollowed := true, recurses := true, plainKeys := false, leaving := true, apart := false, narrowed := true }
def FnExactRoundsForUptoSaid : Prop := fnExactRoundsForUptoRow.holds Try.pinned (OpenSpec.upto fnExactRoundsForSpec)

/-- 'laws.FnExactCheckRounds', WHERE WHAT IT READS IS OF BULK AT MOST 1048576: true; the input reads as it did. -/
def fnExactCheckRoundsUptoRow : OpenClaim := { program := "ytaedompacmdacab", sum := "fda3ba4de50ff8b75f15d73b6bef60e482f3d29dc19be27c039c86afeb2bb831", func := "loop.example/g01299/laws.FnExactCheckRounds", spec := "fnExactCheckRounds", unfollowed := true, recurses := true, plainKeys := false, leaving := true, apart := false, narrowed := true }
def FnExactCheckRoundsUptoSaid : Prop := fnExactCheckRoundsUptoRow.holds Try.pinned (OpenSpec.upto fnExactCheckRoundsSpec)

/-- 'laws.FnTogether', WHERE WHAT IT READS IS OF BULK AT MOST 1048576: true; the input reads as it did. -/
def fnTogetherUptoRow : OpenClaim := { program := "ytaedompacmdacab", sum := "fda3ba4de50ff8b75f15d73b6bef60e482f3d29dc19be27c039c86afeb2bb831", func := "loop.example/g01299/laws.FnTogether", spec := "fnTogether", unfollowed := true, recurses := true, plainKeys := false, leaving := true, apart := false, narrowed := true }
def FnTogetherUptoSaid : Prop := fnTogetherUptoRow.holds Try.pinned (OpenSpec.upto fnTogetherSpec)

end Rows
end Go.Proofs.Ytaedompacmdacab
