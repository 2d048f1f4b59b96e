/-
  No cell of these rows narrows 'for every input' (looked for: loops, veiled, ifaces, maps, wideKeys, modest, calm, conditions, laid).
  DERIVED. THE GIVEN ROWS OF THIS SEAT. 12 by the template 'for every input the law returns true; each argument reads behind the call as it read before'; 0 by the template 'total and deterministic' (their statements: YtnghcchkiodalabTotals.lean).
  GIVEN WITH THE SEED: the statements are not yours to turn. If you find one false, say at which input.
  Laid BY PROGRAM, IN A SANDBOX (cutbox-rows.mjs): the forced cells as the released guide's own fill.sh prints them over the translation 60ed6d41312eb4e4… (all of the seat's roots in one cut). By AI agents, Wed Nov 11 2026. No macro, syntax, notation, axiom, sorry.
-/
import Derived.Test.YtnghcchkiodalabChecked
import GoSem.Claim
import GoSem.ClaimJoined
import GoSem.ClaimMapViews
import Derived.JoinedTies
import Derived.KernelRfl
namespace Go.Proofs.Ytnghcchkiodalab
/- THE CELL 'sum', in the pinned program and in every row, IS THE sha256 OF THE DUMP (.gsa) THAT YtnghcchkiodalabProg.lean LOADS. Nothing in Lean hashes anything: it is a label: what it is worth is what the hold of that sum in a sandbox is worth. -/
noncomputable def Try.pinned : Pinned := { name := "ytnghcchkiodalab", sum := "60ed6d41312eb4e43548a4b753150043974ad4f8d5bfdd80f3a42d93c346553f", checked := Try.checked }
namespace Rows
def none {H : Type} : Left H := { results := [], args := [] }

/-- 'laws.FnExactValidHoist': WHATEVER THE INPUT: true; the input reads as it did. -/
def fnExactValidHoistSpec : ChangeSpec := { name := "fnExactValidHoist", fn := fun _ => fun
  | [d] => { results := [.lit (.bool true)], args := [d] }
  | _ => none }
def fnExactValidHoistRow : OpenClaim := { program := "ytnghcchkiodalab", sum := "60ed6d41312eb4e43548a4b753150043974ad4f8d5bfdd80f3a42d93c346553f", func := "loop.example/g01299/laws.FnExactValidHoist", spec := "fnExactValidHoist", unfollowed := true, recurses := true, apart := false }
def FnExactValidHoistSaid : Prop := fnExactValidHoistRow.holds Try.pinned (OpenSpec.ofChange fnExactValidHoistSpec)

/-- ITS FALSE NEIGHBOUR: 'it returns false'. Refute it at one input. -/
def fnExactValidHoistWrong : ChangeSpec := { name := "fnExactValidHoist", fn := fun _ => fun
  | [d] => { results := [.lit (.bool false)], args := [d] }
  | _ => none }
def FnExactValidHoistWrongFalsely : Prop := fnExactValidHoistRow.holds Try.pinned (OpenSpec.ofChange fnExactValidHoistWrong)

/-- 'laws.FnExactValidMeaning': WHATEVER THE INPUT: true; the input reads as it did. -/
def fnExactValidMeaningSpec : ChangeSpec := { name := "fnExactValidMeaning", fn := fun _ => fun
  | [d] => { results := [.lit (.bool true)], args := [d] }
  | _ => none }
def fnExactValidMeaningRow : OpenClaim := { program := "ytnghcchkiodalab", sum := "60ed6d41312eb4e43548a4b753150043974ad4f8d5bfdd80f3a42d93c346553f", func := "loop.example/g01299/laws.FnExactValidMeaning", spec := "fnExactValidMeaning", unfollowed := true, recurses := true, apart := false }
def FnExactValidMeaningSaid : Prop := fnExactValidMeaningRow.holds Try.pinned (OpenSpec.ofChange fnExactValidMeaningSpec)

/-- ITS FALSE NEIGHBOUR: 'it returns false'. Refute it at one input. -/
def fnExactValidMeaningWrong : ChangeSpec := { name := "fnExactValidMeaning", fn := fun _ => fun
  | [d] => { results := [.lit (.bool false)], args := [d] }
  | _ => none }
def FnExactValidMeaningWrongFalsely : Prop := fnExactValidMeaningRow.holds Try.pinned (OpenSpec.ofChange fnExactValidMeaningWrong)

/-- 'laws.FnExactSameHoist': WHATEVER THE INPUT: true; the input reads as it did. -/
def fnExactSameHoistSpec : ChangeSpec := { name := "fnExactSameHoist", fn := fun _ => fun
  | [d1, d2] => { results := [.lit (.bool true)], args := [d1, d2] }
  | _ => none }
def fnExactSameHoistRow : OpenClaim := { program := "ytnghcchkiodalab", sum := "60ed6d41312eb4e43548a4b753150043974ad4f8d5bfdd80f3a42d93c346553f", func := "loop.example/g01299/laws.FnExactSameHoist", spec := "fnExactSameHoist", apart := false }
def FnExactSameHoistSaid : Prop := fnExactSameHoistRow.holds Try.pinned (OpenSpec.ofChange fnExactSameHoistSpec)

/-- ITS FALSE NEIGHBOUR: 'it returns false'. Refute it at one input. -/
def fnExactSameHoistWrong : ChangeSpec := { name := "fnExactSameHoist", fn := fun _ => fun
  | [d1, d2] => { results := [.lit (.bool false)], args := [d1, d2] }
  | _ => none }
def FnExactSameHoistWrongFalsely : Prop := fnExactSameHoistRow.holds Try.pinned (OpenSpec.ofChange fnExactSameHoistWrong)

/-- 'laws.FnExactMeaningOf': WHATEVER THE INPUT: true; the input reads as it did. -/
def fnExactMeaningOfSpec : ChangeSpec := { name := "fnExactMeaningOf", fn := fun _ => fun
  | [d] => { results := [.lit (.bool true)], args := [d] }
  | _ => none }
def fnExactMeaningOfRow : OpenClaim := { program := "ytnghcchkiodalab", sum := "60ed6d41312eb4e43548a4b753150043974ad4f8d5bfdd80f3a42d93c346553f", func := "loop.example/g01299/laws.FnExactMeaningOf", spec := "fnExactMeaningOf", unfollowed := true, recurses := true, apart := false }
def FnExactMeaningOfSaid : Prop := fnExactMeaningOfRow.holds Try.pinned (OpenSpec.ofChange fnExactMeaningOfSpec)

/-- ITS FALSE NEIGHBOUR: 'it returns false'. Refute it at one input. -/
def fnExactMeaningOfWrong : ChangeSpec := { name := "fnExactMeaningOf", fn := fun _ => fun
  | [d] => { results := [.lit (.bool false)], args := [d] }
  | _ => none }
def FnExactMeaningOfWrongFalsely : Prop := fnExactMeaningOfRow.holds Try.pinned (OpenSpec.ofChange fnExactMeaningOfWrong)

/-- 'laws.FnExactAlikeHoists': WHATEVER THE INPUT: true; the input reads as it did. -/
def fnExactAlikeHoistsSpec : ChangeSpec := { name := "fnExactAlikeHoists", fn := fun _ => fun
  | [d1, d2] => { results := [.lit (.bool true)], args := [d1, d2] }
  | _ => none }
def fnExactAlikeHoistsRow : OpenClaim := { program := "ytnghcchkiodalab", sum := "60ed6d41312eb4e43548a4b753150043974ad4f8d5bfdd80f3a42d93c346553f", func := "loop.example/g01299/laws.FnExactAlikeHoists", spec := "fnExactAlikeHoists", unfollowed := true, recurses := true, apart := false }
def FnExactAlikeHoistsSaid : Prop := fnExactAlikeHoistsRow.holds Try.pinned (OpenSpec.ofChange fnExactAlikeHoistsSpec)

/-- ITS FALSE NEIGHBOUR: 'it returns false'. Refute it at one input. -/
def fnExactAlikeHoistsWrong : ChangeSpec := { name := "fnExactAlikeHoists", fn := fun _ => fun
  | [d1, d2] => { results := [.lit (.bool false)], args := [d1, d2] }
  | _ => none }
def FnExactAlikeHoistsWrongFalsely : Prop := fnExactAlikeHoistsRow.holds Try.pinned (OpenSpec.ofChange fnExactAlikeHoistsWrong)

/-- 'laws.FnExactGroupsOf': WHATEVER THE INPUT: true; the input reads as it did. -/
def fnExactGroupsOfSpec : ChangeSpec := { name := "fnExactGroupsOf", fn := fun _ => fun
  | [d] => { results := [.lit (.bool true)], args := [d] }
  | _ => none }
def fnExactGroupsOfRow : OpenClaim := { program := "ytnghcchkiodalab", sum := "60ed6d41312eb4e43548a4b753150043974ad4f8d5bfdd80f3a42d93c346553f", func := "loop.example/g01299/laws.FnExactGroupsOf", spec := "fnExactGroupsOf", unfollowed := true, recurses := true, apart := false }
def FnExactGroupsOfSaid : Prop := fnExactGroupsOfRow.holds Try.pinned (OpenSpec.ofChange fnExactGroupsOfSpec)

/-- ITS FALSE NEIGHBOUR: 'it returns false'. Refute it at one input. -/
def fnExactGroupsOfWrong : ChangeSpec := { name := "fnExactGroupsOf", fn := fun _ => fun
  | [d] => { results := [.lit (.bool false)], args := [d] }
  | _ => none }
def FnExactGroupsOfWrongFalsely : Prop := fnExactGroupsOfRow.holds Try.pinned (OpenSpec.ofChange fnExactGroupsOfWrong)

/-- 'laws.FnExactFlagsIn': WHATEVER THE INPUT: true; the input reads as it did. -/
def fnExactFlagsInSpec : ChangeSpec := { name := "fnExactFlagsIn", fn := fun _ => fun
  | [d] => { results := [.lit (.bool true)], args := [d] }
  | _ => none }
def fnExactFlagsInRow : OpenClaim := { program := "ytnghcchkiodalab", sum := "60ed6d41312eb4e43548a4b753150043974ad4f8d5bfdd80f3a42d93c346553f", func := "loop.example/g01299/laws.FnExactFlagsIn", spec := "fnExactFlagsIn", unfollowed := true, recurses := true, apart := false }
def FnExactFlagsInSaid : Prop := fnExactFlagsInRow.holds Try.pinned (OpenSpec.ofChange fnExactFlagsInSpec)

/-- ITS FALSE NEIGHBOUR: 'it returns false'. Refute it at one input. -/
def fnExactFlagsInWrong : ChangeSpec := { name := "fnExactFlagsIn", fn := fun _ => fun
  | [d] => { results := [.lit (.bool false)], args := [d] }
  | _ => none }
def FnExactFlagsInWrongFalsely : Prop := fnExactFlagsInRow.holds Try.pinned (OpenSpec.ofChange fnExactFlagsInWrong)

/-- 'laws.FnExactSubsIn': WHATEVER THE INPUT: true; the input reads as it did. -/
def fnExactSubsInSpec : ChangeSpec := { name := "fnExactSubsIn", fn := fun _ => fun
  | [d] => { results := [.lit (.bool true)], args := [d] }
  | _ => none }
def fnExactSubsInRow : OpenClaim := { program := "ytnghcchkiodalab", sum := "60ed6d41312eb4e43548a4b753150043974ad4f8d5bfdd80f3a42d93c346553f", func := "loop.example/g01299/laws.FnExactSubsIn", spec := "fnExactSubsIn", unfollowed := true, recurses := true, apart := false }
def FnExactSubsInSaid : Prop := fnExactSubsInRow.holds Try.pinned (OpenSpec.ofChange fnExactSubsInSpec)

/-- ITS FALSE NEIGHBOUR: 'it returns false'. Refute it at one input. -/
def fnExactSubsInWrong : ChangeSpec := { name := "fnExactSubsIn", fn := fun _ => fun
  | [d] => { results := [.lit (.bool false)], args := [d] }
  | _ => none }
def FnExactSubsInWrongFalsely : Prop := fnExactSubsInRow.holds Try.pinned (OpenSpec.ofChange fnExactSubsInWrong)

/-- 'laws.FnExactSetsFor': WHATEVER THE INPUT: true; the input reads as it did. -/
def fnExactSetsForSpec : ChangeSpec := { name := "fnExactSetsFor", fn := fun _ => fun
  | [d] => { results := [.lit (.bool true)], args := [d] }
  | _ => none }
def fnExactSetsForRow : OpenClaim := { program := "ytnghcchkiodalab", sum := "60ed6d41312eb4e43548a4b753150043974ad4f8d5bfdd80f3a42d93c346553f", func := "loop.example/g01299/laws.FnExactSetsFor", spec := "fnExactSetsFor", unfollowed := true, recurses := true, apart := false }
def FnExactSetsForSaid : Prop := fnExactSetsForRow.holds Try.pinned (OpenSpec.ofChange fnExactSetsForSpec)

/-- ITS FALSE NEIGHBOUR: 'it returns false'. Refute it at one input. -/
def fnExactSetsForWrong : ChangeSpec := { name := "fnExactSetsFor", fn := fun _ => fun
  | [d] => { results := [.lit (.bool false)], args := [d] }
  | _ => none }
def FnExactSetsForWrongFalsely : Prop := fnExactSetsForRow.holds Try.pinned (OpenSpec.ofChange fnExactSetsForWrong)

/-- 'laws.FnExactMeaningIf': WHATEVER THE INPUT: true; the input reads as it did. -/
def fnExactMeaningIfSpec : ChangeSpec := { name := "fnExactMeaningIf", fn := fun _ => fun
  | [d1, d2, d3] => { results := [.lit (.bool true)], args := [d1, d2, d3] }
  | _ => none }
def fnExactMeaningIfRow : OpenClaim := { program := "ytnghcchkiodalab", sum := "60ed6d41312eb4e43548a4b753150043974ad4f8d5bfdd80f3a42d93c346553f", func := "loop.example/g01299/laws.FnExactMeaningIf", spec := "fnExactMeaningIf", unfollowed := true, recurses := true, apart := false }
def FnExactMeaningIfSaid : Prop := fnExactMeaningIfRow.holds Try.pinned (OpenSpec.ofChange fnExactMeaningIfSpec)

/-- ITS FALSE NEIGHBOUR: 'it returns false'. Refute it at one input. -/
def fnExactMeaningIfWrong : ChangeSpec := { name := "fnExactMeaningIf", fn := fun _ => fun
  | [d1, d2, d3] => { results := [.lit (.bool false)], args := [d1, d2, d3] }
  | _ => none }
def FnExactMeaningIfWrongFalsely : Prop := fnExactMeaningIfRow.holds Try.pinned (OpenSpec.ofChange fnExactMeaningIfWrong)

/-- 'laws.FnExactSpoiledBy': WHATEVER THE INPUT: true; the input reads as it did. -/
def fnExactSpoiledBySpec : ChangeSpec := { name := "fnExactSpoiledBy", fn := fun _ => fun
  | [d1, d2, d3] => { results := [.lit (.bool true)], args := [d1, d2, d3] }
  | _ => none }
def fnExactSpoiledByRow : OpenClaim := { program := "ytnghcchkiodalab", sum := "60ed6d41312eb4e43548a4b753150043974ad4f8d5bfdd80f3a42d93c346553f", func := "loop.example/g01299/laws.FnExactSpoiledBy", spec := "fnExactSpoiledBy", unfollowed := true, recurses := true, apart := false }
def FnExactSpoiledBySaid : Prop := fnExactSpoiledByRow.holds Try.pinned (OpenSpec.ofChange fnExactSpoiledBySpec)

/-- ITS FALSE NEIGHBOUR: 'it returns false'. Refute it at one input. -/
def fnExactSpoiledByWrong : ChangeSpec := { name := "fnExactSpoiledBy", fn := fun _ => fun
  | [d1, d2, d3] => { results := [.lit (.bool false)], args := [d1, d2, d3] }
  | _ => none }
def FnExactSpoiledByWrongFalsely : Prop := fnExactSpoiledByRow.holds Try.pinned (OpenSpec.ofChange fnExactSpoiledByWrong)

/-- 'laws.FnExactWithoutSubs': WHATEVER THE INPUT: true; the input reads as it did. -/
def fnExactWithoutSubsSpec : ChangeSpec := { name := "fnExactWithoutSubs", fn := fun _ => fun
  | [d] => { results := [.lit (.bool true)], args := [d] }
  | _ => none }
def fnExactWithoutSubsRow : OpenClaim := { program := "ytnghcchkiodalab", sum := "60ed6d41312eb4e43548a4b753150043974ad4f8d5bfdd80f3a42d93c346553f", func := "loop.example/g01299/laws.FnExactWithoutSubs", spec := "fnExactWithoutSubs", unfollowed := true, recurses := true, apart := false }
def FnExactWithoutSubsSaid : Prop := fnExactWithoutSubsRow.holds Try.pinned (OpenSpec.ofChange fnExactWithoutSubsSpec)

/-- ITS FALSE NEIGHBOUR: 'it returns false'. Refute it at one input. -/
def fnExactWithoutSubsWrong : ChangeSpec := { name := "fnExactWithoutSubs", fn := fun _ => fun
  | [d] => { results := [.lit (.bool false)], args := [d] }
  | _ => none }
def FnExactWithoutSubsWrongFalsely : Prop := fnExactWithoutSubsRow.holds Try.pinned (OpenSpec.ofChange fnExactWithoutSubsWrong)

/- THE SECOND FORM. 'bulk': how many values and letters a reading holds, each counted each time it is reached (what is shared counts as often as it is met; a slice's spare places count too). A statement '..UptoSaid' is the law's where the arguments, and the package variables that the reading takes, are together of bulk at most 1048576: NARROWER than '..Said'. Prove '..Said' where nothing that the law and all that it calls make is longer than what came in: it says more and counts as full. Else prove '..UptoSaid'. A law counts once. -/
mutual
def uptoBulk {H : Type} : DataW H → Nat
  | .lit (.string bytes) => bytes.length + 1
  | .lit _ => 1
  | .nil => 1
  | .ptr d => uptoBulk d + 1
  | .slice elems spare => uptoBulkAll elems + uptoBulkAll spare + 1
  | .agg parts => uptoBulkAll parts + 1
  | .iface _ d => uptoBulk d + 1
  | .map entries => uptoBulkEntries entries + 1
  | .held _ => 1
def uptoBulkAll {H : Type} : List (DataW H) → Nat
  | [] => 0
  | d :: r => uptoBulk d + uptoBulkAll r
def uptoBulkEntries {H : Type} : List (Lit × DataW H) → Nat
  | [] => 0
  | x :: r => uptoBulkEntry x + uptoBulkEntries r
def uptoBulkEntry {H : Type} : Lit × DataW H → Nat
  | (.string bytes, d) => bytes.length + uptoBulk d + 1
  | (_, d) => uptoBulk d + 1
 end
def uptoSmall : (H : Type) → List (DataW H) → Bool := fun _ ds => decide (uptoBulkAll ds ≤ 1048576)
def OpenSpec.upto (s : _root_.Go.ChangeSpec) : _root_.Go.OpenSpec := { _root_.Go.OpenSpec.ofChange s with cond := some uptoSmall }

/-- 'laws.FnExactValidHoist', WHERE WHAT IT READS IS OF BULK AT MOST 1048576: true; the input reads as it did. -/
def fnExactValidHoistUptoRow : OpenClaim := { program := "ytnghcchkiodalab", sum := "60ed6d41312eb4e43548a4b753150043974ad4f8d5bfdd80f3a42d93c346553f", func := "loop.example/g01299/laws.FnExactValidHoist", spec := "fnExactValidHoist", unfollowed := true, recurses := true, apart := false, narrowed := true }
def FnExactValidHoistUptoSaid : Prop := fnExactValidHoistUptoRow.holds Try.pinned (OpenSpec.upto fnExactValidHoistSpec)

/-- 'laws.FnExactValidMeaning', WHERE WHAT IT READS IS OF BULK AT MOST 1048576: true; the input reads as it did. -/
def fnExactValidMeaningUptoRow : OpenClaim := { program := "ytnghcchkiodalab", sum := "60ed6d41312eb4e43548a4b753150043974ad4f8d5bfdd80f3a42d93c346553f", func := "loop.example/g01299/laws.FnExactValidMeaning", spec := "fnExactValidMeaning", unfollowed := true, recurses := true, apart := false, narrowed := true }
def FnExactValidMeaningUptoSaid : Prop := fnExactValidMeaningUptoRow.holds Try.pinned (OpenSpec.upto fnExactValidMeaningSpec)

/-- 'laws.FnExactSameHoist', WHERE WHAT IT READS IS OF BULK AT MOST 1048576: true; the input reads as it did. -/
def fnExactSameHoistUptoRow : OpenClaim := { program := "ytnghcchkiodalab", sum := "60ed6d41312eb4e43548a4b753150043974ad4f8d5bfdd80f3a42d93c346553f", func := "loop.example/g01299/laws.FnExactSameHoist", spec := "fnExactSameHoist", apart := false, narrowed := true }
def FnExactSameHoistUptoSaid : Prop := fnExactSameHoistUptoRow.holds Try.pinned (OpenSpec.upto fnExactSameHoistSpec)

/-- 'laws.FnExactMeaningOf', WHERE WHAT IT READS IS OF BULK AT MOST 1048576: true; the input reads as it did. -/
def fnExactMeaningOfUptoRow : OpenClaim := { program := "ytnghcchkiodalab", sum := "60ed6d41312eb4e43548a4b753150043974ad4f8d5bfdd80f3a42d93c346553f", func := "loop.example/g01299/laws.FnExactMeaningOf", spec := "fnExactMeaningOf", unfollowed := true, recurses := true, apart := false, narrowed := true }
def FnExactMeaningOfUptoSaid : Prop := fnExactMeaningOfUptoRow.holds Try.pinned (OpenSpec.upto fnExactMeaningOfSpec)

/-- 'laws.FnExactAlikeHoists', WHERE WHAT IT READS IS OF BULK AT MOST 1048576: true; the input reads as it did. -/
def fnExactAlikeHoistsUptoRow : OpenClaim := { program := "ytnghcchkiodalab", sum := "60ed6d41312eb4e43548a4b753150043974ad4f8d5bfdd80f3a42d93c346553f", func := "loop.example/g01299/laws.FnExactAlikeHoists", spec := "fnExactAlikeHoists", unfollowed := true, recurses := true, apart := false, narrowed := true }
def FnExactAlikeHoistsUptoSaid : Prop := fnExactAlikeHoistsUptoRow.holds Try.pinned (OpenSpec.upto fnExactAlikeHoistsSpec)

/-- 'laws.FnExactGroupsOf', WHERE WHAT IT READS IS OF BULK AT MOST 1048576: true; the input reads as it did. -/
def fnExactGroupsOfUptoRow : OpenClaim := { program := "ytnghcchkiodalab", sum := "60ed6d41312eb4e43548a4b753150043974ad4f8d5bfdd80f3a42d93c346553f", func := "loop.example/g01299/laws.FnExactGroupsOf", spec := "fnExactGroupsOf", unfollowed := true, recurses := true, apart := false, narrowed := true }
def FnExactGroupsOfUptoSaid : Prop := fnExactGroupsOfUptoRow.holds Try.pinned (OpenSpec.upto fnExactGroupsOfSpec)

/-- 'laws.FnExactFlagsIn', WHERE WHAT IT READS IS OF BULK AT MOST 1048576: true; the input reads as it did. -/
def fnExactFlagsInUptoRow : OpenClaim := { program := "ytnghcchkiodalab", sum := "60ed6d41312eb4e43548a4b753150043974ad4f8d5bfdd80f3a42d93c346553f", func := "loop.example/g01299/laws.FnExactFlagsIn", spec := "fnExactFlagsIn", unfollowed := true, recurses := true, apart := false, narrowed := true }
def FnExactFlagsInUptoSaid : Prop := fnExactFlagsInUptoRow.holds Try.pinned (OpenSpec.upto fnExactFlagsInSpec)

/-- 'laws.FnExactSubsIn', WHERE WHAT IT READS IS OF BULK AT MOST 1048576: true; the input reads as it did. -/
def fnExactSubsInUptoRow : OpenClaim := { program := "ytnghcchkiodalab", sum := "60ed6d41312eb4e43548a4b753150043974ad4f8d5bfdd80f3a42d93c346553f", func := "loop.example/g01299/laws.FnExactSubsIn", spec := "fnExactSubsIn", unfollowed := true, recurses := true, apart := false, narrowed := true }
def FnExactSubsInUptoSaid : Prop := fnExactSubsInUptoRow.holds Try.pinned (OpenSpec.upto fnExactSubsInSpec)

/-- 'laws.FnExactSetsFor', WHERE WHAT IT READS IS OF BULK AT MOST 1048576: true; the input reads as it did. -/
def fnExactSetsForUptoRow : OpenClaim := { program := "ytnghcchkiodalab", sum := "60ed6d41312eb4e43548a4b753150043974ad4f8d5bfdd80f3a42d93c346553f", func := "loop.example/g01299/laws.FnExactSetsFor", spec := "fnExactSetsFor", unfollowed := true, recurses := true, apart := false, narrowed := true }
def FnExactSetsForUptoSaid : Prop := fnExactSetsForUptoRow.holds Try.pinned (OpenSpec.upto fnExactSetsForSpec)

/-- 'laws.FnExactMeaningIf', WHERE WHAT IT READS IS OF BULK AT MOST 1048576: true; the input reads as it did. -/
def fnExactMeaningIfUptoRow : OpenClaim := { program := "ytnghcchkiodalab", sum := "60ed6d41312eb4e43548a4b753150043974ad4f8d5bfdd80f3a42d93c346553f", func := "loop.example/g01299/laws.FnExactMeaningIf", spec := "fnExactMeaningIf", unfollowed := true, recurses := true, apart := false, narrowed := true }
def FnExactMeaningIfUptoSaid : Prop := fnExactMeaningIfUptoRow.holds Try.pinned (OpenSpec.upto fnExactMeaningIfSpec)

/-- 'laws.FnExactSpoiledBy', WHERE WHAT IT READS IS OF BULK AT MOST 1048576: true; the input reads as it did. -/
def fnExactSpoiledByUptoRow : OpenClaim := { program := "ytnghcchkiodalab", sum := "60ed6d41312eb4e43548a4b753150043974ad4f8d5bfdd80f3a42d93c346553f", func := "loop.example/g01299/laws.FnExactSpoiledBy", spec := "fnExactSpoiledBy", unfollowed := true, recurses := true, apart := false, narrowed := true }
def FnExactSpoiledByUptoSaid : Prop := fnExactSpoiledByUptoRow.holds Try.pinned (OpenSpec.upto fnExactSpoiledBySpec)

/-- 'laws.FnExactWithoutSubs', WHERE WHAT IT READS IS OF BULK AT MOST 1048576: true; the input reads as it did. -/
def fnExactWithoutSubsUptoRow : OpenClaim := { program := "ytnghcchkiodalab", sum := "60ed6d41312eb4e43548a4b753150043974ad4f8d5bfdd80f3a42d93c346553f", func := "loop.example/g01299/laws.FnExactWithoutSubs", spec := "fnExactWithoutSubs", unfollowed := true, recurses := true, apart := false, narrowed := true }
def FnExactWithoutSubsUptoSaid : Prop := fnExactWithoutSubsUptoRow.holds Try.pinned (OpenSpec.upto fnExactWithoutSubsSpec)

end Rows
end Go.Proofs.Ytnghcchkiodalab
