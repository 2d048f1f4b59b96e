/-
  No cell of these rows narrows 'for every input' (looked for: loops, veiled, ifaces, maps, wideKeys, modest, calm, conditions, laid).
  DERIVED. THE GIVEN ROWS OF THIS SEAT. 9 by the template 'for every input the law returns true; each argument reads behind the call as it read before'; 0 by the template 'total and deterministic' (their statements: YtoehcinpbnlbnaaTotals.lean).
  GIVEN WITH THE SEED: the statements are not yours to turn. If you find one false, say at which input.
  Laid BY PROGRAM, IN A SANDBOX (cutbox-rows.mjs): the forced cells as the released guide's own fill.sh prints them over the translation 1f0f5d05835443de… (all of the seat's roots in one cut). By AI agents, Wed Nov 11 2026. No macro, syntax, notation, axiom, sorry.
-/
import Derived.Test.YtoehcinpbnlbnaaChecked
import GoSem.Claim
import GoSem.ClaimJoined
import GoSem.ClaimMapViews
import Derived.JoinedTies
import Derived.KernelRfl
namespace Go.Proofs.Ytoehcinpbnlbnaa
/- THE CELL 'sum', in the pinned program and in every row, IS THE sha256 OF THE DUMP (.gsa) THAT YtoehcinpbnlbnaaProg.lean LOADS. Nothing in Lean hashes anything: it is a label: what it is worth is what the hold of that sum in a sandbox is worth. -/
noncomputable def Try.pinned : Pinned := { name := "ytoehcinpbnlbnaa", sum := "1f0f5d05835443de62f4d6373fe463cc49e6820c00ae67a73ac70ecab57351a1", checked := Try.checked }
namespace Rows
def none {H : Type} : Left H := { results := [], args := [] }

/-- 'laws.FnExactGroupsOf': WHATEVER THE INPUT: true; the input reads as it did. -/
def fnExactGroupsOfSpec : ChangeSpec := { name := "fnExactGroupsOf", fn := fun _ => fun
  | [d] => { results := [.lit (.bool true)], args := [d] }
  | _ => none }
def fnExactGroupsOfRow : OpenClaim := { program := "ytoehcinpbnlbnaa", sum := "1f0f5d05835443de62f4d6373fe463cc49e6820c00ae67a73ac70ecab57351a1", func := "loop.example/g01299/laws.FnExactGroupsOf", spec := "fnExactGroupsOf", unfollowed := true, recurses := true, apart := false }
def FnExactGroupsOfSaid : Prop := fnExactGroupsOfRow.holds Try.pinned (OpenSpec.ofChange fnExactGroupsOfSpec)

/-- ITS FALSE NEIGHBOUR: 'it returns false'. Refute it at one input. -/
def fnExactGroupsOfWrong : ChangeSpec := { name := "fnExactGroupsOf", fn := fun _ => fun
  | [d] => { results := [.lit (.bool false)], args := [d] }
  | _ => none }
def FnExactGroupsOfWrongFalsely : Prop := fnExactGroupsOfRow.holds Try.pinned (OpenSpec.ofChange fnExactGroupsOfWrong)

/-- 'laws.FnExactSameBook': WHATEVER THE INPUT: true; the input reads as it did. -/
def fnExactSameBookSpec : ChangeSpec := { name := "fnExactSameBook", fn := fun _ => fun
  | [d1, d2] => { results := [.lit (.bool true)], args := [d1, d2] }
  | _ => none }
def fnExactSameBookRow : OpenClaim := { program := "ytoehcinpbnlbnaa", sum := "1f0f5d05835443de62f4d6373fe463cc49e6820c00ae67a73ac70ecab57351a1", func := "loop.example/g01299/laws.FnExactSameBook", spec := "fnExactSameBook", apart := false }
def FnExactSameBookSaid : Prop := fnExactSameBookRow.holds Try.pinned (OpenSpec.ofChange fnExactSameBookSpec)

/-- ITS FALSE NEIGHBOUR: 'it returns false'. Refute it at one input. -/
def fnExactSameBookWrong : ChangeSpec := { name := "fnExactSameBook", fn := fun _ => fun
  | [d1, d2] => { results := [.lit (.bool false)], args := [d1, d2] }
  | _ => none }
def FnExactSameBookWrongFalsely : Prop := fnExactSameBookRow.holds Try.pinned (OpenSpec.ofChange fnExactSameBookWrong)

/-- 'laws.FnExactSpellWord': WHATEVER THE INPUT: true; the input reads as it did. -/
def fnExactSpellWordSpec : ChangeSpec := { name := "fnExactSpellWord", fn := fun _ => fun
  | [d1, d2] => { results := [.lit (.bool true)], args := [d1, d2] }
  | _ => none }
def fnExactSpellWordRow : OpenClaim := { program := "ytoehcinpbnlbnaa", sum := "1f0f5d05835443de62f4d6373fe463cc49e6820c00ae67a73ac70ecab57351a1", func := "loop.example/g01299/laws.FnExactSpellWord", spec := "fnExactSpellWord", apart := false }
def FnExactSpellWordSaid : Prop := fnExactSpellWordRow.holds Try.pinned (OpenSpec.ofChange fnExactSpellWordSpec)

/-- ITS FALSE NEIGHBOUR: 'it returns false'. Refute it at one input. -/
def fnExactSpellWordWrong : ChangeSpec := { name := "fnExactSpellWord", fn := fun _ => fun
  | [d1, d2] => { results := [.lit (.bool false)], args := [d1, d2] }
  | _ => none }
def FnExactSpellWordWrongFalsely : Prop := fnExactSpellWordRow.holds Try.pinned (OpenSpec.ofChange fnExactSpellWordWrong)

/-- 'laws.FnExactSpelledWord': WHATEVER THE INPUT: true; the input reads as it did. -/
def fnExactSpelledWordSpec : ChangeSpec := { name := "fnExactSpelledWord", fn := fun _ => fun
  | [d] => { results := [.lit (.bool true)], args := [d] }
  | _ => none }
def fnExactSpelledWordRow : OpenClaim := { program := "ytoehcinpbnlbnaa", sum := "1f0f5d05835443de62f4d6373fe463cc49e6820c00ae67a73ac70ecab57351a1", func := "loop.example/g01299/laws.FnExactSpelledWord", spec := "fnExactSpelledWord", unfollowed := true, recurses := true, apart := false }
def FnExactSpelledWordSaid : Prop := fnExactSpelledWordRow.holds Try.pinned (OpenSpec.ofChange fnExactSpelledWordSpec)

/-- ITS FALSE NEIGHBOUR: 'it returns false'. Refute it at one input. -/
def fnExactSpelledWordWrong : ChangeSpec := { name := "fnExactSpelledWord", fn := fun _ => fun
  | [d] => { results := [.lit (.bool false)], args := [d] }
  | _ => none }
def FnExactSpelledWordWrongFalsely : Prop := fnExactSpelledWordRow.holds Try.pinned (OpenSpec.ofChange fnExactSpelledWordWrong)

/-- 'laws.FnExactTextFromHoists': WHATEVER THE INPUT: true; the input reads as it did. -/
def fnExactTextFromHoistsSpec : ChangeSpec := { name := "fnExactTextFromHoists", fn := fun _ => fun
  | [d] => { results := [.lit (.bool true)], args := [d] }
  | _ => none }
def fnExactTextFromHoistsRow : OpenClaim := { program := "ytoehcinpbnlbnaa", sum := "1f0f5d05835443de62f4d6373fe463cc49e6820c00ae67a73ac70ecab57351a1", func := "loop.example/g01299/laws.FnExactTextFromHoists", spec := "fnExactTextFromHoists", inPlace := ["internal/abi.NoEscape", "internal/bytealg.MakeNoZero"], unfollowed := true, recurses := true, apart := false }
def FnExactTextFromHoistsSaid : Prop := fnExactTextFromHoistsRow.holds Try.pinned (OpenSpec.ofChange fnExactTextFromHoistsSpec)

/-- ITS FALSE NEIGHBOUR: 'it returns false'. Refute it at one input. -/
def fnExactTextFromHoistsWrong : ChangeSpec := { name := "fnExactTextFromHoists", fn := fun _ => fun
  | [d] => { results := [.lit (.bool false)], args := [d] }
  | _ => none }
def FnExactTextFromHoistsWrongFalsely : Prop := fnExactTextFromHoistsRow.holds Try.pinned (OpenSpec.ofChange fnExactTextFromHoistsWrong)

/-- 'laws.FnExactHoistFor': WHATEVER THE INPUT: true; the input reads as it did. -/
def fnExactHoistForSpec : ChangeSpec := { name := "fnExactHoistFor", fn := fun _ => fun
  | [d1, d2, d3] => { results := [.lit (.bool true)], args := [d1, d2, d3] }
  | _ => none }
def fnExactHoistForRow : OpenClaim := { program := "ytoehcinpbnlbnaa", sum := "1f0f5d05835443de62f4d6373fe463cc49e6820c00ae67a73ac70ecab57351a1", func := "loop.example/g01299/laws.FnExactHoistFor", spec := "fnExactHoistFor", unfollowed := true, recurses := true, apart := false }
def FnExactHoistForSaid : Prop := fnExactHoistForRow.holds Try.pinned (OpenSpec.ofChange fnExactHoistForSpec)

/-- ITS FALSE NEIGHBOUR: 'it returns false'. Refute it at one input. -/
def fnExactHoistForWrong : ChangeSpec := { name := "fnExactHoistFor", fn := fun _ => fun
  | [d1, d2, d3] => { results := [.lit (.bool false)], args := [d1, d2, d3] }
  | _ => none }
def FnExactHoistForWrongFalsely : Prop := fnExactHoistForRow.holds Try.pinned (OpenSpec.ofChange fnExactHoistForWrong)

/-- 'laws.FnExactLeastSets': WHATEVER THE INPUT: true; the input reads as it did. -/
def fnExactLeastSetsSpec : ChangeSpec := { name := "fnExactLeastSets", fn := fun _ => fun
  | [d1, d2] => { results := [.lit (.bool true)], args := [d1, d2] }
  | _ => none }
def fnExactLeastSetsRow : OpenClaim := { program := "ytoehcinpbnlbnaa", sum := "1f0f5d05835443de62f4d6373fe463cc49e6820c00ae67a73ac70ecab57351a1", func := "loop.example/g01299/laws.FnExactLeastSets", spec := "fnExactLeastSets", unfollowed := true, recurses := true, apart := false }
def FnExactLeastSetsSaid : Prop := fnExactLeastSetsRow.holds Try.pinned (OpenSpec.ofChange fnExactLeastSetsSpec)

/-- ITS FALSE NEIGHBOUR: 'it returns false'. Refute it at one input. -/
def fnExactLeastSetsWrong : ChangeSpec := { name := "fnExactLeastSets", fn := fun _ => fun
  | [d1, d2] => { results := [.lit (.bool false)], args := [d1, d2] }
  | _ => none }
def FnExactLeastSetsWrongFalsely : Prop := fnExactLeastSetsRow.holds Try.pinned (OpenSpec.ofChange fnExactLeastSetsWrong)

/-- 'laws.FnExactWaysToHoist': WHATEVER THE INPUT: true; the input reads as it did. -/
def fnExactWaysToHoistSpec : ChangeSpec := { name := "fnExactWaysToHoist", fn := fun _ => fun
  | [d1, d2, d3] => { results := [.lit (.bool true)], args := [d1, d2, d3] }
  | _ => none }
def fnExactWaysToHoistRow : OpenClaim := { program := "ytoehcinpbnlbnaa", sum := "1f0f5d05835443de62f4d6373fe463cc49e6820c00ae67a73ac70ecab57351a1", func := "loop.example/g01299/laws.FnExactWaysToHoist", spec := "fnExactWaysToHoist", unfollowed := true, recurses := true, apart := false }
def FnExactWaysToHoistSaid : Prop := fnExactWaysToHoistRow.holds Try.pinned (OpenSpec.ofChange fnExactWaysToHoistSpec)

/-- ITS FALSE NEIGHBOUR: 'it returns false'. Refute it at one input. -/
def fnExactWaysToHoistWrong : ChangeSpec := { name := "fnExactWaysToHoist", fn := fun _ => fun
  | [d1, d2, d3] => { results := [.lit (.bool false)], args := [d1, d2, d3] }
  | _ => none }
def FnExactWaysToHoistWrongFalsely : Prop := fnExactWaysToHoistRow.holds Try.pinned (OpenSpec.ofChange fnExactWaysToHoistWrong)

/-- 'laws.FnExactCountMeanings': WHATEVER THE INPUT: true; the input reads as it did. -/
def fnExactCountMeaningsSpec : ChangeSpec := { name := "fnExactCountMeanings", fn := fun _ => fun
  | [d1, d2, d3, d4] => { results := [.lit (.bool true)], args := [d1, d2, d3, d4] }
  | _ => none }
def fnExactCountMeaningsRow : OpenClaim := { program := "ytoehcinpbnlbnaa", sum := "1f0f5d05835443de62f4d6373fe463cc49e6820c00ae67a73ac70ecab57351a1", func := "loop.example/g01299/laws.FnExactCountMeanings", spec := "fnExactCountMeanings", unfollowed := true, recurses := true, apart := false }
def FnExactCountMeaningsSaid : Prop := fnExactCountMeaningsRow.holds Try.pinned (OpenSpec.ofChange fnExactCountMeaningsSpec)

/-- ITS FALSE NEIGHBOUR: 'it returns false'. Refute it at one input. -/
def fnExactCountMeaningsWrong : ChangeSpec := { name := "fnExactCountMeanings", fn := fun _ => fun
  | [d1, d2, d3, d4] => { results := [.lit (.bool false)], args := [d1, d2, d3, d4] }
  | _ => none }
def FnExactCountMeaningsWrongFalsely : Prop := fnExactCountMeaningsRow.holds Try.pinned (OpenSpec.ofChange fnExactCountMeaningsWrong)

/- THE SECOND FORM. 'bulk': how many values and letters a reading holds, each counted each time it is reached (what is shared counts as often as it is met; a slice's spare places count too). A statement '..UptoSaid' is the law's where the arguments, and the package variables that the reading takes, are together of bulk at most 1048576: NARROWER than '..Said'. Prove '..Said' where nothing that the law and all that it calls make is longer than what came in: it says more and counts as full. Else prove '..UptoSaid'. A law counts once. -/
mutual
def uptoBulk {H : Type} : DataW H → Nat
  | .lit (.string bytes) => bytes.length + 1
  | .lit _ => 1
  | .nil => 1
  | .ptr d => uptoBulk d + 1
  | .slice elems spare => uptoBulkAll elems + uptoBulkAll spare + 1
  | .agg parts => uptoBulkAll parts + 1
  | .iface _ d => uptoBulk d + 1
  | .map entries => uptoBulkEntries entries + 1
  | .held _ => 1
def uptoBulkAll {H : Type} : List (DataW H) → Nat
  | [] => 0
  | d :: r => uptoBulk d + uptoBulkAll r
def uptoBulkEntries {H : Type} : List (Lit × DataW H) → Nat
  | [] => 0
  | x :: r => uptoBulkEntry x + uptoBulkEntries r
def uptoBulkEntry {H : Type} : Lit × DataW H → Nat
  | (.string bytes, d) => bytes.length + uptoBulk d + 1
  | (_, d) => uptoBulk d + 1
 end
def uptoSmall : (H : Type) → List (DataW H) → Bool := fun _ ds => decide (uptoBulkAll ds ≤ 1048576)
def OpenSpec.upto (s : _root_.Go.ChangeSpec) : _root_.Go.OpenSpec := { _root_.Go.OpenSpec.ofChange s with cond := some uptoSmall }

/-- 'laws.FnExactGroupsOf', WHERE WHAT IT READS IS OF BULK AT MOST 1048576: true; the input reads as it did. -/
def fnExactGroupsOfUptoRow : OpenClaim := { program := "ytoehcinpbnlbnaa", sum := "1f0f5d05835443de62f4d6373fe463cc49e6820c00ae67a73ac70ecab57351a1", func := "loop.example/g01299/laws.FnExactGroupsOf", spec := "fnExactGroupsOf", unfollowed := true, recurses := true, apart := false, narrowed := true }
def FnExactGroupsOfUptoSaid : Prop := fnExactGroupsOfUptoRow.holds Try.pinned (OpenSpec.upto fnExactGroupsOfSpec)

/-- 'laws.FnExactSameBook', WHERE WHAT IT READS IS OF BULK AT MOST 1048576: true; the input reads as it did. -/
def fnExactSameBookUptoRow : OpenClaim := { program := "ytoehcinpbnlbnaa", sum := "1f0f5d05835443de62f4d6373fe463cc49e6820c00ae67a73ac70ecab57351a1", func := "loop.example/g01299/laws.FnExactSameBook", spec := "fnExactSameBook", apart := false, narrowed := true }
def FnExactSameBookUptoSaid : Prop := fnExactSameBookUptoRow.holds Try.pinned (OpenSpec.upto fnExactSameBookSpec)

/-- 'laws.FnExactSpellWord', WHERE WHAT IT READS IS OF BULK AT MOST 1048576: true; the input reads as it did. -/
def fnExactSpellWordUptoRow : OpenClaim := { program := "ytoehcinpbnlbnaa", sum := "1f0f5d05835443de62f4d6373fe463cc49e6820c00ae67a73ac70ecab57351a1", func := "loop.example/g01299/laws.FnExactSpellWord", spec := "fnExactSpellWord", apart := false, narrowed := true }
def FnExactSpellWordUptoSaid : Prop := fnExactSpellWordUptoRow.holds Try.pinned (OpenSpec.upto fnExactSpellWordSpec)

/-- 'laws.FnExactSpelledWord', WHERE WHAT IT READS IS OF BULK AT MOST 1048576: true; the input reads as it did. -/
def fnExactSpelledWordUptoRow : OpenClaim := { program := "ytoehcinpbnlbnaa", sum := "1f0f5d05835443de62f4d6373fe463cc49e6820c00ae67a73ac70ecab57351a1", func := "loop.example/g01299/laws.FnExactSpelledWord", spec := "fnExactSpelledWord", unfollowed := true, recurses := true, apart := false, narrowed := true }
def FnExactSpelledWordUptoSaid : Prop := fnExactSpelledWordUptoRow.holds Try.pinned (OpenSpec.upto fnExactSpelledWordSpec)

/-- 'laws.FnExactTextFromHoists', WHERE WHAT IT READS IS OF BULK AT MOST 1048576: true; the input reads as it did. -/
def fnExactTextFromHoistsUptoRow : OpenClaim := { program := "ytoehcinpbnlbnaa", sum := "1f0f5d05835443de62f4d6373fe463cc49e6820c00ae67a73ac70ecab57351a1", func := "loop.example/g01299/laws.FnExactTextFromHoists", spec := "fnExactTextFromHoists", inPlace := ["internal/abi.NoEscape", "internal/bytealg.MakeNoZero"], unfollowed := true, recurses := true, apart := false, narrowed := true }
def FnExactTextFromHoistsUptoSaid : Prop := fnExactTextFromHoistsUptoRow.holds Try.pinned (OpenSpec.upto fnExactTextFromHoistsSpec)

/-- 'laws.FnExactHoistFor', WHERE WHAT IT READS IS OF BULK AT MOST 1048576: true; the input reads as it did. -/
def fnExactHoistForUptoRow : OpenClaim := { program := "ytoehcinpbnlbnaa", sum := "1f0f5d05835443de62f4d6373fe463cc49e6820c00ae67a73ac70ecab57351a1", func := "loop.example/g01299/laws.FnExactHoistFor", spec := "fnExactHoistFor", unfollowed := true, recurses := true, apart := false, narrowed := true }
def FnExactHoistForUptoSaid : Prop := fnExactHoistForUptoRow.holds Try.pinned (OpenSpec.upto fnExactHoistForSpec)

/-- 'laws.FnExactLeastSets', WHERE WHAT IT READS IS OF BULK AT MOST 1048576: true; the input reads as it did. -/
def fnExactLeastSetsUptoRow : OpenClaim := { program := "ytoehcinpbnlbnaa", sum := "1f0f5d05835443de62f4d6373fe463cc49e6820c00ae67a73ac70ecab57351a1", func := "loop.example/g01299/laws.FnExactLeastSets", spec := "fnExactLeastSets", unfollowed := true, recurses := true, apart := false, narrowed := true }
def FnExactLeastSetsUptoSaid : Prop := fnExactLeastSetsUptoRow.holds Try.pinned (OpenSpec.upto fnExactLeastSetsSpec)

/-- 'laws.FnExactWaysToHoist', WHERE WHAT IT READS IS OF BULK AT MOST 1048576: true; the input reads as it did. -/
def fnExactWaysToHoistUptoRow : OpenClaim := { program := "ytoehcinpbnlbnaa", sum := "1f0f5d05835443de62f4d6373fe463cc49e6820c00ae67a73ac70ecab57351a1", func := "loop.example/g01299/laws.FnExactWaysToHoist", spec := "fnExactWaysToHoist", unfollowed := true, recurses := true, apart := false, narrowed := true }
def FnExactWaysToHoistUptoSaid : Prop := fnExactWaysToHoistUptoRow.holds Try.pinned (OpenSpec.upto fnExactWaysToHoistSpec)

/-- 'laws.FnExactCountMeanings', WHERE WHAT IT READS IS OF BULK AT MOST 1048576: true; the input reads as it did. -/
def fnExactCountMeaningsUptoRow : OpenClaim := { program := "ytoehcinpbnlbnaa", sum := "1f0f5d05835443de62f4d6373fe463cc49e6820c00ae67a73ac70ecab57351a1", func := "loop.example/g01299/laws.FnExactCountMeanings", spec := "fnExactCountMeanings", unfollowed := true, recurses := true, apart := false, narrowed := true }
def FnExactCountMeaningsUptoSaid : Prop := fnExactCountMeaningsUptoRow.holds Try.pinned (OpenSpec.upto fnExactCountMeaningsSpec)

end Rows
end Go.Proofs.Ytoehcinpbnlbnaa
