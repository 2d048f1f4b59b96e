/-
  No cell of these rows narrows 'for every input' (looked for: loops, veiled, ifaces, maps, wideKeys, modest, calm, conditions, laid).
  DERIVED. THE GIVEN ROWS OF THIS SEAT. 9 by the template 'for every input the law returns true; each argument reads behind the call as it read before'; 0 by the template 'total and deterministic' (their statements: YtojdbeebgllhhabTotals.lean).
  GIVEN WITH THE SEED: the statements are not yours to turn. If you find one false, say at which input.
  Laid BY PROGRAM, IN A SANDBOX (cutbox-rows.mjs): the forced cells as the released guide's own fill.sh prints them over the translation 64fdd48dc37cc9ed… (all of the seat's roots in one cut). By AI agents, Wed Nov 11 2026. No macro, syntax, notation, axiom, sorry.
-/
import Derived.Test.YtojdbeebgllhhabChecked
import GoSem.Claim
import GoSem.ClaimJoined
import GoSem.ClaimMapViews
import Derived.JoinedTies
import Derived.KernelRfl
namespace Go.Proofs.Ytojdbeebgllhhab
/- THE CELL 'sum', in the pinned program and in every row, IS THE sha256 OF THE DUMP (.gsa) THAT YtojdbeebgllhhabProg.lean LOADS. Nothing in Lean hashes anything: it is a label: what it is worth is what the hold of that sum in a sandbox is worth. -/
noncomputable def Try.pinned : Pinned := { name := "ytojdbeebgllhhab", sum := "64fdd48dc37cc9ed7d3953003891864fda75c57cb4ca51cb733d2cd9557ba974", checked := Try.checked }
namespace Rows
def none {H : Type} : Left H := { results := [], args := [] }

/-- 'laws.FnExactValidCode': WHATEVER THE INPUT: true; the input reads as it did. -/
def fnExactValidCodeSpec : ChangeSpec := { name := "fnExactValidCode", fn := fun _ => fun
  | [d] => { results := [.lit (.bool true)], args := [d] }
  | _ => none }
def fnExactValidCodeRow : OpenClaim := { program := "ytojdbeebgllhhab", sum := "64fdd48dc37cc9ed7d3953003891864fda75c57cb4ca51cb733d2cd9557ba974", func := "loop.example/g01299/laws.FnExactValidCode", spec := "fnExactValidCode", unfollowed := true, recurses := true, apart := false }
def FnExactValidCodeSaid : Prop := fnExactValidCodeRow.holds Try.pinned (OpenSpec.ofChange fnExactValidCodeSpec)

/-- ITS FALSE NEIGHBOUR: 'it returns false'. Refute it at one input. -/
def fnExactValidCodeWrong : ChangeSpec := { name := "fnExactValidCode", fn := fun _ => fun
  | [d] => { results := [.lit (.bool false)], args := [d] }
  | _ => none }
def FnExactValidCodeWrongFalsely : Prop := fnExactValidCodeRow.holds Try.pinned (OpenSpec.ofChange fnExactValidCodeWrong)

/-- 'laws.FnExactGreedyWords': WHATEVER THE INPUT: true; the input reads as it did. -/
def fnExactGreedyWordsSpec : ChangeSpec := { name := "fnExactGreedyWords", fn := fun _ => fun
  | [d1, d2, d3, d4] => { results := [.lit (.bool true)], args := [d1, d2, d3, d4] }
  | _ => none }
def fnExactGreedyWordsRow : OpenClaim := { program := "ytojdbeebgllhhab", sum := "64fdd48dc37cc9ed7d3953003891864fda75c57cb4ca51cb733d2cd9557ba974", func := "loop.example/g01299/laws.FnExactGreedyWords", spec := "fnExactGreedyWords", unfollowed := true, recurses := true, apart := false }
def FnExactGreedyWordsSaid : Prop := fnExactGreedyWordsRow.holds Try.pinned (OpenSpec.ofChange fnExactGreedyWordsSpec)

/-- ITS FALSE NEIGHBOUR: 'it returns false'. Refute it at one input. -/
def fnExactGreedyWordsWrong : ChangeSpec := { name := "fnExactGreedyWords", fn := fun _ => fun
  | [d1, d2, d3, d4] => { results := [.lit (.bool false)], args := [d1, d2, d3, d4] }
  | _ => none }
def FnExactGreedyWordsWrongFalsely : Prop := fnExactGreedyWordsRow.holds Try.pinned (OpenSpec.ofChange fnExactGreedyWordsWrong)

/-- 'laws.FnExactConfusedFlags': WHATEVER THE INPUT: true; the input reads as it did. -/
def fnExactConfusedFlagsSpec : ChangeSpec := { name := "fnExactConfusedFlags", fn := fun _ => fun
  | [d1, d2, d3] => { results := [.lit (.bool true)], args := [d1, d2, d3] }
  | _ => none }
def fnExactConfusedFlagsRow : OpenClaim := { program := "ytojdbeebgllhhab", sum := "64fdd48dc37cc9ed7d3953003891864fda75c57cb4ca51cb733d2cd9557ba974", func := "loop.example/g01299/laws.FnExactConfusedFlags", spec := "fnExactConfusedFlags", unfollowed := true, recurses := true, apart := false }
def FnExactConfusedFlagsSaid : Prop := fnExactConfusedFlagsRow.holds Try.pinned (OpenSpec.ofChange fnExactConfusedFlagsSpec)

/-- ITS FALSE NEIGHBOUR: 'it returns false'. Refute it at one input. -/
def fnExactConfusedFlagsWrong : ChangeSpec := { name := "fnExactConfusedFlags", fn := fun _ => fun
  | [d1, d2, d3] => { results := [.lit (.bool false)], args := [d1, d2, d3] }
  | _ => none }
def FnExactConfusedFlagsWrongFalsely : Prop := fnExactConfusedFlagsRow.holds Try.pinned (OpenSpec.ofChange fnExactConfusedFlagsWrong)

/-- 'laws.FnExactSightsOf': WHATEVER THE INPUT: true; the input reads as it did. -/
def fnExactSightsOfSpec : ChangeSpec := { name := "fnExactSightsOf", fn := fun _ => fun
  | [d1, d2] => { results := [.lit (.bool true)], args := [d1, d2] }
  | _ => none }
def fnExactSightsOfRow : OpenClaim := { program := "ytojdbeebgllhhab", sum := "64fdd48dc37cc9ed7d3953003891864fda75c57cb4ca51cb733d2cd9557ba974", func := "loop.example/g01299/laws.FnExactSightsOf", spec := "fnExactSightsOf", unfollowed := true, recurses := true, apart := false }
def FnExactSightsOfSaid : Prop := fnExactSightsOfRow.holds Try.pinned (OpenSpec.ofChange fnExactSightsOfSpec)

/-- ITS FALSE NEIGHBOUR: 'it returns false'. Refute it at one input. -/
def fnExactSightsOfWrong : ChangeSpec := { name := "fnExactSightsOf", fn := fun _ => fun
  | [d1, d2] => { results := [.lit (.bool false)], args := [d1, d2] }
  | _ => none }
def FnExactSightsOfWrongFalsely : Prop := fnExactSightsOfRow.holds Try.pinned (OpenSpec.ofChange fnExactSightsOfWrong)

/-- 'laws.FnExactNearestWords': WHATEVER THE INPUT: true; the input reads as it did. -/
def fnExactNearestWordsSpec : ChangeSpec := { name := "fnExactNearestWords", fn := fun _ => fun
  | [d] => { results := [.lit (.bool true)], args := [d] }
  | _ => none }
def fnExactNearestWordsRow : OpenClaim := { program := "ytojdbeebgllhhab", sum := "64fdd48dc37cc9ed7d3953003891864fda75c57cb4ca51cb733d2cd9557ba974", func := "loop.example/g01299/laws.FnExactNearestWords", spec := "fnExactNearestWords", unfollowed := true, recurses := true, apart := false }
def FnExactNearestWordsSaid : Prop := fnExactNearestWordsRow.holds Try.pinned (OpenSpec.ofChange fnExactNearestWordsSpec)

/-- ITS FALSE NEIGHBOUR: 'it returns false'. Refute it at one input. -/
def fnExactNearestWordsWrong : ChangeSpec := { name := "fnExactNearestWords", fn := fun _ => fun
  | [d] => { results := [.lit (.bool false)], args := [d] }
  | _ => none }
def FnExactNearestWordsWrongFalsely : Prop := fnExactNearestWordsRow.holds Try.pinned (OpenSpec.ofChange fnExactNearestWordsWrong)

/-- 'laws.FnExactReadSights': WHATEVER THE INPUT: true; the input reads as it did. -/
def fnExactReadSightsSpec : ChangeSpec := { name := "fnExactReadSights", fn := fun _ => fun
  | [d1, d2] => { results := [.lit (.bool true)], args := [d1, d2] }
  | _ => none }
def fnExactReadSightsRow : OpenClaim := { program := "ytojdbeebgllhhab", sum := "64fdd48dc37cc9ed7d3953003891864fda75c57cb4ca51cb733d2cd9557ba974", func := "loop.example/g01299/laws.FnExactReadSights", spec := "fnExactReadSights", unfollowed := true, recurses := true, apart := false }
def FnExactReadSightsSaid : Prop := fnExactReadSightsRow.holds Try.pinned (OpenSpec.ofChange fnExactReadSightsSpec)

/-- ITS FALSE NEIGHBOUR: 'it returns false'. Refute it at one input. -/
def fnExactReadSightsWrong : ChangeSpec := { name := "fnExactReadSights", fn := fun _ => fun
  | [d1, d2] => { results := [.lit (.bool false)], args := [d1, d2] }
  | _ => none }
def FnExactReadSightsWrongFalsely : Prop := fnExactReadSightsRow.holds Try.pinned (OpenSpec.ofChange fnExactReadSightsWrong)

/-- 'laws.FnExactCandidatesFor': WHATEVER THE INPUT: true; the input reads as it did. -/
def fnExactCandidatesForSpec : ChangeSpec := { name := "fnExactCandidatesFor", fn := fun _ => fun
  | [d1, d2, d3] => { results := [.lit (.bool true)], args := [d1, d2, d3] }
  | _ => none }
def fnExactCandidatesForRow : OpenClaim := { program := "ytojdbeebgllhhab", sum := "64fdd48dc37cc9ed7d3953003891864fda75c57cb4ca51cb733d2cd9557ba974", func := "loop.example/g01299/laws.FnExactCandidatesFor", spec := "fnExactCandidatesFor", unfollowed := true, recurses := true, apart := false }
def FnExactCandidatesForSaid : Prop := fnExactCandidatesForRow.holds Try.pinned (OpenSpec.ofChange fnExactCandidatesForSpec)

/-- ITS FALSE NEIGHBOUR: 'it returns false'. Refute it at one input. -/
def fnExactCandidatesForWrong : ChangeSpec := { name := "fnExactCandidatesFor", fn := fun _ => fun
  | [d1, d2, d3] => { results := [.lit (.bool false)], args := [d1, d2, d3] }
  | _ => none }
def FnExactCandidatesForWrongFalsely : Prop := fnExactCandidatesForRow.holds Try.pinned (OpenSpec.ofChange fnExactCandidatesForWrong)

/-- 'laws.FnSights': WHATEVER THE INPUT: true; the input reads as it did. -/
def fnSightsSpec : ChangeSpec := { name := "fnSights", fn := fun _ => fun
  | [d1, d2] => { results := [.lit (.bool true)], args := [d1, d2] }
  | _ => none }
def fnSightsRow : OpenClaim := { program := "ytojdbeebgllhhab", sum := "64fdd48dc37cc9ed7d3953003891864fda75c57cb4ca51cb733d2cd9557ba974", func := "loop.example/g01299/laws.FnSights", spec := "fnSights", unfollowed := true, recurses := true, apart := false }
def FnSightsSaid : Prop := fnSightsRow.holds Try.pinned (OpenSpec.ofChange fnSightsSpec)

/-- ITS FALSE NEIGHBOUR: 'it returns false'. Refute it at one input. -/
def fnSightsWrong : ChangeSpec := { name := "fnSights", fn := fun _ => fun
  | [d1, d2] => { results := [.lit (.bool false)], args := [d1, d2] }
  | _ => none }
def FnSightsWrongFalsely : Prop := fnSightsRow.holds Try.pinned (OpenSpec.ofChange fnSightsWrong)

/-- 'laws.FnApart': WHATEVER THE INPUT: true; the input reads as it did. -/
def fnApartSpec : ChangeSpec := { name := "fnApart", fn := fun _ => fun
  | [d1, d2] => { results := [.lit (.bool true)], args := [d1, d2] }
  | _ => none }
def fnApartRow : OpenClaim := { program := "ytojdbeebgllhhab", sum := "64fdd48dc37cc9ed7d3953003891864fda75c57cb4ca51cb733d2cd9557ba974", func := "loop.example/g01299/laws.FnApart", spec := "fnApart", unfollowed := true, recurses := true, apart := false }
def FnApartSaid : Prop := fnApartRow.holds Try.pinned (OpenSpec.ofChange fnApartSpec)

/-- ITS FALSE NEIGHBOUR: 'it returns false'. Refute it at one input. -/
def fnApartWrong : ChangeSpec := { name := "fnApart", fn := fun _ => fun
  | [d1, d2] => { results := [.lit (.bool false)], args := [d1, d2] }
  | _ => none }
def FnApartWrongFalsely : Prop := fnApartRow.holds Try.pinned (OpenSpec.ofChange fnApartWrong)

/- THE SECOND FORM. 'bulk': how many values and letters a reading holds, each counted each time it is reached (what is shared counts as often as it is met; a slice's spare places count too). A statement '..UptoSaid' is the law's where the arguments, and the package variables that the reading takes, are together of bulk at most 1048576: NARROWER than '..Said'. Prove '..Said' where nothing that the law and all that it calls make is longer than what came in: it says more and counts as full. Else prove '..UptoSaid'. A law counts once. -/
mutual
def uptoBulk {H : Type} : DataW H → Nat
  | .lit (.string bytes) => bytes.length + 1
  | .lit _ => 1
  | .nil => 1
  | .ptr d => uptoBulk d + 1
  | .slice elems spare => uptoBulkAll elems + uptoBulkAll spare + 1
  | .agg parts => uptoBulkAll parts + 1
  | .iface _ d => uptoBulk d + 1
  | .map entries => uptoBulkEntries entries + 1
  | .held _ => 1
def uptoBulkAll {H : Type} : List (DataW H) → Nat
  | [] => 0
  | d :: r => uptoBulk d + uptoBulkAll r
def uptoBulkEntries {H : Type} : List (Lit × DataW H) → Nat
  | [] => 0
  | x :: r => uptoBulkEntry x + uptoBulkEntries r
def uptoBulkEntry {H : Type} : Lit × DataW H → Nat
  | (.string bytes, d) => bytes.length + uptoBulk d + 1
  | (_, d) => uptoBulk d + 1
 end
def uptoSmall : (H : Type) → List (DataW H) → Bool := fun _ ds => decide (uptoBulkAll ds ≤ 1048576)
def OpenSpec.upto (s : _root_.Go.ChangeSpec) : _root_.Go.OpenSpec := { _root_.Go.OpenSpec.ofChange s with cond := some uptoSmall }

/-- 'laws.FnExactValidCode', WHERE WHAT IT READS IS OF BULK AT MOST 1048576: true; the input reads as it did. -/
def fnExactValidCodeUptoRow : OpenClaim := { program := "ytojdbeebgllhhab", sum := "64fdd48dc37cc9ed7d3953003891864fda75c57cb4ca51cb733d2cd9557ba974", func := "loop.example/g01299/laws.FnExactValidCode", spec := "fnExactValidCode", unfollowed := true, recurses := true, apart := false, narrowed := true }
def FnExactValidCodeUptoSaid : Prop := fnExactValidCodeUptoRow.holds Try.pinned (OpenSpec.upto fnExactValidCodeSpec)

/-- 'laws.FnExactGreedyWords', WHERE WHAT IT READS IS OF BULK AT MOST 1048576: true; the input reads as it did. -/
def fnExactGreedyWordsUptoRow : OpenClaim := { program := "ytojdbeebgllhhab", sum := "64fdd48dc37cc9ed7d3953003891864fda75c57cb4ca51cb733d2cd9557ba974", func := "loop.example/g01299/laws.FnExactGreedyWords", spec := "fnExactGreedyWords", unfollowed := true, recurses := true, apart := false, narrowed := true }
def FnExactGreedyWordsUptoSaid : Prop := fnExactGreedyWordsUptoRow.holds Try.pinned (OpenSpec.upto fnExactGreedyWordsSpec)

/-- 'laws.FnExactConfusedFlags', WHERE WHAT IT READS IS OF BULK AT MOST 1048576: true; the input reads as it did. -/
def fnExactConfusedFlagsUptoRow : OpenClaim := { program := "ytojdbeebgllhhab", sum := "64fdd48dc37cc9ed7d3953003891864fda75c57cb4ca51cb733d2cd9557ba974", func := "loop.example/g01299/laws.FnExactConfusedFlags", spec := "fnExactConfusedFlags", unfollowed := true, recurses := true, apart := false, narrowed := true }
def FnExactConfusedFlagsUptoSaid : Prop := fnExactConfusedFlagsUptoRow.holds Try.pinned (OpenSpec.upto fnExactConfusedFlagsSpec)

/-- 'laws.FnExactSightsOf', WHERE WHAT IT READS IS OF BULK AT MOST 1048576: true; the input reads as it did. -/
def fnExactSightsOfUptoRow : OpenClaim := { program := "ytojdbeebgllhhab", sum := "64fdd48dc37cc9ed7d3953003891864fda75c57cb4ca51cb733d2cd9557ba974", func := "loop.example/g01299/laws.FnExactSightsOf", spec := "fnExactSightsOf", unfollowed := true, recurses := true, apart := false, narrowed := true }
def FnExactSightsOfUptoSaid : Prop := fnExactSightsOfUptoRow.holds Try.pinned (OpenSpec.upto fnExactSightsOfSpec)

/-- 'laws.FnExactNearestWords', WHERE WHAT IT READS IS OF BULK AT MOST 1048576: true; the input reads as it did. -/
def fnExactNearestWordsUptoRow : OpenClaim := { program := "ytojdbeebgllhhab", sum := "64fdd48dc37cc9ed7d3953003891864fda75c57cb4ca51cb733d2cd9557ba974", func := "loop.example/g01299/laws.FnExactNearestWords", spec := "fnExactNearestWords", unfollowed := true, recurses := true, apart := false, narrowed := true }
def FnExactNearestWordsUptoSaid : Prop := fnExactNearestWordsUptoRow.holds Try.pinned (OpenSpec.upto fnExactNearestWordsSpec)

/-- 'laws.FnExactReadSights', WHERE WHAT IT READS IS OF BULK AT MOST 1048576: true; the input reads as it did. -/
def fnExactReadSightsUptoRow : OpenClaim := { program := "ytojdbeebgllhhab", sum := "64fdd48dc37cc9ed7d3953003891864fda75c57cb4ca51cb733d2cd9557ba974", func := "loop.example/g01299/laws.FnExactReadSights", spec := "fnExactReadSights", unfollowed := true, recurses := true, apart := false, narrowed := true }
def FnExactReadSightsUptoSaid : Prop := fnExactReadSightsUptoRow.holds Try.pinned (OpenSpec.upto fnExactReadSightsSpec)

/-- 'laws.FnExactCandidatesFor', WHERE WHAT IT READS IS OF BULK AT MOST 1048576: true; the input reads as it did. -/
def fnExactCandidatesForUptoRow : OpenClaim := { program := "ytojdbeebgllhhab", sum := "64fdd48dc37cc9ed7d3953003891864fda75c57cb4ca51cb733d2cd9557ba974", func := "loop.example/g01299/laws.FnExactCandidatesFor", spec := "fnExactCandidatesFor", unfollowed := true, recurses := true, apart := false, narrowed := true }
def FnExactCandidatesForUptoSaid : Prop := fnExactCandidatesForUptoRow.holds Try.pinned (OpenSpec.upto fnExactCandidatesForSpec)

/-- 'laws.FnSights', WHERE WHAT IT READS IS OF BULK AT MOST 1048576: true; the input reads as it did. -/
def fnSightsUptoRow : OpenClaim := { program := "ytojdbeebgllhhab", sum := "64fdd48dc37cc9ed7d3953003891864fda75c57cb4ca51cb733d2cd9557ba974", func := "loop.example/g01299/laws.FnSights", spec := "fnSights", unfollowed := true, recurses := true, apart := false, narrowed := true }
def FnSightsUptoSaid : Prop := fnSightsUptoRow.holds Try.pinned (OpenSpec.upto fnSightsSpec)

/-- 'laws.FnApart', WHERE WHAT IT READS IS OF BULK AT MOST 1048576: true; the input reads as it did. -/
def fnApartUptoRow : OpenClaim := { program := "ytojdbeebgllhhab", sum := "64fdd48dc37cc9ed7d3953003891864fda75c57cb4ca51cb733d2cd9557ba974", func := "loop.example/g01299/laws.FnApart", spec := "fnApart", unfollowed := true, recurses := true, apart := false, narrowed := true }
def FnApartUptoSaid : Prop := fnApartUptoRow.holds Try.pinned (OpenSpec.upto fnApartSpec)

end Rows
end Go.Proofs.Ytojdbeebgllhhab
