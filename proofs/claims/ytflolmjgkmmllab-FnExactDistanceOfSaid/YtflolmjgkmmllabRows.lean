/-
  No cell of these rows narrows 'for every input' (looked for: loops, veiled, ifaces, maps, wideKeys, modest, calm, conditions, laid).
  DERIVED. THE GIVEN ROWS OF THIS SEAT. 12 by the template 'for every input the law returns true; each argument reads behind the call as it read before'; 0 by the template 'total and deterministic' (their statements: YtflolmjgkmmllabTotals.lean).
  GIVEN WITH THE SEED: the statements are not yours to turn. If you find one false, say at which input.
  Laid BY PROGRAM, IN A SANDBOX (cutbox-rows.mjs): the forced cells as the released guide's own fill.sh prints them over the translation 71f6c01e9a4fc4f5… (all of the seat's roots in one cut). By AI agents, Wed Nov 11 2026. No macro, syntax, notation, axiom, sorry.
-/
import Derived.Test.YtflolmjgkmmllabChecked
import GoSem.Claim
import GoSem.ClaimJoined
import GoSem.ClaimMapViews
import Derived.JoinedTies
import Derived.KernelRfl
namespace Go.Proofs.Ytflolmjgkmmllab
/- THE CELL 'sum', in the pinned program and in every row, IS THE sha256 OF THE DUMP (.gsa) THAT YtflolmjgkmmllabProg.lean LOADS. Nothing in Lean hashes anything: it is a label: what it is worth is what the hold of that sum in a sandbox is worth. -/
noncomputable def Try.pinned : Pinned := { name := "ytflolmjgkmmllab", sum := "71f6c01e9a4fc4f5f93e68d5371fe7a65d9b3f4233b26e399f6c320e28086420", checked := Try.checked }
namespace Rows
def none {H : Type} : Left H := { results := [], args := [] }

/-- 'laws.FnExactCellOf': WHATEVER THE INPUT: true; the input reads as it did. -/
def fnExactCellOfSpec : ChangeSpec := { name := "fnExactCellOf", fn := fun _ => fun
  | [d1, d2, d3] => { results := [.lit (.bool true)], args := [d1, d2, d3] }
  | _ => none }
def fnExactCellOfRow : OpenClaim := { program := "ytflolmjgkmmllab", sum := "71f6c01e9a4fc4f5f93e68d5371fe7a65d9b3f4233b26e399f6c320e28086420", func := "loop.example/g01299/laws.FnExactCellOf", spec := "fnExactCellOf", plainKeys := false, apart := false }
def FnExactCellOfSaid : Prop := fnExactCellOfRow.holds Try.pinned (OpenSpec.ofChange fnExactCellOfSpec)

/-- ITS FALSE NEIGHBOUR: 'it returns false'. Refute it at one input. -/
def fnExactCellOfWrong : ChangeSpec := { name := "fnExactCellOf", fn := fun _ => fun
  | [d1, d2, d3] => { results := [.lit (.bool false)], args := [d1, d2, d3] }
  | _ => none }
def FnExactCellOfWrongFalsely : Prop := fnExactCellOfRow.holds Try.pinned (OpenSpec.ofChange fnExactCellOfWrong)

/-- 'laws.FnExactMirrorFlag': WHATEVER THE INPUT: true; the input reads as it did. -/
def fnExactMirrorFlagSpec : ChangeSpec := { name := "fnExactMirrorFlag", fn := fun _ => fun
  | [d] => { results := [.lit (.bool true)], args := [d] }
  | _ => none }
def fnExactMirrorFlagRow : OpenClaim := { program := "ytflolmjgkmmllab", sum := "71f6c01e9a4fc4f5f93e68d5371fe7a65d9b3f4233b26e399f6c320e28086420", func := "loop.example/g01299/laws.FnExactMirrorFlag", spec := "fnExactMirrorFlag", unfollowed := true, recurses := true, plainKeys := false, apart := false }
def FnExactMirrorFlagSaid : Prop := fnExactMirrorFlagRow.holds Try.pinned (OpenSpec.ofChange fnExactMirrorFlagSpec)

/-- ITS FALSE NEIGHBOUR: 'it returns false'. Refute it at one input. -/
def fnExactMirrorFlagWrong : ChangeSpec := { name := "fnExactMirrorFlag", fn := fun _ => fun
  | [d] => { results := [.lit (.bool false)], args := [d] }
  | _ => none }
def FnExactMirrorFlagWrongFalsely : Prop := fnExactMirrorFlagRow.holds Try.pinned (OpenSpec.ofChange fnExactMirrorFlagWrong)

/-- 'laws.FnExactTurnFlag': WHATEVER THE INPUT: true; the input reads as it did. -/
def fnExactTurnFlagSpec : ChangeSpec := { name := "fnExactTurnFlag", fn := fun _ => fun
  | [d] => { results := [.lit (.bool true)], args := [d] }
  | _ => none }
def fnExactTurnFlagRow : OpenClaim := { program := "ytflolmjgkmmllab", sum := "71f6c01e9a4fc4f5f93e68d5371fe7a65d9b3f4233b26e399f6c320e28086420", func := "loop.example/g01299/laws.FnExactTurnFlag", spec := "fnExactTurnFlag", unfollowed := true, recurses := true, plainKeys := false, apart := false }
def FnExactTurnFlagSaid : Prop := fnExactTurnFlagRow.holds Try.pinned (OpenSpec.ofChange fnExactTurnFlagSpec)

/-- ITS FALSE NEIGHBOUR: 'it returns false'. Refute it at one input. -/
def fnExactTurnFlagWrong : ChangeSpec := { name := "fnExactTurnFlag", fn := fun _ => fun
  | [d] => { results := [.lit (.bool false)], args := [d] }
  | _ => none }
def FnExactTurnFlagWrongFalsely : Prop := fnExactTurnFlagRow.holds Try.pinned (OpenSpec.ofChange fnExactTurnFlagWrong)

/-- 'laws.FnExactRecolourFlag': WHATEVER THE INPUT: true; the input reads as it did. -/
def fnExactRecolourFlagSpec : ChangeSpec := { name := "fnExactRecolourFlag", fn := fun _ => fun
  | [d1, d2, d3] => { results := [.lit (.bool true)], args := [d1, d2, d3] }
  | _ => none }
def fnExactRecolourFlagRow : OpenClaim := { program := "ytflolmjgkmmllab", sum := "71f6c01e9a4fc4f5f93e68d5371fe7a65d9b3f4233b26e399f6c320e28086420", func := "loop.example/g01299/laws.FnExactRecolourFlag", spec := "fnExactRecolourFlag", plainKeys := false, apart := false }
def FnExactRecolourFlagSaid : Prop := fnExactRecolourFlagRow.holds Try.pinned (OpenSpec.ofChange fnExactRecolourFlagSpec)

/-- ITS FALSE NEIGHBOUR: 'it returns false'. Refute it at one input. -/
def fnExactRecolourFlagWrong : ChangeSpec := { name := "fnExactRecolourFlag", fn := fun _ => fun
  | [d1, d2, d3] => { results := [.lit (.bool false)], args := [d1, d2, d3] }
  | _ => none }
def FnExactRecolourFlagWrongFalsely : Prop := fnExactRecolourFlagRow.holds Try.pinned (OpenSpec.ofChange fnExactRecolourFlagWrong)

/-- 'laws.FnExactCountColours': WHATEVER THE INPUT: true; the input reads as it did. -/
def fnExactCountColoursSpec : ChangeSpec := { name := "fnExactCountColours", fn := fun _ => fun
  | [d] => { results := [.lit (.bool true)], args := [d] }
  | _ => none }
def fnExactCountColoursRow : OpenClaim := { program := "ytflolmjgkmmllab", sum := "71f6c01e9a4fc4f5f93e68d5371fe7a65d9b3f4233b26e399f6c320e28086420", func := "loop.example/g01299/laws.FnExactCountColours", spec := "fnExactCountColours", plainKeys := false, apart := false }
def FnExactCountColoursSaid : Prop := fnExactCountColoursRow.holds Try.pinned (OpenSpec.ofChange fnExactCountColoursSpec)

/-- ITS FALSE NEIGHBOUR: 'it returns false'. Refute it at one input. -/
def fnExactCountColoursWrong : ChangeSpec := { name := "fnExactCountColours", fn := fun _ => fun
  | [d] => { results := [.lit (.bool false)], args := [d] }
  | _ => none }
def FnExactCountColoursWrongFalsely : Prop := fnExactCountColoursRow.holds Try.pinned (OpenSpec.ofChange fnExactCountColoursWrong)

/-- 'laws.FnExactDistanceOf': WHATEVER THE INPUT: true; the input reads as it did. -/
def fnExactDistanceOfSpec : ChangeSpec := { name := "fnExactDistanceOf", fn := fun _ => fun
  | [d1, d2] => { results := [.lit (.bool true)], args := [d1, d2] }
  | _ => none }
def fnExactDistanceOfRow : OpenClaim := { program := "ytflolmjgkmmllab", sum := "71f6c01e9a4fc4f5f93e68d5371fe7a65d9b3f4233b26e399f6c320e28086420", func := "loop.example/g01299/laws.FnExactDistanceOf", spec := "fnExactDistanceOf", plainKeys := false, apart := false }
def FnExactDistanceOfSaid : Prop := fnExactDistanceOfRow.holds Try.pinned (OpenSpec.ofChange fnExactDistanceOfSpec)

/-- ITS FALSE NEIGHBOUR: 'it returns false'. Refute it at one input. -/
def fnExactDistanceOfWrong : ChangeSpec := { name := "fnExactDistanceOf", fn := fun _ => fun
  | [d1, d2] => { results := [.lit (.bool false)], args := [d1, d2] }
  | _ => none }
def FnExactDistanceOfWrongFalsely : Prop := fnExactDistanceOfRow.holds Try.pinned (OpenSpec.ofChange fnExactDistanceOfWrong)

/-- 'laws.FnExactBlurFlag': WHATEVER THE INPUT: true; the input reads as it did. -/
def fnExactBlurFlagSpec : ChangeSpec := { name := "fnExactBlurFlag", fn := fun _ => fun
  | [d] => { results := [.lit (.bool true)], args := [d] }
  | _ => none }
def fnExactBlurFlagRow : OpenClaim := { program := "ytflolmjgkmmllab", sum := "71f6c01e9a4fc4f5f93e68d5371fe7a65d9b3f4233b26e399f6c320e28086420", func := "loop.example/g01299/laws.FnExactBlurFlag", spec := "fnExactBlurFlag", plainKeys := false, apart := false }
def FnExactBlurFlagSaid : Prop := fnExactBlurFlagRow.holds Try.pinned (OpenSpec.ofChange fnExactBlurFlagSpec)

/-- ITS FALSE NEIGHBOUR: 'it returns false'. Refute it at one input. -/
def fnExactBlurFlagWrong : ChangeSpec := { name := "fnExactBlurFlag", fn := fun _ => fun
  | [d] => { results := [.lit (.bool false)], args := [d] }
  | _ => none }
def FnExactBlurFlagWrongFalsely : Prop := fnExactBlurFlagRow.holds Try.pinned (OpenSpec.ofChange fnExactBlurFlagWrong)

/-- 'laws.FnExactBlurDistance': WHATEVER THE INPUT: true; the input reads as it did. -/
def fnExactBlurDistanceSpec : ChangeSpec := { name := "fnExactBlurDistance", fn := fun _ => fun
  | [d1, d2] => { results := [.lit (.bool true)], args := [d1, d2] }
  | _ => none }
def fnExactBlurDistanceRow : OpenClaim := { program := "ytflolmjgkmmllab", sum := "71f6c01e9a4fc4f5f93e68d5371fe7a65d9b3f4233b26e399f6c320e28086420", func := "loop.example/g01299/laws.FnExactBlurDistance", spec := "fnExactBlurDistance", plainKeys := false, apart := false }
def FnExactBlurDistanceSaid : Prop := fnExactBlurDistanceRow.holds Try.pinned (OpenSpec.ofChange fnExactBlurDistanceSpec)

/-- ITS FALSE NEIGHBOUR: 'it returns false'. Refute it at one input. -/
def fnExactBlurDistanceWrong : ChangeSpec := { name := "fnExactBlurDistance", fn := fun _ => fun
  | [d1, d2] => { results := [.lit (.bool false)], args := [d1, d2] }
  | _ => none }
def FnExactBlurDistanceWrongFalsely : Prop := fnExactBlurDistanceRow.holds Try.pinned (OpenSpec.ofChange fnExactBlurDistanceWrong)

/-- 'laws.FnExactLooksLike': WHATEVER THE INPUT: true; the input reads as it did. -/
def fnExactLooksLikeSpec : ChangeSpec := { name := "fnExactLooksLike", fn := fun _ => fun
  | [d1, d2, d3] => { results := [.lit (.bool true)], args := [d1, d2, d3] }
  | _ => none }
def fnExactLooksLikeRow : OpenClaim := { program := "ytflolmjgkmmllab", sum := "71f6c01e9a4fc4f5f93e68d5371fe7a65d9b3f4233b26e399f6c320e28086420", func := "loop.example/g01299/laws.FnExactLooksLike", spec := "fnExactLooksLike", unfollowed := true, recurses := true, plainKeys := false, apart := false }
def FnExactLooksLikeSaid : Prop := fnExactLooksLikeRow.holds Try.pinned (OpenSpec.ofChange fnExactLooksLikeSpec)

/-- ITS FALSE NEIGHBOUR: 'it returns false'. Refute it at one input. -/
def fnExactLooksLikeWrong : ChangeSpec := { name := "fnExactLooksLike", fn := fun _ => fun
  | [d1, d2, d3] => { results := [.lit (.bool false)], args := [d1, d2, d3] }
  | _ => none }
def FnExactLooksLikeWrongFalsely : Prop := fnExactLooksLikeRow.holds Try.pinned (OpenSpec.ofChange fnExactLooksLikeWrong)

/-- 'laws.FnExactIsUpsideDown': WHATEVER THE INPUT: true; the input reads as it did. -/
def fnExactIsUpsideDownSpec : ChangeSpec := { name := "fnExactIsUpsideDown", fn := fun _ => fun
  | [d1, d2] => { results := [.lit (.bool true)], args := [d1, d2] }
  | _ => none }
def fnExactIsUpsideDownRow : OpenClaim := { program := "ytflolmjgkmmllab", sum := "71f6c01e9a4fc4f5f93e68d5371fe7a65d9b3f4233b26e399f6c320e28086420", func := "loop.example/g01299/laws.FnExactIsUpsideDown", spec := "fnExactIsUpsideDown", unfollowed := true, recurses := true, plainKeys := false, apart := false }
def FnExactIsUpsideDownSaid : Prop := fnExactIsUpsideDownRow.holds Try.pinned (OpenSpec.ofChange fnExactIsUpsideDownSpec)

/-- ITS FALSE NEIGHBOUR: 'it returns false'. Refute it at one input. -/
def fnExactIsUpsideDownWrong : ChangeSpec := { name := "fnExactIsUpsideDown", fn := fun _ => fun
  | [d1, d2] => { results := [.lit (.bool false)], args := [d1, d2] }
  | _ => none }
def FnExactIsUpsideDownWrongFalsely : Prop := fnExactIsUpsideDownRow.holds Try.pinned (OpenSpec.ofChange fnExactIsUpsideDownWrong)

/-- 'laws.FnExactAreDistinct': WHATEVER THE INPUT: true; the input reads as it did. -/
def fnExactAreDistinctSpec : ChangeSpec := { name := "fnExactAreDistinct", fn := fun _ => fun
  | [d1, d2] => { results := [.lit (.bool true)], args := [d1, d2] }
  | _ => none }
def fnExactAreDistinctRow : OpenClaim := { program := "ytflolmjgkmmllab", sum := "71f6c01e9a4fc4f5f93e68d5371fe7a65d9b3f4233b26e399f6c320e28086420", func := "loop.example/g01299/laws.FnExactAreDistinct", spec := "fnExactAreDistinct", plainKeys := false, apart := false }
def FnExactAreDistinctSaid : Prop := fnExactAreDistinctRow.holds Try.pinned (OpenSpec.ofChange fnExactAreDistinctSpec)

/-- ITS FALSE NEIGHBOUR: 'it returns false'. Refute it at one input. -/
def fnExactAreDistinctWrong : ChangeSpec := { name := "fnExactAreDistinct", fn := fun _ => fun
  | [d1, d2] => { results := [.lit (.bool false)], args := [d1, d2] }
  | _ => none }
def FnExactAreDistinctWrongFalsely : Prop := fnExactAreDistinctRow.holds Try.pinned (OpenSpec.ofChange fnExactAreDistinctWrong)

/-- 'laws.FnExactNearestPair': WHATEVER THE INPUT: true; the input reads as it did. -/
def fnExactNearestPairSpec : ChangeSpec := { name := "fnExactNearestPair", fn := fun _ => fun
  | [d] => { results := [.lit (.bool true)], args := [d] }
  | _ => none }
def fnExactNearestPairRow : OpenClaim := { program := "ytflolmjgkmmllab", sum := "71f6c01e9a4fc4f5f93e68d5371fe7a65d9b3f4233b26e399f6c320e28086420", func := "loop.example/g01299/laws.FnExactNearestPair", spec := "fnExactNearestPair", plainKeys := false, apart := false }
def FnExactNearestPairSaid : Prop := fnExactNearestPairRow.holds Try.pinned (OpenSpec.ofChange fnExactNearestPairSpec)

/-- ITS FALSE NEIGHBOUR: 'it returns false'. Refute it at one input. -/
def fnExactNearestPairWrong : ChangeSpec := { name := "fnExactNearestPair", fn := fun _ => fun
  | [d] => { results := [.lit (.bool false)], args := [d] }
  | _ => none }
def FnExactNearestPairWrongFalsely : Prop := fnExactNearestPairRow.holds Try.pinned (OpenSpec.ofChange fnExactNearestPairWrong)

/- THE SECOND FORM. 'bulk': how many values and letters a reading holds, each counted each time it is reached (what is shared counts as often as it is met; a slice's spare places count too). A statement '..UptoSaid' is the law's where the arguments, and the package variables that the reading takes, are together of bulk at most 1048576: NARROWER than '..Said'. Prove '..Said' where nothing that the law and all that it calls make is longer than what came in: it says more and counts as full. Else prove '..UptoSaid'. A law counts once. -/
mutual
def uptoBulk {H : Type} : DataW H → Nat
  | .lit (.string bytes) => bytes.length + 1
  | .lit _ => 1
  | .nil => 1
  | .ptr d => uptoBulk d + 1
  | .slice elems spare => uptoBulkAll elems + uptoBulkAll spare + 1
  | .agg parts => uptoBulkAll parts + 1
  | .iface _ d => uptoBulk d + 1
  | .map entries => uptoBulkEntries entries + 1
  | .held _ => 1
def uptoBulkAll {H : Type} : List (DataW H) → Nat
  | [] => 0
  | d :: r => uptoBulk d + uptoBulkAll r
def uptoBulkEntries {H : Type} : List (Lit × DataW H) → Nat
  | [] => 0
  | x :: r => uptoBulkEntry x + uptoBulkEntries r
def uptoBulkEntry {H : Type} : Lit × DataW H → Nat
  | (.string bytes, d) => bytes.length + uptoBulk d + 1
  | (_, d) => uptoBulk d + 1
 end
def uptoSmall : (H : Type) → List (DataW H) → Bool := fun _ ds => decide (uptoBulkAll ds ≤ 1048576)
def OpenSpec.upto (s : _root_.Go.ChangeSpec) : _root_.Go.OpenSpec := { _root_.Go.OpenSpec.ofChange s with cond := some uptoSmall }

/-- 'laws.FnExactCellOf', WHERE WHAT IT READS IS OF BULK AT MOST 1048576: true; the input reads as it did. -/
def fnExactCellOfUptoRow : OpenClaim := { program := "ytflolmjgkmmllab", sum := "71f6c01e9a4fc4f5f93e68d5371fe7a65d9b3f4233b26e399f6c320e28086420", func := "loop.example/g01299/laws.FnExactCellOf", spec := "fnExactCellOf", plainKeys := false, apart := false, narrowed := true }
def FnExactCellOfUptoSaid : Prop := fnExactCellOfUptoRow.holds Try.pinned (OpenSpec.upto fnExactCellOfSpec)

/-- 'laws.FnExactMirrorFlag', WHERE WHAT IT READS IS OF BULK AT MOST 1048576: true; the input reads as it did. -/
def fnExactMirrorFlagUptoRow : OpenClaim := { program := "ytflolmjgkmmllab", sum := "71f6c01e9a4fc4f5f93e68d5371fe7a65d9b3f4233b26e399f6c320e28086420", func := "loop.example/g01299/laws.FnExactMirrorFlag", spec := "fnExactMirrorFlag", unfollowed := true, recurses := true, plainKeys := false, apart := false, narrowed := true }
def FnExactMirrorFlagUptoSaid : Prop := fnExactMirrorFlagUptoRow.holds Try.pinned (OpenSpec.upto fnExactMirrorFlagSpec)

/-- 'laws.FnExactTurnFlag', WHERE WHAT IT READS IS OF BULK AT MOST 1048576: true; the input reads as it did. -/
def fnExactTurnFlagUptoRow : OpenClaim := { program := "ytflolmjgkmmllab", sum := "71f6c01e9a4fc4f5f93e68d5371fe7a65d9b3f4233b26e399f6c320e28086420", func := "loop.example/g01299/laws.FnExactTurnFlag", spec := "fnExactTurnFlag", unfollowed := true, recurses := true, plainKeys := false, apart := false, narrowed := true }
def FnExactTurnFlagUptoSaid : Prop := fnExactTurnFlagUptoRow.holds Try.pinned (OpenSpec.upto fnExactTurnFlagSpec)

/-- 'laws.FnExactRecolourFlag', WHERE WHAT IT READS IS OF BULK AT MOST 1048576: true; the input reads as it did. -/
def fnExactRecolourFlagUptoRow : OpenClaim := { program := "ytflolmjgkmmllab", sum := "71f6c01e9a4fc4f5f93e68d5371fe7a65d9b3f4233b26e399f6c320e28086420", func := "loop.example/g01299/laws.FnExactRecolourFlag", spec := "fnExactRecolourFlag", plainKeys := false, apart := false, narrowed := true }
def FnExactRecolourFlagUptoSaid : Prop := fnExactRecolourFlagUptoRow.holds Try.pinned (OpenSpec.upto fnExactRecolourFlagSpec)

/-- 'laws.FnExactCountColours', WHERE WHAT IT READS IS OF BULK AT MOST 1048576: true; the input reads as it did. -/
def fnExactCountColoursUptoRow : OpenClaim := { program := "ytflolmjgkmmllab", sum := "71f6c01e9a4fc4f5f93e68d5371fe7a65d9b3f4233b26e399f6c320e28086420", func := "loop.example/g01299/laws.FnExactCountColours", spec := "fnExactCountColours", plainKeys := false, apart := false, narrowed := true }
def FnExactCountColoursUptoSaid : Prop := fnExactCountColoursUptoRow.holds Try.pinned (OpenSpec.upto fnExactCountColoursSpec)

/-- 'laws.FnExactDistanceOf', WHERE WHAT IT READS IS OF BULK AT MOST 1048576: true; the input reads as it did. -/
def fnExactDistanceOfUptoRow : OpenClaim := { program := "ytflolmjgkmmllab", sum := "71f6c01e9a4fc4f5f93e68d5371fe7a65d9b3f4233b26e399f6c320e28086420", func := "loop.example/g01299/laws.FnExactDistanceOf", spec := "fnExactDistanceOf", plainKeys := false, apart := false, narrowed := true }
def FnExactDistanceOfUptoSaid : Prop := fnExactDistanceOfUptoRow.holds Try.pinned (OpenSpec.upto fnExactDistanceOfSpec)

/-- 'laws.FnExactBlurFlag', WHERE WHAT IT READS IS OF BULK AT MOST 1048576: true; the input reads as it did. -/
def fnExactBlurFlagUptoRow : OpenClaim := { program := "ytflolmjgkmmllab", sum := "71f6c01e9a4fc4f5f93e68d5371fe7a65d9b3f4233b26e399f6c320e28086420", func := "loop.example/g01299/laws.FnExactBlurFlag", spec := "fnExactBlurFlag", plainKeys := false, apart := false, narrowed := true }
def FnExactBlurFlagUptoSaid : Prop := fnExactBlurFlagUptoRow.holds Try.pinned (OpenSpec.upto fnExactBlurFlagSpec)

/-- 'laws.FnExactBlurDistance', WHERE WHAT IT READS IS OF BULK AT MOST 1048576: true; the input reads as it did. -/
def fnExactBlurDistanceUptoRow : OpenClaim := { program := "ytflolmjgkmmllab", sum := "71f6c01e9a4fc4f5f93e68d5371fe7a65d9b3f4233b26e399f6c320e28086420", func := "loop.example/g01299/laws.FnExactBlurDistance", spec := "fnExactBlurDistance", plainKeys := false, apart := false, narrowed := true }
def FnExactBlurDistanceUptoSaid : Prop := fnExactBlurDistanceUptoRow.holds Try.pinned (OpenSpec.upto fnExactBlurDistanceSpec)

/-- 'laws.FnExactLooksLike', WHERE WHAT IT READS IS OF BULK AT MOST 1048576: true; the input reads as it did. -/
def fnExactLooksLikeUptoRow : OpenClaim := { program := "ytflolmjgkmmllab", sum := "71f6c01e9a4fc4f5f93e68d5371fe7a65d9b3f4233b26e399f6c320e28086420", func := "loop.example/g01299/laws.FnExactLooksLike", spec := "fnExactLooksLike", unfollowed := true, recurses := true, plainKeys := false, apart := false, narrowed := true }
def FnExactLooksLikeUptoSaid : Prop := fnExactLooksLikeUptoRow.holds Try.pinned (OpenSpec.upto fnExactLooksLikeSpec)

/-- 'laws.FnExactIsUpsideDown', WHERE WHAT IT READS IS OF BULK AT MOST 1048576: true; the input reads as it did. -/
def fnExactIsUpsideDownUptoRow : OpenClaim := { program := "ytflolmjgkmmllab", sum := "71f6c01e9a4fc4f5f93e68d5371fe7a65d9b3f4233b26e399f6c320e28086420", func := "loop.example/g01299/laws.FnExactIsUpsideDown", spec := "fnExactIsUpsideDown", unfollowed := true, recurses := true, plainKeys := false, apart := false, narrowed := true }
def FnExactIsUpsideDownUptoSaid : Prop := fnExactIsUpsideDownUptoRow.holds Try.pinned (OpenSpec.upto fnExactIsUpsideDownSpec)

/-- 'laws.FnExactAreDistinct', WHERE WHAT IT READS IS OF BULK AT MOST 1048576: true; the input reads as it did. -/
def fnExactAreDistinctUptoRow : OpenClaim := { program := "ytflolmjgkmmllab", sum := "71f6c01e9a4fc4f5f93e68d5371fe7a65d9b3f4233b26e399f6c320e28086420", func := "loop.example/g01299/laws.FnExactAreDistinct", spec := "fnExactAreDistinct", plainKeys := false, apart := false, narrowed := true }
def FnExactAreDistinctUptoSaid : Prop := fnExactAreDistinctUptoRow.holds Try.pinned (OpenSpec.upto fnExactAreDistinctSpec)

/-- 'laws.FnExactNearestPair', WHERE WHAT IT READS IS OF BULK AT MOST 1048576: true; the input reads as it did. -/
def fnExactNearestPairUptoRow : OpenClaim := { program := "ytflolmjgkmmllab", sum := "71f6c01e9a4fc4f5f93e68d5371fe7a65d9b3f4233b26e399f6c320e28086420", func := "loop.example/g01299/laws.FnExactNearestPair", spec := "fnExactNearestPair", plainKeys := false, apart := false, narrowed := true }
def FnExactNearestPairUptoSaid : Prop := fnExactNearestPairUptoRow.holds Try.pinned (OpenSpec.upto fnExactNearestPairSpec)

end Rows
end Go.Proofs.Ytflolmjgkmmllab
