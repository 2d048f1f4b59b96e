/-
  No cell of these rows narrows 'for every input' (looked for: loops, veiled, ifaces, maps, wideKeys, modest, calm, conditions, laid).
  DERIVED. THE GIVEN ROWS OF THIS SEAT. 10 by the template 'for every input the law returns true; each argument reads behind the call as it read before'; 0 by the template 'total and deterministic' (their statements: YtnghcchkiodalaaTotals.lean).
  GIVEN WITH THE SEED: the statements are not yours to turn. If you find one false, say at which input.
  Laid BY PROGRAM, IN A SANDBOX (cutbox-rows.mjs): the forced cells as the released guide's own fill.sh prints them over the translation ee7ee06751f4c281… (all of the seat's roots in one cut). By AI agents, Wed Nov 11 2026. No macro, syntax, notation, axiom, sorry.
-/
import Derived.Test.YtnghcchkiodalaaChecked
import GoSem.Claim
import GoSem.ClaimJoined
import GoSem.ClaimMapViews
import Derived.JoinedTies
import Derived.KernelRfl
namespace Go.Proofs.Ytnghcchkiodalaa
/- THE CELL 'sum', in the pinned program and in every row, IS THE sha256 OF THE DUMP (.gsa) THAT YtnghcchkiodalaaProg.lean LOADS. Nothing in Lean hashes anything: it is a label: what it is worth is what the hold of that sum in a sandbox is worth. -/
noncomputable def Try.pinned : Pinned := { name := "ytnghcchkiodalaa", sum := "ee7ee06751f4c2814d048fb1c079af8f58c1153107e7bf01c6a9a0d9b332b6bc", checked := Try.checked }
namespace Rows
def none {H : Type} : Left H := { results := [], args := [] }

/-- 'laws.FnExactBlurFlag': WHATEVER THE INPUT: true; the input reads as it did. -/
def fnExactBlurFlagSpec : ChangeSpec := { name := "fnExactBlurFlag", fn := fun _ => fun
  | [d] => { results := [.lit (.bool true)], args := [d] }
  | _ => none }
def fnExactBlurFlagRow : OpenClaim := { program := "ytnghcchkiodalaa", sum := "ee7ee06751f4c2814d048fb1c079af8f58c1153107e7bf01c6a9a0d9b332b6bc", func := "loop.example/g01299/laws.FnExactBlurFlag", spec := "fnExactBlurFlag", plainKeys := false, apart := false }
def FnExactBlurFlagSaid : Prop := fnExactBlurFlagRow.holds Try.pinned (OpenSpec.ofChange fnExactBlurFlagSpec)

/-- ITS FALSE NEIGHBOUR: 'it returns false'. Refute it at one input. -/
def fnExactBlurFlagWrong : ChangeSpec := { name := "fnExactBlurFlag", fn := fun _ => fun
  | [d] => { results := [.lit (.bool false)], args := [d] }
  | _ => none }
def FnExactBlurFlagWrongFalsely : Prop := fnExactBlurFlagRow.holds Try.pinned (OpenSpec.ofChange fnExactBlurFlagWrong)

/-- 'laws.FnExactBlurDistance': WHATEVER THE INPUT: true; the input reads as it did. -/
def fnExactBlurDistanceSpec : ChangeSpec := { name := "fnExactBlurDistance", fn := fun _ => fun
  | [d1, d2] => { results := [.lit (.bool true)], args := [d1, d2] }
  | _ => none }
def fnExactBlurDistanceRow : OpenClaim := { program := "ytnghcchkiodalaa", sum := "ee7ee06751f4c2814d048fb1c079af8f58c1153107e7bf01c6a9a0d9b332b6bc", func := "loop.example/g01299/laws.FnExactBlurDistance", spec := "fnExactBlurDistance", plainKeys := false, apart := false }
def FnExactBlurDistanceSaid : Prop := fnExactBlurDistanceRow.holds Try.pinned (OpenSpec.ofChange fnExactBlurDistanceSpec)

/-- ITS FALSE NEIGHBOUR: 'it returns false'. Refute it at one input. -/
def fnExactBlurDistanceWrong : ChangeSpec := { name := "fnExactBlurDistance", fn := fun _ => fun
  | [d1, d2] => { results := [.lit (.bool false)], args := [d1, d2] }
  | _ => none }
def FnExactBlurDistanceWrongFalsely : Prop := fnExactBlurDistanceRow.holds Try.pinned (OpenSpec.ofChange fnExactBlurDistanceWrong)

/-- 'laws.FnExactLooksLike': WHATEVER THE INPUT: true; the input reads as it did. -/
def fnExactLooksLikeSpec : ChangeSpec := { name := "fnExactLooksLike", fn := fun _ => fun
  | [d1, d2, d3] => { results := [.lit (.bool true)], args := [d1, d2, d3] }
  | _ => none }
def fnExactLooksLikeRow : OpenClaim := { program := "ytnghcchkiodalaa", sum := "ee7ee06751f4c2814d048fb1c079af8f58c1153107e7bf01c6a9a0d9b332b6bc", func := "loop.example/g01299/laws.FnExactLooksLike", spec := "fnExactLooksLike", unfollowed := true, recurses := true, plainKeys := false, apart := false }
def FnExactLooksLikeSaid : Prop := fnExactLooksLikeRow.holds Try.pinned (OpenSpec.ofChange fnExactLooksLikeSpec)

/-- ITS FALSE NEIGHBOUR: 'it returns false'. Refute it at one input. -/
def fnExactLooksLikeWrong : ChangeSpec := { name := "fnExactLooksLike", fn := fun _ => fun
  | [d1, d2, d3] => { results := [.lit (.bool false)], args := [d1, d2, d3] }
  | _ => none }
def FnExactLooksLikeWrongFalsely : Prop := fnExactLooksLikeRow.holds Try.pinned (OpenSpec.ofChange fnExactLooksLikeWrong)

/-- 'laws.FnExactIsUpsideDown': WHATEVER THE INPUT: true; the input reads as it did. -/
def fnExactIsUpsideDownSpec : ChangeSpec := { name := "fnExactIsUpsideDown", fn := fun _ => fun
  | [d1, d2] => { results := [.lit (.bool true)], args := [d1, d2] }
  | _ => none }
def fnExactIsUpsideDownRow : OpenClaim := { program := "ytnghcchkiodalaa", sum := "ee7ee06751f4c2814d048fb1c079af8f58c1153107e7bf01c6a9a0d9b332b6bc", func := "loop.example/g01299/laws.FnExactIsUpsideDown", spec := "fnExactIsUpsideDown", unfollowed := true, recurses := true, plainKeys := false, apart := false }
def FnExactIsUpsideDownSaid : Prop := fnExactIsUpsideDownRow.holds Try.pinned (OpenSpec.ofChange fnExactIsUpsideDownSpec)

/-- ITS FALSE NEIGHBOUR: 'it returns false'. Refute it at one input. -/
def fnExactIsUpsideDownWrong : ChangeSpec := { name := "fnExactIsUpsideDown", fn := fun _ => fun
  | [d1, d2] => { results := [.lit (.bool false)], args := [d1, d2] }
  | _ => none }
def FnExactIsUpsideDownWrongFalsely : Prop := fnExactIsUpsideDownRow.holds Try.pinned (OpenSpec.ofChange fnExactIsUpsideDownWrong)

/-- 'laws.FnExactAreDistinct': WHATEVER THE INPUT: true; the input reads as it did. -/
def fnExactAreDistinctSpec : ChangeSpec := { name := "fnExactAreDistinct", fn := fun _ => fun
  | [d1, d2] => { results := [.lit (.bool true)], args := [d1, d2] }
  | _ => none }
def fnExactAreDistinctRow : OpenClaim := { program := "ytnghcchkiodalaa", sum := "ee7ee06751f4c2814d048fb1c079af8f58c1153107e7bf01c6a9a0d9b332b6bc", func := "loop.example/g01299/laws.FnExactAreDistinct", spec := "fnExactAreDistinct", plainKeys := false, apart := false }
def FnExactAreDistinctSaid : Prop := fnExactAreDistinctRow.holds Try.pinned (OpenSpec.ofChange fnExactAreDistinctSpec)

/-- ITS FALSE NEIGHBOUR: 'it returns false'. Refute it at one input. -/
def fnExactAreDistinctWrong : ChangeSpec := { name := "fnExactAreDistinct", fn := fun _ => fun
  | [d1, d2] => { results := [.lit (.bool false)], args := [d1, d2] }
  | _ => none }
def FnExactAreDistinctWrongFalsely : Prop := fnExactAreDistinctRow.holds Try.pinned (OpenSpec.ofChange fnExactAreDistinctWrong)

/-- 'laws.FnExactNearestPair': WHATEVER THE INPUT: true; the input reads as it did. -/
def fnExactNearestPairSpec : ChangeSpec := { name := "fnExactNearestPair", fn := fun _ => fun
  | [d] => { results := [.lit (.bool true)], args := [d] }
  | _ => none }
def fnExactNearestPairRow : OpenClaim := { program := "ytnghcchkiodalaa", sum := "ee7ee06751f4c2814d048fb1c079af8f58c1153107e7bf01c6a9a0d9b332b6bc", func := "loop.example/g01299/laws.FnExactNearestPair", spec := "fnExactNearestPair", plainKeys := false, apart := false }
def FnExactNearestPairSaid : Prop := fnExactNearestPairRow.holds Try.pinned (OpenSpec.ofChange fnExactNearestPairSpec)

/-- ITS FALSE NEIGHBOUR: 'it returns false'. Refute it at one input. -/
def fnExactNearestPairWrong : ChangeSpec := { name := "fnExactNearestPair", fn := fun _ => fun
  | [d] => { results := [.lit (.bool false)], args := [d] }
  | _ => none }
def FnExactNearestPairWrongFalsely : Prop := fnExactNearestPairRow.holds Try.pinned (OpenSpec.ofChange fnExactNearestPairWrong)

/-- 'laws.FnExactChooseDistinct': WHATEVER THE INPUT: true; the input reads as it did. -/
def fnExactChooseDistinctSpec : ChangeSpec := { name := "fnExactChooseDistinct", fn := fun _ => fun
  | [d1, d2] => { results := [.lit (.bool true)], args := [d1, d2] }
  | _ => none }
def fnExactChooseDistinctRow : OpenClaim := { program := "ytnghcchkiodalaa", sum := "ee7ee06751f4c2814d048fb1c079af8f58c1153107e7bf01c6a9a0d9b332b6bc", func := "loop.example/g01299/laws.FnExactChooseDistinct", spec := "fnExactChooseDistinct", plainKeys := false, apart := false }
def FnExactChooseDistinctSaid : Prop := fnExactChooseDistinctRow.holds Try.pinned (OpenSpec.ofChange fnExactChooseDistinctSpec)

/-- ITS FALSE NEIGHBOUR: 'it returns false'. Refute it at one input. -/
def fnExactChooseDistinctWrong : ChangeSpec := { name := "fnExactChooseDistinct", fn := fun _ => fun
  | [d1, d2] => { results := [.lit (.bool false)], args := [d1, d2] }
  | _ => none }
def FnExactChooseDistinctWrongFalsely : Prop := fnExactChooseDistinctRow.holds Try.pinned (OpenSpec.ofChange fnExactChooseDistinctWrong)

/-- 'laws.FnExactMostDistinct': WHATEVER THE INPUT: true; the input reads as it did. -/
def fnExactMostDistinctSpec : ChangeSpec := { name := "fnExactMostDistinct", fn := fun _ => fun
  | [d1, d2] => { results := [.lit (.bool true)], args := [d1, d2] }
  | _ => none }
def fnExactMostDistinctRow : OpenClaim := { program := "ytnghcchkiodalaa", sum := "ee7ee06751f4c2814d048fb1c079af8f58c1153107e7bf01c6a9a0d9b332b6bc", func := "loop.example/g01299/laws.FnExactMostDistinct", spec := "fnExactMostDistinct", recurses := true, plainKeys := false, apart := false }
def FnExactMostDistinctSaid : Prop := fnExactMostDistinctRow.holds Try.pinned (OpenSpec.ofChange fnExactMostDistinctSpec)

/-- ITS FALSE NEIGHBOUR: 'it returns false'. Refute it at one input. -/
def fnExactMostDistinctWrong : ChangeSpec := { name := "fnExactMostDistinct", fn := fun _ => fun
  | [d1, d2] => { results := [.lit (.bool false)], args := [d1, d2] }
  | _ => none }
def FnExactMostDistinctWrongFalsely : Prop := fnExactMostDistinctRow.holds Try.pinned (OpenSpec.ofChange fnExactMostDistinctWrong)

/-- 'laws.FnExactFlagText': WHATEVER THE INPUT: true; the input reads as it did. -/
def fnExactFlagTextSpec : ChangeSpec := { name := "fnExactFlagText", fn := fun _ => fun
  | [d] => { results := [.lit (.bool true)], args := [d] }
  | _ => none }
def fnExactFlagTextRow : OpenClaim := { program := "ytnghcchkiodalaa", sum := "ee7ee06751f4c2814d048fb1c079af8f58c1153107e7bf01c6a9a0d9b332b6bc", func := "loop.example/g01299/laws.FnExactFlagText", spec := "fnExactFlagText", inPlace := ["internal/abi.NoEscape"], plainKeys := false, apart := false }
def FnExactFlagTextSaid : Prop := fnExactFlagTextRow.holds Try.pinned (OpenSpec.ofChange fnExactFlagTextSpec)

/-- ITS FALSE NEIGHBOUR: 'it returns false'. Refute it at one input. -/
def fnExactFlagTextWrong : ChangeSpec := { name := "fnExactFlagText", fn := fun _ => fun
  | [d] => { results := [.lit (.bool false)], args := [d] }
  | _ => none }
def FnExactFlagTextWrongFalsely : Prop := fnExactFlagTextRow.holds Try.pinned (OpenSpec.ofChange fnExactFlagTextWrong)

/-- 'laws.FnChosen': WHATEVER THE INPUT: true; the input reads as it did. -/
def fnChosenSpec : ChangeSpec := { name := "fnChosen", fn := fun _ => fun
  | [d1, d2] => { results := [.lit (.bool true)], args := [d1, d2] }
  | _ => none }
def fnChosenRow : OpenClaim := { program := "ytnghcchkiodalaa", sum := "ee7ee06751f4c2814d048fb1c079af8f58c1153107e7bf01c6a9a0d9b332b6bc", func := "loop.example/g01299/laws.FnChosen", spec := "fnChosen", recurses := true, plainKeys := false, apart := false }
def FnChosenSaid : Prop := fnChosenRow.holds Try.pinned (OpenSpec.ofChange fnChosenSpec)

/-- ITS FALSE NEIGHBOUR: 'it returns false'. Refute it at one input. -/
def fnChosenWrong : ChangeSpec := { name := "fnChosen", fn := fun _ => fun
  | [d1, d2] => { results := [.lit (.bool false)], args := [d1, d2] }
  | _ => none }
def FnChosenWrongFalsely : Prop := fnChosenRow.holds Try.pinned (OpenSpec.ofChange fnChosenWrong)

/- THE SECOND FORM. 'bulk': how many values and letters a reading holds, each counted each time it is reached (what is shared counts as often as it is met; a slice's spare places count too). A statement '..UptoSaid' is the law's where the arguments, and the package variables that the reading takes, are together of bulk at most 1048576: NARROWER than '..Said'. Prove '..Said' where nothing that the law and all that it calls make is longer than what came in: it says more and counts as full. Else prove '..UptoSaid'. A law counts once. -/
mutual
def uptoBulk {H : Type} : DataW H → Nat
  | .lit (.string bytes) => bytes.length + 1
  | .lit _ => 1
  | .nil => 1
  | .ptr d => uptoBulk d + 1
  | .slice elems spare => uptoBulkAll elems + uptoBulkAll spare + 1
  | .agg parts => uptoBulkAll parts + 1
  | .iface _ d => uptoBulk d + 1
  | .map entries => uptoBulkEntries entries + 1
  | .held _ => 1
def uptoBulkAll {H : Type} : List (DataW H) → Nat
  | [] => 0
  | d :: r => uptoBulk d + uptoBulkAll r
def uptoBulkEntries {H : Type} : List (Lit × DataW H) → Nat
  | [] => 0
  | x :: r => uptoBulkEntry x + uptoBulkEntries r
def uptoBulkEntry {H : Type} : Lit × DataW H → Nat
  | (.string bytes, d) => bytes.length + uptoBulk d + 1
  | (_, d) => uptoBulk d + 1
 end
def uptoSmall : (H : Type) → List (DataW H) → Bool := fun _ ds => decide (uptoBulkAll ds ≤ 1048576)
def OpenSpec.upto (s : _root_.Go.ChangeSpec) : _root_.Go.OpenSpec := { _root_.Go.OpenSpec.ofChange s with cond := some uptoSmall }

/-- 'laws.FnExactBlurFlag', WHERE WHAT IT READS IS OF BULK AT MOST 1048576: true; the input reads as it did. -/
def fnExactBlurFlagUptoRow : OpenClaim := { program := "ytnghcchkiodalaa", sum := "ee7ee06751f4c2814d048fb1c079af8f58c1153107e7bf01c6a9a0d9b332b6bc", func := "loop.example/g01299/laws.FnExactBlurFlag", spec := "fnExactBlurFlag", plainKeys := false, apart := false, narrowed := true }
def FnExactBlurFlagUptoSaid : Prop := fnExactBlurFlagUptoRow.holds Try.pinned (OpenSpec.upto fnExactBlurFlagSpec)

/-- 'laws.FnExactBlurDistance', WHERE WHAT IT READS IS OF BULK AT MOST 1048576: true; the input reads as it did. -/
def fnExactBlurDistanceUptoRow : OpenClaim := { program := "ytnghcchkiodalaa", sum := "ee7ee06751f4c2814d048fb1c079af8f58c1153107e7bf01c6a9a0d9b332b6bc", func := "loop.example/g01299/laws.FnExactBlurDistance", spec := "fnExactBlurDistance", plainKeys := false, apart := false, narrowed := true }
def FnExactBlurDistanceUptoSaid : Prop := fnExactBlurDistanceUptoRow.holds Try.pinned (OpenSpec.upto fnExactBlurDistanceSpec)

/-- 'laws.FnExactLooksLike', WHERE WHAT IT READS IS OF BULK AT MOST 1048576: true; the input reads as it did. -/
def fnExactLooksLikeUptoRow : OpenClaim := { program := "ytnghcchkiodalaa", sum := "ee7ee06751f4c2814d048fb1c079af8f58c1153107e7bf01c6a9a0d9b332b6bc", func := "loop.example/g01299/laws.FnExactLooksLike", spec := "fnExactLooksLike", unfollowed := true, recurses := true, plainKeys := false, apart := false, narrowed := true }
def FnExactLooksLikeUptoSaid : Prop := fnExactLooksLikeUptoRow.holds Try.pinned (OpenSpec.upto fnExactLooksLikeSpec)

/-- 'laws.FnExactIsUpsideDown', WHERE WHAT IT READS IS OF BULK AT MOST 1048576: true; the input reads as it did. -/
def fnExactIsUpsideDownUptoRow : OpenClaim := { program := "ytnghcchkiodalaa", sum := "ee7ee06751f4c2814d048fb1c079af8f58c1153107e7bf01c6a9a0d9b332b6bc", func := "loop.example/g01299/laws.FnExactIsUpsideDown", spec := "fnExactIsUpsideDown", unfollowed := true, recurses := true, plainKeys := false, apart := false, narrowed := true }
def FnExactIsUpsideDownUptoSaid : Prop := fnExactIsUpsideDownUptoRow.holds Try.pinned (OpenSpec.upto fnExactIsUpsideDownSpec)

/-- 'laws.FnExactAreDistinct', WHERE WHAT IT READS IS OF BULK AT MOST 1048576: true; the input reads as it did. -/
def fnExactAreDistinctUptoRow : OpenClaim := { program := "ytnghcchkiodalaa", sum := "ee7ee06751f4c2814d048fb1c079af8f58c1153107e7bf01c6a9a0d9b332b6bc", func := "loop.example/g01299/laws.FnExactAreDistinct", spec := "fnExactAreDistinct", plainKeys := false, apart := false, narrowed := true }
def FnExactAreDistinctUptoSaid : Prop := fnExactAreDistinctUptoRow.holds Try.pinned (OpenSpec.upto fnExactAreDistinctSpec)

/-- 'laws.FnExactNearestPair', WHERE WHAT IT READS IS OF BULK AT MOST 1048576: true; the input reads as it did. -/
def fnExactNearestPairUptoRow : OpenClaim := { program := "ytnghcchkiodalaa", sum := "ee7ee06751f4c2814d048fb1c079af8f58c1153107e7bf01c6a9a0d9b332b6bc", func := "loop.example/g01299/laws.FnExactNearestPair", spec := "fnExactNearestPair", plainKeys := false, apart := false, narrowed := true }
def FnExactNearestPairUptoSaid : Prop := fnExactNearestPairUptoRow.holds Try.pinned (OpenSpec.upto fnExactNearestPairSpec)

/-- 'laws.FnExactChooseDistinct', WHERE WHAT IT READS IS OF BULK AT MOST 1048576: true; the input reads as it did. -/
def fnExactChooseDistinctUptoRow : OpenClaim := { program := "ytnghcchkiodalaa", sum := "ee7ee06751f4c2814d048fb1c079af8f58c1153107e7bf01c6a9a0d9b332b6bc", func := "loop.example/g01299/laws.FnExactChooseDistinct", spec := "fnExactChooseDistinct", plainKeys := false, apart := false, narrowed := true }
def FnExactChooseDistinctUptoSaid : Prop := fnExactChooseDistinctUptoRow.holds Try.pinned (OpenSpec.upto fnExactChooseDistinctSpec)

/-- 'laws.FnExactMostDistinct', WHERE WHAT IT READS IS OF BULK AT MOST 1048576: true; the input reads as it did. -/
def fnExactMostDistinctUptoRow : OpenClaim := { program := "ytnghcchkiodalaa", sum := "ee7ee06751f4c2814d048fb1c079af8f58c1153107e7bf01c6a9a0d9b332b6bc", func := "loop.example/g01299/laws.FnExactMostDistinct", spec := "fnExactMostDistinct", recurses := true, plainKeys := false, apart := false, narrowed := true }
def FnExactMostDistinctUptoSaid : Prop := fnExactMostDistinctUptoRow.holds Try.pinned (OpenSpec.upto fnExactMostDistinctSpec)

/-- 'laws.FnExactFlagText', WHERE WHAT IT READS IS OF BULK AT MOST 1048576: true; the input reads as it did. -/
def fnExactFlagTextUptoRow : OpenClaim := { program := "ytnghcchkiodalaa", sum := "ee7ee06751f4c2814d048fb1c079af8f58c1153107e7bf01c6a9a0d9b332b6bc", func := "loop.example/g01299/laws.FnExactFlagText", spec := "fnExactFlagText", inPlace := ["internal/abi.NoEscape"], plainKeys := false, apart := false, narrowed := true }
def FnExactFlagTextUptoSaid : Prop := fnExactFlagTextUptoRow.holds Try.pinned (OpenSpec.upto fnExactFlagTextSpec)

/-- 'laws.FnChosen', WHERE WHAT IT READS IS OF BULK AT MOST 1048576: true; the input reads as it did. -/
def fnChosenUptoRow : OpenClaim := { program := "ytnghcchkiodalaa", sum := "ee7ee06751f4c2814d048fb1c079af8f58c1153107e7bf01c6a9a0d9b332b6bc", func := "loop.example/g01299/laws.FnChosen", spec := "fnChosen", recurses := true, plainKeys := false, apart := false, narrowed := true }
def FnChosenUptoSaid : Prop := fnChosenUptoRow.holds Try.pinned (OpenSpec.upto fnChosenSpec)

end Rows
end Go.Proofs.Ytnghcchkiodalaa
