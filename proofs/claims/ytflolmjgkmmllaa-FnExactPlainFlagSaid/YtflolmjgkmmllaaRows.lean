/-
  No cell of these rows narrows 'for every input' (looked for: loops, veiled, ifaces, maps, wideKeys, modest, calm, conditions, laid).
  DERIVED. THE GIVEN ROWS OF THIS SEAT. 8 by the template 'for every input the law returns true; each argument reads behind the call as it read before'; 0 by the template 'total and deterministic' (their statements: YtflolmjgkmmllaaTotals.lean).
  GIVEN WITH THE SEED: the statements are not yours to turn. If you find one false, say at which input.
  Laid BY PROGRAM, IN A SANDBOX (cutbox-rows.mjs): the forced cells as the released guide's own fill.sh prints them over the translation 4f1ed92ccea2e633… (all of the seat's roots in one cut). By AI agents, Wed Nov 11 2026. No macro, syntax, notation, axiom, sorry.
-/
import Derived.Test.YtflolmjgkmmllaaChecked
import GoSem.Claim
import GoSem.ClaimJoined
import GoSem.ClaimMapViews
import Derived.JoinedTies
import Derived.KernelRfl
namespace Go.Proofs.Ytflolmjgkmmllaa
/- THE CELL 'sum', in the pinned program and in every row, IS THE sha256 OF THE DUMP (.gsa) THAT YtflolmjgkmmllaaProg.lean LOADS. Nothing in Lean hashes anything: it is a label: what it is worth is what the hold of that sum in a sandbox is worth. -/
noncomputable def Try.pinned : Pinned := { name := "ytflolmjgkmmllaa", sum := "4f1ed92ccea2e6338c620440087d990fb1d5918c900da3e536c5acc12caa1bbd", checked := Try.checked }
namespace Rows
def none {H : Type} : Left H := { results := [], args := [] }

/-- 'laws.FnChosen': WHATEVER THE INPUT: true; the input reads as it did. -/
def fnChosenSpec : ChangeSpec := { name := "fnChosen", fn := fun _ => fun
  | [d1, d2] => { results := [.lit (.bool true)], args := [d1, d2] }
  | _ => none }
def fnChosenRow : OpenClaim := { program := "ytflolmjgkmmllaa", sum := "4f1ed92ccea2e6338c620440087d990fb1d5918c900da3e536c5acc12caa1bbd", func := "loop.example/g01299/laws.FnChosen", spec := "fnChosen", recurses := true, plainKeys := false, apart := false }
def FnChosenSaid : Prop := fnChosenRow.holds Try.pinned (OpenSpec.ofChange fnChosenSpec)

/-- ITS FALSE NEIGHBOUR: 'it returns false'. Refute it at one input. -/
def fnChosenWrong : ChangeSpec := { name := "fnChosen", fn := fun _ => fun
  | [d1, d2] => { results := [.lit (.bool false)], args := [d1, d2] }
  | _ => none }
def FnChosenWrongFalsely : Prop := fnChosenRow.holds Try.pinned (OpenSpec.ofChange fnChosenWrong)

/-- 'laws.FnExactValidFlag': WHATEVER THE INPUT: true; the input reads as it did. -/
def fnExactValidFlagSpec : ChangeSpec := { name := "fnExactValidFlag", fn := fun _ => fun
  | [d] => { results := [.lit (.bool true)], args := [d] }
  | _ => none }
def fnExactValidFlagRow : OpenClaim := { program := "ytflolmjgkmmllaa", sum := "4f1ed92ccea2e6338c620440087d990fb1d5918c900da3e536c5acc12caa1bbd", func := "loop.example/g01299/laws.FnExactValidFlag", spec := "fnExactValidFlag", plainKeys := false, apart := false }
def FnExactValidFlagSaid : Prop := fnExactValidFlagRow.holds Try.pinned (OpenSpec.ofChange fnExactValidFlagSpec)

/-- ITS FALSE NEIGHBOUR: 'it returns false'. Refute it at one input. -/
def fnExactValidFlagWrong : ChangeSpec := { name := "fnExactValidFlag", fn := fun _ => fun
  | [d] => { results := [.lit (.bool false)], args := [d] }
  | _ => none }
def FnExactValidFlagWrongFalsely : Prop := fnExactValidFlagRow.holds Try.pinned (OpenSpec.ofChange fnExactValidFlagWrong)

/-- 'laws.FnExactPlainFlag': WHATEVER THE INPUT: true; the input reads as it did. -/
def fnExactPlainFlagSpec : ChangeSpec := { name := "fnExactPlainFlag", fn := fun _ => fun
  | [d] => { results := [.lit (.bool true)], args := [d] }
  | _ => none }
def fnExactPlainFlagRow : OpenClaim := { program := "ytflolmjgkmmllaa", sum := "4f1ed92ccea2e6338c620440087d990fb1d5918c900da3e536c5acc12caa1bbd", func := "loop.example/g01299/laws.FnExactPlainFlag", spec := "fnExactPlainFlag", unfollowed := true, recurses := true, plainKeys := false, apart := false }
def FnExactPlainFlagSaid : Prop := fnExactPlainFlagRow.holds Try.pinned (OpenSpec.ofChange fnExactPlainFlagSpec)

/-- ITS FALSE NEIGHBOUR: 'it returns false'. Refute it at one input. -/
def fnExactPlainFlagWrong : ChangeSpec := { name := "fnExactPlainFlag", fn := fun _ => fun
  | [d] => { results := [.lit (.bool false)], args := [d] }
  | _ => none }
def FnExactPlainFlagWrongFalsely : Prop := fnExactPlainFlagRow.holds Try.pinned (OpenSpec.ofChange fnExactPlainFlagWrong)

/-- 'laws.FnExactStripesOf': WHATEVER THE INPUT: true; the input reads as it did. -/
def fnExactStripesOfSpec : ChangeSpec := { name := "fnExactStripesOf", fn := fun _ => fun
  | [d1, d2] => { results := [.lit (.bool true)], args := [d1, d2] }
  | _ => none }
def fnExactStripesOfRow : OpenClaim := { program := "ytflolmjgkmmllaa", sum := "4f1ed92ccea2e6338c620440087d990fb1d5918c900da3e536c5acc12caa1bbd", func := "loop.example/g01299/laws.FnExactStripesOf", spec := "fnExactStripesOf", unfollowed := true, recurses := true, plainKeys := false, apart := false }
def FnExactStripesOfSaid : Prop := fnExactStripesOfRow.holds Try.pinned (OpenSpec.ofChange fnExactStripesOfSpec)

/-- ITS FALSE NEIGHBOUR: 'it returns false'. Refute it at one input. -/
def fnExactStripesOfWrong : ChangeSpec := { name := "fnExactStripesOf", fn := fun _ => fun
  | [d1, d2] => { results := [.lit (.bool false)], args := [d1, d2] }
  | _ => none }
def FnExactStripesOfWrongFalsely : Prop := fnExactStripesOfRow.holds Try.pinned (OpenSpec.ofChange fnExactStripesOfWrong)

/-- 'laws.FnExactCrossOf': WHATEVER THE INPUT: true; the input reads as it did. -/
def fnExactCrossOfSpec : ChangeSpec := { name := "fnExactCrossOf", fn := fun _ => fun
  | [d1, d2] => { results := [.lit (.bool true)], args := [d1, d2] }
  | _ => none }
def fnExactCrossOfRow : OpenClaim := { program := "ytflolmjgkmmllaa", sum := "4f1ed92ccea2e6338c620440087d990fb1d5918c900da3e536c5acc12caa1bbd", func := "loop.example/g01299/laws.FnExactCrossOf", spec := "fnExactCrossOf", unfollowed := true, recurses := true, plainKeys := false, apart := false }
def FnExactCrossOfSaid : Prop := fnExactCrossOfRow.holds Try.pinned (OpenSpec.ofChange fnExactCrossOfSpec)

/-- ITS FALSE NEIGHBOUR: 'it returns false'. Refute it at one input. -/
def fnExactCrossOfWrong : ChangeSpec := { name := "fnExactCrossOf", fn := fun _ => fun
  | [d1, d2] => { results := [.lit (.bool false)], args := [d1, d2] }
  | _ => none }
def FnExactCrossOfWrongFalsely : Prop := fnExactCrossOfRow.holds Try.pinned (OpenSpec.ofChange fnExactCrossOfWrong)

/-- 'laws.FnExactBorderOf': WHATEVER THE INPUT: true; the input reads as it did. -/
def fnExactBorderOfSpec : ChangeSpec := { name := "fnExactBorderOf", fn := fun _ => fun
  | [d1, d2] => { results := [.lit (.bool true)], args := [d1, d2] }
  | _ => none }
def fnExactBorderOfRow : OpenClaim := { program := "ytflolmjgkmmllaa", sum := "4f1ed92ccea2e6338c620440087d990fb1d5918c900da3e536c5acc12caa1bbd", func := "loop.example/g01299/laws.FnExactBorderOf", spec := "fnExactBorderOf", unfollowed := true, recurses := true, plainKeys := false, apart := false }
def FnExactBorderOfSaid : Prop := fnExactBorderOfRow.holds Try.pinned (OpenSpec.ofChange fnExactBorderOfSpec)

/-- ITS FALSE NEIGHBOUR: 'it returns false'. Refute it at one input. -/
def fnExactBorderOfWrong : ChangeSpec := { name := "fnExactBorderOf", fn := fun _ => fun
  | [d1, d2] => { results := [.lit (.bool false)], args := [d1, d2] }
  | _ => none }
def FnExactBorderOfWrongFalsely : Prop := fnExactBorderOfRow.holds Try.pinned (OpenSpec.ofChange fnExactBorderOfWrong)

/-- 'laws.FnExactChequersOf': WHATEVER THE INPUT: true; the input reads as it did. -/
def fnExactChequersOfSpec : ChangeSpec := { name := "fnExactChequersOf", fn := fun _ => fun
  | [d1, d2] => { results := [.lit (.bool true)], args := [d1, d2] }
  | _ => none }
def fnExactChequersOfRow : OpenClaim := { program := "ytflolmjgkmmllaa", sum := "4f1ed92ccea2e6338c620440087d990fb1d5918c900da3e536c5acc12caa1bbd", func := "loop.example/g01299/laws.FnExactChequersOf", spec := "fnExactChequersOf", unfollowed := true, recurses := true, plainKeys := false, apart := false }
def FnExactChequersOfSaid : Prop := fnExactChequersOfRow.holds Try.pinned (OpenSpec.ofChange fnExactChequersOfSpec)

/-- ITS FALSE NEIGHBOUR: 'it returns false'. Refute it at one input. -/
def fnExactChequersOfWrong : ChangeSpec := { name := "fnExactChequersOf", fn := fun _ => fun
  | [d1, d2] => { results := [.lit (.bool false)], args := [d1, d2] }
  | _ => none }
def FnExactChequersOfWrongFalsely : Prop := fnExactChequersOfRow.holds Try.pinned (OpenSpec.ofChange fnExactChequersOfWrong)

/-- 'laws.FnExactPaintCell': WHATEVER THE INPUT: true; the input reads as it did. -/
def fnExactPaintCellSpec : ChangeSpec := { name := "fnExactPaintCell", fn := fun _ => fun
  | [d1, d2, d3, d4] => { results := [.lit (.bool true)], args := [d1, d2, d3, d4] }
  | _ => none }
def fnExactPaintCellRow : OpenClaim := { program := "ytflolmjgkmmllaa", sum := "4f1ed92ccea2e6338c620440087d990fb1d5918c900da3e536c5acc12caa1bbd", func := "loop.example/g01299/laws.FnExactPaintCell", spec := "fnExactPaintCell", plainKeys := false, apart := false }
def FnExactPaintCellSaid : Prop := fnExactPaintCellRow.holds Try.pinned (OpenSpec.ofChange fnExactPaintCellSpec)

/-- ITS FALSE NEIGHBOUR: 'it returns false'. Refute it at one input. -/
def fnExactPaintCellWrong : ChangeSpec := { name := "fnExactPaintCell", fn := fun _ => fun
  | [d1, d2, d3, d4] => { results := [.lit (.bool false)], args := [d1, d2, d3, d4] }
  | _ => none }
def FnExactPaintCellWrongFalsely : Prop := fnExactPaintCellRow.holds Try.pinned (OpenSpec.ofChange fnExactPaintCellWrong)

/- THE SECOND FORM. 'bulk': how many values and letters a reading holds, each counted each time it is reached (what is shared counts as often as it is met; a slice's spare places count too). A statement '..UptoSaid' is the law's where the arguments, and the package variables that the reading takes, are together of bulk at most 1048576: NARROWER than '..Said'. Prove '..Said' where nothing that the law and all that it calls make is longer than what came in: it says more and counts as full. Else prove '..UptoSaid'. A law counts once. -/
mutual
def uptoBulk {H : Type} : DataW H → Nat
  | .lit (.string bytes) => bytes.length + 1
  | .lit _ => 1
  | .nil => 1
  | .ptr d => uptoBulk d + 1
  | .slice elems spare => uptoBulkAll elems + uptoBulkAll spare + 1
  | .agg parts => uptoBulkAll parts + 1
  | .iface _ d => uptoBulk d + 1
  | .map entries => uptoBulkEntries entries + 1
  | .held _ => 1
def uptoBulkAll {H : Type} : List (DataW H) → Nat
  | [] => 0
  | d :: r => uptoBulk d + uptoBulkAll r
def uptoBulkEntries {H : Type} : List (Lit × DataW H) → Nat
  | [] => 0
  | x :: r => uptoBulkEntry x + uptoBulkEntries r
def uptoBulkEntry {H : Type} : Lit × DataW H → Nat
  | (.string bytes, d) => bytes.length + uptoBulk d + 1
  | (_, d) => uptoBulk d + 1
 end
def uptoSmall : (H : Type) → List (DataW H) → Bool := fun _ ds => decide (uptoBulkAll ds ≤ 1048576)
def OpenSpec.upto (s : _root_.Go.ChangeSpec) : _root_.Go.OpenSpec := { _root_.Go.OpenSpec.ofChange s with cond := some uptoSmall }

/-- 'laws.FnChosen', WHERE WHAT IT READS IS OF BULK AT MOST 1048576: true; the input reads as it did. -/
def fnChosenUptoRow : OpenClaim := { program := "ytflolmjgkmmllaa", sum := "4f1ed92ccea2e6338c620440087d990fb1d5918c900da3e536c5acc12caa1bbd", func := "loop.example/g01299/laws.FnChosen", spec := "fnChosen", recurses := true, plainKeys := false, apart := false, narrowed := true }
def FnChosenUptoSaid : Prop := fnChosenUptoRow.holds Try.pinned (OpenSpec.upto fnChosenSpec)

/-- 'laws.FnExactValidFlag', WHERE WHAT IT READS IS OF BULK AT MOST 1048576: true; the input reads as it did. -/
def fnExactValidFlagUptoRow : OpenClaim := { program := "ytflolmjgkmmllaa", sum := "4f1ed92ccea2e6338c620440087d990fb1d5918c900da3e536c5acc12caa1bbd", func := "loop.example/g01299/laws.FnExactValidFlag", spec := "fnExactValidFlag", plainKeys := false, apart := false, narrowed := true }
def FnExactValidFlagUptoSaid : Prop := fnExactValidFlagUptoRow.holds Try.pinned (OpenSpec.upto fnExactValidFlagSpec)

/-- 'laws.FnExactPlainFlag', WHERE WHAT IT READS IS OF BULK AT MOST 1048576: true; the input reads as it did. -/
def fnExactPlainFlagUptoRow : OpenClaim := { program := "ytflolmjgkmmllaa", sum := "4f1ed92ccea2e6338c620440087d990fb1d5918c900da3e536c5acc12caa1bbd", func := "loop.example/g01299/laws.FnExactPlainFlag", spec := "fnExactPlainFlag", unfollowed := true, recurses := true, plainKeys := false, apart := false, narrowed := true }
def FnExactPlainFlagUptoSaid : Prop := fnExactPlainFlagUptoRow.holds Try.pinned (OpenSpec.upto fnExactPlainFlagSpec)

/-- 'laws.FnExactStripesOf', WHERE WHAT IT READS IS OF BULK AT MOST 1048576: true; the input reads as it did. -/
def fnExactStripesOfUptoRow : OpenClaim := { program := "ytflolmjgkmmllaa", sum := "4f1ed92ccea2e6338c620440087d990fb1d5918c900da3e536c5acc12caa1bbd", func := "loop.example/g01299/laws.FnExactStripesOf", spec := "fnExactStripesOf", unfollowed := true, recurses := true, plainKeys := false, apart := false, narrowed := true }
def FnExactStripesOfUptoSaid : Prop := fnExactStripesOfUptoRow.holds Try.pinned (OpenSpec.upto fnExactStripesOfSpec)

/-- 'laws.FnExactCrossOf', WHERE WHAT IT READS IS OF BULK AT MOST 1048576: true; the input reads as it did. -/
def fnExactCrossOfUptoRow : OpenClaim := { program := "ytflolmjgkmmllaa", sum := "4f1ed92ccea2e6338c620440087d990fb1d5918c900da3e536c5acc12caa1bbd", func := "loop.example/g01299/laws.FnExactCrossOf", spec := "fnExactCrossOf", unfollowed := true, recurses := true, plainKeys := false, apart := false, narrowed := true }
def FnExactCrossOfUptoSaid : Prop := fnExactCrossOfUptoRow.holds Try.pinned (OpenSpec.upto fnExactCrossOfSpec)

/-- 'laws.FnExactBorderOf', WHERE WHAT IT READS IS OF BULK AT MOST 1048576: true; the input reads as it did. -/
def fnExactBorderOfUptoRow : OpenClaim := { program := "ytflolmjgkmmllaa", sum := "4f1ed92ccea2e6338c620440087d990fb1d5918c900da3e536c5acc12caa1bbd", func := "loop.example/g01299/laws.FnExactBorderOf", spec := "fnExactBorderOf", unfollowed := true, recurses := true, plainKeys := false, apart := false, narrowed := true }
def FnExactBorderOfUptoSaid : Prop := fnExactBorderOfUptoRow.holds Try.pinned (OpenSpec.upto fnExactBorderOfSpec)

/-- 'laws.FnExactChequersOf', WHERE WHAT IT READS IS OF BULK AT MOST 1048576: true; the input reads as it did. -/
def fnExactChequersOfUptoRow : OpenClaim := { program := "ytflolmjgkmmllaa", sum := "4f1ed92ccea2e6338c620440087d990fb1d5918c900da3e536c5acc12caa1bbd", func := "loop.example/g01299/laws.FnExactChequersOf", spec := "fnExactChequersOf", unfollowed := true, recurses := true, plainKeys := false, apart := false, narrowed := true }
def FnExactChequersOfUptoSaid : Prop := fnExactChequersOfUptoRow.holds Try.pinned (OpenSpec.upto fnExactChequersOfSpec)

/-- 'laws.FnExactPaintCell', WHERE WHAT IT READS IS OF BULK AT MOST 1048576: true; the input reads as it did. -/
def fnExactPaintCellUptoRow : OpenClaim := { program := "ytflolmjgkmmllaa", sum := "4f1ed92ccea2e6338c620440087d990fb1d5918c900da3e536c5acc12caa1bbd", func := "loop.example/g01299/laws.FnExactPaintCell", spec := "fnExactPaintCell", plainKeys := false, apart := false, narrowed := true }
def FnExactPaintCellUptoSaid : Prop := fnExactPaintCellUptoRow.holds Try.pinned (OpenSpec.upto fnExactPaintCellSpec)

end Rows
end Go.Proofs.Ytflolmjgkmmllaa
