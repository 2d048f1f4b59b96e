/-
  NARROWER THAN 'FOR EVERY INPUT', by the rows' own cells (each row's printed sentence says how): FnExactTimesOf: laid · FnExactCheckTimes: laid · FnExactUnreached: laid · FnExactAllClosed: laid · FnExactWayToShip: laid · FnExactHauledDown: laid · FnExactLastDown: laid · FnExactClosedUntil: laid · FnExactWithoutShip: laid · FnExactLaterIf: laid · FnExactSlackOf: laid.
  DERIVED. THE GIVEN ROWS OF THIS SEAT. 11 by the template 'for every input the law returns true; each argument reads behind the call as it read before'; 0 by the template 'total and deterministic' (their statements: YtflbjjcpkhldkaaDoorTotals.lean).
  GIVEN WITH THE SEED: the statements are not yours to turn. If you find one false, say at which input.
  Laid BY PROGRAM, IN A SANDBOX (cutbox-rows.mjs): the forced cells as the released guide's own fill.sh prints them over the translation d2976fc5ae8e9e31… (all of the seat's roots in one cut). By AI agents, Wed Nov 11 2026. No macro, syntax, notation, axiom, sorry.
-/
import Derived.Test.YtflbjjcpkhldkaaDoorChecked
import GoSem.Claim
import GoSem.ClaimJoined
import GoSem.ClaimMapViews
import Derived.JoinedTies
import Derived.KernelRfl
namespace Go.Proofs.YtflbjjcpkhldkaaDoor
/- THE CELL 'sum', in the pinned program and in every row, IS THE sha256 OF THE DUMP (.gsa) THAT YtflbjjcpkhldkaaDoorProg.lean LOADS. Nothing in Lean hashes anything: it is a label: what it is worth is what the hold of that sum in a sandbox is worth. -/
noncomputable def Tryd.pinned : Pinned := { name := "ytflbjjcpkhldkaadoor", sum := "d2976fc5ae8e9e314301eb5febcc3c9ebce0b917163f8389299b7f70b72e7603", checked := Tryd.checked }
namespace Rows
def none {H : Type} : Left H := { results := [], args := [] }

/- WHAT THE LISTED PACKAGE-LEVEL VARIABLES READ AS WHEN THE CALL BEGINS. Each datum BY PROGRAM (the guide's laid-datum.mjs) off the statement by which the dump's own 'gosem.cut.vars' lays the variable. In a bare row this is a premise. The card (YtflbjjcpkhldkaaDoorCards.lean) ties it to the program's text. -/
def laid_errors_errorType {H : Type} : DataW H := .iface "internal/reflectlite.rtype" (.agg [.ptr (.lit (.string [101, 114, 114, 111, 114]))])
def laid_loop_example_g01299_impl_never {H : Type} : DataW H := .agg [.lit (.int .i8 (-1)), .lit (.int .i64 (-1)), .lit (.int .i64 (-1)), .lit (.int .i64 (-1))]

/-- 'laws.FnExactTimesOf': WHATEVER THE INPUT: true; the input reads as it did. -/
def fnExactTimesOfSpec : ChangeSpec := { name := "fnExactTimesOf", vars := ["loop.example/g01299/impl.never"], fn := fun _ => fun
  | [d, g1] => { results := [.lit (.bool true)], args := [d], vars := [g1] }
  | _ => none }
def fnExactTimesOfRow : OpenClaim := { program := "ytflbjjcpkhldkaadoor", sum := "d2976fc5ae8e9e314301eb5febcc3c9ebce0b917163f8389299b7f70b72e7603", func := "loop.example/g01299/laws.FnExactTimesOf", spec := "fnExactTimesOf", inPlace := ["internal/reflectlite.ValueOf", "(internal/reflectlite.Value).Type", "(internal/reflectlite.Value).IsNil", "internal/reflectlite.TypeOf", "(internal/reflectlite.Value).Elem", "(internal/reflectlite.Value).Set"], unfollowed := true, recurses := true, named := ["loop.example/g01299/impl.never", "errors.errorType"], apart := false, laid := [("errors.errorType", laid_errors_errorType), ("loop.example/g01299/impl.never", laid_loop_example_g01299_impl_never)] }
def FnExactTimesOfSaid : Prop := fnExactTimesOfRow.holds Tryd.pinned (OpenSpec.ofChange fnExactTimesOfSpec)

/-- ITS FALSE NEIGHBOUR: 'it returns false'. Refute it at one input. -/
def fnExactTimesOfWrong : ChangeSpec := { name := "fnExactTimesOf", vars := ["loop.example/g01299/impl.never"], fn := fun _ => fun
  | [d, g1] => { results := [.lit (.bool false)], args := [d], vars := [g1] }
  | _ => none }
def FnExactTimesOfWrongFalsely : Prop := fnExactTimesOfRow.holds Tryd.pinned (OpenSpec.ofChange fnExactTimesOfWrong)

/-- 'laws.FnExactCheckTimes': WHATEVER THE INPUT: true; the input reads as it did. -/
def fnExactCheckTimesSpec : ChangeSpec := { name := "fnExactCheckTimes", vars := ["loop.example/g01299/impl.never"], fn := fun _ => fun
  | [d1, d2, g1] => { results := [.lit (.bool true)], args := [d1, d2], vars := [g1] }
  | _ => none }
def fnExactCheckTimesRow : OpenClaim := { program := "ytflbjjcpkhldkaadoor", sum := "d2976fc5ae8e9e314301eb5febcc3c9ebce0b917163f8389299b7f70b72e7603", func := "loop.example/g01299/laws.FnExactCheckTimes", spec := "fnExactCheckTimes", inPlace := ["internal/reflectlite.ValueOf", "(internal/reflectlite.Value).Type", "(internal/reflectlite.Value).IsNil", "internal/reflectlite.TypeOf", "(internal/reflectlite.Value).Elem", "(internal/reflectlite.Value).Set"], unfollowed := true, recurses := true, named := ["loop.example/g01299/impl.never", "errors.errorType"], apart := false, laid := [("errors.errorType", laid_errors_errorType), ("loop.example/g01299/impl.never", laid_loop_example_g01299_impl_never)] }
def FnExactCheckTimesSaid : Prop := fnExactCheckTimesRow.holds Tryd.pinned (OpenSpec.ofChange fnExactCheckTimesSpec)

/-- ITS FALSE NEIGHBOUR: 'it returns false'. Refute it at one input. -/
def fnExactCheckTimesWrong : ChangeSpec := { name := "fnExactCheckTimes", vars := ["loop.example/g01299/impl.never"], fn := fun _ => fun
  | [d1, d2, g1] => { results := [.lit (.bool false)], args := [d1, d2], vars := [g1] }
  | _ => none }
def FnExactCheckTimesWrongFalsely : Prop := fnExactCheckTimesRow.holds Tryd.pinned (OpenSpec.ofChange fnExactCheckTimesWrong)

/-- 'laws.FnExactUnreached': WHATEVER THE INPUT: true; the input reads as it did. -/
def fnExactUnreachedSpec : ChangeSpec := { name := "fnExactUnreached", vars := ["loop.example/g01299/impl.never"], fn := fun _ => fun
  | [d, g1] => { results := [.lit (.bool true)], args := [d], vars := [g1] }
  | _ => none }
def fnExactUnreachedRow : OpenClaim := { program := "ytflbjjcpkhldkaadoor", sum := "d2976fc5ae8e9e314301eb5febcc3c9ebce0b917163f8389299b7f70b72e7603", func := "loop.example/g01299/laws.FnExactUnreached", spec := "fnExactUnreached", inPlace := ["internal/reflectlite.ValueOf", "(internal/reflectlite.Value).Type", "(internal/reflectlite.Value).IsNil", "internal/reflectlite.TypeOf", "(internal/reflectlite.Value).Elem", "(internal/reflectlite.Value).Set"], unfollowed := true, recurses := true, named := ["loop.example/g01299/impl.never", "errors.errorType"], apart := false, laid := [("errors.errorType", laid_errors_errorType), ("loop.example/g01299/impl.never", laid_loop_example_g01299_impl_never)] }
def FnExactUnreachedSaid : Prop := fnExactUnreachedRow.holds Tryd.pinned (OpenSpec.ofChange fnExactUnreachedSpec)

/-- ITS FALSE NEIGHBOUR: 'it returns false'. Refute it at one input. -/
def fnExactUnreachedWrong : ChangeSpec := { name := "fnExactUnreached", vars := ["loop.example/g01299/impl.never"], fn := fun _ => fun
  | [d, g1] => { results := [.lit (.bool false)], args := [d], vars := [g1] }
  | _ => none }
def FnExactUnreachedWrongFalsely : Prop := fnExactUnreachedRow.holds Tryd.pinned (OpenSpec.ofChange fnExactUnreachedWrong)

/-- 'laws.FnExactAllClosed': WHATEVER THE INPUT: true; the input reads as it did. -/
def fnExactAllClosedSpec : ChangeSpec := { name := "fnExactAllClosed", vars := ["loop.example/g01299/impl.never"], fn := fun _ => fun
  | [d, g1] => { results := [.lit (.bool true)], args := [d], vars := [g1] }
  | _ => none }
def fnExactAllClosedRow : OpenClaim := { program := "ytflbjjcpkhldkaadoor", sum := "d2976fc5ae8e9e314301eb5febcc3c9ebce0b917163f8389299b7f70b72e7603", func := "loop.example/g01299/laws.FnExactAllClosed", spec := "fnExactAllClosed", inPlace := ["internal/reflectlite.ValueOf", "(internal/reflectlite.Value).Type", "(internal/reflectlite.Value).IsNil", "internal/reflectlite.TypeOf", "(internal/reflectlite.Value).Elem", "(internal/reflectlite.Value).Set"], unfollowed := true, recurses := true, named := ["loop.example/g01299/impl.never", "errors.errorType"], apart := false, laid := [("errors.errorType", laid_errors_errorType), ("loop.example/g01299/impl.never", laid_loop_example_g01299_impl_never)] }
def FnExactAllClosedSaid : Prop := fnExactAllClosedRow.holds Tryd.pinned (OpenSpec.ofChange fnExactAllClosedSpec)

/-- ITS FALSE NEIGHBOUR: 'it returns false'. Refute it at one input. -/
def fnExactAllClosedWrong : ChangeSpec := { name := "fnExactAllClosed", vars := ["loop.example/g01299/impl.never"], fn := fun _ => fun
  | [d, g1] => { results := [.lit (.bool false)], args := [d], vars := [g1] }
  | _ => none }
def FnExactAllClosedWrongFalsely : Prop := fnExactAllClosedRow.holds Tryd.pinned (OpenSpec.ofChange fnExactAllClosedWrong)

/-- 'laws.FnExactWayToShip': WHATEVER THE INPUT: true; the input reads as it did. -/
def fnExactWayToShipSpec : ChangeSpec := { name := "fnExactWayToShip", vars := ["loop.example/g01299/impl.never"], fn := fun _ => fun
  | [d1, d2, g1] => { results := [.lit (.bool true)], args := [d1, d2], vars := [g1] }
  | _ => none }
def fnExactWayToShipRow : OpenClaim := { program := "ytflbjjcpkhldkaadoor", sum := "d2976fc5ae8e9e314301eb5febcc3c9ebce0b917163f8389299b7f70b72e7603", func := "loop.example/g01299/laws.FnExactWayToShip", spec := "fnExactWayToShip", inPlace := ["internal/reflectlite.ValueOf", "(internal/reflectlite.Value).Type", "(internal/reflectlite.Value).IsNil", "internal/reflectlite.TypeOf", "(internal/reflectlite.Value).Elem", "(internal/reflectlite.Value).Set"], unfollowed := true, recurses := true, named := ["loop.example/g01299/impl.never", "errors.errorType"], apart := false, laid := [("errors.errorType", laid_errors_errorType), ("loop.example/g01299/impl.never", laid_loop_example_g01299_impl_never)] }
def FnExactWayToShipSaid : Prop := fnExactWayToShipRow.holds Tryd.pinned (OpenSpec.ofChange fnExactWayToShipSpec)

/-- ITS FALSE NEIGHBOUR: 'it returns false'. Refute it at one input. -/
def fnExactWayToShipWrong : ChangeSpec := { name := "fnExactWayToShip", vars := ["loop.example/g01299/impl.never"], fn := fun _ => fun
  | [d1, d2, g1] => { results := [.lit (.bool false)], args := [d1, d2], vars := [g1] }
  | _ => none }
def FnExactWayToShipWrongFalsely : Prop := fnExactWayToShipRow.holds Tryd.pinned (OpenSpec.ofChange fnExactWayToShipWrong)

/-- 'laws.FnExactHauledDown': WHATEVER THE INPUT: true; the input reads as it did. -/
def fnExactHauledDownSpec : ChangeSpec := { name := "fnExactHauledDown", vars := ["loop.example/g01299/impl.never"], fn := fun _ => fun
  | [d, g1] => { results := [.lit (.bool true)], args := [d], vars := [g1] }
  | _ => none }
def fnExactHauledDownRow : OpenClaim := { program := "ytflbjjcpkhldkaadoor", sum := "d2976fc5ae8e9e314301eb5febcc3c9ebce0b917163f8389299b7f70b72e7603", func := "loop.example/g01299/laws.FnExactHauledDown", spec := "fnExactHauledDown", inPlace := ["internal/reflectlite.ValueOf", "(internal/reflectlite.Value).Type", "(internal/reflectlite.Value).IsNil", "internal/reflectlite.TypeOf", "(internal/reflectlite.Value).Elem", "(internal/reflectlite.Value).Set"], unfollowed := true, recurses := true, named := ["loop.example/g01299/impl.never", "errors.errorType"], apart := false, laid := [("errors.errorType", laid_errors_errorType), ("loop.example/g01299/impl.never", laid_loop_example_g01299_impl_never)] }
def FnExactHauledDownSaid : Prop := fnExactHauledDownRow.holds Tryd.pinned (OpenSpec.ofChange fnExactHauledDownSpec)

/-- ITS FALSE NEIGHBOUR: 'it returns false'. Refute it at one input. -/
def fnExactHauledDownWrong : ChangeSpec := { name := "fnExactHauledDown", vars := ["loop.example/g01299/impl.never"], fn := fun _ => fun
  | [d, g1] => { results := [.lit (.bool false)], args := [d], vars := [g1] }
  | _ => none }
def FnExactHauledDownWrongFalsely : Prop := fnExactHauledDownRow.holds Tryd.pinned (OpenSpec.ofChange fnExactHauledDownWrong)

/-- 'laws.FnExactLastDown': WHATEVER THE INPUT: true; the input reads as it did. -/
def fnExactLastDownSpec : ChangeSpec := { name := "fnExactLastDown", vars := ["loop.example/g01299/impl.never"], fn := fun _ => fun
  | [d, g1] => { results := [.lit (.bool true)], args := [d], vars := [g1] }
  | _ => none }
def fnExactLastDownRow : OpenClaim := { program := "ytflbjjcpkhldkaadoor", sum := "d2976fc5ae8e9e314301eb5febcc3c9ebce0b917163f8389299b7f70b72e7603", func := "loop.example/g01299/laws.FnExactLastDown", spec := "fnExactLastDown", inPlace := ["internal/reflectlite.ValueOf", "(internal/reflectlite.Value).Type", "(internal/reflectlite.Value).IsNil", "internal/reflectlite.TypeOf", "(internal/reflectlite.Value).Elem", "(internal/reflectlite.Value).Set"], unfollowed := true, recurses := true, named := ["loop.example/g01299/impl.never", "errors.errorType"], apart := false, laid := [("errors.errorType", laid_errors_errorType), ("loop.example/g01299/impl.never", laid_loop_example_g01299_impl_never)] }
def FnExactLastDownSaid : Prop := fnExactLastDownRow.holds Tryd.pinned (OpenSpec.ofChange fnExactLastDownSpec)

/-- ITS FALSE NEIGHBOUR: 'it returns false'. Refute it at one input. -/
def fnExactLastDownWrong : ChangeSpec := { name := "fnExactLastDown", vars := ["loop.example/g01299/impl.never"], fn := fun _ => fun
  | [d, g1] => { results := [.lit (.bool false)], args := [d], vars := [g1] }
  | _ => none }
def FnExactLastDownWrongFalsely : Prop := fnExactLastDownRow.holds Tryd.pinned (OpenSpec.ofChange fnExactLastDownWrong)

/-- 'laws.FnExactClosedUntil': WHATEVER THE INPUT: true; the input reads as it did. -/
def fnExactClosedUntilSpec : ChangeSpec := { name := "fnExactClosedUntil", vars := ["loop.example/g01299/impl.never"], fn := fun _ => fun
  | [d1, d2, g1] => { results := [.lit (.bool true)], args := [d1, d2], vars := [g1] }
  | _ => none }
def fnExactClosedUntilRow : OpenClaim := { program := "ytflbjjcpkhldkaadoor", sum := "d2976fc5ae8e9e314301eb5febcc3c9ebce0b917163f8389299b7f70b72e7603", func := "loop.example/g01299/laws.FnExactClosedUntil", spec := "fnExactClosedUntil", inPlace := ["internal/reflectlite.ValueOf", "(internal/reflectlite.Value).Type", "(internal/reflectlite.Value).IsNil", "internal/reflectlite.TypeOf", "(internal/reflectlite.Value).Elem", "(internal/reflectlite.Value).Set"], unfollowed := true, recurses := true, named := ["loop.example/g01299/impl.never", "errors.errorType"], apart := false, laid := [("errors.errorType", laid_errors_errorType), ("loop.example/g01299/impl.never", laid_loop_example_g01299_impl_never)] }
def FnExactClosedUntilSaid : Prop := fnExactClosedUntilRow.holds Tryd.pinned (OpenSpec.ofChange fnExactClosedUntilSpec)

/-- ITS FALSE NEIGHBOUR: 'it returns false'. Refute it at one input. -/
def fnExactClosedUntilWrong : ChangeSpec := { name := "fnExactClosedUntil", vars := ["loop.example/g01299/impl.never"], fn := fun _ => fun
  | [d1, d2, g1] => { results := [.lit (.bool false)], args := [d1, d2], vars := [g1] }
  | _ => none }
def FnExactClosedUntilWrongFalsely : Prop := fnExactClosedUntilRow.holds Tryd.pinned (OpenSpec.ofChange fnExactClosedUntilWrong)

/-- 'laws.FnExactWithoutShip': WHATEVER THE INPUT: true; the input reads as it did. -/
def fnExactWithoutShipSpec : ChangeSpec := { name := "fnExactWithoutShip", vars := ["loop.example/g01299/impl.never"], fn := fun _ => fun
  | [d1, d2, g1] => { results := [.lit (.bool true)], args := [d1, d2], vars := [g1] }
  | _ => none }
def fnExactWithoutShipRow : OpenClaim := { program := "ytflbjjcpkhldkaadoor", sum := "d2976fc5ae8e9e314301eb5febcc3c9ebce0b917163f8389299b7f70b72e7603", func := "loop.example/g01299/laws.FnExactWithoutShip", spec := "fnExactWithoutShip", inPlace := ["internal/reflectlite.ValueOf", "(internal/reflectlite.Value).Type", "(internal/reflectlite.Value).IsNil", "internal/reflectlite.TypeOf", "(internal/reflectlite.Value).Elem", "(internal/reflectlite.Value).Set"], unfollowed := true, recurses := true, named := ["loop.example/g01299/impl.never", "errors.errorType"], apart := false, laid := [("errors.errorType", laid_errors_errorType), ("loop.example/g01299/impl.never", laid_loop_example_g01299_impl_never)] }
def FnExactWithoutShipSaid : Prop := fnExactWithoutShipRow.holds Tryd.pinned (OpenSpec.ofChange fnExactWithoutShipSpec)

/-- ITS FALSE NEIGHBOUR: 'it returns false'. Refute it at one input. -/
def fnExactWithoutShipWrong : ChangeSpec := { name := "fnExactWithoutShip", vars := ["loop.example/g01299/impl.never"], fn := fun _ => fun
  | [d1, d2, g1] => { results := [.lit (.bool false)], args := [d1, d2], vars := [g1] }
  | _ => none }
def FnExactWithoutShipWrongFalsely : Prop := fnExactWithoutShipRow.holds Tryd.pinned (OpenSpec.ofChange fnExactWithoutShipWrong)

/-- 'laws.FnExactLaterIf': WHATEVER THE INPUT: true; the input reads as it did. -/
def fnExactLaterIfSpec : ChangeSpec := { name := "fnExactLaterIf", vars := ["loop.example/g01299/impl.never"], fn := fun _ => fun
  | [d1, d2, d3, g1] => { results := [.lit (.bool true)], args := [d1, d2, d3], vars := [g1] }
  | _ => none }
def fnExactLaterIfRow : OpenClaim := { program := "ytflbjjcpkhldkaadoor", sum := "d2976fc5ae8e9e314301eb5febcc3c9ebce0b917163f8389299b7f70b72e7603", func := "loop.example/g01299/laws.FnExactLaterIf", spec := "fnExactLaterIf", inPlace := ["internal/reflectlite.ValueOf", "(internal/reflectlite.Value).Type", "(internal/reflectlite.Value).IsNil", "internal/reflectlite.TypeOf", "(internal/reflectlite.Value).Elem", "(internal/reflectlite.Value).Set"], unfollowed := true, recurses := true, named := ["loop.example/g01299/impl.never", "errors.errorType"], apart := false, laid := [("errors.errorType", laid_errors_errorType), ("loop.example/g01299/impl.never", laid_loop_example_g01299_impl_never)] }
def FnExactLaterIfSaid : Prop := fnExactLaterIfRow.holds Tryd.pinned (OpenSpec.ofChange fnExactLaterIfSpec)

/-- ITS FALSE NEIGHBOUR: 'it returns false'. Refute it at one input. -/
def fnExactLaterIfWrong : ChangeSpec := { name := "fnExactLaterIf", vars := ["loop.example/g01299/impl.never"], fn := fun _ => fun
  | [d1, d2, d3, g1] => { results := [.lit (.bool false)], args := [d1, d2, d3], vars := [g1] }
  | _ => none }
def FnExactLaterIfWrongFalsely : Prop := fnExactLaterIfRow.holds Tryd.pinned (OpenSpec.ofChange fnExactLaterIfWrong)

/-- 'laws.FnExactSlackOf': WHATEVER THE INPUT: true; the input reads as it did. -/
def fnExactSlackOfSpec : ChangeSpec := { name := "fnExactSlackOf", vars := ["loop.example/g01299/impl.never"], fn := fun _ => fun
  | [d1, d2, g1] => { results := [.lit (.bool true)], args := [d1, d2], vars := [g1] }
  | _ => none }
def fnExactSlackOfRow : OpenClaim := { program := "ytflbjjcpkhldkaadoor", sum := "d2976fc5ae8e9e314301eb5febcc3c9ebce0b917163f8389299b7f70b72e7603", func := "loop.example/g01299/laws.FnExactSlackOf", spec := "fnExactSlackOf", inPlace := ["internal/reflectlite.ValueOf", "(internal/reflectlite.Value).Type", "(internal/reflectlite.Value).IsNil", "internal/reflectlite.TypeOf", "(internal/reflectlite.Value).Elem", "(internal/reflectlite.Value).Set"], unfollowed := true, recurses := true, named := ["loop.example/g01299/impl.never", "errors.errorType"], apart := false, laid := [("errors.errorType", laid_errors_errorType), ("loop.example/g01299/impl.never", laid_loop_example_g01299_impl_never)] }
def FnExactSlackOfSaid : Prop := fnExactSlackOfRow.holds Tryd.pinned (OpenSpec.ofChange fnExactSlackOfSpec)

/-- ITS FALSE NEIGHBOUR: 'it returns false'. Refute it at one input. -/
def fnExactSlackOfWrong : ChangeSpec := { name := "fnExactSlackOf", vars := ["loop.example/g01299/impl.never"], fn := fun _ => fun
  | [d1, d2, g1] => { results := [.lit (.bool false)], args := [d1, d2], vars := [g1] }
  | _ => none }
def FnExactSlackOfWrongFalsely : Prop := fnExactSlackOfRow.holds Tryd.pinned (OpenSpec.ofChange fnExactSlackOfWrong)

/- THE SECOND FORM. 'bulk': how many values and letters a reading holds, each counted each time it is reached (what is shared counts as often as it is met; a slice's spare places count too). A statement '..UptoSaid' is the law's where the arguments, and the package variables that the reading takes, are together of bulk at most 1048576: NARROWER than '..Said'. Prove '..Said' where nothing that the law and all that it calls make is longer than what came in: it says more and counts as full. Else prove '..UptoSaid'. A law counts once. -/
mutual
def uptoBulk {H : Type} : DataW H → Nat
  | .lit (.string bytes) => bytes.length + 1
  | .lit _ => 1
  | .nil => 1
  | .ptr d => uptoBulk d + 1
  | .slice elems spare => uptoBulkAll elems + uptoBulkAll spare + 1
  | .agg parts => uptoBulkAll parts + 1
  | .iface _ d => uptoBulk d + 1
  | .map entries => uptoBulkEntries entries + 1
  | .held _ => 1
def uptoBulkAll {H : Type} : List (DataW H) → Nat
  | [] => 0
  | d :: r => uptoBulk d + uptoBulkAll r
def uptoBulkEntries {H : Type} : List (Lit × DataW H) → Nat
  | [] => 0
  | x :: r => uptoBulkEntry x + uptoBulkEntries r
def uptoBulkEntry {H : Type} : Lit × DataW H → Nat
  | (.string bytes, d) => bytes.length + uptoBulk d + 1
  | (_, d) => uptoBulk d + 1
 end
def uptoSmall : (H : Type) → List (DataW H) → Bool := fun _ ds => decide (uptoBulkAll ds ≤ 1048576)
def OpenSpec.upto (s : _root_.Go.ChangeSpec) : _root_.Go.OpenSpec := { _root_.Go.OpenSpec.ofChange s with cond := some uptoSmall }

/-- 'laws.FnExactTimesOf', WHERE WHAT IT READS IS OF BULK AT MOST 1048576: true; the input reads as it did. -/
def fnExactTimesOfUptoRow : OpenClaim := { program := "ytflbjjcpkhldkaadoor", sum := "d2976fc5ae8e9e314301eb5febcc3c9ebce0b917163f8389299b7f70b72e7603", func := "loop.example/g01299/laws.FnExactTimesOf", spec := "fnExactTimesOf", inPlace := ["internal/reflectlite.ValueOf", "(internal/reflectlite.Value).Type", "(internal/reflectlite.Value).IsNil", "internal/reflectlite.TypeOf", "(internal/reflectlite.Value).Elem", "(internal/reflectlite.Value).Set"], unfollowed := true, recurses := true, named := ["loop.example/g01299/impl.never", "errors.errorType"], apart := false, laid := [("errors.errorType", laid_errors_errorType), ("loop.example/g01299/impl.never", laid_loop_example_g01299_impl_never)], narrowed := true }
def FnExactTimesOfUptoSaid : Prop := fnExactTimesOfUptoRow.holds Tryd.pinned (OpenSpec.upto fnExactTimesOfSpec)

/-- 'laws.FnExactCheckTimes', WHERE WHAT IT READS IS OF BULK AT MOST 1048576: true; the input reads as it did. -/
def fnExactCheckTimesUptoRow : OpenClaim := { program := "ytflbjjcpkhldkaadoor", sum := "d2976fc5ae8e9e314301eb5febcc3c9ebce0b917163f8389299b7f70b72e7603", func := "loop.example/g01299/laws.FnExactCheckTimes", spec := "fnExactCheckTimes", inPlace := ["internal/reflectlite.ValueOf", "(internal/reflectlite.Value).Type", "(internal/reflectlite.Value).IsNil", "internal/reflectlite.TypeOf", "(internal/reflectlite.Value).Elem", "(internal/reflectlite.Value).Set"], unfollowed := true, recurses := true, named := ["loop.example/g01299/impl.never", "errors.errorType"], apart := false, laid := [("errors.errorType", laid_errors_errorType), ("loop.example/g01299/impl.never", laid_loop_example_g01299_impl_never)], narrowed := true }
def FnExactCheckTimesUptoSaid : Prop := fnExactCheckTimesUptoRow.holds Tryd.pinned (OpenSpec.upto fnExactCheckTimesSpec)

/-- 'laws.FnExactUnreached', WHERE WHAT IT READS IS OF BULK AT MOST 1048576: true; the input reads as it did. -/
def fnExactUnreachedUptoRow : OpenClaim := { program := "ytflbjjcpkhldkaadoor", sum := "d2976fc5ae8e9e314301eb5febcc3c9ebce0b917163f8389299b7f70b72e7603", func := "loop.example/g01299/laws.FnExactUnreached", spec := "fnExactUnreached", inPlace := ["internal/reflectlite.ValueOf", "(internal/reflectlite.Value).Type", "(internal/reflectlite.Value).IsNil", "internal/reflectlite.TypeOf", "(internal/reflectlite.Value).Elem", "(internal/reflectlite.Value).Set"], unfollowed := true, recurses := true, named := ["loop.example/g01299/impl.never", "errors.errorType"], apart := false, laid := [("errors.errorType", laid_errors_errorType), ("loop.example/g01299/impl.never", laid_loop_example_g01299_impl_never)], narrowed := true }
def FnExactUnreachedUptoSaid : Prop := fnExactUnreachedUptoRow.holds Tryd.pinned (OpenSpec.upto fnExactUnreachedSpec)

/-- 'laws.FnExactAllClosed', WHERE WHAT IT READS IS OF BULK AT MOST 1048576: true; the input reads as it did. -/
def fnExactAllClosedUptoRow : OpenClaim := { program := "ytflbjjcpkhldkaadoor", sum := "d2976fc5ae8e9e314301eb5febcc3c9ebce0b917163f8389299b7f70b72e7603", func := "loop.example/g01299/laws.FnExactAllClosed", spec := "fnExactAllClosed", inPlace := ["internal/reflectlite.ValueOf", "(internal/reflectlite.Value).Type", "(internal/reflectlite.Value).IsNil", "internal/reflectlite.TypeOf", "(internal/reflectlite.Value).Elem", "(internal/reflectlite.Value).Set"], unfollowed := true, recurses := true, named := ["loop.example/g01299/impl.never", "errors.errorType"], apart := false, laid := [("errors.errorType", laid_errors_errorType), ("loop.example/g01299/impl.never", laid_loop_example_g01299_impl_never)], narrowed := true }
def FnExactAllClosedUptoSaid : Prop := fnExactAllClosedUptoRow.holds Tryd.pinned (OpenSpec.upto fnExactAllClosedSpec)

/-- 'laws.FnExactWayToShip', WHERE WHAT IT READS IS OF BULK AT MOST 1048576: true; the input reads as it did. -/
def fnExactWayToShipUptoRow : OpenClaim := { program := "ytflbjjcpkhldkaadoor", sum := "d2976fc5ae8e9e314301eb5febcc3c9ebce0b917163f8389299b7f70b72e7603", func := "loop.example/g01299/laws.FnExactWayToShip", spec := "fnExactWayToShip", inPlace := ["internal/reflectlite.ValueOf", "(internal/reflectlite.Value).Type", "(internal/reflectlite.Value).IsNil", "internal/reflectlite.TypeOf", "(internal/reflectlite.Value).Elem", "(internal/reflectlite.Value).Set"], unfollowed := true, recurses := true, named := ["loop.example/g01299/impl.never", "errors.errorType"], apart := false, laid := [("errors.errorType", laid_errors_errorType), ("loop.example/g01299/impl.never", laid_loop_example_g01299_impl_never)], narrowed := true }
def FnExactWayToShipUptoSaid : Prop := fnExactWayToShipUptoRow.holds Tryd.pinned (OpenSpec.upto fnExactWayToShipSpec)

/-- 'laws.FnExactHauledDown', WHERE WHAT IT READS IS OF BULK AT MOST 1048576: true; the input reads as it did. -/
def fnExactHauledDownUptoRow : OpenClaim := { program := "ytflbjjcpkhldkaadoor", sum := "d2976fc5ae8e9e314301eb5febcc3c9ebce0b917163f8389299b7f70b72e7603", func := "loop.example/g01299/laws.FnExactHauledDown", spec := "fnExactHauledDown", inPlace := ["internal/reflectlite.ValueOf", "(internal/reflectlite.Value).Type", "(internal/reflectlite.Value).IsNil", "internal/reflectlite.TypeOf", "(internal/reflectlite.Value).Elem", "(internal/reflectlite.Value).Set"], unfollowed := true, recurses := true, named := ["loop.example/g01299/impl.never", "errors.errorType"], apart := false, laid := [("errors.errorType", laid_errors_errorType), ("loop.example/g01299/impl.never", laid_loop_example_g01299_impl_never)], narrowed := true }
def FnExactHauledDownUptoSaid : Prop := fnExactHauledDownUptoRow.holds Tryd.pinned (OpenSpec.upto fnExactHauledDownSpec)

/-- 'laws.FnExactLastDown', WHERE WHAT IT READS IS OF BULK AT MOST 1048576: true; the input reads as it did. -/
def fnExactLastDownUptoRow : OpenClaim := { program := "ytflbjjcpkhldkaadoor", sum := "d2976fc5ae8e9e314301eb5febcc3c9ebce0b917163f8389299b7f70b72e7603", func := "loop.example/g01299/laws.FnExactLastDown", spec := "fnExactLastDown", inPlace := ["internal/reflectlite.ValueOf", "(internal/reflectlite.Value).Type", "(internal/reflectlite.Value).IsNil", "internal/reflectlite.TypeOf", "(internal/reflectlite.Value).Elem", "(internal/reflectlite.Value).Set"], unfollowed := true, recurses := true, named := ["loop.example/g01299/impl.never", "errors.errorType"], apart := false, laid := [("errors.errorType", laid_errors_errorType), ("loop.example/g01299/impl.never", laid_loop_example_g01299_impl_never)], narrowed := true }
def FnExactLastDownUptoSaid : Prop := fnExactLastDownUptoRow.holds Tryd.pinned (OpenSpec.upto fnExactLastDownSpec)

/-- 'laws.FnExactClosedUntil', WHERE WHAT IT READS IS OF BULK AT MOST 1048576: true; the input reads as it did. -/
def fnExactClosedUntilUptoRow : OpenClaim := { program := "ytflbjjcpkhldkaadoor", sum := "d2976fc5ae8e9e314301eb5febcc3c9ebce0b917163f8389299b7f70b72e7603", func := "loop.example/g01299/laws.FnExactClosedUntil", spec := "fnExactClosedUntil", inPlace := ["internal/reflectlite.ValueOf", "(internal/reflectlite.Value).Type", "(internal/reflectlite.Value).IsNil", "internal/reflectlite.TypeOf", "(internal/reflectlite.Value).Elem", "(internal/reflectlite.Value).Set"], unfollowed := true, recurses := true, named := ["loop.example/g01299/impl.never", "errors.errorType"], apart := false, laid := [("errors.errorType", laid_errors_errorType), ("loop.example/g01299/impl.never", laid_loop_example_g01299_impl_never)], narrowed := true }
def FnExactClosedUntilUptoSaid : Prop := fnExactClosedUntilUptoRow.holds Tryd.pinned (OpenSpec.upto fnExactClosedUntilSpec)

/-- 'laws.FnExactWithoutShip', WHERE WHAT IT READS IS OF BULK AT MOST 1048576: true; the input reads as it did. -/
def fnExactWithoutShipUptoRow : OpenClaim := { program := "ytflbjjcpkhldkaadoor", sum := "d2976fc5ae8e9e314301eb5febcc3c9ebce0b917163f8389299b7f70b72e7603", func := "loop.example/g01299/laws.FnExactWithoutShip", spec := "fnExactWithoutShip", inPlace := ["internal/reflectlite.ValueOf", "(internal/reflectlite.Value).Type", "(internal/reflectlite.Value).IsNil", "internal/reflectlite.TypeOf", "(internal/reflectlite.Value).Elem", "(internal/reflectlite.Value).Set"], unfollowed := true, recurses := true, named := ["loop.example/g01299/impl.never", "errors.errorType"], apart := false, laid := [("errors.errorType", laid_errors_errorType), ("loop.example/g01299/impl.never", laid_loop_example_g01299_impl_never)], narrowed := true }
def FnExactWithoutShipUptoSaid : Prop := fnExactWithoutShipUptoRow.holds Tryd.pinned (OpenSpec.upto fnExactWithoutShipSpec)

/-- 'laws.FnExactLaterIf', WHERE WHAT IT READS IS OF BULK AT MOST 1048576: true; the input reads as it did. -/
def fnExactLaterIfUptoRow : OpenClaim := { program := "ytflbjjcpkhldkaadoor", sum := "d2976fc5ae8e9e314301eb5febcc3c9ebce0b917163f8389299b7f70b72e7603", func := "loop.example/g01299/laws.FnExactLaterIf", spec := "fnExactLaterIf", inPlace := ["internal/reflectlite.ValueOf", "(internal/reflectlite.Value).Type", "(internal/reflectlite.Value).IsNil", "internal/reflectlite.TypeOf", "(internal/reflectlite.Value).Elem", "(internal/reflectlite.Value).Set"], unfollowed := true, recurses := true, named := ["loop.example/g01299/impl.never", "errors.errorType"], apart := false, laid := [("errors.errorType", laid_errors_errorType), ("loop.example/g01299/impl.never", laid_loop_example_g01299_impl_never)], narrowed := true }
def FnExactLaterIfUptoSaid : Prop := fnExactLaterIfUptoRow.holds Tryd.pinned (OpenSpec.upto fnExactLaterIfSpec)

/-- 'laws.FnExactSlackOf', WHERE WHAT IT READS IS OF BULK AT MOST 1048576: true; the input reads as it did. -/
def fnExactSlackOfUptoRow : OpenClaim := { program := "ytflbjjcpkhldkaadoor", sum := "d2976fc5ae8e9e314301eb5febcc3c9ebce0b917163f8389299b7f70b72e7603", func := "loop.example/g01299/laws.FnExactSlackOf", spec := "fnExactSlackOf", inPlace := ["internal/reflectlite.ValueOf", "(internal/reflectlite.Value).Type", "(internal/reflectlite.Value).IsNil", "internal/reflectlite.TypeOf", "(internal/reflectlite.Value).Elem", "(internal/reflectlite.Value).Set"], unfollowed := true, recurses := true, named := ["loop.example/g01299/impl.never", "errors.errorType"], apart := false, laid := [("errors.errorType", laid_errors_errorType), ("loop.example/g01299/impl.never", laid_loop_example_g01299_impl_never)], narrowed := true }
def FnExactSlackOfUptoSaid : Prop := fnExactSlackOfUptoRow.holds Tryd.pinned (OpenSpec.upto fnExactSlackOfSpec)

end Rows
end Go.Proofs.YtflbjjcpkhldkaaDoor
