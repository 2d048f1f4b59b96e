/-
  NARROWER THAN 'FOR EVERY INPUT', by the rows' own cells (each row's printed sentence says how): FnExactExecutedIn: laid · FnExactLongestUp: laid · FnExactShiftLog: laid · FnExactCommonOf: laid · FnExactFaultsOf: laid · FnExactStoryOf: laid · FnExactCheckStory: laid · FnExactMissedIn: laid · FnExactMisreadIn: laid · FnExactSpreadOf: laid · FnExactOffsetOf: laid · FnExactLateShips: laid.
  DERIVED. THE GIVEN ROWS OF THIS SEAT. 12 by the template 'for every input the law returns true; each argument reads behind the call as it read before'; 0 by the template 'total and deterministic' (their statements: YtlgfibiggiknjaaDoorTotals.lean).
  GIVEN WITH THE SEED: the statements are not yours to turn. If you find one false, say at which input.
  Laid BY PROGRAM, IN A SANDBOX (cutbox-rows.mjs): the forced cells as the released guide's own fill.sh prints them over the translation 9979076712e8fd5c… (all of the seat's roots in one cut). By AI agents, Wed Nov 11 2026. No macro, syntax, notation, axiom, sorry.
-/
import Derived.Test.YtlgfibiggiknjaaDoorChecked
import GoSem.Claim
import GoSem.ClaimJoined
import GoSem.ClaimMapViews
import Derived.JoinedTies
import Derived.KernelRfl
namespace Go.Proofs.YtlgfibiggiknjaaDoor
/- THE CELL 'sum', in the pinned program and in every row, IS THE sha256 OF THE DUMP (.gsa) THAT YtlgfibiggiknjaaDoorProg.lean LOADS. Nothing in Lean hashes anything: it is a label: what it is worth is what the hold of that sum in a sandbox is worth. -/
noncomputable def Tryd.pinned : Pinned := { name := "ytlgfibiggiknjaadoor", sum := "9979076712e8fd5c2420591b13c3e778e0a6860683b360c73cbb6a1bdc8cba90", checked := Tryd.checked }
namespace Rows
def none {H : Type} : Left H := { results := [], args := [] }

/- WHAT THE LISTED PACKAGE-LEVEL VARIABLES READ AS WHEN THE CALL BEGINS. Each datum BY PROGRAM (the guide's laid-datum.mjs) off the statement by which the dump's own 'gosem.cut.vars' lays the variable. In a bare row this is a premise. The card (YtlgfibiggiknjaaDoorCards.lean) ties it to the program's text. -/
def laid_errors_errorType {H : Type} : DataW H := .iface "internal/reflectlite.rtype" (.agg [.ptr (.lit (.string [101, 114, 114, 111, 114]))])

/-- 'laws.FnExactExecutedIn': WHATEVER THE INPUT: true; the input reads as it did. -/
def fnExactExecutedInSpec : ChangeSpec := { name := "fnExactExecutedIn", fn := fun _ => fun
  | [d] => { results := [.lit (.bool true)], args := [d] }
  | _ => none }
def fnExactExecutedInRow : OpenClaim := { program := "ytlgfibiggiknjaadoor", sum := "9979076712e8fd5c2420591b13c3e778e0a6860683b360c73cbb6a1bdc8cba90", func := "loop.example/g01299/laws.FnExactExecutedIn", spec := "fnExactExecutedIn", inPlace := ["internal/reflectlite.ValueOf", "(internal/reflectlite.Value).Type", "(internal/reflectlite.Value).IsNil", "internal/reflectlite.TypeOf", "(internal/reflectlite.Value).Elem", "(internal/reflectlite.Value).Set"], unfollowed := true, recurses := true, named := ["errors.errorType"], apart := false, laid := [("errors.errorType", laid_errors_errorType)] }
def FnExactExecutedInSaid : Prop := fnExactExecutedInRow.holds Tryd.pinned (OpenSpec.ofChange fnExactExecutedInSpec)

/-- ITS FALSE NEIGHBOUR: 'it returns false'. Refute it at one input. -/
def fnExactExecutedInWrong : ChangeSpec := { name := "fnExactExecutedIn", fn := fun _ => fun
  | [d] => { results := [.lit (.bool false)], args := [d] }
  | _ => none }
def FnExactExecutedInWrongFalsely : Prop := fnExactExecutedInRow.holds Tryd.pinned (OpenSpec.ofChange fnExactExecutedInWrong)

/-- 'laws.FnExactLongestUp': WHATEVER THE INPUT: true; the input reads as it did. -/
def fnExactLongestUpSpec : ChangeSpec := { name := "fnExactLongestUp", fn := fun _ => fun
  | [d] => { results := [.lit (.bool true)], args := [d] }
  | _ => none }
def fnExactLongestUpRow : OpenClaim := { program := "ytlgfibiggiknjaadoor", sum := "9979076712e8fd5c2420591b13c3e778e0a6860683b360c73cbb6a1bdc8cba90", func := "loop.example/g01299/laws.FnExactLongestUp", spec := "fnExactLongestUp", inPlace := ["internal/reflectlite.ValueOf", "(internal/reflectlite.Value).Type", "(internal/reflectlite.Value).IsNil", "internal/reflectlite.TypeOf", "(internal/reflectlite.Value).Elem", "(internal/reflectlite.Value).Set"], unfollowed := true, recurses := true, named := ["errors.errorType"], apart := false, laid := [("errors.errorType", laid_errors_errorType)] }
def FnExactLongestUpSaid : Prop := fnExactLongestUpRow.holds Tryd.pinned (OpenSpec.ofChange fnExactLongestUpSpec)

/-- ITS FALSE NEIGHBOUR: 'it returns false'. Refute it at one input. -/
def fnExactLongestUpWrong : ChangeSpec := { name := "fnExactLongestUp", fn := fun _ => fun
  | [d] => { results := [.lit (.bool false)], args := [d] }
  | _ => none }
def FnExactLongestUpWrongFalsely : Prop := fnExactLongestUpRow.holds Tryd.pinned (OpenSpec.ofChange fnExactLongestUpWrong)

/-- 'laws.FnExactShiftLog': WHATEVER THE INPUT: true; the input reads as it did. -/
def fnExactShiftLogSpec : ChangeSpec := { name := "fnExactShiftLog", fn := fun _ => fun
  | [d1, d2] => { results := [.lit (.bool true)], args := [d1, d2] }
  | _ => none }
def fnExactShiftLogRow : OpenClaim := { program := "ytlgfibiggiknjaadoor", sum := "9979076712e8fd5c2420591b13c3e778e0a6860683b360c73cbb6a1bdc8cba90", func := "loop.example/g01299/laws.FnExactShiftLog", spec := "fnExactShiftLog", inPlace := ["internal/reflectlite.ValueOf", "(internal/reflectlite.Value).Type", "(internal/reflectlite.Value).IsNil", "internal/reflectlite.TypeOf", "(internal/reflectlite.Value).Elem", "(internal/reflectlite.Value).Set"], unfollowed := true, recurses := true, named := ["errors.errorType"], apart := false, laid := [("errors.errorType", laid_errors_errorType)] }
def FnExactShiftLogSaid : Prop := fnExactShiftLogRow.holds Tryd.pinned (OpenSpec.ofChange fnExactShiftLogSpec)

/-- ITS FALSE NEIGHBOUR: 'it returns false'. Refute it at one input. -/
def fnExactShiftLogWrong : ChangeSpec := { name := "fnExactShiftLog", fn := fun _ => fun
  | [d1, d2] => { results := [.lit (.bool false)], args := [d1, d2] }
  | _ => none }
def FnExactShiftLogWrongFalsely : Prop := fnExactShiftLogRow.holds Tryd.pinned (OpenSpec.ofChange fnExactShiftLogWrong)

/-- 'laws.FnExactCommonOf': WHATEVER THE INPUT: true; the input reads as it did. -/
def fnExactCommonOfSpec : ChangeSpec := { name := "fnExactCommonOf", fn := fun _ => fun
  | [d1, d2] => { results := [.lit (.bool true)], args := [d1, d2] }
  | _ => none }
def fnExactCommonOfRow : OpenClaim := { program := "ytlgfibiggiknjaadoor", sum := "9979076712e8fd5c2420591b13c3e778e0a6860683b360c73cbb6a1bdc8cba90", func := "loop.example/g01299/laws.FnExactCommonOf", spec := "fnExactCommonOf", inPlace := ["internal/reflectlite.ValueOf", "(internal/reflectlite.Value).Type", "(internal/reflectlite.Value).IsNil", "internal/reflectlite.TypeOf", "(internal/reflectlite.Value).Elem", "(internal/reflectlite.Value).Set"], unfollowed := true, recurses := true, named := ["errors.errorType"], apart := false, laid := [("errors.errorType", laid_errors_errorType)] }
def FnExactCommonOfSaid : Prop := fnExactCommonOfRow.holds Tryd.pinned (OpenSpec.ofChange fnExactCommonOfSpec)

/-- ITS FALSE NEIGHBOUR: 'it returns false'. Refute it at one input. -/
def fnExactCommonOfWrong : ChangeSpec := { name := "fnExactCommonOf", fn := fun _ => fun
  | [d1, d2] => { results := [.lit (.bool false)], args := [d1, d2] }
  | _ => none }
def FnExactCommonOfWrongFalsely : Prop := fnExactCommonOfRow.holds Tryd.pinned (OpenSpec.ofChange fnExactCommonOfWrong)

/-- 'laws.FnExactFaultsOf': WHATEVER THE INPUT: true; the input reads as it did. -/
def fnExactFaultsOfSpec : ChangeSpec := { name := "fnExactFaultsOf", fn := fun _ => fun
  | [d1, d2] => { results := [.lit (.bool true)], args := [d1, d2] }
  | _ => none }
def fnExactFaultsOfRow : OpenClaim := { program := "ytlgfibiggiknjaadoor", sum := "9979076712e8fd5c2420591b13c3e778e0a6860683b360c73cbb6a1bdc8cba90", func := "loop.example/g01299/laws.FnExactFaultsOf", spec := "fnExactFaultsOf", inPlace := ["internal/reflectlite.ValueOf", "(internal/reflectlite.Value).Type", "(internal/reflectlite.Value).IsNil", "internal/reflectlite.TypeOf", "(internal/reflectlite.Value).Elem", "(internal/reflectlite.Value).Set"], unfollowed := true, recurses := true, named := ["errors.errorType"], apart := false, laid := [("errors.errorType", laid_errors_errorType)] }
def FnExactFaultsOfSaid : Prop := fnExactFaultsOfRow.holds Tryd.pinned (OpenSpec.ofChange fnExactFaultsOfSpec)

/-- ITS FALSE NEIGHBOUR: 'it returns false'. Refute it at one input. -/
def fnExactFaultsOfWrong : ChangeSpec := { name := "fnExactFaultsOf", fn := fun _ => fun
  | [d1, d2] => { results := [.lit (.bool false)], args := [d1, d2] }
  | _ => none }
def FnExactFaultsOfWrongFalsely : Prop := fnExactFaultsOfRow.holds Tryd.pinned (OpenSpec.ofChange fnExactFaultsOfWrong)

/-- 'laws.FnExactStoryOf': WHATEVER THE INPUT: true; the input reads as it did. -/
def fnExactStoryOfSpec : ChangeSpec := { name := "fnExactStoryOf", fn := fun _ => fun
  | [d1, d2] => { results := [.lit (.bool true)], args := [d1, d2] }
  | _ => none }
def fnExactStoryOfRow : OpenClaim := { program := "ytlgfibiggiknjaadoor", sum := "9979076712e8fd5c2420591b13c3e778e0a6860683b360c73cbb6a1bdc8cba90", func := "loop.example/g01299/laws.FnExactStoryOf", spec := "fnExactStoryOf", inPlace := ["internal/reflectlite.ValueOf", "(internal/reflectlite.Value).Type", "(internal/reflectlite.Value).IsNil", "internal/reflectlite.TypeOf", "(internal/reflectlite.Value).Elem", "(internal/reflectlite.Value).Set"], unfollowed := true, recurses := true, named := ["errors.errorType"], apart := false, laid := [("errors.errorType", laid_errors_errorType)] }
def FnExactStoryOfSaid : Prop := fnExactStoryOfRow.holds Tryd.pinned (OpenSpec.ofChange fnExactStoryOfSpec)

/-- ITS FALSE NEIGHBOUR: 'it returns false'. Refute it at one input. -/
def fnExactStoryOfWrong : ChangeSpec := { name := "fnExactStoryOf", fn := fun _ => fun
  | [d1, d2] => { results := [.lit (.bool false)], args := [d1, d2] }
  | _ => none }
def FnExactStoryOfWrongFalsely : Prop := fnExactStoryOfRow.holds Tryd.pinned (OpenSpec.ofChange fnExactStoryOfWrong)

/-- 'laws.FnExactCheckStory': WHATEVER THE INPUT: true; the input reads as it did. -/
def fnExactCheckStorySpec : ChangeSpec := { name := "fnExactCheckStory", fn := fun _ => fun
  | [d1, d2, d3] => { results := [.lit (.bool true)], args := [d1, d2, d3] }
  | _ => none }
def fnExactCheckStoryRow : OpenClaim := { program := "ytlgfibiggiknjaadoor", sum := "9979076712e8fd5c2420591b13c3e778e0a6860683b360c73cbb6a1bdc8cba90", func := "loop.example/g01299/laws.FnExactCheckStory", spec := "fnExactCheckStory", inPlace := ["internal/reflectlite.ValueOf", "(internal/reflectlite.Value).Type", "(internal/reflectlite.Value).IsNil", "internal/reflectlite.TypeOf", "(internal/reflectlite.Value).Elem", "(internal/reflectlite.Value).Set"], unfollowed := true, recurses := true, named := ["errors.errorType"], apart := false, laid := [("errors.errorType", laid_errors_errorType)] }
def FnExactCheckStorySaid : Prop := fnExactCheckStoryRow.holds Tryd.pinned (OpenSpec.ofChange fnExactCheckStorySpec)

/-- ITS FALSE NEIGHBOUR: 'it returns false'. Refute it at one input. -/
def fnExactCheckStoryWrong : ChangeSpec := { name := "fnExactCheckStory", fn := fun _ => fun
  | [d1, d2, d3] => { results := [.lit (.bool false)], args := [d1, d2, d3] }
  | _ => none }
def FnExactCheckStoryWrongFalsely : Prop := fnExactCheckStoryRow.holds Tryd.pinned (OpenSpec.ofChange fnExactCheckStoryWrong)

/-- 'laws.FnExactMissedIn': WHATEVER THE INPUT: true; the input reads as it did. -/
def fnExactMissedInSpec : ChangeSpec := { name := "fnExactMissedIn", fn := fun _ => fun
  | [d1, d2] => { results := [.lit (.bool true)], args := [d1, d2] }
  | _ => none }
def fnExactMissedInRow : OpenClaim := { program := "ytlgfibiggiknjaadoor", sum := "9979076712e8fd5c2420591b13c3e778e0a6860683b360c73cbb6a1bdc8cba90", func := "loop.example/g01299/laws.FnExactMissedIn", spec := "fnExactMissedIn", inPlace := ["internal/reflectlite.ValueOf", "(internal/reflectlite.Value).Type", "(internal/reflectlite.Value).IsNil", "internal/reflectlite.TypeOf", "(internal/reflectlite.Value).Elem", "(internal/reflectlite.Value).Set"], unfollowed := true, recurses := true, named := ["errors.errorType"], apart := false, laid := [("errors.errorType", laid_errors_errorType)] }
def FnExactMissedInSaid : Prop := fnExactMissedInRow.holds Tryd.pinned (OpenSpec.ofChange fnExactMissedInSpec)

/-- ITS FALSE NEIGHBOUR: 'it returns false'. Refute it at one input. -/
def fnExactMissedInWrong : ChangeSpec := { name := "fnExactMissedIn", fn := fun _ => fun
  | [d1, d2] => { results := [.lit (.bool false)], args := [d1, d2] }
  | _ => none }
def FnExactMissedInWrongFalsely : Prop := fnExactMissedInRow.holds Tryd.pinned (OpenSpec.ofChange fnExactMissedInWrong)

/-- 'laws.FnExactMisreadIn': WHATEVER THE INPUT: true; the input reads as it did. -/
def fnExactMisreadInSpec : ChangeSpec := { name := "fnExactMisreadIn", fn := fun _ => fun
  | [d1, d2] => { results := [.lit (.bool true)], args := [d1, d2] }
  | _ => none }
def fnExactMisreadInRow : OpenClaim := { program := "ytlgfibiggiknjaadoor", sum := "9979076712e8fd5c2420591b13c3e778e0a6860683b360c73cbb6a1bdc8cba90", func := "loop.example/g01299/laws.FnExactMisreadIn", spec := "fnExactMisreadIn", inPlace := ["internal/reflectlite.ValueOf", "(internal/reflectlite.Value).Type", "(internal/reflectlite.Value).IsNil", "internal/reflectlite.TypeOf", "(internal/reflectlite.Value).Elem", "(internal/reflectlite.Value).Set"], unfollowed := true, recurses := true, named := ["errors.errorType"], apart := false, laid := [("errors.errorType", laid_errors_errorType)] }
def FnExactMisreadInSaid : Prop := fnExactMisreadInRow.holds Tryd.pinned (OpenSpec.ofChange fnExactMisreadInSpec)

/-- ITS FALSE NEIGHBOUR: 'it returns false'. Refute it at one input. -/
def fnExactMisreadInWrong : ChangeSpec := { name := "fnExactMisreadIn", fn := fun _ => fun
  | [d1, d2] => { results := [.lit (.bool false)], args := [d1, d2] }
  | _ => none }
def FnExactMisreadInWrongFalsely : Prop := fnExactMisreadInRow.holds Tryd.pinned (OpenSpec.ofChange fnExactMisreadInWrong)

/-- 'laws.FnExactSpreadOf': WHATEVER THE INPUT: true; the input reads as it did. -/
def fnExactSpreadOfSpec : ChangeSpec := { name := "fnExactSpreadOf", fn := fun _ => fun
  | [d1, d2] => { results := [.lit (.bool true)], args := [d1, d2] }
  | _ => none }
def fnExactSpreadOfRow : OpenClaim := { program := "ytlgfibiggiknjaadoor", sum := "9979076712e8fd5c2420591b13c3e778e0a6860683b360c73cbb6a1bdc8cba90", func := "loop.example/g01299/laws.FnExactSpreadOf", spec := "fnExactSpreadOf", inPlace := ["internal/reflectlite.ValueOf", "(internal/reflectlite.Value).Type", "(internal/reflectlite.Value).IsNil", "internal/reflectlite.TypeOf", "(internal/reflectlite.Value).Elem", "(internal/reflectlite.Value).Set"], unfollowed := true, recurses := true, named := ["errors.errorType"], apart := false, laid := [("errors.errorType", laid_errors_errorType)] }
def FnExactSpreadOfSaid : Prop := fnExactSpreadOfRow.holds Tryd.pinned (OpenSpec.ofChange fnExactSpreadOfSpec)

/-- ITS FALSE NEIGHBOUR: 'it returns false'. Refute it at one input. -/
def fnExactSpreadOfWrong : ChangeSpec := { name := "fnExactSpreadOf", fn := fun _ => fun
  | [d1, d2] => { results := [.lit (.bool false)], args := [d1, d2] }
  | _ => none }
def FnExactSpreadOfWrongFalsely : Prop := fnExactSpreadOfRow.holds Tryd.pinned (OpenSpec.ofChange fnExactSpreadOfWrong)

/-- 'laws.FnExactOffsetOf': WHATEVER THE INPUT: true; the input reads as it did. -/
def fnExactOffsetOfSpec : ChangeSpec := { name := "fnExactOffsetOf", fn := fun _ => fun
  | [d1, d2] => { results := [.lit (.bool true)], args := [d1, d2] }
  | _ => none }
def fnExactOffsetOfRow : OpenClaim := { program := "ytlgfibiggiknjaadoor", sum := "9979076712e8fd5c2420591b13c3e778e0a6860683b360c73cbb6a1bdc8cba90", func := "loop.example/g01299/laws.FnExactOffsetOf", spec := "fnExactOffsetOf", inPlace := ["internal/reflectlite.ValueOf", "(internal/reflectlite.Value).Type", "(internal/reflectlite.Value).IsNil", "internal/reflectlite.TypeOf", "(internal/reflectlite.Value).Elem", "(internal/reflectlite.Value).Set"], unfollowed := true, recurses := true, named := ["errors.errorType"], apart := false, laid := [("errors.errorType", laid_errors_errorType)] }
def FnExactOffsetOfSaid : Prop := fnExactOffsetOfRow.holds Tryd.pinned (OpenSpec.ofChange fnExactOffsetOfSpec)

/-- ITS FALSE NEIGHBOUR: 'it returns false'. Refute it at one input. -/
def fnExactOffsetOfWrong : ChangeSpec := { name := "fnExactOffsetOf", fn := fun _ => fun
  | [d1, d2] => { results := [.lit (.bool false)], args := [d1, d2] }
  | _ => none }
def FnExactOffsetOfWrongFalsely : Prop := fnExactOffsetOfRow.holds Tryd.pinned (OpenSpec.ofChange fnExactOffsetOfWrong)

/-- 'laws.FnExactLateShips': WHATEVER THE INPUT: true; the input reads as it did. -/
def fnExactLateShipsSpec : ChangeSpec := { name := "fnExactLateShips", fn := fun _ => fun
  | [d1, d2, d3] => { results := [.lit (.bool true)], args := [d1, d2, d3] }
  | _ => none }
def fnExactLateShipsRow : OpenClaim := { program := "ytlgfibiggiknjaadoor", sum := "9979076712e8fd5c2420591b13c3e778e0a6860683b360c73cbb6a1bdc8cba90", func := "loop.example/g01299/laws.FnExactLateShips", spec := "fnExactLateShips", inPlace := ["internal/reflectlite.ValueOf", "(internal/reflectlite.Value).Type", "(internal/reflectlite.Value).IsNil", "internal/reflectlite.TypeOf", "(internal/reflectlite.Value).Elem", "(internal/reflectlite.Value).Set"], unfollowed := true, recurses := true, named := ["errors.errorType"], apart := false, laid := [("errors.errorType", laid_errors_errorType)] }
def FnExactLateShipsSaid : Prop := fnExactLateShipsRow.holds Tryd.pinned (OpenSpec.ofChange fnExactLateShipsSpec)

/-- ITS FALSE NEIGHBOUR: 'it returns false'. Refute it at one input. -/
def fnExactLateShipsWrong : ChangeSpec := { name := "fnExactLateShips", fn := fun _ => fun
  | [d1, d2, d3] => { results := [.lit (.bool false)], args := [d1, d2, d3] }
  | _ => none }
def FnExactLateShipsWrongFalsely : Prop := fnExactLateShipsRow.holds Tryd.pinned (OpenSpec.ofChange fnExactLateShipsWrong)

/- THE SECOND FORM. 'bulk': how many values and letters a reading holds, each counted each time it is reached (what is shared counts as often as it is met; a slice's spare places count too). A statement '..UptoSaid' is the law's where the arguments, and the package variables that the reading takes, are together of bulk at most 1048576: NARROWER than '..Said'. Prove '..Said' where nothing that the law and all that it calls make is longer than what came in: it says more and counts as full. Else prove '..UptoSaid'. A law counts once. -/
mutual
def uptoBulk {H : Type} : DataW H → Nat
  | .lit (.string bytes) => bytes.length + 1
  | .lit _ => 1
  | .nil => 1
  | .ptr d => uptoBulk d + 1
  | .slice elems spare => uptoBulkAll elems + uptoBulkAll spare + 1
  | .agg parts => uptoBulkAll parts + 1
  | .iface _ d => uptoBulk d + 1
  | .map entries => uptoBulkEntries entries + 1
  | .held _ => 1
def uptoBulkAll {H : Type} : List (DataW H) → Nat
  | [] => 0
  | d :: r => uptoBulk d + uptoBulkAll r
def uptoBulkEntries {H : Type} : List (Lit × DataW H) → Nat
  | [] => 0
  | x :: r => uptoBulkEntry x + uptoBulkEntries r
def uptoBulkEntry {H : Type} : Lit × DataW H → Nat
  | (.string bytes, d) => bytes.length + uptoBulk d + 1
  | (_, d) => uptoBulk d + 1
 end
def uptoSmall : (H : Type) → List (DataW H) → Bool := fun _ ds => decide (uptoBulkAll ds ≤ 1048576)
def OpenSpec.upto (s : _root_.Go.ChangeSpec) : _root_.Go.OpenSpec := { _root_.Go.OpenSpec.ofChange s with cond := some uptoSmall }

/-- 'laws.FnExactExecutedIn', WHERE WHAT IT READS IS OF BULK AT MOST 1048576: true; the input reads as it did. -/
def fnExactExecutedInUptoRow : OpenClaim := { program := "ytlgfibiggiknjaadoor", sum := "9979076712e8fd5c2420591b13c3e778e0a6860683b360c73cbb6a1bdc8cba90", func := "loop.example/g01299/laws.FnExactExecutedIn", spec := "fnExactExecutedIn", inPlace := ["internal/reflectlite.ValueOf", "(internal/reflectlite.Value).Type", "(internal/reflectlite.Value).IsNil", "internal/reflectlite.TypeOf", "(internal/reflectlite.Value).Elem", "(internal/reflectlite.Value).Set"], unfollowed := true, recurses := true, named := ["errors.errorType"], apart := false, laid := [("errors.errorType", laid_errors_errorType)], narrowed := true }
def FnExactExecutedInUptoSaid : Prop := fnExactExecutedInUptoRow.holds Tryd.pinned (OpenSpec.upto fnExactExecutedInSpec)

/-- 'laws.FnExactLongestUp', WHERE WHAT IT READS IS OF BULK AT MOST 1048576: true; the input reads as it did. -/
def fnExactLongestUpUptoRow : OpenClaim := { program := "ytlgfibiggiknjaadoor", sum := "9979076712e8fd5c2420591b13c3e778e0a6860683b360c73cbb6a1bdc8cba90", func := "loop.example/g01299/laws.FnExactLongestUp", spec := "fnExactLongestUp", inPlace := ["internal/reflectlite.ValueOf", "(internal/reflectlite.Value).Type", "(internal/reflectlite.Value).IsNil", "internal/reflectlite.TypeOf", "(internal/reflectlite.Value).Elem", "(internal/reflectlite.Value).Set"], unfollowed := true, recurses := true, named := ["errors.errorType"], apart := false, laid := [("errors.errorType", laid_errors_errorType)], narrowed := true }
def FnExactLongestUpUptoSaid : Prop := fnExactLongestUpUptoRow.holds Tryd.pinned (OpenSpec.upto fnExactLongestUpSpec)

/-- 'laws.FnExactShiftLog', WHERE WHAT IT READS IS OF BULK AT MOST 1048576: true; the input reads as it did. -/
def fnExactShiftLogUptoRow : OpenClaim := { program := "ytlgfibiggiknjaadoor", sum := "9979076712e8fd5c2420591b13c3e778e0a6860683b360c73cbb6a1bdc8cba90", func := "loop.example/g01299/laws.FnExactShiftLog", spec := "fnExactShiftLog", inPlace := ["internal/reflectlite.ValueOf", "(internal/reflectlite.Value).Type", "(internal/reflectlite.Value).IsNil", "internal/reflectlite.TypeOf", "(internal/reflectlite.Value).Elem", "(internal/reflectlite.Value).Set"], unfollowed := true, recurses := true, named := ["errors.errorType"], apart := false, laid := [("errors.errorType", laid_errors_errorType)], narrowed := true }
def FnExactShiftLogUptoSaid : Prop := fnExactShiftLogUptoRow.holds Tryd.pinned (OpenSpec.upto fnExactShiftLogSpec)

/-- 'laws.FnExactCommonOf', WHERE WHAT IT READS IS OF BULK AT MOST 1048576: true; the input reads as it did. -/
def fnExactCommonOfUptoRow : OpenClaim := { program := "ytlgfibiggiknjaadoor", sum := "9979076712e8fd5c2420591b13c3e778e0a6860683b360c73cbb6a1bdc8cba90", func := "loop.example/g01299/laws.FnExactCommonOf", spec := "fnExactCommonOf", inPlace := ["internal/reflectlite.ValueOf", "(internal/reflectlite.Value).Type", "(internal/reflectlite.Value).IsNil", "internal/reflectlite.TypeOf", "(internal/reflectlite.Value).Elem", "(internal/reflectlite.Value).Set"], unfollowed := true, recurses := true, named := ["errors.errorType"], apart := false, laid := [("errors.errorType", laid_errors_errorType)], narrowed := true }
def FnExactCommonOfUptoSaid : Prop := fnExactCommonOfUptoRow.holds Tryd.pinned (OpenSpec.upto fnExactCommonOfSpec)

/-- 'laws.FnExactFaultsOf', WHERE WHAT IT READS IS OF BULK AT MOST 1048576: true; the input reads as it did. -/
def fnExactFaultsOfUptoRow : OpenClaim := { program := "ytlgfibiggiknjaadoor", sum := "9979076712e8fd5c2420591b13c3e778e0a6860683b360c73cbb6a1bdc8cba90", func := "loop.example/g01299/laws.FnExactFaultsOf", spec := "fnExactFaultsOf", inPlace := ["internal/reflectlite.ValueOf", "(internal/reflectlite.Value).Type", "(internal/reflectlite.Value).IsNil", "internal/reflectlite.TypeOf", "(internal/reflectlite.Value).Elem", "(internal/reflectlite.Value).Set"], unfollowed := true, recurses := true, named := ["errors.errorType"], apart := false, laid := [("errors.errorType", laid_errors_errorType)], narrowed := true }
def FnExactFaultsOfUptoSaid : Prop := fnExactFaultsOfUptoRow.holds Tryd.pinned (OpenSpec.upto fnExactFaultsOfSpec)

/-- 'laws.FnExactStoryOf', WHERE WHAT IT READS IS OF BULK AT MOST 1048576: true; the input reads as it did. -/
def fnExactStoryOfUptoRow : OpenClaim := { program := "ytlgfibiggiknjaadoor", sum := "9979076712e8fd5c2420591b13c3e778e0a6860683b360c73cbb6a1bdc8cba90", func := "loop.example/g01299/laws.FnExactStoryOf", spec := "fnExactStoryOf", inPlace := ["internal/reflectlite.ValueOf", "(internal/reflectlite.Value).Type", "(internal/reflectlite.Value).IsNil", "internal/reflectlite.TypeOf", "(internal/reflectlite.Value).Elem", "(internal/reflectlite.Value).Set"], unfollowed := true, recurses := true, named := ["errors.errorType"], apart := false, laid := [("errors.errorType", laid_errors_errorType)], narrowed := true }
def FnExactStoryOfUptoSaid : Prop := fnExactStoryOfUptoRow.holds Tryd.pinned (OpenSpec.upto fnExactStoryOfSpec)

/-- 'laws.FnExactCheckStory', WHERE WHAT IT READS IS OF BULK AT MOST 1048576: true; the input reads as it did. -/
def fnExactCheckStoryUptoRow : OpenClaim := { program := "ytlgfibiggiknjaadoor", sum := "9979076712e8fd5c2420591b13c3e778e0a6860683b360c73cbb6a1bdc8cba90", func := "loop.example/g01299/laws.FnExactCheckStory", spec := "fnExactCheckStory", inPlace := ["internal/reflectlite.ValueOf", "(internal/reflectlite.Value).Type", "(internal/reflectlite.Value).IsNil", "internal/reflectlite.TypeOf", "(internal/reflectlite.Value).Elem", "(internal/reflectlite.Value).Set"], unfollowed := true, recurses := true, named := ["errors.errorType"], apart := false, laid := [("errors.errorType", laid_errors_errorType)], narrowed := true }
def FnExactCheckStoryUptoSaid : Prop := fnExactCheckStoryUptoRow.holds Tryd.pinned (OpenSpec.upto fnExactCheckStorySpec)

/-- 'laws.FnExactMissedIn', WHERE WHAT IT READS IS OF BULK AT MOST 1048576: true; the input reads as it did. -/
def fnExactMissedInUptoRow : OpenClaim := { program := "ytlgfibiggiknjaadoor", sum := "9979076712e8fd5c2420591b13c3e778e0a6860683b360c73cbb6a1bdc8cba90", func := "loop.example/g01299/laws.FnExactMissedIn", spec := "fnExactMissedIn", inPlace := ["internal/reflectlite.ValueOf", "(internal/reflectlite.Value).Type", "(internal/reflectlite.Value).IsNil", "internal/reflectlite.TypeOf", "(internal/reflectlite.Value).Elem", "(internal/reflectlite.Value).Set"], unfollowed := true, recurses := true, named := ["errors.errorType"], apart := false, laid := [("errors.errorType", laid_errors_errorType)], narrowed := true }
def FnExactMissedInUptoSaid : Prop := fnExactMissedInUptoRow.holds Tryd.pinned (OpenSpec.upto fnExactMissedInSpec)

/-- 'laws.FnExactMisreadIn', WHERE WHAT IT READS IS OF BULK AT MOST 1048576: true; the input reads as it did. -/
def fnExactMisreadInUptoRow : OpenClaim := { program := "ytlgfibiggiknjaadoor", sum := "9979076712e8fd5c2420591b13c3e778e0a6860683b360c73cbb6a1bdc8cba90", func := "loop.example/g01299/laws.FnExactMisreadIn", spec := "fnExactMisreadIn", inPlace := ["internal/reflectlite.ValueOf", "(internal/reflectlite.Value).Type", "(internal/reflectlite.Value).IsNil", "internal/reflectlite.TypeOf", "(internal/reflectlite.Value).Elem", "(internal/reflectlite.Value).Set"], unfollowed := true, recurses := true, named := ["errors.errorType"], apart := false, laid := [("errors.errorType", laid_errors_errorType)], narrowed := true }
def FnExactMisreadInUptoSaid : Prop := fnExactMisreadInUptoRow.holds Tryd.pinned (OpenSpec.upto fnExactMisreadInSpec)

/-- 'laws.FnExactSpreadOf', WHERE WHAT IT READS IS OF BULK AT MOST 1048576: true; the input reads as it did. -/
def fnExactSpreadOfUptoRow : OpenClaim := { program := "ytlgfibiggiknjaadoor", sum := "9979076712e8fd5c2420591b13c3e778e0a6860683b360c73cbb6a1bdc8cba90", func := "loop.example/g01299/laws.FnExactSpreadOf", spec := "fnExactSpreadOf", inPlace := ["internal/reflectlite.ValueOf", "(internal/reflectlite.Value).Type", "(internal/reflectlite.Value).IsNil", "internal/reflectlite.TypeOf", "(internal/reflectlite.Value).Elem", "(internal/reflectlite.Value).Set"], unfollowed := true, recurses := true, named := ["errors.errorType"], apart := false, laid := [("errors.errorType", laid_errors_errorType)], narrowed := true }
def FnExactSpreadOfUptoSaid : Prop := fnExactSpreadOfUptoRow.holds Tryd.pinned (OpenSpec.upto fnExactSpreadOfSpec)

/-- 'laws.FnExactOffsetOf', WHERE WHAT IT READS IS OF BULK AT MOST 1048576: true; the input reads as it did. -/
def fnExactOffsetOfUptoRow : OpenClaim := { program := "ytlgfibiggiknjaadoor", sum := "9979076712e8fd5c2420591b13c3e778e0a6860683b360c73cbb6a1bdc8cba90", func := "loop.example/g01299/laws.FnExactOffsetOf", spec := "fnExactOffsetOf", inPlace := ["internal/reflectlite.ValueOf", "(internal/reflectlite.Value).Type", "(internal/reflectlite.Value).IsNil", "internal/reflectlite.TypeOf", "(internal/reflectlite.Value).Elem", "(internal/reflectlite.Value).Set"], unfollowed := true, recurses := true, named := ["errors.errorType"], apart := false, laid := [("errors.errorType", laid_errors_errorType)], narrowed := true }
def FnExactOffsetOfUptoSaid : Prop := fnExactOffsetOfUptoRow.holds Tryd.pinned (OpenSpec.upto fnExactOffsetOfSpec)

/-- 'laws.FnExactLateShips', WHERE WHAT IT READS IS OF BULK AT MOST 1048576: true; the input reads as it did. -/
def fnExactLateShipsUptoRow : OpenClaim := { program := "ytlgfibiggiknjaadoor", sum := "9979076712e8fd5c2420591b13c3e778e0a6860683b360c73cbb6a1bdc8cba90", func := "loop.example/g01299/laws.FnExactLateShips", spec := "fnExactLateShips", inPlace := ["internal/reflectlite.ValueOf", "(internal/reflectlite.Value).Type", "(internal/reflectlite.Value).IsNil", "internal/reflectlite.TypeOf", "(internal/reflectlite.Value).Elem", "(internal/reflectlite.Value).Set"], unfollowed := true, recurses := true, named := ["errors.errorType"], apart := false, laid := [("errors.errorType", laid_errors_errorType)], narrowed := true }
def FnExactLateShipsUptoSaid : Prop := fnExactLateShipsUptoRow.holds Tryd.pinned (OpenSpec.upto fnExactLateShipsSpec)

end Rows
end Go.Proofs.YtlgfibiggiknjaaDoor
