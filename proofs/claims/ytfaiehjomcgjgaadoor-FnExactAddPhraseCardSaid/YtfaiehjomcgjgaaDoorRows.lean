/-
  NARROWER THAN 'FOR EVERY INPUT', by the rows' own cells (each row's printed sentence says how): FnExactHoistOf: ifaces, laid · FnExactFlagsFor: ifaces, laid · FnExactFlagsUntilSure: ifaces, laid · FnExactDropPhrase: ifaces, laid · FnExactAddPhrase: ifaces, laid · FnExactReplacePhrase: ifaces, laid · FnExactShortestBook: ifaces, laid.
  DERIVED. THE GIVEN ROWS OF THIS SEAT. 7 by the template 'for every input the law returns true; each argument reads behind the call as it read before'; 0 by the template 'total and deterministic' (their statements: YtfaiehjomcgjgaaDoorTotals.lean).
  GIVEN WITH THE SEED: the statements are not yours to turn. If you find one false, say at which input.
  Laid BY PROGRAM, IN A SANDBOX (cutbox-rows.mjs): the forced cells as the released guide's own fill.sh prints them over the translation c96c3957a70217b9… (all of the seat's roots in one cut). By AI agents, Wed Nov 11 2026. No macro, syntax, notation, axiom, sorry.
-/
import Derived.Test.YtfaiehjomcgjgaaDoorChecked
import GoSem.Claim
import GoSem.ClaimJoined
import GoSem.ClaimMapViews
import Derived.JoinedTies
import Derived.KernelRfl
namespace Go.Proofs.YtfaiehjomcgjgaaDoor
/- THE CELL 'sum', in the pinned program and in every row, IS THE sha256 OF THE DUMP (.gsa) THAT YtfaiehjomcgjgaaDoorProg.lean LOADS. Nothing in Lean hashes anything: it is a label: what it is worth is what the hold of that sum in a sandbox is worth. -/
noncomputable def Tryd.pinned : Pinned := { name := "ytfaiehjomcgjgaadoor", sum := "c96c3957a70217b9ddada02ef0c65df301dc6318f3d4614d81a5bf4fe78f4bf7", checked := Tryd.checked }
namespace Rows
def none {H : Type} : Left H := { results := [], args := [] }

/- WHAT THE LISTED PACKAGE-LEVEL VARIABLES READ AS WHEN THE CALL BEGINS. Each datum BY PROGRAM (the guide's laid-datum.mjs) off the statement by which the dump's own 'gosem.cut.vars' lays the variable. In a bare row this is a premise. The card (YtfaiehjomcgjgaaDoorCards.lean) ties it to the program's text. -/
def laid_loop_example_g01299_impl_errInvalid {H : Type} : DataW H := .iface "*errors.errorString" (.ptr (.agg [.lit (.string [105, 110, 118, 97, 108, 105, 100])]))
def laid_loop_example_g01299_impl_errRange {H : Type} : DataW H := .iface "*errors.errorString" (.ptr (.agg [.lit (.string [114, 97, 110, 103, 101])]))
def laid_loop_example_g01299_impl_errState {H : Type} : DataW H := .iface "*errors.errorString" (.ptr (.agg [.lit (.string [115, 116, 97, 116, 101])]))

/-- 'laws.FnExactHoistOf': WHATEVER THE INPUT: true; the input reads as it did. -/
def fnExactHoistOfSpec : ChangeSpec := { name := "fnExactHoistOf", vars := ["loop.example/g01299/impl.errInvalid", "loop.example/g01299/impl.errRange", "loop.example/g01299/impl.errState"], fn := fun _ => fun
  | [d1, d2, g1, g2, g3] => { results := [.lit (.bool true)], args := [d1, d2], vars := [g1, g2, g3] }
  | _ => none }
def fnExactHoistOfRow : OpenClaim := { program := "ytfaiehjomcgjgaadoor", sum := "c96c3957a70217b9ddada02ef0c65df301dc6318f3d4614d81a5bf4fe78f4bf7", func := "loop.example/g01299/laws.FnExactHoistOf", spec := "fnExactHoistOf", inPlace := ["internal/reflectlite.TypeOf"], unfollowed := true, recurses := true, named := ["loop.example/g01299/impl.errInvalid", "loop.example/g01299/impl.errRange", "loop.example/g01299/impl.errState"], ifaces := true, apart := false, laid := [("loop.example/g01299/impl.errInvalid", laid_loop_example_g01299_impl_errInvalid), ("loop.example/g01299/impl.errRange", laid_loop_example_g01299_impl_errRange), ("loop.example/g01299/impl.errState", laid_loop_example_g01299_impl_errState)] }
def FnExactHoistOfSaid : Prop := fnExactHoistOfRow.holds Tryd.pinned (OpenSpec.ofChange fnExactHoistOfSpec)

/-- ITS FALSE NEIGHBOUR: 'it returns false'. Refute it at one input. -/
def fnExactHoistOfWrong : ChangeSpec := { name := "fnExactHoistOf", vars := ["loop.example/g01299/impl.errInvalid", "loop.example/g01299/impl.errRange", "loop.example/g01299/impl.errState"], fn := fun _ => fun
  | [d1, d2, g1, g2, g3] => { results := [.lit (.bool false)], args := [d1, d2], vars := [g1, g2, g3] }
  | _ => none }
def FnExactHoistOfWrongFalsely : Prop := fnExactHoistOfRow.holds Tryd.pinned (OpenSpec.ofChange fnExactHoistOfWrong)

/-- 'laws.FnExactFlagsFor': WHATEVER THE INPUT: true; the input reads as it did. -/
def fnExactFlagsForSpec : ChangeSpec := { name := "fnExactFlagsFor", vars := ["loop.example/g01299/impl.errInvalid", "loop.example/g01299/impl.errRange", "loop.example/g01299/impl.errState"], fn := fun _ => fun
  | [d1, d2, g1, g2, g3] => { results := [.lit (.bool true)], args := [d1, d2], vars := [g1, g2, g3] }
  | _ => none }
def fnExactFlagsForRow : OpenClaim := { program := "ytfaiehjomcgjgaadoor", sum := "c96c3957a70217b9ddada02ef0c65df301dc6318f3d4614d81a5bf4fe78f4bf7", func := "loop.example/g01299/laws.FnExactFlagsFor", spec := "fnExactFlagsFor", inPlace := ["internal/reflectlite.TypeOf"], unfollowed := true, recurses := true, named := ["loop.example/g01299/impl.errInvalid", "loop.example/g01299/impl.errRange", "loop.example/g01299/impl.errState"], ifaces := true, apart := false, laid := [("loop.example/g01299/impl.errInvalid", laid_loop_example_g01299_impl_errInvalid), ("loop.example/g01299/impl.errRange", laid_loop_example_g01299_impl_errRange), ("loop.example/g01299/impl.errState", laid_loop_example_g01299_impl_errState)] }
def FnExactFlagsForSaid : Prop := fnExactFlagsForRow.holds Tryd.pinned (OpenSpec.ofChange fnExactFlagsForSpec)

/-- ITS FALSE NEIGHBOUR: 'it returns false'. Refute it at one input. -/
def fnExactFlagsForWrong : ChangeSpec := { name := "fnExactFlagsFor", vars := ["loop.example/g01299/impl.errInvalid", "loop.example/g01299/impl.errRange", "loop.example/g01299/impl.errState"], fn := fun _ => fun
  | [d1, d2, g1, g2, g3] => { results := [.lit (.bool false)], args := [d1, d2], vars := [g1, g2, g3] }
  | _ => none }
def FnExactFlagsForWrongFalsely : Prop := fnExactFlagsForRow.holds Tryd.pinned (OpenSpec.ofChange fnExactFlagsForWrong)

/-- 'laws.FnExactFlagsUntilSure': WHATEVER THE INPUT: true; the input reads as it did. -/
def fnExactFlagsUntilSureSpec : ChangeSpec := { name := "fnExactFlagsUntilSure", vars := ["loop.example/g01299/impl.errInvalid", "loop.example/g01299/impl.errRange", "loop.example/g01299/impl.errState"], fn := fun _ => fun
  | [d1, d2, g1, g2, g3] => { results := [.lit (.bool true)], args := [d1, d2], vars := [g1, g2, g3] }
  | _ => none }
def fnExactFlagsUntilSureRow : OpenClaim := { program := "ytfaiehjomcgjgaadoor", sum := "c96c3957a70217b9ddada02ef0c65df301dc6318f3d4614d81a5bf4fe78f4bf7", func := "loop.example/g01299/laws.FnExactFlagsUntilSure", spec := "fnExactFlagsUntilSure", inPlace := ["internal/reflectlite.TypeOf"], unfollowed := true, recurses := true, named := ["loop.example/g01299/impl.errInvalid", "loop.example/g01299/impl.errRange", "loop.example/g01299/impl.errState"], ifaces := true, apart := false, laid := [("loop.example/g01299/impl.errInvalid", laid_loop_example_g01299_impl_errInvalid), ("loop.example/g01299/impl.errRange", laid_loop_example_g01299_impl_errRange), ("loop.example/g01299/impl.errState", laid_loop_example_g01299_impl_errState)] }
def FnExactFlagsUntilSureSaid : Prop := fnExactFlagsUntilSureRow.holds Tryd.pinned (OpenSpec.ofChange fnExactFlagsUntilSureSpec)

/-- ITS FALSE NEIGHBOUR: 'it returns false'. Refute it at one input. -/
def fnExactFlagsUntilSureWrong : ChangeSpec := { name := "fnExactFlagsUntilSure", vars := ["loop.example/g01299/impl.errInvalid", "loop.example/g01299/impl.errRange", "loop.example/g01299/impl.errState"], fn := fun _ => fun
  | [d1, d2, g1, g2, g3] => { results := [.lit (.bool false)], args := [d1, d2], vars := [g1, g2, g3] }
  | _ => none }
def FnExactFlagsUntilSureWrongFalsely : Prop := fnExactFlagsUntilSureRow.holds Tryd.pinned (OpenSpec.ofChange fnExactFlagsUntilSureWrong)

/-- 'laws.FnExactDropPhrase': WHATEVER THE INPUT: true; the input reads as it did. -/
def fnExactDropPhraseSpec : ChangeSpec := { name := "fnExactDropPhrase", vars := ["loop.example/g01299/impl.errInvalid", "loop.example/g01299/impl.errRange", "loop.example/g01299/impl.errState"], fn := fun _ => fun
  | [d1, d2, g1, g2, g3] => { results := [.lit (.bool true)], args := [d1, d2], vars := [g1, g2, g3] }
  | _ => none }
def fnExactDropPhraseRow : OpenClaim := { program := "ytfaiehjomcgjgaadoor", sum := "c96c3957a70217b9ddada02ef0c65df301dc6318f3d4614d81a5bf4fe78f4bf7", func := "loop.example/g01299/laws.FnExactDropPhrase", spec := "fnExactDropPhrase", inPlace := ["internal/reflectlite.TypeOf"], unfollowed := true, recurses := true, named := ["loop.example/g01299/impl.errInvalid", "loop.example/g01299/impl.errRange", "loop.example/g01299/impl.errState"], ifaces := true, apart := false, laid := [("loop.example/g01299/impl.errInvalid", laid_loop_example_g01299_impl_errInvalid), ("loop.example/g01299/impl.errRange", laid_loop_example_g01299_impl_errRange), ("loop.example/g01299/impl.errState", laid_loop_example_g01299_impl_errState)] }
def FnExactDropPhraseSaid : Prop := fnExactDropPhraseRow.holds Tryd.pinned (OpenSpec.ofChange fnExactDropPhraseSpec)

/-- ITS FALSE NEIGHBOUR: 'it returns false'. Refute it at one input. -/
def fnExactDropPhraseWrong : ChangeSpec := { name := "fnExactDropPhrase", vars := ["loop.example/g01299/impl.errInvalid", "loop.example/g01299/impl.errRange", "loop.example/g01299/impl.errState"], fn := fun _ => fun
  | [d1, d2, g1, g2, g3] => { results := [.lit (.bool false)], args := [d1, d2], vars := [g1, g2, g3] }
  | _ => none }
def FnExactDropPhraseWrongFalsely : Prop := fnExactDropPhraseRow.holds Tryd.pinned (OpenSpec.ofChange fnExactDropPhraseWrong)

/-- 'laws.FnExactAddPhrase': WHATEVER THE INPUT: true; the input reads as it did. -/
def fnExactAddPhraseSpec : ChangeSpec := { name := "fnExactAddPhrase", vars := ["loop.example/g01299/impl.errInvalid", "loop.example/g01299/impl.errRange", "loop.example/g01299/impl.errState"], fn := fun _ => fun
  | [d1, d2, g1, g2, g3] => { results := [.lit (.bool true)], args := [d1, d2], vars := [g1, g2, g3] }
  | _ => none }
def fnExactAddPhraseRow : OpenClaim := { program := "ytfaiehjomcgjgaadoor", sum := "c96c3957a70217b9ddada02ef0c65df301dc6318f3d4614d81a5bf4fe78f4bf7", func := "loop.example/g01299/laws.FnExactAddPhrase", spec := "fnExactAddPhrase", inPlace := ["internal/reflectlite.TypeOf"], unfollowed := true, recurses := true, named := ["loop.example/g01299/impl.errInvalid", "loop.example/g01299/impl.errRange", "loop.example/g01299/impl.errState"], ifaces := true, apart := false, laid := [("loop.example/g01299/impl.errInvalid", laid_loop_example_g01299_impl_errInvalid), ("loop.example/g01299/impl.errRange", laid_loop_example_g01299_impl_errRange), ("loop.example/g01299/impl.errState", laid_loop_example_g01299_impl_errState)] }
def FnExactAddPhraseSaid : Prop := fnExactAddPhraseRow.holds Tryd.pinned (OpenSpec.ofChange fnExactAddPhraseSpec)

/-- ITS FALSE NEIGHBOUR: 'it returns false'. Refute it at one input. -/
def fnExactAddPhraseWrong : ChangeSpec := { name := "fnExactAddPhrase", vars := ["loop.example/g01299/impl.errInvalid", "loop.example/g01299/impl.errRange", "loop.example/g01299/impl.errState"], fn := fun _ => fun
  | [d1, d2, g1, g2, g3] => { results := [.lit (.bool false)], args := [d1, d2], vars := [g1, g2, g3] }
  | _ => none }
def FnExactAddPhraseWrongFalsely : Prop := fnExactAddPhraseRow.holds Tryd.pinned (OpenSpec.ofChange fnExactAddPhraseWrong)

/-- 'laws.FnExactReplacePhrase': WHATEVER THE INPUT: true; the input reads as it did. -/
def fnExactReplacePhraseSpec : ChangeSpec := { name := "fnExactReplacePhrase", vars := ["loop.example/g01299/impl.errInvalid", "loop.example/g01299/impl.errRange", "loop.example/g01299/impl.errState"], fn := fun _ => fun
  | [d1, d2, d3, g1, g2, g3] => { results := [.lit (.bool true)], args := [d1, d2, d3], vars := [g1, g2, g3] }
  | _ => none }
def fnExactReplacePhraseRow : OpenClaim := { program := "ytfaiehjomcgjgaadoor", sum := "c96c3957a70217b9ddada02ef0c65df301dc6318f3d4614d81a5bf4fe78f4bf7", func := "loop.example/g01299/laws.FnExactReplacePhrase", spec := "fnExactReplacePhrase", inPlace := ["internal/reflectlite.TypeOf"], unfollowed := true, recurses := true, named := ["loop.example/g01299/impl.errInvalid", "loop.example/g01299/impl.errRange", "loop.example/g01299/impl.errState"], ifaces := true, apart := false, laid := [("loop.example/g01299/impl.errInvalid", laid_loop_example_g01299_impl_errInvalid), ("loop.example/g01299/impl.errRange", laid_loop_example_g01299_impl_errRange), ("loop.example/g01299/impl.errState", laid_loop_example_g01299_impl_errState)] }
def FnExactReplacePhraseSaid : Prop := fnExactReplacePhraseRow.holds Tryd.pinned (OpenSpec.ofChange fnExactReplacePhraseSpec)

/-- ITS FALSE NEIGHBOUR: 'it returns false'. Refute it at one input. -/
def fnExactReplacePhraseWrong : ChangeSpec := { name := "fnExactReplacePhrase", vars := ["loop.example/g01299/impl.errInvalid", "loop.example/g01299/impl.errRange", "loop.example/g01299/impl.errState"], fn := fun _ => fun
  | [d1, d2, d3, g1, g2, g3] => { results := [.lit (.bool false)], args := [d1, d2, d3], vars := [g1, g2, g3] }
  | _ => none }
def FnExactReplacePhraseWrongFalsely : Prop := fnExactReplacePhraseRow.holds Tryd.pinned (OpenSpec.ofChange fnExactReplacePhraseWrong)

/-- 'laws.FnExactShortestBook': WHATEVER THE INPUT: true; the input reads as it did. -/
def fnExactShortestBookSpec : ChangeSpec := { name := "fnExactShortestBook", vars := ["loop.example/g01299/impl.errInvalid", "loop.example/g01299/impl.errRange", "loop.example/g01299/impl.errState"], fn := fun _ => fun
  | [d1, d2, g1, g2, g3] => { results := [.lit (.bool true)], args := [d1, d2], vars := [g1, g2, g3] }
  | _ => none }
def fnExactShortestBookRow : OpenClaim := { program := "ytfaiehjomcgjgaadoor", sum := "c96c3957a70217b9ddada02ef0c65df301dc6318f3d4614d81a5bf4fe78f4bf7", func := "loop.example/g01299/laws.FnExactShortestBook", spec := "fnExactShortestBook", inPlace := ["internal/reflectlite.TypeOf"], unfollowed := true, recurses := true, named := ["loop.example/g01299/impl.errInvalid", "loop.example/g01299/impl.errRange", "loop.example/g01299/impl.errState"], ifaces := true, apart := false, laid := [("loop.example/g01299/impl.errInvalid", laid_loop_example_g01299_impl_errInvalid), ("loop.example/g01299/impl.errRange", laid_loop_example_g01299_impl_errRange), ("loop.example/g01299/impl.errState", laid_loop_example_g01299_impl_errState)] }
def FnExactShortestBookSaid : Prop := fnExactShortestBookRow.holds Tryd.pinned (OpenSpec.ofChange fnExactShortestBookSpec)

/-- ITS FALSE NEIGHBOUR: 'it returns false'. Refute it at one input. -/
def fnExactShortestBookWrong : ChangeSpec := { name := "fnExactShortestBook", vars := ["loop.example/g01299/impl.errInvalid", "loop.example/g01299/impl.errRange", "loop.example/g01299/impl.errState"], fn := fun _ => fun
  | [d1, d2, g1, g2, g3] => { results := [.lit (.bool false)], args := [d1, d2], vars := [g1, g2, g3] }
  | _ => none }
def FnExactShortestBookWrongFalsely : Prop := fnExactShortestBookRow.holds Tryd.pinned (OpenSpec.ofChange fnExactShortestBookWrong)

/- THE SECOND FORM. 'bulk': how many values and letters a reading holds, each counted each time it is reached (what is shared counts as often as it is met; a slice's spare places count too). A statement '..UptoSaid' is the law's where the arguments, and the package variables that the reading takes, are together of bulk at most 1048576: NARROWER than '..Said'. Prove '..Said' where nothing that the law and all that it calls make is longer than what came in: it says more and counts as full. Else prove '..UptoSaid'. A law counts once. -/
mutual
def uptoBulk {H : Type} : DataW H → Nat
  | .lit (.string bytes) => bytes.length + 1
  | .lit _ => 1
  | .nil => 1
  | .ptr d => uptoBulk d + 1
  | .slice elems spare => uptoBulkAll elems + uptoBulkAll spare + 1
  | .agg parts => uptoBulkAll parts + 1
  | .iface _ d => uptoBulk d + 1
  | .map entries => uptoBulkEntries entries + 1
  | .held _ => 1
def uptoBulkAll {H : Type} : List (DataW H) → Nat
  | [] => 0
  | d :: r => uptoBulk d + uptoBulkAll r
def uptoBulkEntries {H : Type} : List (Lit × DataW H) → Nat
  | [] => 0
  | x :: r => uptoBulkEntry x + uptoBulkEntries r
def uptoBulkEntry {H : Type} : Lit × DataW H → Nat
  | (.string bytes, d) => bytes.length + uptoBulk d + 1
  | (_, d) => uptoBulk d + 1
 end
def uptoSmall : (H : Type) → List (DataW H) → Bool := fun _ ds => decide (uptoBulkAll ds ≤ 1048576)
def OpenSpec.upto (s : _root_.Go.ChangeSpec) : _root_.Go.OpenSpec := { _root_.Go.OpenSpec.ofChange s with cond := some uptoSmall }

/-- 'laws.FnExactHoistOf', WHERE WHAT IT READS IS OF BULK AT MOST 1048576: true; the input reads as it did. -/
def fnExactHoistOfUptoRow : OpenClaim := { program := "ytfaiehjomcgjgaadoor", sum := "c96c3957a70217b9ddada02ef0c65df301dc6318f3d4614d81a5bf4fe78f4bf7", func := "loop.example/g01299/laws.FnExactHoistOf", spec := "fnExactHoistOf", inPlace := ["internal/reflectlite.TypeOf"], unfollowed := true, recurses := true, named := ["loop.example/g01299/impl.errInvalid", "loop.example/g01299/impl.errRange", "loop.example/g01299/impl.errState"], ifaces := true, apart := false, laid := [("loop.example/g01299/impl.errInvalid", laid_loop_example_g01299_impl_errInvalid), ("loop.example/g01299/impl.errRange", laid_loop_example_g01299_impl_errRange), ("loop.example/g01299/impl.errState", laid_loop_example_g01299_impl_errState)], narrowed := true }
def FnExactHoistOfUptoSaid : Prop := fnExactHoistOfUptoRow.holds Tryd.pinned (OpenSpec.upto fnExactHoistOfSpec)

/-- 'laws.FnExactFlagsFor', WHERE WHAT IT READS IS OF BULK AT MOST 1048576: true; the input reads as it did. -/
def fnExactFlagsForUptoRow : OpenClaim := { program := "ytfaiehjomcgjgaadoor", sum := "c96c3957a70217b9ddada02ef0c65df301dc6318f3d4614d81a5bf4fe78f4bf7", func := "loop.example/g01299/laws.FnExactFlagsFor", spec := "fnExactFlagsFor", inPlace := ["internal/reflectlite.TypeOf"], unfollowed := true, recurses := true, named := ["loop.example/g01299/impl.errInvalid", "loop.example/g01299/impl.errRange", "loop.example/g01299/impl.errState"], ifaces := true, apart := false, laid := [("loop.example/g01299/impl.errInvalid", laid_loop_example_g01299_impl_errInvalid), ("loop.example/g01299/impl.errRange", laid_loop_example_g01299_impl_errRange), ("loop.example/g01299/impl.errState", laid_loop_example_g01299_impl_errState)], narrowed := true }
def FnExactFlagsForUptoSaid : Prop := fnExactFlagsForUptoRow.holds Tryd.pinned (OpenSpec.upto fnExactFlagsForSpec)

/-- 'laws.FnExactFlagsUntilSure', WHERE WHAT IT READS IS OF BULK AT MOST 1048576: true; the input reads as it did. -/
def fnExactFlagsUntilSureUptoRow : OpenClaim := { program := "ytfaiehjomcgjgaadoor", sum := "c96c3957a70217b9ddada02ef0c65df301dc6318f3d4614d81a5bf4fe78f4bf7", func := "loop.example/g01299/laws.FnExactFlagsUntilSure", spec := "fnExactFlagsUntilSure", inPlace := ["internal/reflectlite.TypeOf"], unfollowed := true, recurses := true, named := ["loop.example/g01299/impl.errInvalid", "loop.example/g01299/impl.errRange", "loop.example/g01299/impl.errState"], ifaces := true, apart := false, laid := [("loop.example/g01299/impl.errInvalid", laid_loop_example_g01299_impl_errInvalid), ("loop.example/g01299/impl.errRange", laid_loop_example_g01299_impl_errRange), ("loop.example/g01299/impl.errState", laid_loop_example_g01299_impl_errState)], narrowed := true }
def FnExactFlagsUntilSureUptoSaid : Prop := fnExactFlagsUntilSureUptoRow.holds Tryd.pinned (OpenSpec.upto fnExactFlagsUntilSureSpec)

/-- 'laws.FnExactDropPhrase', WHERE WHAT IT READS IS OF BULK AT MOST 1048576: true; the input reads as it did. -/
def fnExactDropPhraseUptoRow : OpenClaim := { program := "ytfaiehjomcgjgaadoor", sum := "c96c3957a70217b9ddada02ef0c65df301dc6318f3d4614d81a5bf4fe78f4bf7", func := "loop.example/g01299/laws.FnExactDropPhrase", spec := "fnExactDropPhrase", inPlace := ["internal/reflectlite.TypeOf"], unfollowed := true, recurses := true, named := ["loop.example/g01299/impl.errInvalid", "loop.example/g01299/impl.errRange", "loop.example/g01299/impl.errState"], ifaces := true, apart := false, laid := [("loop.example/g01299/impl.errInvalid", laid_loop_example_g01299_impl_errInvalid), ("loop.example/g01299/impl.errRange", laid_loop_example_g01299_impl_errRange), ("loop.example/g01299/impl.errState", laid_loop_example_g01299_impl_errState)], narrowed := true }
def FnExactDropPhraseUptoSaid : Prop := fnExactDropPhraseUptoRow.holds Tryd.pinned (OpenSpec.upto fnExactDropPhraseSpec)

/-- 'laws.FnExactAddPhrase', WHERE WHAT IT READS IS OF BULK AT MOST 1048576: true; the input reads as it did. -/
def fnExactAddPhraseUptoRow : OpenClaim := { program := "ytfaiehjomcgjgaadoor", sum := "c96c3957a70217b9ddada02ef0c65df301dc6318f3d4614d81a5bf4fe78f4bf7", func := "loop.example/g01299/laws.FnExactAddPhrase", spec := "fnExactAddPhrase", inPlace := ["internal/reflectlite.TypeOf"], unfollowed := true, recurses := true, named := ["loop.example/g01299/impl.errInvalid", "loop.example/g01299/impl.errRange", "loop.example/g01299/impl.errState"], ifaces := true, apart := false, laid := [("loop.example/g01299/impl.errInvalid", laid_loop_example_g01299_impl_errInvalid), ("loop.example/g01299/impl.errRange", laid_loop_example_g01299_impl_errRange), ("loop.example/g01299/impl.errState", laid_loop_example_g01299_impl_errState)], narrowed := true }
def FnExactAddPhraseUptoSaid : Prop := fnExactAddPhraseUptoRow.holds Tryd.pinned (OpenSpec.upto fnExactAddPhraseSpec)

/-- 'laws.FnExactReplacePhrase', WHERE WHAT IT READS IS OF BULK AT MOST 1048576: true; the input reads as it did. -/
def fnExactReplacePhraseUptoRow : OpenClaim := { program := "ytfaiehjomcgjgaadoor", sum := "c96c3957a70217b9ddada02ef0c65df301dc6318f3d4614d81a5bf4fe78f4bf7", func := "loop.example/g01299/laws.FnExactReplacePhrase", spec := "fnExactReplacePhrase", inPlace := ["internal/reflectlite.TypeOf"], unfollowed := true, recurses := true, named := ["loop.example/g01299/impl.errInvalid", "loop.example/g01299/impl.errRange", "loop.example/g01299/impl.errState"], ifaces := true, apart := false, laid := [("loop.example/g01299/impl.errInvalid", laid_loop_example_g01299_impl_errInvalid), ("loop.example/g01299/impl.errRange", laid_loop_example_g01299_impl_errRange), ("loop.example/g01299/impl.errState", laid_loop_example_g01299_impl_errState)], narrowed := true }
def FnExactReplacePhraseUptoSaid : Prop := fnExactReplacePhraseUptoRow.holds Tryd.pinned (OpenSpec.upto fnExactReplacePhraseSpec)

/-- 'laws.FnExactShortestBook', WHERE WHAT IT READS IS OF BULK AT MOST 1048576: true; the input reads as it did. -/
def fnExactShortestBookUptoRow : OpenClaim := { program := "ytfaiehjomcgjgaadoor", sum := "c96c3957a70217b9ddada02ef0c65df301dc6318f3d4614d81a5bf4fe78f4bf7", func := "loop.example/g01299/laws.FnExactShortestBook", spec := "fnExactShortestBook", inPlace := ["internal/reflectlite.TypeOf"], unfollowed := true, recurses := true, named := ["loop.example/g01299/impl.errInvalid", "loop.example/g01299/impl.errRange", "loop.example/g01299/impl.errState"], ifaces := true, apart := false, laid := [("loop.example/g01299/impl.errInvalid", laid_loop_example_g01299_impl_errInvalid), ("loop.example/g01299/impl.errRange", laid_loop_example_g01299_impl_errRange), ("loop.example/g01299/impl.errState", laid_loop_example_g01299_impl_errState)], narrowed := true }
def FnExactShortestBookUptoSaid : Prop := fnExactShortestBookUptoRow.holds Tryd.pinned (OpenSpec.upto fnExactShortestBookSpec)

end Rows
end Go.Proofs.YtfaiehjomcgjgaaDoor
