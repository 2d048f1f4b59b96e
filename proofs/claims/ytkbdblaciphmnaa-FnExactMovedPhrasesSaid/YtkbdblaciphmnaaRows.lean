/-
  No cell of these rows narrows 'for every input' (looked for: loops, veiled, ifaces, maps, wideKeys, modest, calm, conditions, laid).
  DERIVED. THE GIVEN ROWS OF THIS SEAT. 8 by the template 'for every input the law returns true; each argument reads behind the call as it read before'; 0 by the template 'total and deterministic' (their statements: YtkbdblaciphmnaaTotals.lean).
  GIVEN WITH THE SEED: the statements are not yours to turn. If you find one false, say at which input.
  Laid BY PROGRAM, IN A SANDBOX (cutbox-rows.mjs): the forced cells as the released guide's own fill.sh prints them over the translation c1b691247fd5ce6b… (all of the seat's roots in one cut). By AI agents, Wed Nov 11 2026. No macro, syntax, notation, axiom, sorry.
-/
import Derived.Test.YtkbdblaciphmnaaChecked
import GoSem.Claim
import GoSem.ClaimJoined
import GoSem.ClaimMapViews
import Derived.JoinedTies
import Derived.KernelRfl
namespace Go.Proofs.Ytkbdblaciphmnaa
/- THE CELL 'sum', in the pinned program and in every row, IS THE sha256 OF THE DUMP (.gsa) THAT YtkbdblaciphmnaaProg.lean LOADS. Nothing in Lean hashes anything: it is a label: what it is worth is what the hold of that sum in a sandbox is worth. -/
noncomputable def Try.pinned : Pinned := { name := "ytkbdblaciphmnaa", sum := "c1b691247fd5ce6b5dac694a57d1aa68aebc903e13ccc0e8d1132334b86ca0d1", checked := Try.checked }
namespace Rows
def none {H : Type} : Left H := { results := [], args := [] }

/-- 'laws.FnExactRoomOf': WHATEVER THE INPUT: true; the input reads as it did. -/
def fnExactRoomOfSpec : ChangeSpec := { name := "fnExactRoomOf", fn := fun _ => fun
  | [d] => { results := [.lit (.bool true)], args := [d] }
  | _ => none }
def fnExactRoomOfRow : OpenClaim := { program := "ytkbdblaciphmnaa", sum := "c1b691247fd5ce6b5dac694a57d1aa68aebc903e13ccc0e8d1132334b86ca0d1", func := "loop.example/g01299/laws.FnExactRoomOf", spec := "fnExactRoomOf", unfollowed := true, recurses := true, apart := false }
def FnExactRoomOfSaid : Prop := fnExactRoomOfRow.holds Try.pinned (OpenSpec.ofChange fnExactRoomOfSpec)

/-- ITS FALSE NEIGHBOUR: 'it returns false'. Refute it at one input. -/
def fnExactRoomOfWrong : ChangeSpec := { name := "fnExactRoomOf", fn := fun _ => fun
  | [d] => { results := [.lit (.bool false)], args := [d] }
  | _ => none }
def FnExactRoomOfWrongFalsely : Prop := fnExactRoomOfRow.holds Try.pinned (OpenSpec.ofChange fnExactRoomOfWrong)

/-- 'laws.FnExactValidBook': WHATEVER THE INPUT: true; the input reads as it did. -/
def fnExactValidBookSpec : ChangeSpec := { name := "fnExactValidBook", fn := fun _ => fun
  | [d] => { results := [.lit (.bool true)], args := [d] }
  | _ => none }
def fnExactValidBookRow : OpenClaim := { program := "ytkbdblaciphmnaa", sum := "c1b691247fd5ce6b5dac694a57d1aa68aebc903e13ccc0e8d1132334b86ca0d1", func := "loop.example/g01299/laws.FnExactValidBook", spec := "fnExactValidBook", unfollowed := true, recurses := true, apart := false }
def FnExactValidBookSaid : Prop := fnExactValidBookRow.holds Try.pinned (OpenSpec.ofChange fnExactValidBookSpec)

/-- ITS FALSE NEIGHBOUR: 'it returns false'. Refute it at one input. -/
def fnExactValidBookWrong : ChangeSpec := { name := "fnExactValidBook", fn := fun _ => fun
  | [d] => { results := [.lit (.bool false)], args := [d] }
  | _ => none }
def FnExactValidBookWrongFalsely : Prop := fnExactValidBookRow.holds Try.pinned (OpenSpec.ofChange fnExactValidBookWrong)

/-- 'laws.FnExactFindPhrase': WHATEVER THE INPUT: true; the input reads as it did. -/
def fnExactFindPhraseSpec : ChangeSpec := { name := "fnExactFindPhrase", fn := fun _ => fun
  | [d1, d2] => { results := [.lit (.bool true)], args := [d1, d2] }
  | _ => none }
def fnExactFindPhraseRow : OpenClaim := { program := "ytkbdblaciphmnaa", sum := "c1b691247fd5ce6b5dac694a57d1aa68aebc903e13ccc0e8d1132334b86ca0d1", func := "loop.example/g01299/laws.FnExactFindPhrase", spec := "fnExactFindPhrase", unfollowed := true, recurses := true, apart := false }
def FnExactFindPhraseSaid : Prop := fnExactFindPhraseRow.holds Try.pinned (OpenSpec.ofChange fnExactFindPhraseSpec)

/-- ITS FALSE NEIGHBOUR: 'it returns false'. Refute it at one input. -/
def fnExactFindPhraseWrong : ChangeSpec := { name := "fnExactFindPhrase", fn := fun _ => fun
  | [d1, d2] => { results := [.lit (.bool false)], args := [d1, d2] }
  | _ => none }
def FnExactFindPhraseWrongFalsely : Prop := fnExactFindPhraseRow.holds Try.pinned (OpenSpec.ofChange fnExactFindPhraseWrong)

/-- 'laws.FnExactRankOf': WHATEVER THE INPUT: true; the input reads as it did. -/
def fnExactRankOfSpec : ChangeSpec := { name := "fnExactRankOf", fn := fun _ => fun
  | [d1, d2] => { results := [.lit (.bool true)], args := [d1, d2] }
  | _ => none }
def fnExactRankOfRow : OpenClaim := { program := "ytkbdblaciphmnaa", sum := "c1b691247fd5ce6b5dac694a57d1aa68aebc903e13ccc0e8d1132334b86ca0d1", func := "loop.example/g01299/laws.FnExactRankOf", spec := "fnExactRankOf", unfollowed := true, recurses := true, apart := false }
def FnExactRankOfSaid : Prop := fnExactRankOfRow.holds Try.pinned (OpenSpec.ofChange fnExactRankOfSpec)

/-- ITS FALSE NEIGHBOUR: 'it returns false'. Refute it at one input. -/
def fnExactRankOfWrong : ChangeSpec := { name := "fnExactRankOf", fn := fun _ => fun
  | [d1, d2] => { results := [.lit (.bool false)], args := [d1, d2] }
  | _ => none }
def FnExactRankOfWrongFalsely : Prop := fnExactRankOfRow.holds Try.pinned (OpenSpec.ofChange fnExactRankOfWrong)

/-- 'laws.FnExactMeaningAt': WHATEVER THE INPUT: true; the input reads as it did. -/
def fnExactMeaningAtSpec : ChangeSpec := { name := "fnExactMeaningAt", fn := fun _ => fun
  | [d1, d2] => { results := [.lit (.bool true)], args := [d1, d2] }
  | _ => none }
def fnExactMeaningAtRow : OpenClaim := { program := "ytkbdblaciphmnaa", sum := "c1b691247fd5ce6b5dac694a57d1aa68aebc903e13ccc0e8d1132334b86ca0d1", func := "loop.example/g01299/laws.FnExactMeaningAt", spec := "fnExactMeaningAt", unfollowed := true, recurses := true, apart := false }
def FnExactMeaningAtSaid : Prop := fnExactMeaningAtRow.holds Try.pinned (OpenSpec.ofChange fnExactMeaningAtSpec)

/-- ITS FALSE NEIGHBOUR: 'it returns false'. Refute it at one input. -/
def fnExactMeaningAtWrong : ChangeSpec := { name := "fnExactMeaningAt", fn := fun _ => fun
  | [d1, d2] => { results := [.lit (.bool false)], args := [d1, d2] }
  | _ => none }
def FnExactMeaningAtWrongFalsely : Prop := fnExactMeaningAtRow.holds Try.pinned (OpenSpec.ofChange fnExactMeaningAtWrong)

/-- 'laws.FnExactPhraseFor': WHATEVER THE INPUT: true; the input reads as it did. -/
def fnExactPhraseForSpec : ChangeSpec := { name := "fnExactPhraseFor", fn := fun _ => fun
  | [d1, d2] => { results := [.lit (.bool true)], args := [d1, d2] }
  | _ => none }
def fnExactPhraseForRow : OpenClaim := { program := "ytkbdblaciphmnaa", sum := "c1b691247fd5ce6b5dac694a57d1aa68aebc903e13ccc0e8d1132334b86ca0d1", func := "loop.example/g01299/laws.FnExactPhraseFor", spec := "fnExactPhraseFor", unfollowed := true, recurses := true, apart := false }
def FnExactPhraseForSaid : Prop := fnExactPhraseForRow.holds Try.pinned (OpenSpec.ofChange fnExactPhraseForSpec)

/-- ITS FALSE NEIGHBOUR: 'it returns false'. Refute it at one input. -/
def fnExactPhraseForWrong : ChangeSpec := { name := "fnExactPhraseFor", fn := fun _ => fun
  | [d1, d2] => { results := [.lit (.bool false)], args := [d1, d2] }
  | _ => none }
def FnExactPhraseForWrongFalsely : Prop := fnExactPhraseForRow.holds Try.pinned (OpenSpec.ofChange fnExactPhraseForWrong)

/-- 'laws.FnExactCompletionsOf': WHATEVER THE INPUT: true; the input reads as it did. -/
def fnExactCompletionsOfSpec : ChangeSpec := { name := "fnExactCompletionsOf", fn := fun _ => fun
  | [d1, d2] => { results := [.lit (.bool true)], args := [d1, d2] }
  | _ => none }
def fnExactCompletionsOfRow : OpenClaim := { program := "ytkbdblaciphmnaa", sum := "c1b691247fd5ce6b5dac694a57d1aa68aebc903e13ccc0e8d1132334b86ca0d1", func := "loop.example/g01299/laws.FnExactCompletionsOf", spec := "fnExactCompletionsOf", unfollowed := true, recurses := true, apart := false }
def FnExactCompletionsOfSaid : Prop := fnExactCompletionsOfRow.holds Try.pinned (OpenSpec.ofChange fnExactCompletionsOfSpec)

/-- ITS FALSE NEIGHBOUR: 'it returns false'. Refute it at one input. -/
def fnExactCompletionsOfWrong : ChangeSpec := { name := "fnExactCompletionsOf", fn := fun _ => fun
  | [d1, d2] => { results := [.lit (.bool false)], args := [d1, d2] }
  | _ => none }
def FnExactCompletionsOfWrongFalsely : Prop := fnExactCompletionsOfRow.holds Try.pinned (OpenSpec.ofChange fnExactCompletionsOfWrong)

/-- 'laws.FnExactMovedPhrases': WHATEVER THE INPUT: true; the input reads as it did. -/
def fnExactMovedPhrasesSpec : ChangeSpec := { name := "fnExactMovedPhrases", fn := fun _ => fun
  | [d1, d2] => { results := [.lit (.bool true)], args := [d1, d2] }
  | _ => none }
def fnExactMovedPhrasesRow : OpenClaim := { program := "ytkbdblaciphmnaa", sum := "c1b691247fd5ce6b5dac694a57d1aa68aebc903e13ccc0e8d1132334b86ca0d1", func := "loop.example/g01299/laws.FnExactMovedPhrases", spec := "fnExactMovedPhrases", unfollowed := true, recurses := true, apart := false }
def FnExactMovedPhrasesSaid : Prop := fnExactMovedPhrasesRow.holds Try.pinned (OpenSpec.ofChange fnExactMovedPhrasesSpec)

/-- ITS FALSE NEIGHBOUR: 'it returns false'. Refute it at one input. -/
def fnExactMovedPhrasesWrong : ChangeSpec := { name := "fnExactMovedPhrases", fn := fun _ => fun
  | [d1, d2] => { results := [.lit (.bool false)], args := [d1, d2] }
  | _ => none }
def FnExactMovedPhrasesWrongFalsely : Prop := fnExactMovedPhrasesRow.holds Try.pinned (OpenSpec.ofChange fnExactMovedPhrasesWrong)

/- THE SECOND FORM. 'bulk': how many values and letters a reading holds, each counted each time it is reached (what is shared counts as often as it is met; a slice's spare places count too). A statement '..UptoSaid' is the law's where the arguments, and the package variables that the reading takes, are together of bulk at most 1048576: NARROWER than '..Said'. Prove '..Said' where nothing that the law and all that it calls make is longer than what came in: it says more and counts as full. Else prove '..UptoSaid'. A law counts once. -/
mutual
def uptoBulk {H : Type} : DataW H → Nat
  | .lit (.string bytes) => bytes.length + 1
  | .lit _ => 1
  | .nil => 1
  | .ptr d => uptoBulk d + 1
  | .slice elems spare => uptoBulkAll elems + uptoBulkAll spare + 1
  | .agg parts => uptoBulkAll parts + 1
  | .iface _ d => uptoBulk d + 1
  | .map entries => uptoBulkEntries entries + 1
  | .held _ => 1
def uptoBulkAll {H : Type} : List (DataW H) → Nat
  | [] => 0
  | d :: r => uptoBulk d + uptoBulkAll r
def uptoBulkEntries {H : Type} : List (Lit × DataW H) → Nat
  | [] => 0
  | x :: r => uptoBulkEntry x + uptoBulkEntries r
def uptoBulkEntry {H : Type} : Lit × DataW H → Nat
  | (.string bytes, d) => bytes.length + uptoBulk d + 1
  | (_, d) => uptoBulk d + 1
 end
def uptoSmall : (H : Type) → List (DataW H) → Bool := fun _ ds => decide (uptoBulkAll ds ≤ 1048576)
def OpenSpec.upto (s : _root_.Go.ChangeSpec) : _root_.Go.OpenSpec := { _root_.Go.OpenSpec.ofChange s with cond := some uptoSmall }

/-- 'laws.FnExactRoomOf', WHERE WHAT IT READS IS OF BULK AT MOST 1048576: true; the input reads as it did. -/
def fnExactRoomOfUptoRow : OpenClaim := { program := "ytkbdblaciphmnaa", sum := "c1b691247fd5ce6b5dac694a57d1aa68aebc903e13ccc0e8d1132334b86ca0d1", func := "loop.example/g01299/laws.FnExactRoomOf", spec := "fnExactRoomOf", unfollowed := true, recurses := true, apart := false, narrowed := true }
def FnExactRoomOfUptoSaid : Prop := fnExactRoomOfUptoRow.holds Try.pinned (OpenSpec.upto fnExactRoomOfSpec)

/-- 'laws.FnExactValidBook', WHERE WHAT IT READS IS OF BULK AT MOST 1048576: true; the input reads as it did. -/
def fnExactValidBookUptoRow : OpenClaim := { program := "ytkbdblaciphmnaa", sum := "c1b691247fd5ce6b5dac694a57d1aa68aebc903e13ccc0e8d1132334b86ca0d1", func := "loop.example/g01299/laws.FnExactValidBook", spec := "fnExactValidBook", unfollowed := true, recurses := true, apart := false, narrowed := true }
def FnExactValidBookUptoSaid : Prop := fnExactValidBookUptoRow.holds Try.pinned (OpenSpec.upto fnExactValidBookSpec)

/-- 'laws.FnExactFindPhrase', WHERE WHAT IT READS IS OF BULK AT MOST 1048576: true; the input reads as it did. -/
def fnExactFindPhraseUptoRow : OpenClaim := { program := "ytkbdblaciphmnaa", sum := "c1b691247fd5ce6b5dac694a57d1aa68aebc903e13ccc0e8d1132334b86ca0d1", func := "loop.example/g01299/laws.FnExactFindPhrase", spec := "fnExactFindPhrase", unfollowed := true, recurses := true, apart := false, narrowed := true }
def FnExactFindPhraseUptoSaid : Prop := fnExactFindPhraseUptoRow.holds Try.pinned (OpenSpec.upto fnExactFindPhraseSpec)

/-- 'laws.FnExactRankOf', WHERE WHAT IT READS IS OF BULK AT MOST 1048576: true; the input reads as it did. -/
def fnExactRankOfUptoRow : OpenClaim := { program := "ytkbdblaciphmnaa", sum := "c1b691247fd5ce6b5dac694a57d1aa68aebc903e13ccc0e8d1132334b86ca0d1", func := "loop.example/g01299/laws.FnExactRankOf", spec := "fnExactRankOf", unfollowed := true, recurses := true, apart := false, narrowed := true }
def FnExactRankOfUptoSaid : Prop := fnExactRankOfUptoRow.holds Try.pinned (OpenSpec.upto fnExactRankOfSpec)

/-- 'laws.FnExactMeaningAt', WHERE WHAT IT READS IS OF BULK AT MOST 1048576: true; the input reads as it did. -/
def fnExactMeaningAtUptoRow : OpenClaim := { program := "ytkbdblaciphmnaa", sum := "c1b691247fd5ce6b5dac694a57d1aa68aebc903e13ccc0e8d1132334b86ca0d1", func := "loop.example/g01299/laws.FnExactMeaningAt", spec := "fnExactMeaningAt", unfollowed := true, recurses := true, apart := false, narrowed := true }
def FnExactMeaningAtUptoSaid : Prop := fnExactMeaningAtUptoRow.holds Try.pinned (OpenSpec.upto fnExactMeaningAtSpec)

/-- 'laws.FnExactPhraseFor', WHERE WHAT IT READS IS OF BULK AT MOST 1048576: true; the input reads as it did. -/
def fnExactPhraseForUptoRow : OpenClaim := { program := "ytkbdblaciphmnaa", sum := "c1b691247fd5ce6b5dac694a57d1aa68aebc903e13ccc0e8d1132334b86ca0d1", func := "loop.example/g01299/laws.FnExactPhraseFor", spec := "fnExactPhraseFor", unfollowed := true, recurses := true, apart := false, narrowed := true }
def FnExactPhraseForUptoSaid : Prop := fnExactPhraseForUptoRow.holds Try.pinned (OpenSpec.upto fnExactPhraseForSpec)

/-- 'laws.FnExactCompletionsOf', WHERE WHAT IT READS IS OF BULK AT MOST 1048576: true; the input reads as it did. -/
def fnExactCompletionsOfUptoRow : OpenClaim := { program := "ytkbdblaciphmnaa", sum := "c1b691247fd5ce6b5dac694a57d1aa68aebc903e13ccc0e8d1132334b86ca0d1", func := "loop.example/g01299/laws.FnExactCompletionsOf", spec := "fnExactCompletionsOf", unfollowed := true, recurses := true, apart := false, narrowed := true }
def FnExactCompletionsOfUptoSaid : Prop := fnExactCompletionsOfUptoRow.holds Try.pinned (OpenSpec.upto fnExactCompletionsOfSpec)

/-- 'laws.FnExactMovedPhrases', WHERE WHAT IT READS IS OF BULK AT MOST 1048576: true; the input reads as it did. -/
def fnExactMovedPhrasesUptoRow : OpenClaim := { program := "ytkbdblaciphmnaa", sum := "c1b691247fd5ce6b5dac694a57d1aa68aebc903e13ccc0e8d1132334b86ca0d1", func := "loop.example/g01299/laws.FnExactMovedPhrases", spec := "fnExactMovedPhrases", unfollowed := true, recurses := true, apart := false, narrowed := true }
def FnExactMovedPhrasesUptoSaid : Prop := fnExactMovedPhrasesUptoRow.holds Try.pinned (OpenSpec.upto fnExactMovedPhrasesSpec)

end Rows
end Go.Proofs.Ytkbdblaciphmnaa
