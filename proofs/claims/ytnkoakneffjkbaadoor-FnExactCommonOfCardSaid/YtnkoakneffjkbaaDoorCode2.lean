/- Codes of two logs. -/
import Derived.Test.YtnkoakneffjkbaaDoorStory
import Derived.Test.YtnkoakneffjkbaaDoorUpAt
import Derived.Test.YtnkoakneffjkbaaDoorStepX
namespace Go.Proofs.YtnkoakneffjkbaaDoor
set_option linter.unusedVariables false
open Go.RowKit
def code2 (es fs : List En) : Int := if valid2 es fs = true then 0 else 1
def faultsV (es fs : List En) : Int := if valid2 es fs = true then costT es fs 0 0 else 0
def stepP (a : Acct) : Int × Int := (a.fl, a.se)
def storyV (es fs : List En) : List (Int × Int) := if valid2 es fs = true then (storyL es fs 0 0).map stepP else []
def dropB : Acct → Bool
  | .drop _ => true
  | _ => false
def misB : Acct → Bool
  | .mis _ _ => true
  | _ => false
def pickV (p : Acct → Bool) (es fs : List En) : List Int := if valid2 es fs = true then ((storyL es fs 0 0).filter p).map Acct.fl else []
def commonV (es fs : List En) : List (Int × Int) := if valid2 es fs = true then (comTo es fs es.length).1 else []
theorem flCells_sC (F : List (Int × Int)) : StepsC F.length (flCells F) := ⟨flCells_length F, fun k hk => ⟨_, _, flCells_elem F k hk⟩⟩
theorem valid2_60 {es fs : List En} (h : valid2 es fs = true) : es.length ≤ 60 ∧ fs.length ≤ 60 := by
  unfold valid2 at h
  rw [Bool.and_eq_true] at h
  exact ⟨(valid_good h.1).1, (valid_good h.2).1⟩
theorem storyV_length (es fs : List En) : (storyV es fs).length ≤ 1048576 := by
  unfold storyV
  split
  · rename_i h
    have h1 := valid2_60 h
    have h2 := storyL_length es fs _ 0 0 rfl
    rw [List.length_map]
    omega
  · simp
theorem pickV_length (p : Acct → Bool) (es fs : List En) : (pickV p es fs).length ≤ 1048576 := by
  unfold pickV
  split
  · rename_i h
    have h1 := valid2_60 h
    have h2 := storyL_length es fs _ 0 0 rfl
    have h3 := List.length_filter_le p (storyL es fs 0 0)
    rw [List.length_map]
    omega
  · simp
theorem commonV_length (es fs : List En) : (commonV es fs).length ≤ 1048576 := by
  unfold commonV
  split
  · rename_i h
    have h1 := valid2_60 h
    have h2 := comTo_length es fs es.length
    omega
  · simp
end Go.Proofs.YtnkoakneffjkbaaDoor
