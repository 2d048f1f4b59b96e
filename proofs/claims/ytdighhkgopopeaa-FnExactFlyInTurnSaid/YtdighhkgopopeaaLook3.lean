/- The model's search of hoists, whole; HoistFor, WaysToHoist of the model. -/
import Derived.Test.YtdighhkgopopeaaLook2
import Derived.Test.YtdighhkgopopeaaHoistU
namespace Go.Proofs.Ytdighhkgopopeaa
set_option linter.unusedVariables false
open Go.RowKit
theorem plain_nums {m : List Int} (h : plainH m = true) : ∀ i, i < m.length → m.getD i 0 = -10 ∨ (0 ≤ m.getD i 0 ∧ m.getD i 0 ≤ 39) := by
  intro i hi
  have hv := plainH_valid h
  rcases validH_num hv hi with h1 | h1 | h1
  · exact .inl h1
  · have h2 := h
    unfold plainH at h2
    simp only [Bool.and_eq_true] at h2
    have h3 := allTo_iff.1 h2.2 i hi
    unfold ownAt at h3
    rw [subI_iff.2 h1] at h3
    cases h3
  · exact .inr h1
/-- What is wrong with a wish. -/
def askC (m : List Int) (S B : Int) : Int := if plainH m then (if betB S 1 8 && betB B 0 4 then 0 else 2) else 1
theorem askC_yes {m : List Int} {S B : Int} (h : askC m S B = 0) : plainH m = true ∧ (1 ≤ S ∧ S ≤ 8) ∧ (0 ≤ B ∧ B ≤ 4) := by
  unfold askC at h
  cases hv : plainH m
  · rw [hv] at h; cases h
  · rw [hv, if_pos rfl] at h
    cases hb : (betB S 1 8 && betB B 0 4)
    · rw [hb] at h; cases h
    · simp only [Bool.and_eq_true] at hb
      unfold betB at hb
      simp only [Bool.and_eq_true, decide_eq_true_eq] at hb
      exact ⟨rfl, hb.1, hb.2⟩
def headL (R : List (List Int)) : List Int := match R with | [] => [] | h :: _ => h
def headC (R : List (List Int)) : Int := match R with | [] => 6 | _ :: _ => 0
def hforL (m : List Int) (S B : Int) : List Int := if askC m S B = 0 then headL (hoistsL m S B.toNat) else []
def hforC (m : List Int) (S B : Int) : Int := if askC m S B = 0 then headC (hoistsL m S B.toNat) else askC m S B
def waysV (m : List Int) (S B : Int) : Int := if askC m S B = 0 then ((hoistsL m S B.toNat).length : Int) else 0
theorem hfor_no {m : List Int} {S B : Int} (h : ¬ askC m S B = 0) : hforL m S B = [] ∧ hforC m S B = askC m S B ∧ waysV m S B = 0 := by
  unfold hforL hforC waysV
  rw [if_neg h, if_neg h, if_neg h]
  exact ⟨rfl, rfl, rfl⟩
theorem hfor_yes {m : List Int} {S B : Int} (h : askC m S B = 0) : hforL m S B = headL (hoistsL m S B.toNat) ∧ hforC m S B = headC (hoistsL m S B.toNat) ∧ waysV m S B = ((hoistsL m S B.toNat).length : Int) := by
  unfold hforL hforC waysV
  rw [if_pos h, if_pos h, if_pos h]
  exact ⟨rfl, rfl, rfl⟩
theorem slice_some {w : World} {a : Option Addr} {m : List Int} (h1 : 1 ≤ m.length) (hs : SliceOf .i8 w a m) : ∃ b o, a = some ⟨b, o, none⟩ := by
  obtain ⟨b, o, e, _⟩ := hs 0 (by omega)
  exact ⟨b, o, e⟩
end Go.Proofs.Ytdighhkgopopeaa
