/- The model's search of hoists: where a flag is to be placed. -/
import Derived.Test.YtdighhkgopopeaaLook
namespace Go.Proofs.Ytdighhkgopopeaa
set_option linter.unusedVariables false
open Go.RowKit
/-- What one number gives; what the numbers below a place give. -/
def partN (next : List Int → List (List Int)) (m : List Int) (S : Int) (h : List Int) : Nat → List (List Int)
  | 0 => if okX S h (m.getD h.length 0) then next (h ++ [m.getD h.length 0]) else []
  | n + 1 => if repB m h.length (n + 1) && okX S h (-((n + 1 : Nat) : Int)) then next (h ++ [-((n + 1 : Nat) : Int)]) else []
def restN (next : List Int → List (List Int)) (m : List Int) (S : Int) (h : List Int) : Nat → List (List Int)
  | 0 => []
  | q + 1 => goN next m S h q
theorem restN_succ (next : List Int → List (List Int)) (m : List Int) (S : Int) (h : List Int) (q : Nat) : restN next m S h (q + 1) = partN next m S h q ++ restN next m S h q := by
  cases q with
  | zero => simp only [restN, goN, partN, List.append_nil]
  | succ q => rfl
theorem partN_length {next : List Int → List (List Int)} {m : List Int} {S : Int} {h : List Int} {P : Nat} (hp : ∀ g, (next g).length ≤ P) (q : Nat) : (partN next m S h q).length ≤ P := by
  cases q with
  | zero =>
    simp only [partN]
    split
    · exact hp _
    · simp
  | succ q =>
    simp only [partN]
    split
    · exact hp _
    · simp
theorem partN_skip {next : List Int → List (List Int)} {m : List Int} {S : Int} {h : List Int} {q : Nat} (hq : 1 ≤ q) (hr : repB m h.length q = false) : partN next m S h q = [] := by
  obtain ⟨p, rfl⟩ : ∃ p, q = p + 1 := ⟨q - 1, by omega⟩
  simp only [partN]
  rw [hr, Bool.false_and, if_neg (by simp)]
theorem partN_rep {next : List Int → List (List Int)} {m : List Int} {S : Int} {h : List Int} {q : Nat} (hq : 1 ≤ q) (hr : repB m h.length q = true) : partN next m S h q = if okX S h (-(q : Int)) then next (h ++ [-(q : Int)]) else [] := by
  obtain ⟨p, rfl⟩ : ∃ p, q = p + 1 := ⟨q - 1, by omega⟩
  simp only [partN]
  rw [hr, Bool.true_and]
theorem fine_dec {S : Int} {h : List Int} {x : Int} (hF : Fine S h) : decide (setsTo (h ++ [x]) (h.length + 1) (h.length + 1) ≤ S) = okX S h x := by
  have := hF.snoc (x := x)
  unfold Fine at this
  rw [List.length_append, List.length_singleton] at this
  rw [Bool.eq_iff_iff, decide_eq_true_eq]
  exact this
theorem Mt.sliceM {Bs : Nat} {w w' : World} {b o : Nat} {xs : List Int} (h : Mt Bs w w') (hs : SliceOf .i8 w (some ⟨b, o, none⟩) xs) (hne : b ≠ Bs) : SliceOf .i8 w' (some ⟨b, o, none⟩) xs := h.slice hs hne
end Go.Proofs.Ytdighhkgopopeaa
