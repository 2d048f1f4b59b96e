/- The model's costs. -/
import Derived.Test.YtnkoakneffjkbaaDoorBegin
import Derived.Deep.DeepCutAuto
namespace Go.Proofs.YtnkoakneffjkbaaDoor
set_option linter.unusedVariables false
open Go.RowKit
set_option maxRecDepth 100000 in
theorem l00Max_any (x y : Int) (w : World) : Calls Tryd.prog 31 #[.int .i64 x, .int .i64 y] w fun e w' => e = .returned (.int .i64 (max x y)) ∧ w = w' := by
  by_cases h : y < x
  · have HR := hid (show max x y = x by omega)
    go_enter Tryd.func31, Tryd.ntmps31
    go_wp2_with fail
    go_ret
    exact ⟨ret_int HR.out.symm, rfl⟩
  · have HR := hid (show max x y = y by omega)
    go_enter Tryd.func31, Tryd.ntmps31
    go_wp2_with fail
    go_ret
    exact ⟨ret_int HR.out.symm, rfl⟩
/-- The best so far, of an entry's costs. -/
def cB1 (es fs : List En) (i k : Nat) : Int := if i < es.length then 1 + costT es fs (i + 1) k else -1
def cB2 (es fs : List En) (i k : Nat) : Int := if k < fs.length ∧ (cB1 es fs i k < 0 ∨ 2 + costT es fs i (k + 1) < cB1 es fs i k) then 2 + costT es fs i (k + 1) else cB1 es fs i k
def cB3 (es fs : List En) (i k : Nat) : Int := if i < es.length ∧ k < fs.length then (if 0 ≤ bothC (enAt es i) (enAt fs k) ∧ bothC (enAt es i) (enAt fs k) + costT es fs (i + 1) (k + 1) < cB2 es fs i k then bothC (enAt es i) (enAt fs k) + costT es fs (i + 1) (k + 1) else cB2 es fs i k) else cB2 es fs i k
theorem cB_eq (es fs : List En) (i k : Nat) (h1 : es.length ≤ 60) (h2 : fs.length ≤ 60) : max (cB3 es fs i k) 0 = costT es fs i k := by
  have b1 := costT_bd es fs (i + 1) k h1 h2
  have b2 := costT_bd es fs i (k + 1) h1 h2
  have b3 := costT_bd es fs (i + 1) (k + 1) h1 h2
  have hb := bothC_range (enAt es i) (enAt fs k)
  have hT := costT.eq_1 es fs i k
  unfold cB3 cB2 cB1
  rw [hT]
  generalize costT es fs (i + 1) k = x at *
  generalize costT es fs i (k + 1) = y at *
  generalize costT es fs (i + 1) (k + 1) = z at *
  generalize bothC (enAt es i) (enAt fs k) = c at *
  simp only [Int.min_def]
  by_cases hi : i < es.length
  · by_cases hk : k < fs.length
    · simp only [hi, hk, if_true, true_and]
      repeat' split
      all_goals omega
    · simp only [hi, hk, if_true, if_false, false_and, and_false]
      omega
  · by_cases hk : k < fs.length
    · simp only [hi, hk, if_true, if_false, false_and, true_and]
      repeat' split
      all_goals omega
    · simp only [hi, hk, if_false, false_and]
      omega
end Go.Proofs.YtnkoakneffjkbaaDoor
