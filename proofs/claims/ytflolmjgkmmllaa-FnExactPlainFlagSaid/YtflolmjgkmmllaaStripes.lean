/- Stripes: what they are. -/
import Derived.Test.YtflolmjgkmmllaaColours
import Derived.Test.YtflolmjgkmmllaaInts
namespace Go.Proofs.Ytflolmjgkmmllaa
open Go.RowKit
def sideN (u : Bool) : Nat := if u then 6 else 4
def alongN (u : Bool) (i : Nat) : Nat := if u then i % 6 else i / 6
def okLen (n : Nat) (u : Bool) : Bool := decide (1 ≤ n) && decide (n ≤ sideN u)
def stripeB (xs : List Int) (u : Bool) : Bool := okLen xs.length u && xs.all colourB
def stripeCol (xs : List Int) (u : Bool) (i : Nat) : Int := xs.getD (alongN u i * xs.length / sideN u) 0
def stripeF (xs : List Int) (u : Bool) : List Int := if stripeB xs u then (List.range 24).map (stripeCol xs u) else zeros24
def stripeC (xs : List Int) (u : Bool) : Int := if stripeB xs u then 0 else 2
theorem stripeF_length (xs : List Int) (u : Bool) : (stripeF xs u).length = 24 := by unfold stripeF; split <;> simp [zeros24]
theorem stripe_no {xs : List Int} {u : Bool} {k : Nat} (h : (okLen xs.length u && (xs.take k).all colourB) = false) : stripeB xs u = false := by
  unfold stripeB
  cases ho : okLen xs.length u
  · rfl
  · rw [ho] at h
    simp only [Bool.true_and] at h ⊢
    rw [List.all_eq_false] at h ⊢
    obtain ⟨x, hx, hc⟩ := h
    exact ⟨x, List.mem_of_mem_take hx, hc⟩
theorem take_all_succ (xs : List Int) (k : Nat) (h : k < xs.length) : (xs.take (k + 1)).all colourB = ((xs.take k).all colourB && colourB (xs.getD k 0)) := by
  rw [List.take_succ_eq_append_getElem h, List.all_append]
  simp [List.getD, List.getElem?_eq_getElem h]
theorem idx_lt {a M n : Nat} (ha : a < M) (hn : 0 < n) : a * n / M < n := Nat.div_lt_of_lt_mul (Nat.mul_lt_mul_of_pos_right ha hn)
theorem all_get {xs : List Int} (h : xs.all colourB = true) (j : Nat) (hj : j < xs.length) : 0 ≤ xs.getD j 0 ∧ xs.getD j 0 < 6 := by
  have := List.all_eq_true.1 h _ (List.getElem_mem hj)
  have := colourB_true this
  simpa [List.getD, List.getElem?_eq_getElem hj] using this
end Go.Proofs.Ytflolmjgkmmllaa
