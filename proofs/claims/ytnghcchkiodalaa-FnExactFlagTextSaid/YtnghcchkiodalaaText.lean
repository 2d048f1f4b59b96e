/- The text of a flag: what the two functions write. -/
import Derived.Test.YtnghcchkiodalaaValid
import Derived.Test.YtnghcchkiodalaaToFlag
import Derived.Test.YtnghcchkiodalaaOwn
import Derived.Test.YtnghcchkiodalaaShelf
import Derived.Laws.BytesArg
namespace Go.Proofs.Ytnghcchkiodalaa
open Go.RowKit
def letL : List UInt8 := [119, 121, 114, 98, 103, 107]
def letB (x : Int) : UInt8 := letL.getD x.toNat 0
/-- The text of the first k cells. -/
def textTo (xs : List Int) : Nat → List UInt8
  | 0 => []
  | k + 1 => textTo xs k ++ (if 0 < k ∧ k % 6 = 0 then [47] else []) ++ [letB (xs.getD k 0)]
def textV (xs : List Int) : ByteArray := if okB xs then ⟨(textTo xs 24).toArray⟩ else ⟨#[]⟩
theorem textV_yes {xs : List Int} (h : okB xs = true) : textV xs = ⟨(textTo xs 24).toArray⟩ := by unfold textV; rw [if_pos h]
theorem textV_no {xs : List Int} (h : okB xs = false) : textV xs = ⟨#[]⟩ := by unfold textV; rw [if_neg (by rw [h]; simp)]
theorem textTo_cut {xs : List Int} {k : Nat} (h : 0 < k ∧ k % 6 = 0) : textTo xs (k + 1) = (textTo xs k ++ [47]) ++ [letB (xs.getD k 0)] := by rw [textTo, if_pos h]
theorem textTo_on {xs : List Int} {k : Nat} (h : ¬ (0 < k ∧ k % 6 = 0)) : textTo xs (k + 1) = textTo xs k ++ [letB (xs.getD k 0)] := by rw [textTo, if_neg h, List.append_nil]
theorem textTo_length (xs : List Int) (k : Nat) : k ≤ (textTo xs k).length ∧ (textTo xs k).length ≤ 2 * k := by
  induction k with
  | zero => simp [textTo]
  | succ k ih => rw [textTo]; split <;> simp <;> omega
def ints (l : List UInt8) : List Int := l.map fun b => (b.toNat : Int)
theorem ints_length (l : List UInt8) : (ints l).length = l.length := by simp [ints]
theorem ints_append (l m : List UInt8) : ints (l ++ m) = ints l ++ ints m := by simp [ints]
theorem strOf_ints (l : List UInt8) : strOfNums (ints l) = ⟨l.toArray⟩ := by
  unfold strOfNums ints
  rw [List.map_map]
  congr 2
  conv => rhs; rw [← List.map_id l]
  apply List.map_congr_left
  intro b _
  simp
theorem okB_le {xs : List Int} (h : okB xs = true) {k : Nat} (hk : k < xs.length) : xs.getD k 0 ≤ 5 := by
  have hf := okB_false_of xs k hk
  rcases Int.lt_or_le 5 (xs.getD k 0) with h5 | h5
  · rw [hf h5] at h; cases h
  · exact h5
theorem letB_at {x : Int} (h0 : 0 ≤ x) (h5 : x ≤ 5) : x = 0 ∧ letB x = 119 ∨ x = 1 ∧ letB x = 121 ∨ x = 2 ∧ letB x = 114 ∨ x = 3 ∧ letB x = 98 ∨ x = 4 ∧ letB x = 103 ∨ x = 5 ∧ letB x = 107 := by
  obtain rfl | rfl | rfl | rfl | rfl | rfl : x = 0 ∨ x = 1 ∨ x = 2 ∨ x = 3 ∨ x = 4 ∨ x = 5 := by omega
  all_goals (simp; try decide)
theorem infoU8 : (Try.prog.info? 5).map (fun i => (i.zero, i.size, i.bytes)) = some (some (.int .u8 0), 1, 1) := by kernel_rfl
theorem Own.appended8 {e : TypeId} {w1 : World} {lo m : Nat} {v : Value} {ys : List Int} {x : Int} (h : w1.ownsRow lo e 1 v (m + 1) (ys.map (Value.int .u8) ++ [.int .u8 x])) (hm : ys.length = m) : Own .u8 e w1 lo w1.heap.size v (ys ++ [x]) :=
  Own.ofRow h (by rw [List.map_append]; rfl) (by rw [List.length_append, hm]; rfl)
theorem cell_new1 (w : World) (v : Value) (t : TypeId) : ∀ j u, [v][j]? = some u → (w.alloc (.cells #[v] t)).cell? ((⟨w.heap.size, 0, none⟩ : Addr).add j) = some u := by
  intro j u hj
  match j, hj with
  | 0, hj => simp at hj; subst hj; simp [Addr.add]
end Go.Proofs.Ytnghcchkiodalaa
