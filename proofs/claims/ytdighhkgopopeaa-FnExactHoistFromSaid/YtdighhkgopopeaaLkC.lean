/- The model's search for hoists out of a locker: what its loop over the substitutes adds, number by number. -/
import Derived.Test.YtdighhkgopopeaaLkB
namespace Go.Proofs.Ytdighhkgopopeaa
set_option linter.unusedVariables false
open Go.RowKit
section
variable {next : List Int → List Int → List (List Int)} {m h left : List Int} {q : Nat}
theorem lkN_skip (hr : (repB m h.length (q + 1) && !(left.getD (40 + q) 0 == 0)) = false) : lkN next m h left (q + 1) = lkN next m h left q := by
  rw [lkN, hr, if_neg (by simp), List.nil_append]
theorem lkN_take (hr : (repB m h.length (q + 1) && !(left.getD (40 + q) 0 == 0)) = true) : lkN next m h left (q + 1) = next (less left (40 + q)) (h ++ [-((q + 1 : Nat) : Int)]) ++ lkN next m h left q := by
  rw [lkN, hr, if_pos rfl]
theorem lkN_zero (h0 : 0 < left.getD (pIdx (m.getD h.length 0)) 0) : lkN next m h left 0 = next (less left (pIdx (m.getD h.length 0))) (h ++ [m.getD h.length 0]) := by
  rw [lkN, if_pos h0]
theorem lkN_none (h0 : ¬ 0 < left.getD (pIdx (m.getD h.length 0)) 0) : lkN next m h left 0 = [] := by
  rw [lkN, if_neg h0]
end
/-- A cell of a locker's row that has one piece less. -/
theorem heap_less {w : World} {b p : Nat} {left : List Int} {t : TypeId} (h : w.heap[b]? = some (.cells (kCells .i16 left) t (0, 0))) :
    (w.setCell ⟨b, p, none⟩ (.int .i16 (left.getD p 0 - 1))).heap[b]? = some (.cells (kCells .i16 (less left p)) t (0, 0)) := heap_int_set h
theorem less_bd {left : List Int} {p : Nat} (hl : left.length = 44) (hb : ∀ q, 0 ≤ left.getD q 0 ∧ left.getD q 0 ≤ 20) (hp : p < 44) (h0 : 0 < left.getD p 0) : ∀ q, 0 ≤ (less left p).getD q 0 ∧ (less left p).getD q 0 ≤ 20 := by
  intro q
  rw [less_get (by rw [hl]; exact hp)]
  have h1 := hb q
  have h2 := hb p
  split <;> omega
/-- What the rounds of the search keep: out, and what has been made. -/
structure LkR (wA : World) (lo zb : Nat) (vo : Value) (left : List Int) (t : TypeId) (xss D : List (List Int)) (v : Value) (vs : List Value) (V : World) : Prop where
  own : OwnH V lo V.heap.size v vs (xss ++ D)
  grow : wA.grownBy V vo.ownBlock
  one : OneB vo v wA.heap.size
  box : V.heap[zb]? = some (.cells (kCells .i16 left) t (0, 0))
/-- A further call keeps it. -/
theorem LkR.more {wA V V' : World} {lo zb : Nat} {vo v v' : Value} {left : List Int} {t : TypeId} {xss D R : List (List Int)} {vs vs' : List Value} (h : LkR wA lo zb vo left t xss D v vs V) (hz : zb < wA.heap.size) (hne : vo.ownBlock ≠ some zb)
    (ow : OwnH V' lo V'.heap.size v' vs' ((xss ++ D) ++ R)) (gb : V.grownBy V' v.ownBlock) (ob : OneB v v' V.heap.size) : LkR wA lo zb vo left t xss (D ++ R) v' vs' V' := by
  refine ⟨by rw [← List.append_assoc]; exact ow, grb h.grow gb (fun k e => h.one k e), fun b e => ?_, ?_⟩
  · rcases ob b e with h1 | h1
    · exact h.one b h1
    · exact .inr (Nat.le_trans h.grow.size h1)
  · rw [gb.block zb (Nat.lt_of_lt_of_le hz h.grow.size) (fun e => ?_)]
    · exact h.box
    · rcases h.one zb e.symm with h1 | h1
      · exact hne h1
      · omega
/-- What only makes new memory keeps it. -/
theorem LkR.gr {wA V V' : World} {lo zb : Nat} {vo v : Value} {left : List Int} {t : TypeId} {xss D : List (List Int)} {vs : List Value} (h : LkR wA lo zb vo left t xss D v vs V) (g : Gr V V') : LkR wA lo zb vo left t xss D v vs V' :=
  ⟨(h.own.gr g).widen g.size, grb_gr h.grow g, h.one, g.heap h.box⟩
end Go.Proofs.Ytdighhkgopopeaa
