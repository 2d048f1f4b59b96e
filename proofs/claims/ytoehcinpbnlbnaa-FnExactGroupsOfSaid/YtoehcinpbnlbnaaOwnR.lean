/- A slice of slices: one of them is made anew, and stored back. -/
import Derived.Test.YtoehcinpbnlbnaaOwnS
namespace Go.Proofs.Ytoehcinpbnlbnaa
open Go.RowKit
theorem OwnS.renew {w w1 : World} {lo hi n cap g i : Nat} {vs : List Value} {xss : List (List Int)} {u u' : Value} {ys : List Int}
    (h : OwnS w lo hi (.slice (some ⟨g, 0, none⟩) n cap) vs xss) (hhi : hi ≤ w.heap.size) (hi0 : i < xss.length) (hu : vs[i]? = some u)
    (ho : w1.ownsRow lo 33 1 u' ys.length (ys.map (Value.int .i8))) (hg : w.grownBy w1 u.ownBlock)
    (hloc : u'.ownBlock = u.ownBlock ∨ ∃ b, u'.ownBlock = some b ∧ w.heap.size ≤ b) :
    OwnS (w1.setCell ⟨g, i, none⟩ u') lo w1.heap.size (.slice (some ⟨g, 0, none⟩) n cap) (vs.set i u') (xss.set i ys) ∧ w1.grownBy (w1.setCell ⟨g, i, none⟩ u') (some g) := by
  have hl := h.len
  subst hl
  have hrow1 : w1.ownsRow lo 26 1 (.slice (some ⟨g, 0, none⟩) xss.length cap) xss.length vs := h.row.kept hg (.inr (fun e => h.apart i u hu g e.symm rfl))
  have hst := hrow1.stored i u'
  have hvl : vs.length = xss.length := by have := h.row.1; omega
  have keep : ∀ {x : Value} {m : Nat} {zs : List Value} {l : Nat}, w1.ownsRow l 33 1 x m zs → (w1.setCell ⟨g, i, none⟩ u').ownsRow l 33 1 x m zs := by
    intro x m zs l hx
    refine hx.kept hst.2 ?_
    cases hb : x.ownBlock with
    | none => exact .inl rfl
    | some b => exact .inr (fun e => apart_of_types hrow1 hx b hb e.symm)
  have old : ∀ {j : Nat}, j < xss.length → j ≠ i → ∃ x, vs[j]? = some x ∧ w1.ownsRow lo 33 1 x (xss.getD j []).length ((xss.getD j []).map (Value.int .i8)) ∧ ∀ b, x.ownBlock = some b → b < hi := by
    intro j hj hji
    obtain ⟨x, hx, hox⟩ := h.each j hj
    refine ⟨x, hx, hox.row.kept hg ?_, hox.top⟩
    cases hb : x.ownBlock with
    | none => exact .inl rfl
    | some b => exact .inr (fun e => h.dist i j u x (Ne.symm hji) hu hx b e.symm hb)
  have hsz : (w1.setCell ⟨g, i, none⟩ u').heap.size = w1.heap.size := by simp
  have each : ∀ j, j < xss.length → ∃ x, (vs.set i u')[j]? = some x ∧ Own .i8 33 (w1.setCell ⟨g, i, none⟩ u') lo w1.heap.size x ((xss.set i ys).getD j []) ∧ (j ≠ i → vs[j]? = some x ∧ ∀ b, x.ownBlock = some b → b < hi) ∧ (j = i → x = u') := by
    intro j hj
    by_cases hji : j = i
    · subst hji
      refine ⟨u', by rw [List.getElem?_set_self (by omega)], ?_, fun e => absurd rfl e, fun _ => rfl⟩
      have e : (xss.set j ys).getD j [] = ys := by simp [List.getD, hj]
      rw [e]
      exact ⟨keep ho, fun b hb => (ho.lt b hb).2⟩
    · obtain ⟨x, hx, hox, ht⟩ := old hj hji
      refine ⟨x, by rw [List.getElem?_set_ne (Ne.symm hji)]; exact hx, ?_, fun _ => ⟨hx, ht⟩, fun e => absurd e hji⟩
      have e : (xss.set i ys).getD j [] = xss.getD j [] := by simp [List.getD, Ne.symm hji]
      rw [e]
      exact ⟨keep hox, fun b hb => (hox.lt b hb).2⟩
  have lt : ∀ {j : Nat} {x : Value}, (vs.set i u')[j]? = some x → j < xss.length := by
    intro j x hx
    have := (List.getElem?_eq_some_iff.1 hx).1
    rw [List.length_set] at this
    omega
  have hro : (w1.setCell ⟨g, i, none⟩ u').ownsRow lo 26 1 (.slice (some ⟨g, 0, none⟩) xss.length cap) xss.length (vs.set i u') := hst.1
  have far : ∀ b, u'.ownBlock = some b → ∀ (j : Nat) (x : Value), j ≠ i → vs[j]? = some x → (∀ b', x.ownBlock = some b' → b' < hi) → x.ownBlock ≠ some b := by
    intro b hb j x hji hx ht hxb
    rcases hloc with e | ⟨b', e, hb'⟩
    · rw [e] at hb
      exact h.dist i j u x (Ne.symm hji) hu hx b hb hxb
    · rw [e] at hb
      cases hb
      have := ht b hxb
      omega
  refine ⟨⟨by rw [List.length_set]; exact hro, fun b hb => hsz ▸ (hro.lt b hb).2, fun j hj => ?_, fun j x hx b hb => ?_, fun j k x y hjk hx hy b hb hyb => ?_⟩, hst.2⟩
  · rw [List.length_set] at hj
    obtain ⟨x, h1, h2, _⟩ := each j hj
    exact ⟨x, h1, h2⟩
  · obtain ⟨x1, h1, h2, _⟩ := each j (lt hx)
    obtain rfl : x1 = x := Option.some.inj (h1.symm.trans hx)
    exact apart_of_types hro h2.row b hb
  · obtain ⟨x1, h1, _, h3, h4⟩ := each j (lt hx)
    obtain rfl : x1 = x := Option.some.inj (h1.symm.trans hx)
    obtain ⟨y1, g1, _, g3, g4⟩ := each k (lt hy)
    obtain rfl : y1 = y := Option.some.inj (g1.symm.trans hy)
    by_cases hji : j = i
    · have hki : k ≠ i := fun e => hjk (hji.trans e.symm)
      have e1 := h4 hji
      rw [e1] at hb
      exact far b hb k _ hki (g3 hki).1 (g3 hki).2 hyb
    · by_cases hki : k = i
      · have e1 := g4 hki
        rw [e1] at hyb
        exact far b hyb j _ hji (h3 hji).1 (h3 hji).2 hb
      · exact h.dist j k _ _ hjk (h3 hji).1 (g3 hki).1 b hb hyb
end Go.Proofs.Ytoehcinpbnlbnaa
