/- Slices of slices that a call has made. -/
import Derived.Test.YtkbdblaciphmnaaSlicesS
namespace Go.Proofs.Ytkbdblaciphmnaa
set_option linter.unusedVariables false
open Go.RowKit
/-- A slice of slices: its row and theirs lie in blocks of their own from lo on, below hi. -/
structure OwnS (w : World) (lo hi : Nat) (v : Value) (vs : List Value) (xss : List (List Int)) : Prop where
  row : w.ownsRow lo 38 1 v xss.length vs
  top : ∀ b, v.ownBlock = some b → b < hi
  each : ∀ i, i < xss.length → ∃ u, vs[i]? = some u ∧ Own .i8 22 w lo hi u (xss.getD i [])
  apart : ∀ (i : Nat) (u : Value), vs[i]? = some u → ∀ b, u.ownBlock = some b → v.ownBlock ≠ some b
  dist : ∀ (i j : Nat) (u u' : Value), i ≠ j → vs[i]? = some u → vs[j]? = some u' → ∀ b, u.ownBlock = some b → u'.ownBlock ≠ some b
section
variable {w w' : World} {lo hi n cap : Nat} {v : Value} {vs : List Value} {a : Option Addr} {xss : List (List Int)}
theorem OwnS.len (h : OwnS w lo hi (.slice a n cap) vs xss) : n = xss.length := by
  rcases h.row.2 with ⟨h1, h2⟩ | ⟨g', cap', cur, h1, _⟩
  · simp only [Value.slice.injEq] at h1; rw [h1.2.1, h2]
  · simp only [Value.slice.injEq] at h1; exact h1.2.1
theorem OwnS.at_ (h : OwnS w lo hi (.slice a n cap) vs xss) {i : Nat} (hi' : i < xss.length) :
    ∃ g a' c', a = some ⟨g, 0, none⟩ ∧ w.cell? ⟨g, i, none⟩ = some (.slice a' (xss.getD i []).length c') ∧ vs[i]? = some (.slice a' (xss.getD i []).length c') ∧ Own .i8 22 w lo hi (.slice a' (xss.getD i []).length c') (xss.getD i []) := by
  obtain ⟨u, hu, ho⟩ := h.each i hi'
  obtain ⟨a', c', rfl⟩ := ho.shape
  have hl := h.len
  subst hl
  rcases h.row.2 with ⟨h1, h2⟩ | ⟨g', cap', cur, h1, _⟩
  · omega
  · simp only [Value.slice.injEq] at h1
    obtain ⟨rfl, _, rfl⟩ := h1
    exact ⟨g', a', c', rfl, by rw [h.row.cellAt i (by omega)]; exact hu, hu, ho⟩
theorem OwnS.reads (h : OwnS w lo hi (.slice a n cap) vs xss) : SlicesOf .i8 w a xss := by
  intro i hi'
  obtain ⟨g, a', c', rfl, hc, _, ho⟩ := h.at_ hi'
  exact ⟨g, 0, a', c', rfl, by rw [Nat.zero_add]; exact hc, ho.reads⟩
theorem OwnS.put {i : Nat} {u : Value} {ys : List Int} (h : OwnS w lo hi v vs xss) (hu : vs[i]? = some u) (ho : Own .i8 22 w' lo hi u ys) (hg : w.grownBy w' u.ownBlock) :
    OwnS w' lo hi v vs (xss.set i ys) := by
  refine ⟨?_, h.top, ?_, h.apart, h.dist⟩
  · rw [List.length_set]
    refine h.row.kept hg ?_
    cases hb : v.ownBlock with
    | none => exact .inl rfl
    | some b => exact .inr (fun e => h.apart i u hu b e.symm hb)
  · intro j hj
    rw [List.length_set] at hj
    obtain ⟨u', hu', ho'⟩ := h.each j hj
    by_cases hij : i = j
    · subst hij
      refine ⟨u, hu, ?_⟩
      have e : (xss.set i ys).getD i [] = ys := by simp [List.getD, hj]
      rw [e]; exact ho
    · refine ⟨u', hu', ?_⟩
      have e : (xss.set i ys).getD j [] = xss.getD j [] := by simp [List.getD, hij]
      rw [e]
      refine ⟨ho'.row.kept hg ?_, ho'.top⟩
      cases hb : u'.ownBlock with
      | none => exact .inl rfl
      | some b => exact .inr (fun e => h.dist i j u u' hij hu hu' b e.symm hb)
end
theorem OwnS.gr {w w' : World} {lo hi : Nat} {v : Value} {vs : List Value} {xss : List (List Int)} (h : OwnS w lo hi v vs xss) (g : Gr w w') : OwnS w' lo hi v vs xss := by
  refine ⟨⟨h.row.1, ?_⟩, h.top, fun i hi0 => ?_, h.apart, h.dist⟩
  · rcases h.row.2 with h1 | ⟨g', cap, cur, h1, h2, h3, r⟩
    · exact .inl h1
    · exact .inr ⟨g', cap, cur, h1, h2, g.heap h3, r⟩
  · obtain ⟨u, hu, ho⟩ := h.each i hi0
    exact ⟨u, hu, ho.gr g⟩
theorem OwnS.widen {w : World} {lo hi hi' : Nat} {v : Value} {vs : List Value} {xss : List (List Int)} (h : OwnS w lo hi v vs xss) (hh : hi ≤ hi') : OwnS w lo hi' v vs xss := by
  refine ⟨h.row, fun b hb => Nat.lt_of_lt_of_le (h.top b hb) hh, fun i hi0 => ?_, h.apart, h.dist⟩
  obtain ⟨u, hu, ho⟩ := h.each i hi0
  exact ⟨u, hu, ho.widen (Nat.le_refl _) hh⟩
theorem OwnS.nil (w : World) (lo hi : Nat) : OwnS w lo hi (.slice none 0 0) [] [] :=
  ⟨World.ownsRow_nil w lo _ 1, fun b hb => by simp [Value.ownBlock] at hb, fun i hi0 => by simp at hi0, fun i u hu => by simp at hu, fun i j u u' _ hu => by simp at hu⟩
/-- Rows of different types lie in different blocks. -/
theorem apart_of_types {w : World} {l1 l2 n m : Nat} {v u : Value} {vs ys : List Value} (h : w.ownsRow l1 38 1 v n vs) (ho : w.ownsRow l2 22 1 u m ys) : ∀ b, u.ownBlock = some b → v.ownBlock ≠ some b := by
  intro b hb hv
  rcases h.2 with ⟨rfl, _⟩ | ⟨g, cap, cur, rfl, _, h1, _⟩
  · simp [Value.ownBlock] at hv
  · rcases ho.2 with ⟨rfl, _⟩ | ⟨g', cap', cur', rfl, _, h2, _⟩
    · simp [Value.ownBlock] at hb
    · simp only [Value.ownBlock, Option.some.injEq] at hb hv
      subst hb hv
      rw [h1] at h2
      simp at h2
/-- One slice more is appended: its row lies behind all the others. -/
theorem OwnS.snoc {w w' : World} {lo hi hi' : Nat} {v v' u : Value} {vs : List Value} {xss : List (List Int)} {ys : List Int} (h : OwnS w lo hi v vs xss) (hlh : lo ≤ hi) (ho : Own .i8 22 w hi hi' u ys)
    (hrow : w'.ownsRow lo 38 1 v' (xss.length + 1) (vs ++ [u])) (hg : w.grownBy w' v.ownBlock) : OwnS w' lo w'.heap.size v' (vs ++ [u]) (xss ++ [ys]) := by
  have hvl : vs.length = xss.length := by have := h.row.1; omega
  have keep : ∀ {x : Value} {n : Nat} {zs : List Value} {l : Nat}, w.ownsRow l 22 1 x n zs → w'.ownsRow l 22 1 x n zs := by
    intro x n zs l hx
    refine hx.kept hg ?_
    cases hb : x.ownBlock with
    | none => exact .inl rfl
    | some b => exact .inr (fun e => apart_of_types h.row hx b hb e.symm)
  have each : ∀ i, i < (xss ++ [ys]).length → ∃ x, (vs ++ [u])[i]? = some x ∧ Own .i8 22 w' lo w'.heap.size x ((xss ++ [ys]).getD i []) ∧ (i < xss.length → vs[i]? = some x ∧ ∀ b, x.ownBlock = some b → b < hi) ∧ (i = xss.length → x = u) := by
    intro i hi0
    rw [List.length_append, List.length_singleton] at hi0
    by_cases hlt : i < xss.length
    · obtain ⟨x, hx, hox⟩ := h.each i hlt
      refine ⟨x, by rw [List.getElem?_append_left (by omega)]; exact hx, ?_, fun _ => ⟨hx, hox.top⟩, fun e => by omega⟩
      have e : (xss ++ [ys]).getD i [] = xss.getD i [] := by simp only [List.getD_eq_getElem?_getD]; rw [List.getElem?_append_left hlt]
      rw [e]
      exact ⟨keep hox.row, fun b hb => ((keep hox.row).lt b hb).2⟩
    · have hil : i = xss.length := by omega
      subst hil
      refine ⟨u, by rw [List.getElem?_append_right (by omega), hvl, Nat.sub_self]; rfl, ?_, fun e => by omega, fun _ => rfl⟩
      have e : (xss ++ [ys]).getD xss.length [] = ys := by simp only [List.getD_eq_getElem?_getD]; rw [List.getElem?_append_right (by omega), Nat.sub_self]; rfl
      rw [e]
      have hw := ho.widen hlh (Nat.le_refl _)
      exact ⟨keep hw.row, fun b hb => ((keep hw.row).lt b hb).2⟩
  have lt : ∀ {i : Nat} {x : Value}, (vs ++ [u])[i]? = some x → i < (xss ++ [ys]).length := by
    intro i x hx
    have := (List.getElem?_eq_some_iff.1 hx).1
    rw [List.length_append, List.length_singleton] at this ⊢
    omega
  refine ⟨by rw [List.length_append, List.length_singleton]; exact hrow, fun b hb => (hrow.lt b hb).2, fun i hi0 => ?_, fun i x hx b hb => ?_, fun i j x x' hij hx hx' b hb => ?_⟩
  · obtain ⟨x, h1, h2, _⟩ := each i hi0
    exact ⟨x, h1, h2⟩
  · obtain ⟨x1, h1, h2, _⟩ := each i (lt hx)
    obtain rfl : x1 = x := Option.some.inj (h1.symm.trans hx)
    exact apart_of_types hrow h2.row b hb
  · obtain ⟨x1, h1, _, h3, h4⟩ := each i (lt hx)
    obtain rfl : x1 = x := Option.some.inj (h1.symm.trans hx)
    obtain ⟨x2, g1, _, g3, g4⟩ := each j (lt hx')
    obtain rfl : x2 = x' := Option.some.inj (g1.symm.trans hx')
    have li := lt hx
    have lj := lt hx'
    rw [List.length_append, List.length_singleton] at li lj
    intro hb'
    by_cases hi1 : i < xss.length
    · by_cases hj1 : j < xss.length
      · exact h.dist i j _ _ hij (h3 hi1).1 (g3 hj1).1 b hb hb'
      · obtain rfl := g4 (by omega)
        have := (h3 hi1).2 b hb
        have := (ho.row.lt b hb').1
        omega
    · by_cases hj1 : j < xss.length
      · obtain rfl := h4 (by omega)
        have := (g3 hj1).2 b hb'
        have := (ho.row.lt b hb).1
        omega
      · omega
def lens (xss : List (List Int)) : List Nat := xss.map List.length
theorem lens_length (xss : List (List Int)) : (lens xss).length = xss.length := by simp [lens]
theorem lens_get (xss : List (List Int)) (i : Nat) : (lens xss).getD i 0 = (xss.getD i []).length := by
  unfold lens
  simp only [List.getD_eq_getElem?_getD, List.getElem?_map]
  cases xss[i]? <;> rfl
/-- The first k are marked. -/
def mixS (k0 : Nat) (xss : List (List Int)) (k : Nat) : List (List Int) := (markS k0 (lens xss)).take k ++ xss.drop k
theorem mixS_length {k0 : Nat} {xss : List (List Int)} {k : Nat} (h : k ≤ xss.length) : (mixS k0 xss k).length = xss.length := by simp [mixS, markS_length, lens_length]; omega
theorem mixS_zero (k0 : Nat) (xss : List (List Int)) : mixS k0 xss 0 = xss := by simp [mixS]
theorem mixS_all (k0 : Nat) (xss : List (List Int)) : mixS k0 xss xss.length = markS k0 (lens xss) := by
  unfold mixS
  rw [List.drop_length, List.append_nil, List.take_of_length_le (by rw [markS_length, lens_length]; exact Nat.le_refl _)]
theorem mixS_get {k0 : Nat} {xss : List (List Int)} {k : Nat} (h : k < xss.length) : (mixS k0 xss k).getD k [] = xss.getD k [] := by
  have hl : ((markS k0 (lens xss)).take k).length = k := by rw [List.length_take, markS_length, lens_length]; omega
  unfold mixS
  simp only [List.getD_eq_getElem?_getD]
  rw [List.getElem?_append_right (by omega), hl, List.getElem?_drop, Nat.sub_self, Nat.add_zero]
theorem mixS_set {k0 : Nat} {xss : List (List Int)} {k : Nat} (h : k < xss.length) : (mixS k0 xss k).set k (markL .i8 (k0 + sumTo (lens xss) k) (xss.getD k []).length) = mixS k0 xss (k + 1) := by
  have hl : ((markS k0 (lens xss)).take k).length = k := by rw [List.length_take, markS_length, lens_length]; omega
  have hm : k < (markS k0 (lens xss)).length := by rw [markS_length, lens_length]; exact h
  have hg := markS_get (k0 := k0) (ls := lens xss) (i := k) (by rw [lens_length]; exact h)
  rw [lens_get, List.getD_eq_getElem?_getD, List.getElem?_eq_getElem hm, Option.getD_some] at hg
  unfold mixS
  rw [List.set_append_right _ _ (by omega), hl, Nat.sub_self, List.drop_eq_getElem_cons h, List.set_cons_zero, List.take_succ_eq_append_getElem hm, hg, List.append_assoc]
  rfl
end Go.Proofs.Ytkbdblaciphmnaa
