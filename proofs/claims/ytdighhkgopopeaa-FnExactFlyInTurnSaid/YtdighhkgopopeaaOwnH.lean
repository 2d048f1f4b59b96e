/- Slices of hoists that a call has made. -/
import Derived.Test.YtdighhkgopopeaaSlicesS
namespace Go.Proofs.Ytdighhkgopopeaa
set_option linter.unusedVariables false
open Go.RowKit
/-- A slice of slices: its row and theirs lie in blocks of their own from lo on, below hi. -/
structure OwnH (w : World) (lo hi : Nat) (v : Value) (vs : List Value) (xss : List (List Int)) : Prop where
  row : w.ownsRow lo 28 1 v xss.length vs
  top : ∀ b, v.ownBlock = some b → b < hi
  each : ∀ i, i < xss.length → ∃ u, vs[i]? = some u ∧ Own .i8 59 w lo hi u (xss.getD i [])
  apart : ∀ (i : Nat) (u : Value), vs[i]? = some u → ∀ b, u.ownBlock = some b → v.ownBlock ≠ some b
  dist : ∀ (i j : Nat) (u u' : Value), i ≠ j → vs[i]? = some u → vs[j]? = some u' → ∀ b, u.ownBlock = some b → u'.ownBlock ≠ some b
section
variable {w w' : World} {lo hi n cap : Nat} {v : Value} {vs : List Value} {a : Option Addr} {xss : List (List Int)}
theorem OwnH.len (h : OwnH w lo hi (.slice a n cap) vs xss) : n = xss.length := by
  rcases h.row.2 with ⟨h1, h2⟩ | ⟨g', cap', cur, h1, _⟩
  · simp only [Value.slice.injEq] at h1; rw [h1.2.1, h2]
  · simp only [Value.slice.injEq] at h1; exact h1.2.1
theorem OwnH.at_ (h : OwnH w lo hi (.slice a n cap) vs xss) {i : Nat} (hi' : i < xss.length) :
    ∃ g a' c', a = some ⟨g, 0, none⟩ ∧ w.cell? ⟨g, i, none⟩ = some (.slice a' (xss.getD i []).length c') ∧ vs[i]? = some (.slice a' (xss.getD i []).length c') ∧ Own .i8 59 w lo hi (.slice a' (xss.getD i []).length c') (xss.getD i []) := by
  obtain ⟨u, hu, ho⟩ := h.each i hi'
  obtain ⟨a', c', rfl⟩ := ho.shape
  have hl := h.len
  subst hl
  rcases h.row.2 with ⟨h1, h2⟩ | ⟨g', cap', cur, h1, _⟩
  · omega
  · simp only [Value.slice.injEq] at h1
    obtain ⟨rfl, _, rfl⟩ := h1
    exact ⟨g', a', c', rfl, by rw [h.row.cellAt i (by omega)]; exact hu, hu, ho⟩
theorem OwnH.reads (h : OwnH w lo hi (.slice a n cap) vs xss) : SlicesOf .i8 w a xss := by
  intro i hi'
  obtain ⟨g, a', c', rfl, hc, _, ho⟩ := h.at_ hi'
  exact ⟨g, 0, a', c', rfl, by rw [Nat.zero_add]; exact hc, ho.reads⟩
theorem OwnH.put {i : Nat} {u : Value} {ys : List Int} (h : OwnH w lo hi v vs xss) (hu : vs[i]? = some u) (ho : Own .i8 59 w' lo hi u ys) (hg : w.grownBy w' u.ownBlock) :
    OwnH w' lo hi v vs (xss.set i ys) := by
  refine ⟨?_, h.top, ?_, h.apart, h.dist⟩
  · rw [List.length_set]
    refine h.row.kept hg ?_
    cases hb : v.ownBlock with
    | none => exact .inl rfl
    | some b => exact .inr (fun e => h.apart i u hu b e.symm hb)
  · intro j hj
    rw [List.length_set] at hj
    obtain ⟨u', hu', ho'⟩ := h.each j hj
    by_cases hij : i = j
    · subst hij
      refine ⟨u, hu, ?_⟩
      have e : (xss.set i ys).getD i [] = ys := by simp [List.getD, hj]
      rw [e]; exact ho
    · refine ⟨u', hu', ?_⟩
      have e : (xss.set i ys).getD j [] = xss.getD j [] := by simp [List.getD, hij]
      rw [e]
      refine ⟨ho'.row.kept hg ?_, ho'.top⟩
      cases hb : u'.ownBlock with
      | none => exact .inl rfl
      | some b => exact .inr (fun e => h.dist i j u u' hij hu hu' b e.symm hb)
end
theorem OwnH.gr {w w' : World} {lo hi : Nat} {v : Value} {vs : List Value} {xss : List (List Int)} (h : OwnH w lo hi v vs xss) (g : Gr w w') : OwnH w' lo hi v vs xss := by
  refine ⟨⟨h.row.1, ?_⟩, h.top, fun i hi0 => ?_, h.apart, h.dist⟩
  · rcases h.row.2 with h1 | ⟨g', cap, cur, h1, h2, h3, r⟩
    · exact .inl h1
    · exact .inr ⟨g', cap, cur, h1, h2, g.heap h3, r⟩
  · obtain ⟨u, hu, ho⟩ := h.each i hi0
    exact ⟨u, hu, ho.gr g⟩
theorem OwnH.widen {w : World} {lo hi hi' : Nat} {v : Value} {vs : List Value} {xss : List (List Int)} (h : OwnH w lo hi v vs xss) (hh : hi ≤ hi') : OwnH w lo hi' v vs xss := by
  refine ⟨h.row, fun b hb => Nat.lt_of_lt_of_le (h.top b hb) hh, fun i hi0 => ?_, h.apart, h.dist⟩
  obtain ⟨u, hu, ho⟩ := h.each i hi0
  exact ⟨u, hu, ho.widen (Nat.le_refl _) hh⟩
theorem OwnH.nil (w : World) (lo hi : Nat) : OwnH w lo hi (.slice none 0 0) [] [] :=
  ⟨World.ownsRow_nil w lo _ 1, fun b hb => by simp [Value.ownBlock] at hb, fun i hi0 => by simp at hi0, fun i u hu => by simp at hu, fun i j u u' _ hu => by simp at hu⟩
/-- Rows of different types lie in different blocks. -/
theorem apart_of_typesH {w : World} {l1 l2 n m : Nat} {v u : Value} {vs ys : List Value} (h : w.ownsRow l1 28 1 v n vs) (ho : w.ownsRow l2 59 1 u m ys) : ∀ b, u.ownBlock = some b → v.ownBlock ≠ some b := by
  intro b hb hv
  rcases h.2 with ⟨rfl, _⟩ | ⟨g, cap, cur, rfl, _, h1, _⟩
  · simp [Value.ownBlock] at hv
  · rcases ho.2 with ⟨rfl, _⟩ | ⟨g', cap', cur', rfl, _, h2, _⟩
    · simp [Value.ownBlock] at hb
    · simp only [Value.ownBlock, Option.some.injEq] at hb hv
      subst hb hv
      rw [h1] at h2
      simp at h2
/-- One slice more is appended: its row lies behind all the others. -/
theorem OwnH.snoc {w w' : World} {lo hi hi' : Nat} {v v' u : Value} {vs : List Value} {xss : List (List Int)} {ys : List Int} (h : OwnH w lo hi v vs xss) (hlh : lo ≤ hi) (ho : Own .i8 59 w hi hi' u ys)
    (hrow : w'.ownsRow lo 28 1 v' (xss.length + 1) (vs ++ [u])) (hg : w.grownBy w' v.ownBlock) : OwnH w' lo w'.heap.size v' (vs ++ [u]) (xss ++ [ys]) := by
  have hvl : vs.length = xss.length := by have := h.row.1; omega
  have keep : ∀ {x : Value} {n : Nat} {zs : List Value} {l : Nat}, w.ownsRow l 59 1 x n zs → w'.ownsRow l 59 1 x n zs := by
    intro x n zs l hx
    refine hx.kept hg ?_
    cases hb : x.ownBlock with
    | none => exact .inl rfl
    | some b => exact .inr (fun e => apart_of_typesH h.row hx b hb e.symm)
  have each : ∀ i, i < (xss ++ [ys]).length → ∃ x, (vs ++ [u])[i]? = some x ∧ Own .i8 59 w' lo w'.heap.size x ((xss ++ [ys]).getD i []) ∧ (i < xss.length → vs[i]? = some x ∧ ∀ b, x.ownBlock = some b → b < hi) ∧ (i = xss.length → x = u) := by
    intro i hi0
    rw [List.length_append, List.length_singleton] at hi0
    by_cases hlt : i < xss.length
    · obtain ⟨x, hx, hox⟩ := h.each i hlt
      refine ⟨x, by rw [List.getElem?_append_left (by omega)]; exact hx, ?_, fun _ => ⟨hx, hox.top⟩, fun e => by omega⟩
      have e : (xss ++ [ys]).getD i [] = xss.getD i [] := by simp only [List.getD_eq_getElem?_getD]; rw [List.getElem?_append_left hlt]
      rw [e]
      exact ⟨keep hox.row, fun b hb => ((keep hox.row).lt b hb).2⟩
    · have hil : i = xss.length := by omega
      subst hil
      refine ⟨u, by rw [List.getElem?_append_right (by omega), hvl, Nat.sub_self]; rfl, ?_, fun e => by omega, fun _ => rfl⟩
      have e : (xss ++ [ys]).getD xss.length [] = ys := by simp only [List.getD_eq_getElem?_getD]; rw [List.getElem?_append_right (by omega), Nat.sub_self]; rfl
      rw [e]
      have hw := ho.widen hlh (Nat.le_refl _)
      exact ⟨keep hw.row, fun b hb => ((keep hw.row).lt b hb).2⟩
  have lt : ∀ {i : Nat} {x : Value}, (vs ++ [u])[i]? = some x → i < (xss ++ [ys]).length := by
    intro i x hx
    have := (List.getElem?_eq_some_iff.1 hx).1
    rw [List.length_append, List.length_singleton] at this ⊢
    omega
  refine ⟨by rw [List.length_append, List.length_singleton]; exact hrow, fun b hb => (hrow.lt b hb).2, fun i hi0 => ?_, fun i x hx b hb => ?_, fun i j x x' hij hx hx' b hb => ?_⟩
  · obtain ⟨x, h1, h2, _⟩ := each i hi0
    exact ⟨x, h1, h2⟩
  · obtain ⟨x1, h1, h2, _⟩ := each i (lt hx)
    obtain rfl : x1 = x := Option.some.inj (h1.symm.trans hx)
    exact apart_of_typesH hrow h2.row b hb
  · obtain ⟨x1, h1, _, h3, h4⟩ := each i (lt hx)
    obtain rfl : x1 = x := Option.some.inj (h1.symm.trans hx)
    obtain ⟨x2, g1, _, g3, g4⟩ := each j (lt hx')
    obtain rfl : x2 = x' := Option.some.inj (g1.symm.trans hx')
    have li := lt hx
    have lj := lt hx'
    rw [List.length_append, List.length_singleton] at li lj
    intro hb'
    by_cases hi1 : i < xss.length
    · by_cases hj1 : j < xss.length
      · exact h.dist i j _ _ hij (h3 hi1).1 (g3 hj1).1 b hb hb'
      · obtain rfl := g4 (by omega)
        have := (h3 hi1).2 b hb
        have := (ho.row.lt b hb').1
        omega
    · by_cases hj1 : j < xss.length
      · obtain rfl := h4 (by omega)
        have := (g3 hj1).2 b hb'
        have := (ho.row.lt b hb).1
        omega
      · omega
theorem OwnH.renew {w w1 : World} {lo hi n cap g i : Nat} {vs : List Value} {xss : List (List Int)} {u u' : Value} {ys : List Int}
    (h : OwnH w lo hi (.slice (some ⟨g, 0, none⟩) n cap) vs xss) (hhi : hi ≤ w.heap.size) (hi0 : i < xss.length) (hu : vs[i]? = some u)
    (ho : w1.ownsRow lo 59 1 u' ys.length (ys.map (Value.int .i8))) (hg : w.grownBy w1 u.ownBlock)
    (hloc : u'.ownBlock = u.ownBlock ∨ ∃ b, u'.ownBlock = some b ∧ w.heap.size ≤ b) :
    OwnH (w1.setCell ⟨g, i, none⟩ u') lo w1.heap.size (.slice (some ⟨g, 0, none⟩) n cap) (vs.set i u') (xss.set i ys) ∧ w1.grownBy (w1.setCell ⟨g, i, none⟩ u') (some g) := by
  have hl := h.len
  subst hl
  have hrow1 : w1.ownsRow lo 28 1 (.slice (some ⟨g, 0, none⟩) xss.length cap) xss.length vs := h.row.kept hg (.inr (fun e => h.apart i u hu g e.symm rfl))
  have hst := hrow1.stored i u'
  have hvl : vs.length = xss.length := by have := h.row.1; omega
  have keep : ∀ {x : Value} {m : Nat} {zs : List Value} {l : Nat}, w1.ownsRow l 59 1 x m zs → (w1.setCell ⟨g, i, none⟩ u').ownsRow l 59 1 x m zs := by
    intro x m zs l hx
    refine hx.kept hst.2 ?_
    cases hb : x.ownBlock with
    | none => exact .inl rfl
    | some b => exact .inr (fun e => apart_of_typesH hrow1 hx b hb e.symm)
  have old : ∀ {j : Nat}, j < xss.length → j ≠ i → ∃ x, vs[j]? = some x ∧ w1.ownsRow lo 59 1 x (xss.getD j []).length ((xss.getD j []).map (Value.int .i8)) ∧ ∀ b, x.ownBlock = some b → b < hi := by
    intro j hj hji
    obtain ⟨x, hx, hox⟩ := h.each j hj
    refine ⟨x, hx, hox.row.kept hg ?_, hox.top⟩
    cases hb : x.ownBlock with
    | none => exact .inl rfl
    | some b => exact .inr (fun e => h.dist i j u x (Ne.symm hji) hu hx b e.symm hb)
  have hsz : (w1.setCell ⟨g, i, none⟩ u').heap.size = w1.heap.size := by simp
  have each : ∀ j, j < xss.length → ∃ x, (vs.set i u')[j]? = some x ∧ Own .i8 59 (w1.setCell ⟨g, i, none⟩ u') lo w1.heap.size x ((xss.set i ys).getD j []) ∧ (j ≠ i → vs[j]? = some x ∧ ∀ b, x.ownBlock = some b → b < hi) ∧ (j = i → x = u') := by
    intro j hj
    by_cases hji : j = i
    · subst hji
      refine ⟨u', by rw [List.getElem?_set_self (by omega)], ?_, fun e => absurd rfl e, fun _ => rfl⟩
      have e : (xss.set j ys).getD j [] = ys := by simp [List.getD, hj]
      rw [e]
      exact ⟨keep ho, fun b hb => (ho.lt b hb).2⟩
    · obtain ⟨x, hx, hox, ht⟩ := old hj hji
      refine ⟨x, by rw [List.getElem?_set_ne (Ne.symm hji)]; exact hx, ?_, fun _ => ⟨hx, ht⟩, fun e => absurd e hji⟩
      have e : (xss.set i ys).getD j [] = xss.getD j [] := by simp [List.getD, Ne.symm hji]
      rw [e]
      exact ⟨keep hox, fun b hb => (hox.lt b hb).2⟩
  have lt : ∀ {j : Nat} {x : Value}, (vs.set i u')[j]? = some x → j < xss.length := by
    intro j x hx
    have := (List.getElem?_eq_some_iff.1 hx).1
    rw [List.length_set] at this
    omega
  have hro : (w1.setCell ⟨g, i, none⟩ u').ownsRow lo 28 1 (.slice (some ⟨g, 0, none⟩) xss.length cap) xss.length (vs.set i u') := hst.1
  have far : ∀ b, u'.ownBlock = some b → ∀ (j : Nat) (x : Value), j ≠ i → vs[j]? = some x → (∀ b', x.ownBlock = some b' → b' < hi) → x.ownBlock ≠ some b := by
    intro b hb j x hji hx ht hxb
    rcases hloc with e | ⟨b', e, hb'⟩
    · rw [e] at hb
      exact h.dist i j u x (Ne.symm hji) hu hx b hb hxb
    · rw [e] at hb
      cases hb
      have := ht b hxb
      omega
  refine ⟨⟨by rw [List.length_set]; exact hro, fun b hb => hsz ▸ (hro.lt b hb).2, fun j hj => ?_, fun j x hx b hb => ?_, fun j k x y hjk hx hy b hb hyb => ?_⟩, hst.2⟩
  · rw [List.length_set] at hj
    obtain ⟨x, h1, h2, _⟩ := each j hj
    exact ⟨x, h1, h2⟩
  · obtain ⟨x1, h1, h2, _⟩ := each j (lt hx)
    obtain rfl : x1 = x := Option.some.inj (h1.symm.trans hx)
    exact apart_of_typesH hro h2.row b hb
  · obtain ⟨x1, h1, _, h3, h4⟩ := each j (lt hx)
    obtain rfl : x1 = x := Option.some.inj (h1.symm.trans hx)
    obtain ⟨y1, g1, _, g3, g4⟩ := each k (lt hy)
    obtain rfl : y1 = y := Option.some.inj (g1.symm.trans hy)
    by_cases hji : j = i
    · have hki : k ≠ i := fun e => hjk (hji.trans e.symm)
      have e1 := h4 hji
      rw [e1] at hb
      exact far b hb k _ hki (g3 hki).1 (g3 hki).2 hyb
    · by_cases hki : k = i
      · have e1 := g4 hki
        rw [e1] at hyb
        exact far b hyb j _ hji (h3 hji).1 (h3 hji).2 hb
      · exact h.dist j k _ _ hjk (h3 hji).1 (g3 hki).1 b hb hyb
theorem madeNils (n : Nat) : madeCells (Value.slice none 0 0).cells (n * 1) = Array.replicate n (.slice none 0 0) := by
  unfold madeCells
  apply Array.ext_getElem?
  intro i
  by_cases h : i < n
  · simp [Value.cells, h, Nat.mod_one]
  · simp [Value.cells, h]
theorem run_make_nils {P : Program} {t e : TypeId} {bytes : Nat} (ht : P.underlying t = some (.slice e)) (hi' : (P.info? e).map (fun i => (i.zero, i.size, i.bytes)) = some (some (.slice none 0 0), 1, bytes))
    (n : Nat) (hb : bytes * n ≤ 281474976710656) (hn : n ≤ 9223372036854775807) (w : World) :
    (Instr.makeSlice t (.int .i64 n) (.int .i64 n)).run P w = .ok (.slice (some ⟨w.heap.size, 0, none⟩) n n) (w.alloc (.cells (Array.replicate n (.slice none 0 0)) e)) := by
  obtain ⟨i0, hi, hh⟩ := Option.map_eq_some_iff.1 hi'
  simp only [Prod.mk.injEq] at hh
  obtain ⟨h1, h2, h3⟩ := hh
  have hb' : (i0.bytes : Int) * (n : Int) ≤ 281474976710656 := by
    have h : ((bytes * n : Nat) : Int) ≤ 281474976710656 := by omega
    rw [Int.natCast_mul] at h; rw [h3]; exact h
  have := run_make (P := P) w t e i0 (.slice none 0 0) ht hi h1 .i64 .i64 n n (by omega) (Int.le_refl _) hb' (by omega)
  rw [this, h2]
  simp only [Int.toNat_natCast]
  rw [madeNils]
theorem OwnH.made (w : World) (n : Nat) (hn : n ≤ 1048576) : OwnH (w.alloc (.cells (Array.replicate n (.slice none 0 0)) 28)) w.heap.size (w.heap.size + 1) (.slice (some ⟨w.heap.size, 0, none⟩) n n) (List.replicate n (.slice none 0 0)) (List.replicate n []) := by
  have hr := World.ownsRow_lit (base := w.heap.size) (e := 28) (size := 1) w (Array.replicate n (.slice none 0 0)) n (Nat.le_refl _) (by unfold maxLen; omega) (by simp)
  have at_ : ∀ {i : Nat} {u : Value}, (List.replicate n (Value.slice none 0 0))[i]? = some u → u = .slice none 0 0 := by
    intro i u hu
    exact (List.mem_replicate.1 (List.mem_of_getElem? hu)).2
  refine ⟨?_, fun b hb => ?_, fun i hi0 => ?_, fun i u hu b hb => ?_, fun i j u u' _ hu hu' b hb => ?_⟩
  · rw [List.length_replicate]
    simpa using hr
  · simp [Value.ownBlock] at hb; omega
  · rw [List.length_replicate] at hi0
    refine ⟨.slice none 0 0, by simp [hi0], ?_⟩
    have e : (List.replicate n ([] : List Int)).getD i [] = [] := by simp [List.getD, hi0]
    rw [e]
    exact Own.nil _ _ _
  · rw [at_ hu] at hb; simp [Value.ownBlock] at hb
  · rw [at_ hu] at hb; simp [Value.ownBlock] at hb
end Go.Proofs.Ytdighhkgopopeaa
