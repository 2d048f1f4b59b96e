/- What may stand at a place: plain lists. -/
import Derived.Test.YtfaiehjomcgjgaaDoorGLook
import Derived.Test.YtfaiehjomcgjgaaDoorGHst
import Derived.Deep.AppendLies
import Derived.Deep.RegionLaw
namespace Go.Proofs.YtfaiehjomcgjgaaDoor
set_option linter.unusedVariables false
open Go.RowKit
/-- The substitutes from -n to -1 that mean what is at a place. -/
def repsL (m : List Int) (i : Nat) : Nat → List Int
  | 0 => []
  | n + 1 => if repB m i (n + 1) then (-((n + 1 : Nat) : Int)) :: repsL m i n else repsL m i n
theorem repsL_yes {m : List Int} {i n : Nat} (h : repB m i (n + 1) = true) : repsL m i (n + 1) = (-((n + 1 : Nat) : Int)) :: repsL m i n := by rw [repsL, if_pos h]
theorem repsL_no {m : List Int} {i n : Nat} (h : repB m i (n + 1) = false) : repsL m i (n + 1) = repsL m i n := by rw [repsL, if_neg (by rw [h]; simp)]
theorem repsL_length (m : List Int) (i n : Nat) : (repsL m i n).length ≤ n := by
  induction n with
  | zero => simp [repsL]
  | succ n ih =>
    rw [repsL]
    split
    · rw [List.length_cons]; omega
    · omega
theorem repB_far {m : List Int} {i n : Nat} (h : i < startOf m i + n) : repB m i n = false := by
  unfold repB
  rw [decide_eq_false (by omega), Bool.false_and]
theorem repsL_min {m : List Int} {i : Nat} : ∀ {n : Nat}, repsL m i n = repsL m i (min (i - startOf m i) n) := by
  intro n
  induction n with
  | zero => simp
  | succ n ih =>
    by_cases h : n + 1 ≤ i - startOf m i
    · rw [Nat.min_eq_right h]
    · rw [repsL_no (repB_far (by omega)), ih]
      congr 1
      omega
/-- The choices of a place. -/
def candsL (m : List Int) (i : Nat) : List Int := repsL m i 4 ++ [m.getD i 0]
theorem candsL_length (m : List Int) (i : Nat) : 1 ≤ (candsL m i).length ∧ (candsL m i).length ≤ 5 := by
  have := repsL_length m i 4
  unfold candsL
  rw [List.length_append, List.length_singleton]
  omega
/-- The choices of the first k places. -/
def choT (m : List Int) (n k : Nat) : List (List Int) := (List.range n).map fun i => if i < k then candsL m i else []
theorem choT_length (m : List Int) (n k : Nat) : (choT m n k).length = n := by simp [choT]
theorem choT_get {m : List Int} {n k i : Nat} (h : i < n) : (choT m n k).getD i [] = if i < k then candsL m i else [] := by
  simp only [choT, List.getD_eq_getElem?_getD, List.getElem?_map, List.getElem?_range h]
  rfl
theorem choT_zero (m : List Int) (n : Nat) : choT m n 0 = List.replicate n [] := by
  apply List.ext_getElem?
  intro i
  by_cases h : i < n
  · simp [choT, h]
  · simp [choT, h]
theorem choT_set {m : List Int} {n k : Nat} (h : k < n) : (choT m n k).set k (candsL m k) = choT m n (k + 1) := by
  apply List.ext_getElem?
  intro i
  rw [List.getElem?_set, choT_length]
  by_cases e : k = i
  · subst e
    simp [choT, h]
  · rw [if_neg e]
    by_cases hi : i < n
    · simp only [choT, List.getElem?_map, List.getElem?_range hi, Option.map_some]
      congr 1
      by_cases h1 : i < k
      · rw [if_pos h1, if_pos (by omega)]
      · rw [if_neg h1, if_neg (by omega)]
    · simp [choT, hi]
theorem choT_set_nil {m : List Int} {n k : Nat} (h : k < n) : (choT m n k).set k [] = choT m n k := by
  have hk : k < (choT m n k).length := by rw [choT_length]; exact h
  have e : (choT m n k)[k] = [] := by
    have := choT_get (m := m) (k := k) h
    rw [List.getD_eq_getElem?_getD, List.getElem?_eq_getElem hk, Option.getD_some, if_neg (Nat.lt_irrefl k)] at this
    exact this
  apply List.ext_getElem?
  intro i
  rw [List.getElem?_set]
  by_cases hi : k = i
  · subst hi
    simp [hk, e]
  · rw [if_neg hi]
end Go.Proofs.YtfaiehjomcgjgaaDoor

/- What hangs above a place: in whatever world the list is read. -/
namespace Go.Proofs.YtfaiehjomcgjgaaDoor
set_option linter.unusedVariables false
open Go.RowKit
def RetPartV (k : IntKind) (a : Option Addr) (xs : List Int) (s p : Nat) (w : World) (e : Ending) (w' : World) : Prop :=
  ∃ ap, e = .returned (.slice ap (p - s) (p - s)) ∧ (∀ V, SliceOf k V a xs → SliceOf k V ap (partL xs s p)) ∧ w = w'
set_option maxRecDepth 100000 in
theorem aboveMeaning_all (a : Option Addr) (n cap : Nat) (xs : List Int) (hn : n = xs.length) (hm : n ≤ 1048576) (hcap : n ≤ cap) (p : Nat) (hp : p ≤ n) (w : World) (hs : SliceOf .i8 w a xs) :
    Calls Tryd.prog 129 #[.slice a n cap, .int .i64 p] w (RetPartV .i8 a xs (startOf xs p) p w) := by
  have S := hid hs
  have HN := hid hn
  clear hs hn
  go_enter Tryd.func129, Tryd.ntmps129
  go_wp2
  go_loop [5] (fun s => ∃ j : Nat, j ≤ p ∧ s = .int .i64 j ∧ Hid (startOf xs j = startOf xs p)) (fun s => (intOf s).toNat)
  case atStart => exact ⟨p, Nat.le_refl _, rfl, hid rfl⟩
  case round =>
    obtain ⟨j, hj, rfl, hst⟩ := hrel
    cases j with
    | zero =>
      have hz : startOf xs p = 0 := by rw [← hst.out]; rfl
      have HZ := hid hz
      clear hz
      go_wp2
      go_ret
      exact ⟨a, by rw [HZ.out]; rfl, fun V hV => by rw [HZ.out]; exact hV.part0 (by rw [← HN.out]; exact hp), rfl⟩
    | succ i =>
      obtain ⟨b, off, rfl, hc⟩ := S.out i (by rw [← HN.out]; omega)
      cases hb : brkI (xs.getD i 0)
      · have hx : (xs.getD i 0 == -10) = false := by have := brkI_no hb; simpa using this
        have hx' : (xs.getD i 0 != -10) = true := by have := brkI_no hb; simpa using this
        have HS := hid ((startOf_no (brkI_no hb)).symm.trans hst.out)
        clear hb
        generalize xs.getD i 0 = x at *
        go_wp2
        go_round
        case rel => exact ⟨i, by omega, rfl, HS⟩
        case measure => simp [intOf]
      · have hx : (xs.getD i 0 == -10) = true := by have := brkI_iff.1 hb; simpa using this
        have hx' : (xs.getD i 0 != -10) = false := by have := brkI_iff.1 hb; simpa using this
        have hz : startOf xs p = i + 1 := by rw [← hst.out]; exact startOf_brk (brkI_iff.1 hb)
        have HZ := hid hz
        clear hz hb
        generalize xs.getD i 0 = x at *
        go_wp2
        · go_ret
          obtain rfl : p = i + 1 := by assumption
          exact ⟨_, by rw [HZ.out, Nat.sub_self]; rfl, fun V _ => by rw [HZ.out]; exact SliceOf.part_nil (by rw [← HN.out]; exact hp), rfl⟩
        · go_ret
          exact ⟨_, by rw [HZ.out]; rfl, fun V hV => by rw [HZ.out]; exact hV.part hj (by rw [← HN.out]; exact hp), rfl⟩
end Go.Proofs.YtfaiehjomcgjgaaDoor

/- Slices of slices of integers: what reads them. -/
namespace Go.Proofs.YtfaiehjomcgjgaaDoor
set_option linter.unusedVariables false
open Go.RowKit
/-- A slice whose elements are slices that hold these numbers. -/
def SlicesOf (k : IntKind) (w : World) (a : Option Addr) (xss : List (List Int)) : Prop :=
  ∀ i, i < xss.length → ∃ b off a' cap', a = some ⟨b, off, none⟩ ∧ w.cell? ⟨b, off + i, none⟩ = some (.slice a' (xss.getD i []).length cap') ∧ SliceOf k w a' (xss.getD i [])
theorem SlicesOf.gr {k : IntKind} {W w : World} {a : Option Addr} {xss : List (List Int)} (h : SlicesOf k W a xss) (hg : Gr W w) : SlicesOf k w a xss := by
  intro i hi
  obtain ⟨b, off, a', cap', e, hc, hs⟩ := h i hi
  exact ⟨b, off, a', cap', e, hg.cell hc, hs.gr hg⟩
/-- How many there are in the first i. -/
def sumTo (ls : List Nat) (i : Nat) : Nat := (ls.take i).sum
theorem sumTo_succ {ls : List Nat} {i : Nat} (h : i < ls.length) : sumTo ls (i + 1) = sumTo ls i + ls.getD i 0 := by
  unfold sumTo
  rw [List.take_succ_eq_append_getElem h, List.sum_append]
  simp [List.getD, List.getElem?_eq_getElem h]
theorem sumTo_all (ls : List Nat) : sumTo ls ls.length = ls.sum := by unfold sumTo; rw [List.take_length]
theorem sumTo_le (ls : List Nat) (i : Nat) : sumTo ls i ≤ ls.sum := by
  have h : (ls.take i).sum + (ls.drop i).sum = ls.sum := by rw [← List.sum_append, List.take_append_drop]
  unfold sumTo
  omega
theorem sumTo_get {ls : List Nat} {i : Nat} (h : i < ls.length) : sumTo ls i + ls.getD i 0 ≤ ls.sum := by rw [← sumTo_succ h]; exact sumTo_le ls _
/-- Marks that rise through all the slices. -/
def markS (k0 : Nat) (ls : List Nat) : List (List Int) := (List.range ls.length).map fun i => markL .i8 (k0 + sumTo ls i) (ls.getD i 0)
theorem markS_length (k0 : Nat) (ls : List Nat) : (markS k0 ls).length = ls.length := by simp [markS]
theorem markS_get {k0 : Nat} {ls : List Nat} {i : Nat} (h : i < ls.length) : (markS k0 ls).getD i [] = markL .i8 (k0 + sumTo ls i) (ls.getD i 0) := by
  simp only [markS, List.getD_eq_getElem?_getD, List.getElem?_map, List.getElem?_range h]
  rfl
end Go.Proofs.YtfaiehjomcgjgaaDoor

/- Slices of hoists that a call has made. -/
namespace Go.Proofs.YtfaiehjomcgjgaaDoor
set_option linter.unusedVariables false
open Go.RowKit
/-- A slice of slices: its row and theirs lie in blocks of their own from lo on, below hi. -/
structure OwnH (w : World) (lo hi : Nat) (v : Value) (vs : List Value) (xss : List (List Int)) : Prop where
  row : w.ownsRow lo 28 1 v xss.length vs
  top : ∀ b, v.ownBlock = some b → b < hi
  each : ∀ i, i < xss.length → ∃ u, vs[i]? = some u ∧ Own .i8 22 w lo hi u (xss.getD i [])
  apart : ∀ (i : Nat) (u : Value), vs[i]? = some u → ∀ b, u.ownBlock = some b → v.ownBlock ≠ some b
  dist : ∀ (i j : Nat) (u u' : Value), i ≠ j → vs[i]? = some u → vs[j]? = some u' → ∀ b, u.ownBlock = some b → u'.ownBlock ≠ some b
section
variable {w w' : World} {lo hi n cap : Nat} {v : Value} {vs : List Value} {a : Option Addr} {xss : List (List Int)}
theorem OwnH.len (h : OwnH w lo hi (.slice a n cap) vs xss) : n = xss.length := by
  rcases h.row.2 with ⟨h1, h2⟩ | ⟨g', cap', cur, h1, _⟩
  · simp only [Value.slice.injEq] at h1; rw [h1.2.1, h2]
  · simp only [Value.slice.injEq] at h1; exact h1.2.1
theorem OwnH.at_ (h : OwnH w lo hi (.slice a n cap) vs xss) {i : Nat} (hi' : i < xss.length) :
    ∃ g a' c', a = some ⟨g, 0, none⟩ ∧ w.cell? ⟨g, i, none⟩ = some (.slice a' (xss.getD i []).length c') ∧ vs[i]? = some (.slice a' (xss.getD i []).length c') ∧ Own .i8 22 w lo hi (.slice a' (xss.getD i []).length c') (xss.getD i []) := by
  obtain ⟨u, hu, ho⟩ := h.each i hi'
  obtain ⟨a', c', rfl⟩ := ho.shape
  have hl := h.len
  subst hl
  rcases h.row.2 with ⟨h1, h2⟩ | ⟨g', cap', cur, h1, _⟩
  · omega
  · simp only [Value.slice.injEq] at h1
    obtain ⟨rfl, _, rfl⟩ := h1
    exact ⟨g', a', c', rfl, by rw [h.row.cellAt i (by omega)]; exact hu, hu, ho⟩
theorem OwnH.reads (h : OwnH w lo hi (.slice a n cap) vs xss) : SlicesOf .i8 w a xss := by
  intro i hi'
  obtain ⟨g, a', c', rfl, hc, _, ho⟩ := h.at_ hi'
  exact ⟨g, 0, a', c', rfl, by rw [Nat.zero_add]; exact hc, ho.reads⟩
theorem OwnH.put {i : Nat} {u : Value} {ys : List Int} (h : OwnH w lo hi v vs xss) (hu : vs[i]? = some u) (ho : Own .i8 22 w' lo hi u ys) (hg : w.grownBy w' u.ownBlock) :
    OwnH w' lo hi v vs (xss.set i ys) := by
  refine ⟨?_, h.top, ?_, h.apart, h.dist⟩
  · rw [List.length_set]
    refine h.row.kept hg ?_
    cases hb : v.ownBlock with
    | none => exact .inl rfl
    | some b => exact .inr (fun e => h.apart i u hu b e.symm hb)
  · intro j hj
    rw [List.length_set] at hj
    obtain ⟨u', hu', ho'⟩ := h.each j hj
    by_cases hij : i = j
    · subst hij
      refine ⟨u, hu, ?_⟩
      have e : (xss.set i ys).getD i [] = ys := by simp [List.getD, hj]
      rw [e]; exact ho
    · refine ⟨u', hu', ?_⟩
      have e : (xss.set i ys).getD j [] = xss.getD j [] := by simp [List.getD, hij]
      rw [e]
      refine ⟨ho'.row.kept hg ?_, ho'.top⟩
      cases hb : u'.ownBlock with
      | none => exact .inl rfl
      | some b => exact .inr (fun e => h.dist i j u u' hij hu hu' b e.symm hb)
end
theorem OwnH.gr {w w' : World} {lo hi : Nat} {v : Value} {vs : List Value} {xss : List (List Int)} (h : OwnH w lo hi v vs xss) (g : Gr w w') : OwnH w' lo hi v vs xss := by
  refine ⟨⟨h.row.1, ?_⟩, h.top, fun i hi0 => ?_, h.apart, h.dist⟩
  · rcases h.row.2 with h1 | ⟨g', cap, cur, h1, h2, h3, r⟩
    · exact .inl h1
    · exact .inr ⟨g', cap, cur, h1, h2, g.heap h3, r⟩
  · obtain ⟨u, hu, ho⟩ := h.each i hi0
    exact ⟨u, hu, ho.gr g⟩
theorem OwnH.widen {w : World} {lo hi hi' : Nat} {v : Value} {vs : List Value} {xss : List (List Int)} (h : OwnH w lo hi v vs xss) (hh : hi ≤ hi') : OwnH w lo hi' v vs xss := by
  refine ⟨h.row, fun b hb => Nat.lt_of_lt_of_le (h.top b hb) hh, fun i hi0 => ?_, h.apart, h.dist⟩
  obtain ⟨u, hu, ho⟩ := h.each i hi0
  exact ⟨u, hu, ho.widen (Nat.le_refl _) hh⟩
theorem OwnH.nil (w : World) (lo hi : Nat) : OwnH w lo hi (.slice none 0 0) [] [] :=
  ⟨World.ownsRow_nil w lo _ 1, fun b hb => by simp [Value.ownBlock] at hb, fun i hi0 => by simp at hi0, fun i u hu => by simp at hu, fun i j u u' _ hu => by simp at hu⟩
/-- Rows of different types lie in different blocks. -/
theorem apart_of_typesH {w : World} {l1 l2 n m : Nat} {v u : Value} {vs ys : List Value} (h : w.ownsRow l1 28 1 v n vs) (ho : w.ownsRow l2 22 1 u m ys) : ∀ b, u.ownBlock = some b → v.ownBlock ≠ some b := by
  intro b hb hv
  rcases h.2 with ⟨rfl, _⟩ | ⟨g, cap, cur, rfl, _, h1, _⟩
  · simp [Value.ownBlock] at hv
  · rcases ho.2 with ⟨rfl, _⟩ | ⟨g', cap', cur', rfl, _, h2, _⟩
    · simp [Value.ownBlock] at hb
    · simp only [Value.ownBlock, Option.some.injEq] at hb hv
      subst hb hv
      rw [h1] at h2
      simp at h2
/-- One slice more is appended: its row lies behind all the others. -/
theorem OwnH.snoc {w w' : World} {lo hi hi' : Nat} {v v' u : Value} {vs : List Value} {xss : List (List Int)} {ys : List Int} (h : OwnH w lo hi v vs xss) (hlh : lo ≤ hi) (ho : Own .i8 22 w hi hi' u ys)
    (hrow : w'.ownsRow lo 28 1 v' (xss.length + 1) (vs ++ [u])) (hg : w.grownBy w' v.ownBlock) : OwnH w' lo w'.heap.size v' (vs ++ [u]) (xss ++ [ys]) := by
  have hvl : vs.length = xss.length := by have := h.row.1; omega
  have keep : ∀ {x : Value} {n : Nat} {zs : List Value} {l : Nat}, w.ownsRow l 22 1 x n zs → w'.ownsRow l 22 1 x n zs := by
    intro x n zs l hx
    refine hx.kept hg ?_
    cases hb : x.ownBlock with
    | none => exact .inl rfl
    | some b => exact .inr (fun e => apart_of_typesH h.row hx b hb e.symm)
  have each : ∀ i, i < (xss ++ [ys]).length → ∃ x, (vs ++ [u])[i]? = some x ∧ Own .i8 22 w' lo w'.heap.size x ((xss ++ [ys]).getD i []) ∧ (i < xss.length → vs[i]? = some x ∧ ∀ b, x.ownBlock = some b → b < hi) ∧ (i = xss.length → x = u) := by
    intro i hi0
    rw [List.length_append, List.length_singleton] at hi0
    by_cases hlt : i < xss.length
    · obtain ⟨x, hx, hox⟩ := h.each i hlt
      refine ⟨x, by rw [List.getElem?_append_left (by omega)]; exact hx, ?_, fun _ => ⟨hx, hox.top⟩, fun e => by omega⟩
      have e : (xss ++ [ys]).getD i [] = xss.getD i [] := by simp only [List.getD_eq_getElem?_getD]; rw [List.getElem?_append_left hlt]
      rw [e]
      exact ⟨keep hox.row, fun b hb => ((keep hox.row).lt b hb).2⟩
    · have hil : i = xss.length := by omega
      subst hil
      refine ⟨u, by rw [List.getElem?_append_right (by omega), hvl, Nat.sub_self]; rfl, ?_, fun e => by omega, fun _ => rfl⟩
      have e : (xss ++ [ys]).getD xss.length [] = ys := by simp only [List.getD_eq_getElem?_getD]; rw [List.getElem?_append_right (by omega), Nat.sub_self]; rfl
      rw [e]
      have hw := ho.widen hlh (Nat.le_refl _)
      exact ⟨keep hw.row, fun b hb => ((keep hw.row).lt b hb).2⟩
  have lt : ∀ {i : Nat} {x : Value}, (vs ++ [u])[i]? = some x → i < (xss ++ [ys]).length := by
    intro i x hx
    have := (List.getElem?_eq_some_iff.1 hx).1
    rw [List.length_append, List.length_singleton] at this ⊢
    omega
  refine ⟨by rw [List.length_append, List.length_singleton]; exact hrow, fun b hb => (hrow.lt b hb).2, fun i hi0 => ?_, fun i x hx b hb => ?_, fun i j x x' hij hx hx' b hb => ?_⟩
  · obtain ⟨x, h1, h2, _⟩ := each i hi0
    exact ⟨x, h1, h2⟩
  · obtain ⟨x1, h1, h2, _⟩ := each i (lt hx)
    obtain rfl : x1 = x := Option.some.inj (h1.symm.trans hx)
    exact apart_of_typesH hrow h2.row b hb
  · obtain ⟨x1, h1, _, h3, h4⟩ := each i (lt hx)
    obtain rfl : x1 = x := Option.some.inj (h1.symm.trans hx)
    obtain ⟨x2, g1, _, g3, g4⟩ := each j (lt hx')
    obtain rfl : x2 = x' := Option.some.inj (g1.symm.trans hx')
    have li := lt hx
    have lj := lt hx'
    rw [List.length_append, List.length_singleton] at li lj
    intro hb'
    by_cases hi1 : i < xss.length
    · by_cases hj1 : j < xss.length
      · exact h.dist i j _ _ hij (h3 hi1).1 (g3 hj1).1 b hb hb'
      · obtain rfl := g4 (by omega)
        have := (h3 hi1).2 b hb
        have := (ho.row.lt b hb').1
        omega
    · by_cases hj1 : j < xss.length
      · obtain rfl := h4 (by omega)
        have := (g3 hj1).2 b hb'
        have := (ho.row.lt b hb).1
        omega
      · omega
theorem OwnH.renew {w w1 : World} {lo hi n cap g i : Nat} {vs : List Value} {xss : List (List Int)} {u u' : Value} {ys : List Int}
    (h : OwnH w lo hi (.slice (some ⟨g, 0, none⟩) n cap) vs xss) (hhi : hi ≤ w.heap.size) (hi0 : i < xss.length) (hu : vs[i]? = some u)
    (ho : w1.ownsRow lo 22 1 u' ys.length (ys.map (Value.int .i8))) (hg : w.grownBy w1 u.ownBlock)
    (hloc : u'.ownBlock = u.ownBlock ∨ ∃ b, u'.ownBlock = some b ∧ w.heap.size ≤ b) :
    OwnH (w1.setCell ⟨g, i, none⟩ u') lo w1.heap.size (.slice (some ⟨g, 0, none⟩) n cap) (vs.set i u') (xss.set i ys) ∧ w1.grownBy (w1.setCell ⟨g, i, none⟩ u') (some g) := by
  have hl := h.len
  subst hl
  have hrow1 : w1.ownsRow lo 28 1 (.slice (some ⟨g, 0, none⟩) xss.length cap) xss.length vs := h.row.kept hg (.inr (fun e => h.apart i u hu g e.symm rfl))
  have hst := hrow1.stored i u'
  have hvl : vs.length = xss.length := by have := h.row.1; omega
  have keep : ∀ {x : Value} {m : Nat} {zs : List Value} {l : Nat}, w1.ownsRow l 22 1 x m zs → (w1.setCell ⟨g, i, none⟩ u').ownsRow l 22 1 x m zs := by
    intro x m zs l hx
    refine hx.kept hst.2 ?_
    cases hb : x.ownBlock with
    | none => exact .inl rfl
    | some b => exact .inr (fun e => apart_of_typesH hrow1 hx b hb e.symm)
  have old : ∀ {j : Nat}, j < xss.length → j ≠ i → ∃ x, vs[j]? = some x ∧ w1.ownsRow lo 22 1 x (xss.getD j []).length ((xss.getD j []).map (Value.int .i8)) ∧ ∀ b, x.ownBlock = some b → b < hi := by
    intro j hj hji
    obtain ⟨x, hx, hox⟩ := h.each j hj
    refine ⟨x, hx, hox.row.kept hg ?_, hox.top⟩
    cases hb : x.ownBlock with
    | none => exact .inl rfl
    | some b => exact .inr (fun e => h.dist i j u x (Ne.symm hji) hu hx b e.symm hb)
  have hsz : (w1.setCell ⟨g, i, none⟩ u').heap.size = w1.heap.size := by simp
  have each : ∀ j, j < xss.length → ∃ x, (vs.set i u')[j]? = some x ∧ Own .i8 22 (w1.setCell ⟨g, i, none⟩ u') lo w1.heap.size x ((xss.set i ys).getD j []) ∧ (j ≠ i → vs[j]? = some x ∧ ∀ b, x.ownBlock = some b → b < hi) ∧ (j = i → x = u') := by
    intro j hj
    by_cases hji : j = i
    · subst hji
      refine ⟨u', by rw [List.getElem?_set_self (by omega)], ?_, fun e => absurd rfl e, fun _ => rfl⟩
      have e : (xss.set j ys).getD j [] = ys := by simp [List.getD, hj]
      rw [e]
      exact ⟨keep ho, fun b hb => (ho.lt b hb).2⟩
    · obtain ⟨x, hx, hox, ht⟩ := old hj hji
      refine ⟨x, by rw [List.getElem?_set_ne (Ne.symm hji)]; exact hx, ?_, fun _ => ⟨hx, ht⟩, fun e => absurd e hji⟩
      have e : (xss.set i ys).getD j [] = xss.getD j [] := by simp [List.getD, Ne.symm hji]
      rw [e]
      exact ⟨keep hox, fun b hb => (hox.lt b hb).2⟩
  have lt : ∀ {j : Nat} {x : Value}, (vs.set i u')[j]? = some x → j < xss.length := by
    intro j x hx
    have := (List.getElem?_eq_some_iff.1 hx).1
    rw [List.length_set] at this
    omega
  have hro : (w1.setCell ⟨g, i, none⟩ u').ownsRow lo 28 1 (.slice (some ⟨g, 0, none⟩) xss.length cap) xss.length (vs.set i u') := hst.1
  have far : ∀ b, u'.ownBlock = some b → ∀ (j : Nat) (x : Value), j ≠ i → vs[j]? = some x → (∀ b', x.ownBlock = some b' → b' < hi) → x.ownBlock ≠ some b := by
    intro b hb j x hji hx ht hxb
    rcases hloc with e | ⟨b', e, hb'⟩
    · rw [e] at hb
      exact h.dist i j u x (Ne.symm hji) hu hx b hb hxb
    · rw [e] at hb
      cases hb
      have := ht b hxb
      omega
  refine ⟨⟨by rw [List.length_set]; exact hro, fun b hb => hsz ▸ (hro.lt b hb).2, fun j hj => ?_, fun j x hx b hb => ?_, fun j k x y hjk hx hy b hb hyb => ?_⟩, hst.2⟩
  · rw [List.length_set] at hj
    obtain ⟨x, h1, h2, _⟩ := each j hj
    exact ⟨x, h1, h2⟩
  · obtain ⟨x1, h1, h2, _⟩ := each j (lt hx)
    obtain rfl : x1 = x := Option.some.inj (h1.symm.trans hx)
    exact apart_of_typesH hro h2.row b hb
  · obtain ⟨x1, h1, _, h3, h4⟩ := each j (lt hx)
    obtain rfl : x1 = x := Option.some.inj (h1.symm.trans hx)
    obtain ⟨y1, g1, _, g3, g4⟩ := each k (lt hy)
    obtain rfl : y1 = y := Option.some.inj (g1.symm.trans hy)
    by_cases hji : j = i
    · have hki : k ≠ i := fun e => hjk (hji.trans e.symm)
      have e1 := h4 hji
      rw [e1] at hb
      exact far b hb k _ hki (g3 hki).1 (g3 hki).2 hyb
    · by_cases hki : k = i
      · have e1 := g4 hki
        rw [e1] at hyb
        exact far b hyb j _ hji (h3 hji).1 (h3 hji).2 hb
      · exact h.dist j k _ _ hjk (h3 hji).1 (g3 hki).1 b hb hyb
theorem madeNils (n : Nat) : madeCells (Value.slice none 0 0).cells (n * 1) = Array.replicate n (.slice none 0 0) := by
  unfold madeCells
  apply Array.ext_getElem?
  intro i
  by_cases h : i < n
  · simp [Value.cells, h, Nat.mod_one]
  · simp [Value.cells, h]
theorem run_make_nils {P : Program} {t e : TypeId} {bytes : Nat} (ht : P.underlying t = some (.slice e)) (hi' : (P.info? e).map (fun i => (i.zero, i.size, i.bytes)) = some (some (.slice none 0 0), 1, bytes))
    (n : Nat) (hb : bytes * n ≤ 281474976710656) (hn : n ≤ 9223372036854775807) (w : World) :
    (Instr.makeSlice t (.int .i64 n) (.int .i64 n)).run P w = .ok (.slice (some ⟨w.heap.size, 0, none⟩) n n) (w.alloc (.cells (Array.replicate n (.slice none 0 0)) e)) := by
  obtain ⟨i0, hi, hh⟩ := Option.map_eq_some_iff.1 hi'
  simp only [Prod.mk.injEq] at hh
  obtain ⟨h1, h2, h3⟩ := hh
  have hb' : (i0.bytes : Int) * (n : Int) ≤ 281474976710656 := by
    have h : ((bytes * n : Nat) : Int) ≤ 281474976710656 := by omega
    rw [Int.natCast_mul] at h; rw [h3]; exact h
  have := run_make (P := P) w t e i0 (.slice none 0 0) ht hi h1 .i64 .i64 n n (by omega) (Int.le_refl _) hb' (by omega)
  rw [this, h2]
  simp only [Int.toNat_natCast]
  rw [madeNils]
theorem OwnH.made (w : World) (n : Nat) (hn : n ≤ 1048576) : OwnH (w.alloc (.cells (Array.replicate n (.slice none 0 0)) 28)) w.heap.size (w.heap.size + 1) (.slice (some ⟨w.heap.size, 0, none⟩) n n) (List.replicate n (.slice none 0 0)) (List.replicate n []) := by
  have hr := World.ownsRow_lit (base := w.heap.size) (e := 28) (size := 1) w (Array.replicate n (.slice none 0 0)) n (Nat.le_refl _) (by unfold maxLen; omega) (by simp)
  have at_ : ∀ {i : Nat} {u : Value}, (List.replicate n (Value.slice none 0 0))[i]? = some u → u = .slice none 0 0 := by
    intro i u hu
    exact (List.mem_replicate.1 (List.mem_of_getElem? hu)).2
  refine ⟨?_, fun b hb => ?_, fun i hi0 => ?_, fun i u hu b hb => ?_, fun i j u u' _ hu hu' b hb => ?_⟩
  · rw [List.length_replicate]
    simpa using hr
  · simp [Value.ownBlock] at hb; omega
  · rw [List.length_replicate] at hi0
    refine ⟨.slice none 0 0, by simp [hi0], ?_⟩
    have e : (List.replicate n ([] : List Int)).getD i [] = [] := by simp [List.getD, hi0]
    rw [e]
    exact Own.nil _ _ _
  · rw [at_ hu] at hb; simp [Value.ownBlock] at hb
  · rw [at_ hu] at hb; simp [Value.ownBlock] at hb
end Go.Proofs.YtfaiehjomcgjgaaDoor

/- The choices of each place: the program's function. -/
namespace Go.Proofs.YtfaiehjomcgjgaaDoor
set_option linter.unusedVariables false
open Go.RowKit
theorem lt_of_row {w : World} {lo s n cap gl m : Nat} {e : TypeId} {vs : List Value} (h : w.ownsRow lo e s (.slice (some ⟨gl, 0, none⟩) n cap) m vs) : gl < w.heap.size := (h.lt gl rfl).2
theorem infoH : (Tryd.prog.info? 28).map (fun i => (i.zero, i.size, i.bytes)) = some (some (.slice none 0 0), 1, 24) := by kernel_rfl
def RetCho (xss : List (List Int)) (w : World) (e : Ending) (w' : World) : Prop := ∃ v vs, e = .returned v ∧ OwnH w' w.heap.size w'.heap.size v vs xss ∧ Gr w w'
set_option maxHeartbeats 4000000 in
set_option maxRecDepth 100000 in
theorem choices_any (a : Option Addr) (n cap : Nat) (m : List Int) (hn : n = m.length) (hcap : n ≤ cap) (hv : plainH m = true) (w : World) (hs : SliceOf .i8 w a m) :
    Calls Tryd.prog 118 #[.slice a n cap] w (RetCho (choT m n n) w) := by
  obtain ⟨h1, h8⟩ := validH_len (plainH_valid hv)
  rw [← hn] at h1 h8
  have hmk := run_make_nils (P := Tryd.prog) (t := 160) (e := 28) (bytes := 24) Tryd.underlying160 infoH n (by omega) (by omega)
  have HAB := hid (fun (p : Nat) (hp : p ≤ n) (V : World) (g : Gr w V) => aboveMeaning_all a n cap m hn (by omega) hcap p hp V (hs.gr g))
  have S := hid hs
  have HN := hid hn
  clear hs hn hv
  obtain ⟨j0, ji, jz0, jz1, jz2⟩ := info_parts infoI8
  go_enter Tryd.func118, Tryd.ntmps118
  go_wp2_with fail
  clear hmk
  obtain ⟨gl, hgl⟩ : ∃ gl, gl = w.heap.size := ⟨_, rfl⟩
  have HGL := hid (show w.heap.size ≤ gl by omega)
  have O0 : Hid (OwnH (w.alloc (.cells (Array.replicate n (.slice none 0 0)) 28)) w.heap.size (w.heap.size + 1) (.slice (some ⟨gl, 0, none⟩) n n) (List.replicate n (.slice none 0 0)) (List.replicate n [])) := hid (by rw [hgl]; exact OwnH.made w n (by omega))
  rw [← hgl]
  clear hgl
  go_loopw [13] (fun i wr => ∃ (k : Nat) (vs : List Value), k ≤ n ∧ i = .int .i64 k ∧ Hid (OwnH wr w.heap.size wr.heap.size (.slice (some ⟨gl, 0, none⟩) n n) vs (choT m n k)) ∧ Hid (Gr w wr)) (fun i _ => n - (intOf i).toNat)
  case atStart => exact ⟨0, _, Nat.zero_le _, rfl, hid (by rw [choT_zero]; exact O0.out.widen (by simp)), hid ((Gr.refl _).alloc _)⟩
  case round =>
    obtain ⟨k, vs, hk, rfl, ow0, GR0⟩ := hrel
    by_cases hkn : k < n
    · obtain ⟨b0, o0, rfl, c0⟩ := S.out k (by rw [← HN.out]; exact hkn)
      have hc0 := GR0.out.cell c0
      clear c0
      have hst := startOf_le m k
      have HREP := hid (fun q => show repB m k q = (decide (startOf m k + q ≤ k) && (m.getD (startOf m k + q - 1) 0 == m.getD k 0)) from rfl)
      have HPL := hid (fun q (hq : startOf m k + q < k) => partL_get (xs := m) (i := startOf m k) (j := k) (k := q) (by rw [← HN.out]; omega) hq)
      have HCA := hid (show candsL m k = repsL m k 4 ++ [m.getD k 0] from rfl)
      have HMIN := hid (repsL_min (m := m) (i := k) (n := 4))
      generalize hstv : startOf m k = st at *
      generalize hkv : m.getD k 0 = kd at *
      have HSTV := hid hstv
      clear hstv hkv
      obtain ⟨p, hp⟩ : ∃ p, p = k - st := ⟨_, rfl⟩
      go_wp2_with fail
      refine (HAB.out k (by omega) _ GR0.out).mono ?_
      rintro e w' ⟨ap, rfl, hsp, rfl⟩
      rw [HSTV.out, ← hp]
      rw [HSTV.out] at hsp
      have HSP := hid hsp
      have HP := hid hp
      clear hsp hp
      obtain ⟨q0, hq0, hq1⟩ : ∃ q0, q0 = min p 4 ∧ (p ≤ 4 ∧ q0 = p ∨ ¬ p ≤ 4 ∧ q0 = 4) := ⟨min p 4, rfl, by omega⟩
      rw [← HP.out, ← hq0] at HMIN
      have HQ0 := hid (show q0 ≤ 4 ∧ q0 ≤ p by omega)
      clear hq0
      rcases hq1 with ⟨hp4, hqe⟩ | ⟨hp4, hqe⟩
      all_goals
        rw [hqe] at HMIN HQ0
        clear hqe
        go_wp2_with fail
        obtain ⟨wo, hwo⟩ : ∃ wo : World, wo = wr := ⟨_, rfl⟩
        rw [← hwo] at ow0 GR0 ⊢
        clear hwo hc0
        go_loopw [7] (fun s wi => ∃ (q : Nat) (D : List Int) (vs' : List Value), (q ≤ 4 ∧ q ≤ p) ∧ s = .int .i64 q ∧ Hid (D ++ repsL m k q = repsL m k 4) ∧ D.length + q ≤ 4 ∧ Hid (OwnH wi w.heap.size wi.heap.size (.slice (some ⟨gl, 0, none⟩) n n) vs' ((choT m n k).set k D)) ∧ Hid (Gr w wi)) (fun s _ => (intOf s).toNat)
        case atStart => first | exact ⟨p, [], vs, HQ0.out, rfl, hid (by rw [List.nil_append]; exact HMIN.out.symm), by have := HQ0.out; rw [List.length_nil]; omega, hid (by rw [choT_set_nil hkn]; exact ow0.out), GR0⟩ | exact ⟨4, [], vs, HQ0.out, rfl, hid (by rw [List.nil_append]), by rw [List.length_nil]; omega, hid (by rw [choT_set_nil hkn]; exact ow0.out), GR0⟩
        case round =>
          obtain ⟨q, D, vs', ⟨hq4, hqp⟩, rfl, hD, hdl, ow, GR⟩ := hrel
          have HGET := hid (show ((choT m n k).set k D).getD k [] = D by simp [List.getD, choT_length, hkn])
          have hd8 : D.length ≤ 8 := by omega
          by_cases hq : q = 0
          · subst hq
            have HE := hid (show ((choT m n k).set k (D ++ [kd])) = choT m n (k + 1) by rw [← choT_set hkn, HCA.out, ← hD.out]; simp [repsL])
            clear hD
            have HLN := hid (show (D ++ [kd]).length = (D).length + 1 by rw [List.length_append, List.length_singleton])
            obtain ⟨g', a', c', e', hc1, hvs, oin⟩ := ow.out.at_ (i := k) (by rw [List.length_set, choT_length]; exact hkn)
            simp only [Option.some.injEq, Addr.mk.injEq, and_true] at e'
            subst e'
            skip
            rw [HGET.out] at hc1 hvs oin
            obtain ⟨p, hp⟩ : ∃ p, p = (D).length := ⟨_, rfl⟩
            have hp8 : p ≤ 8 := by rw [hp]; exact hd8
            rw [← hp] at hc1 hvs oin
            have HP := hid hp
            have hf1 : wr.frozen? ⟨gl, k, none⟩ = false := by have h := ow.out.row; rw [List.length_set, choT_length] at h; exact h.frozenAt k
            have ROW := hid oin.row
            rw [← HP.out] at ROW
            have NE1 := hid (show some gl ≠ (Value.slice a' p c').ownBlock from fun e => ow.out.apart k _ hvs gl e.symm rfl)
            have HVS := hid hvs
            have GA : Gr wr (wr.alloc (.cells #[.int .i8 (kd)] 22)) := (Gr.refl wr).alloc _
            have FA : (wr.alloc (.cells #[.int .i8 (kd)] 22)).frozen? ⟨gl, k, none⟩ = false := (Below.frozen GA (p := ⟨gl, k, none⟩) (lt_of_row ow.out.row)).trans hf1
            have HS3 := hid (show (wr.alloc (.cells #[.int .i8 (kd)] 22)).cell? ⟨gl, k, none⟩ = some (.slice a' p c') ∧ (wr.alloc (.cells #[.int .i8 (kd)] 22)).frozen? ⟨gl, k, none⟩ = false from ⟨GA.cell hc1, FA⟩)
            have HGAD := hid GA
            have hgs : gl < wr.heap.size := lt_of_row ow.out.row
            clear hp hvs oin GA FA
            go_wp2_with (at_builtin; refine wpList_append_lies _ rfl _ _ 28 rfl w.heap.size 22 j0 (.int .i8 0) 1 1 Tryd.underlying28 ji jz0 jz1 jz2 rfl (by decide) _ _ _ rfl (ROW.out.alloc _) ⟨wr.heap.size, 0, none⟩ 1 1 [.int .i8 (kd)] rfl rfl (World.news_of_block (cs := #[.int .i8 (kd)]) (t := 22) (fr := (0, 0)) (heap_alloc_new wr _)) (by simp [Value.oneCell']) (by omega) (by unfold maxLen; omega) (by omega) (by have := GR.out.size; simp; omega) (wr.heap.size + 1) (by simp) ?_)
            intro gg cap2 w2 hown hgrow hat hlt2
            have hcw : w2.cell? ⟨gl, k, none⟩ = some (.slice a' p c') := (hgrow.cell_far _ (by simp; omega) NE1.out).trans HS3.out.1
            have hfw : w2.frozen? ⟨gl, k, none⟩ = false := (hgrow.frozen_far _ (by simp; omega) NE1.out).trans HS3.out.2
            all_goals
              have OX := hid (OwnH.renew (w := (wr.alloc (.cells #[.int .i8 (kd)] 22))) (w1 := w2) (lo := w.heap.size) (hi := wr.heap.size) (i := k) (u := .slice a' p c') (u' := .slice (some ⟨gg, 0, none⟩) (p + 1) cap2) (ys := D ++ [kd]) (ow.out.gr HGAD.out) (by simp) (by rw [List.length_set, choT_length]; exact hkn) HVS.out (by rw [HLN.out, ← HP.out, List.map_append]; exact hown) hgrow (hat.elim (fun h => .inl h.symm) (fun h => .inr ⟨gg, rfl, by simp; omega⟩))).1
              have GX := hid (((GR.out.trans HGAD.out).by_ hgrow (fun b e => (ROW.out.lt b e).1)).setCell (p := ⟨gl, k, none⟩) HGL.out (.slice (some ⟨gg, 0, none⟩) (p + 1) cap2))
              rw [List.set_set] at OX
              clear hown hgrow hat hlt2
              go_wp2_with fail
              go_roundw
              case rel => exact ⟨k + 1, _, by omega, by go_num, hid (by rw [← HE.out]; exact OX.out.widen (by simp)), GX⟩
              case measure => simp [intOf] <;> omega
          · obtain ⟨r, hr⟩ : ∃ r, q = r + 1 := ⟨q - 1, by omega⟩
            obtain ⟨b1, o1, e1', hcy⟩ := HSP.out wr (S.out.gr GR.out) r (by rw [partL_length (by omega) (by rw [← HN.out]; omega)]; have := HP.out; omega)
            subst e1'
            rw [HPL.out r (by have := HP.out; omega)] at hcy
            have hrep := HREP.out q
            rw [decide_eq_true (by have := HP.out; omega), Bool.true_and, show st + q - 1 = st + r by omega] at hrep
            have hqpos : (0 : Int) < (q : Int) := by omega
            have hr0 : (0 : Int) ≤ (r : Int) := by omega
            have hr1 : (r : Int) < (p : Int) := by omega
            have HRQ := hid (show r < q by omega)
            have HR := hid (show r ≤ 4 ∧ r ≤ p ∧ D.length + 1 + r ≤ 4 by omega)
            have z3 : (q : Int) - 1 = (r : Int) := by omega
            have z2 : -128 ≤ -(q : Int) ∧ -(q : Int) ≤ 127 := by omega
            have z1 : -9223372036854775808 ≤ -(q : Int) ∧ -(q : Int) ≤ 9223372036854775807 := by omega
            have z4 : -9223372036854775808 ≤ (q : Int) - 1 ∧ (q : Int) - 1 ≤ 9223372036854775807 := by omega
            have e3 : IntKind.i64.wrap ((q : Int) - 1) = (r : Int) := (IntWalk.i64_in _ z4).trans z3
            have e1 : IntKind.i64.wrap (-(q : Int)) = -(q : Int) := IntWalk.i64_in _ z1
            have e2 : IntKind.i8.wrap (-(q : Int)) = -(q : Int) := IntWalk.i8_in _ z2
            clear z1 z2 z3 z4
            generalize m.getD (st + r) 0 = y at *
            cases hy : (y == kd) with
            | false =>
              have HE := hid (show D ++ repsL m k r = repsL m k 4 by have h := hD.out; rw [hr, repsL_no (by rw [← hr, hrep, hy])] at h; exact h)
              clear hD hr hrep
              go_wp2_with fail
              go_roundw
              case rel => exact ⟨r, D, vs', ⟨HR.out.1, HR.out.2.1⟩, rfl, HE, Nat.le_trans (Nat.add_le_add_right (Nat.le_succ _) _) HR.out.2.2, ow, GR⟩
              case measure => simp [intOf]; exact HRQ.out
            | true =>
              have HE := hid (show D ++ [-(q : Int)] ++ repsL m k r = repsL m k 4 by have h := hD.out; rw [hr, repsL_yes (by rw [← hr, hrep, hy])] at h; rw [List.append_assoc, ← hr] at *; exact h)
              clear hD hr hrep
              have HLN := hid (show (D ++ [-(q : Int)]).length = (D).length + 1 by rw [List.length_append, List.length_singleton])
              obtain ⟨g', a', c', e', hc1, hvs, oin⟩ := ow.out.at_ (i := k) (by rw [List.length_set, choT_length]; exact hkn)
              simp only [Option.some.injEq, Addr.mk.injEq, and_true] at e'
              subst e'
              skip
              rw [HGET.out] at hc1 hvs oin
              obtain ⟨p, hp⟩ : ∃ p, p = (D).length := ⟨_, rfl⟩
              have hp8 : p ≤ 8 := by rw [hp]; exact hd8
              rw [← hp] at hc1 hvs oin
              have HP := hid hp
              have hf1 : wr.frozen? ⟨gl, k, none⟩ = false := by have h := ow.out.row; rw [List.length_set, choT_length] at h; exact h.frozenAt k
              have ROW := hid oin.row
              rw [← HP.out] at ROW
              have NE1 := hid (show some gl ≠ (Value.slice a' p c').ownBlock from fun e => ow.out.apart k _ hvs gl e.symm rfl)
              have HVS := hid hvs
              have GA : Gr wr (wr.alloc (.cells #[.int .i8 (-(q : Int))] 22)) := (Gr.refl wr).alloc _
              have FA : (wr.alloc (.cells #[.int .i8 (-(q : Int))] 22)).frozen? ⟨gl, k, none⟩ = false := (Below.frozen GA (p := ⟨gl, k, none⟩) (lt_of_row ow.out.row)).trans hf1
              have HS3 := hid (show (wr.alloc (.cells #[.int .i8 (-(q : Int))] 22)).cell? ⟨gl, k, none⟩ = some (.slice a' p c') ∧ (wr.alloc (.cells #[.int .i8 (-(q : Int))] 22)).frozen? ⟨gl, k, none⟩ = false from ⟨GA.cell hc1, FA⟩)
              have HGAD := hid GA
              have hgs : gl < wr.heap.size := lt_of_row ow.out.row
              clear hp hvs oin GA FA
              go_wp2_with (at_builtin; refine wpList_append_lies _ rfl _ _ 28 rfl w.heap.size 22 j0 (.int .i8 0) 1 1 Tryd.underlying28 ji jz0 jz1 jz2 rfl (by decide) _ _ _ rfl (ROW.out.alloc _) ⟨wr.heap.size, 0, none⟩ 1 1 [.int .i8 (-(q : Int))] rfl rfl (World.news_of_block (cs := #[.int .i8 (-(q : Int))]) (t := 22) (fr := (0, 0)) (heap_alloc_new wr _)) (by simp [Value.oneCell']) (by omega) (by unfold maxLen; omega) (by omega) (by have := GR.out.size; simp; omega) (wr.heap.size + 1) (by simp) ?_)
              intro gg cap2 w2 hown hgrow hat hlt2
              have hcw : w2.cell? ⟨gl, k, none⟩ = some (.slice a' p c') := (hgrow.cell_far _ (by simp; omega) NE1.out).trans HS3.out.1
              have hfw : w2.frozen? ⟨gl, k, none⟩ = false := (hgrow.frozen_far _ (by simp; omega) NE1.out).trans HS3.out.2
              all_goals
                have OX := hid (OwnH.renew (w := (wr.alloc (.cells #[.int .i8 (-(q : Int))] 22))) (w1 := w2) (lo := w.heap.size) (hi := wr.heap.size) (i := k) (u := .slice a' p c') (u' := .slice (some ⟨gg, 0, none⟩) (p + 1) cap2) (ys := D ++ [-(q : Int)]) (ow.out.gr HGAD.out) (by simp) (by rw [List.length_set, choT_length]; exact hkn) HVS.out (by rw [HLN.out, ← HP.out, List.map_append]; exact hown) hgrow (hat.elim (fun h => .inl h.symm) (fun h => .inr ⟨gg, rfl, by simp; omega⟩))).1
                have GX := hid (((GR.out.trans HGAD.out).by_ hgrow (fun b e => (ROW.out.lt b e).1)).setCell (p := ⟨gl, k, none⟩) HGL.out (.slice (some ⟨gg, 0, none⟩) (p + 1) cap2))
                rw [List.set_set] at OX
                clear hown hgrow hat hlt2
                go_wp2_with fail
                go_roundw
                case rel => exact ⟨r, D ++ [-(q : Int)], _, ⟨HR.out.1, HR.out.2.1⟩, rfl, HE, by rw [List.length_append, List.length_singleton]; exact HR.out.2.2, hid (OX.out.widen (by simp)), GX⟩
                case measure => simp [intOf]; exact HRQ.out
    · have HE := hid (show choT m n k = choT m n n by rw [show k = n by omega])
      go_wp2_with fail
      go_ret
      exact ⟨_, vs, rfl, by rw [← HE.out]; exact ow0.out, GR0.out⟩
end Go.Proofs.YtfaiehjomcgjgaaDoor

/- What the search for hoists has still to hand out: plain lists. -/
namespace Go.Proofs.YtfaiehjomcgjgaaDoor
set_option linter.unusedVariables false
open Go.RowKit
theorem getD_in {l : List Int} {p : Nat} (h : p < l.length) : l[p] = l.getD p 0 := by rw [List.getD_eq_getElem?_getD, List.getElem?_eq_getElem h]; rfl
/-- There is one more of a number. -/
def okV (av : Int → Int) (h : List Int) (x : Int) : Bool := decide (x = -10) || decide (occ h x h.length < av x)
def goP (next : List Int → List (List Int)) (av : Int → Int) (h : List Int) : List Int → List (List Int)
  | [] => []
  | c :: l => (if okV av h c then next (h ++ [c]) else []) ++ goP next av h l
/-- All that go on from h, with f places more. -/
def goC (cs : List (List Int)) (av : Int → Int) : Nat → List Int → List (List Int)
  | 0, h => [h]
  | f + 1, h => goP (goC cs av f) av h (cs.getD h.length [])
/-- What the search hands out from place k - 1 on: h holds what has been chosen, tr how many choices of each place have been tried. -/
def remA (cs : List (List Int)) (av : Int → Int) (n : Nat) (h : List Int) (tr : List Int) : Nat → List (List Int)
  | 0 => []
  | k + 1 => (if k = n then [h] else goP (goC cs av (n - k - 1)) av (h.take k) ((cs.getD k []).drop (tr.getD k 0).toNat)) ++ remA cs av n h tr k
/-- How much is left to do. -/
def muA (cs : List (List Int)) (n : Nat) (tr : List Int) : Nat → Nat
  | 0 => 0
  | k + 1 => (if k = n then 1 else 1 + ((cs.getD k []).length - (tr.getD k 0).toNat) * 7 ^ (n - k)) + muA cs n tr k
theorem remA_same {cs : List (List Int)} {av : Int → Int} {n : Nat} {h h' : List Int} {tr tr' : List Int} : ∀ {k : Nat}, k ≤ n → (∀ j, j < k → h'.take j = h.take j ∧ tr'.getD j 0 = tr.getD j 0) → remA cs av n h' tr' k = remA cs av n h tr k := by
  intro k
  induction k with
  | zero => intro _ _; rfl
  | succ k ih =>
    intro hk he
    rw [remA, remA, ih (by omega) (fun j hj => he j (by omega)), if_neg (by omega), if_neg (by omega), (he k (by omega)).1, (he k (by omega)).2]
theorem muA_same {cs : List (List Int)} {n : Nat} {tr tr' : List Int} : ∀ {k : Nat}, k ≤ n → (∀ j, j < k → tr'.getD j 0 = tr.getD j 0) → muA cs n tr' k = muA cs n tr k := by
  intro k
  induction k with
  | zero => intro _ _; rfl
  | succ k ih =>
    intro hk he
    rw [muA, muA, ih (by omega) (fun j hj => he j (by omega)), if_neg (by omega), if_neg (by omega), he k (by omega)]
theorem getD_set_eq {xs : List Int} {i : Nat} {x : Int} (hi : i < xs.length) : (xs.set i x).getD i 0 = x := by
  simp [List.getD, hi]
theorem getD_set_ne {xs : List Int} {i j : Nat} {x : Int} (hi : i ≠ j) : (xs.set i x).getD j 0 = xs.getD j 0 := by
  simp [List.getD, hi]
theorem take_set_le {xs : List Int} {i j : Nat} {x : Int} (h : j ≤ i) : (xs.set i x).take j = xs.take j := by
  rw [List.take_set, List.set_eq_of_length_le (by rw [List.length_take]; omega)]
theorem take_set_succ {xs : List Int} {i : Nat} {x : Int} (h : i < xs.length) : (xs.set i x).take (i + 1) = xs.take i ++ [x] := by
  rw [List.take_add_one, take_set_le (Nat.le_refl _)]
  simp [h]
theorem remA_start {cs : List (List Int)} {av : Int → Int} {n : Nat} {h : List Int} {tr : List Int} (hn : 1 ≤ n) (ht : tr.getD 0 0 = 0) : remA cs av n h tr 1 = goC cs av n [] := by
  obtain ⟨p, rfl⟩ : ∃ p, n = p + 1 := ⟨n - 1, by omega⟩
  rw [remA, if_neg (by omega), ht, remA, List.append_nil, goC]
  rfl
theorem remA_top {cs : List (List Int)} {av : Int → Int} {n : Nat} {h : List Int} {tr : List Int} : remA cs av n h tr (n + 1) = h :: remA cs av n h tr n := by
  rw [remA, if_pos rfl]
  rfl
/-- No choice is left at a place. -/
theorem remA_none {cs : List (List Int)} {av : Int → Int} {n k : Nat} {h : List Int} {tr : List Int} (hk : k < n) (hp : (cs.getD k []).length ≤ (tr.getD k 0).toNat) (x : Int) :
    remA cs av n h tr (k + 1) = remA cs av n h (tr.set k x) k := by
  rw [remA, if_neg (by omega), List.drop_eq_nil_of_le hp, goP, List.nil_append]
  exact (remA_same (by omega) (fun j hj => ⟨rfl, getD_set_ne (by omega)⟩)).symm
theorem goP_cons {next : List Int → List (List Int)} {av : Int → Int} {h : List Int} {c : Int} {l : List Int} : goP next av h (c :: l) = (if okV av h c then next (h ++ [c]) else []) ++ goP next av h l := rfl
/-- A choice that can't be taken. -/
theorem remA_skip {cs : List (List Int)} {av : Int → Int} {n k p : Nat} {h : List Int} {tr : List Int} (hk : k < n) (htr : k < tr.length) (hp : tr.getD k 0 = (p : Int)) (hl : p < (cs.getD k []).length)
    (hno : okV av (h.take k) ((cs.getD k []).getD p 0) = false) : remA cs av n h tr (k + 1) = remA cs av n h (tr.set k ((p : Int) + 1)) (k + 1) := by
  rw [remA, remA, if_neg (by omega), if_neg (by omega), hp, getD_set_eq htr, show ((p : Int) + 1).toNat = p + 1 by omega, Int.toNat_natCast, List.drop_eq_getElem_cons hl, goP_cons]
  have e : (cs.getD k [])[p] = (cs.getD k []).getD p 0 := getD_in hl
  rw [e, hno, if_neg (by simp), List.nil_append, remA_same (h' := h) (h := h) (tr' := tr.set k ((p : Int) + 1)) (tr := tr) (Nat.le_of_lt hk) (fun j hj => ⟨rfl, getD_set_ne (by omega)⟩)]
/-- A choice that is taken. -/
theorem remA_take {cs : List (List Int)} {av : Int → Int} {n k p : Nat} {h : List Int} {tr : List Int} (hk : k < n) (hh : h.length = n) (htr : tr.length = n) (hp : tr.getD k 0 = (p : Int)) (hl : p < (cs.getD k []).length)
    (hz : ∀ j, k < j → j < n → tr.getD j 0 = 0) (hyes : okV av (h.take k) ((cs.getD k []).getD p 0) = true) :
    remA cs av n h tr (k + 1) = remA cs av n (h.set k ((cs.getD k []).getD p 0)) (tr.set k ((p : Int) + 1)) (k + 2) := by
  have e : (cs.getD k [])[p] = (cs.getD k []).getD p 0 := getD_in hl
  have e1 : remA cs av n h tr (k + 1) = goC cs av (n - k - 1) (h.take k ++ [(cs.getD k []).getD p 0]) ++ (goP (goC cs av (n - k - 1)) av (h.take k) ((cs.getD k []).drop (p + 1)) ++ remA cs av n h tr k) := by
    rw [remA, if_neg (by omega), hp, Int.toNat_natCast, List.drop_eq_getElem_cons hl, goP_cons, e, hyes, if_pos rfl, List.append_assoc]
  have e2 : remA cs av n (h.set k ((cs.getD k []).getD p 0)) (tr.set k ((p : Int) + 1)) (k + 1) = goP (goC cs av (n - k - 1)) av (h.take k) ((cs.getD k []).drop (p + 1)) ++ remA cs av n h tr k := by
    rw [remA, if_neg (by omega), getD_set_eq (by omega), show ((p : Int) + 1).toNat = p + 1 by omega, take_set_le (Nat.le_refl _), remA_same (h' := h.set k ((cs.getD k []).getD p 0)) (h := h) (tr' := tr.set k ((p : Int) + 1)) (tr := tr) (Nat.le_of_lt hk) (fun j hj => ⟨take_set_le (by omega), getD_set_ne (by omega)⟩)]
  rw [e1, show k + 2 = (k + 1) + 1 from rfl, remA, e2]
  congr 1
  by_cases hkn : k + 1 = n
  · rw [if_pos hkn, show n - k - 1 = 0 by omega, goC]
    congr 1
    have := take_set_succ (xs := h) (i := k) (x := (cs.getD k []).getD p 0) (by omega)
    rw [← this, List.take_of_length_le (by rw [List.length_set]; omega)]
  · rw [if_neg hkn, getD_set_ne (by omega), hz (k + 1) (by omega) (by omega), take_set_succ (by omega), show n - k - 1 = (n - (k + 1) - 1) + 1 by omega, goC]
    have : (h.take k ++ [(cs.getD k []).getD p 0]).length = k + 1 := by rw [List.length_append, List.length_take, List.length_singleton]; omega
    rw [this]
    rfl
theorem muA_none {cs : List (List Int)} {n k : Nat} {tr : List Int} (hk : k < n) (x : Int) : muA cs n (tr.set k x) k < muA cs n tr (k + 1) := by
  rw [muA, muA_same (tr' := tr.set k x) (tr := tr) (by omega) (fun j hj => getD_set_ne (by omega)), if_neg (by omega)]
  omega
theorem muA_top {cs : List (List Int)} {n : Nat} {tr : List Int} : muA cs n tr n < muA cs n tr (n + 1) := by
  rw [muA, if_pos rfl]
  omega
theorem muA_skip {cs : List (List Int)} {n k p : Nat} {tr : List Int} (hk : k < n) (htr : k < tr.length) (hp : tr.getD k 0 = (p : Int)) (hl : p < (cs.getD k []).length) : muA cs n (tr.set k ((p : Int) + 1)) (k + 1) < muA cs n tr (k + 1) := by
  rw [muA, muA, muA_same (tr' := tr.set k ((p : Int) + 1)) (tr := tr) (by omega) (fun j hj => getD_set_ne (by omega)), if_neg (by omega), if_neg (by omega), hp, getD_set_eq htr, show ((p : Int) + 1).toNat = p + 1 by omega, Int.toNat_natCast]
  have h7 : 0 < 7 ^ (n - k) := Nat.pow_pos (by omega)
  have : ((cs.getD k []).length - (p + 1)) * 7 ^ (n - k) < ((cs.getD k []).length - p) * 7 ^ (n - k) := Nat.mul_lt_mul_of_pos_right (by omega) h7
  omega
theorem muA_take {cs : List (List Int)} {n k p : Nat} {tr : List Int} (hk : k < n) (htr : tr.length = n) (hp : tr.getD k 0 = (p : Int)) (hl : p < (cs.getD k []).length) (h5 : ∀ j, j < n → (cs.getD j []).length ≤ 5) :
    muA cs n (tr.set k ((p : Int) + 1)) (k + 2) < muA cs n tr (k + 1) := by
  have e1 : muA cs n (tr.set k ((p : Int) + 1)) (k + 1) = 1 + ((cs.getD k []).length - (p + 1)) * 7 ^ (n - k) + muA cs n tr k := by
    rw [muA, muA_same (tr' := tr.set k ((p : Int) + 1)) (tr := tr) (by omega) (fun j hj => getD_set_ne (by omega)), if_neg (by omega), getD_set_eq (by omega), show ((p : Int) + 1).toNat = p + 1 by omega]
  have e2 : muA cs n tr (k + 1) = 1 + ((cs.getD k []).length - p) * 7 ^ (n - k) + muA cs n tr k := by
    rw [muA, if_neg (by omega), hp, Int.toNat_natCast]
  have h7 : 0 < 7 ^ (n - k - 1) := Nat.pow_pos (by omega)
  have h8 : 7 ^ (n - k) = 7 ^ (n - k - 1) * 7 := by rw [← Nat.pow_succ]; congr 1; omega
  have e3 : ((cs.getD k []).length - p) * 7 ^ (n - k) = ((cs.getD k []).length - (p + 1)) * 7 ^ (n - k) + 7 ^ (n - k) := by
    rw [← Nat.succ_mul]
    congr 1
    omega
  rw [show k + 2 = (k + 1) + 1 from rfl, muA, e1, e2, e3, h8]
  by_cases hkn : k + 1 = n
  · rw [if_pos hkn]; omega
  · rw [if_neg hkn, show n - (k + 1) = n - k - 1 by omega]
    have h9 : ((cs.getD (k + 1) []).length - ((tr.set k ((p : Int) + 1)).getD (k + 1) 0).toNat) * 7 ^ (n - k - 1) ≤ 5 * 7 ^ (n - k - 1) := Nat.mul_le_mul_right _ (by have := h5 (k + 1) (by omega); omega)
    omega
/-- So many there are in so many sets. -/
def avS (S : Int) (B : Nat) (x : Int) : Int := if x < -(B : Int) then 0 else S
theorem okV_far {S : Int} {B : Nat} {h : List Int} {c : Nat} (hB : B < c) (hc : c ≤ 4) : okV (avS S B) h (-(c : Int)) = false := by
  unfold okV avS
  have := (occ_bd h (-(c : Int)) h.length).1
  simp only [Bool.or_eq_false_iff, decide_eq_false_iff_not]
  rw [if_pos (by omega)]
  omega
theorem okV_near {S : Int} {B : Nat} {h : List Int} {x : Int} (hx : x = -10 ∨ -(B : Int) ≤ x) : okV (avS S B) h x = okX S h x := by
  unfold okV okX avS
  rcases hx with hx | hx
  · simp [hx]
  · rw [if_neg (by omega)]
theorem goP_append {next : List Int → List (List Int)} {av : Int → Int} {h : List Int} {l1 l2 : List Int} : goP next av h (l1 ++ l2) = goP next av h l1 ++ goP next av h l2 := by
  induction l1 with
  | nil => rfl
  | cons c l ih => rw [List.cons_append, goP_cons, goP_cons, ih, List.append_assoc]
theorem goP_reps {next : List Int → List (List Int)} {m h : List Int} {S : Int} {B n : Nat} (hB : B ≤ 4) (hn : n ≤ 4) (hx : m.getD h.length 0 = -10 ∨ 0 ≤ m.getD h.length 0) :
    goP next (avS S B) h (repsL m h.length n ++ [m.getD h.length 0]) = goN next m S h (min n B) := by
  induction n with
  | zero =>
    rw [repsL, List.nil_append, Nat.zero_min, goN, goP_cons, goP, List.append_nil, okV_near (by rcases hx with h1 | h1 <;> first | exact .inl h1 | exact .inr (by omega))]
  | succ n ih =>
    have ih := ih (by omega)
    by_cases hb : n + 1 ≤ B
    · rw [Nat.min_eq_left hb, goN]
      rw [Nat.min_eq_left (by omega)] at ih
      cases hr : repB m h.length (n + 1)
      · rw [repsL_no hr, ih, Bool.false_and, if_neg (by simp), List.nil_append]
      · rw [repsL_yes hr, List.cons_append, goP_cons, ih, Bool.true_and, okV_near (.inr (by omega))]
    · rw [Nat.min_eq_right (by omega)]
      rw [Nat.min_eq_right (by omega)] at ih
      cases hr : repB m h.length (n + 1)
      · rw [repsL_no hr, ih]
      · rw [repsL_yes hr, List.cons_append, goP_cons, ih, okV_far (by omega) hn, if_neg (by simp), List.nil_append]
theorem goC_goF {m : List Int} {S : Int} {B : Nat} (hB : B ≤ 4) (hx : ∀ i, i < m.length → m.getD i 0 = -10 ∨ 0 ≤ m.getD i 0) : ∀ (f : Nat) (h : List Int), h.length + f = m.length → goC (choT m m.length m.length) (avS S B) f h = goF m S B f h := by
  have hn : ∀ (next next' : List Int → List (List Int)) (h : List Int) (k : Nat), (∀ c, next (h ++ [c]) = next' (h ++ [c])) → goN next m S h k = goN next' m S h k := by
    intro next next' h k he
    induction k with
    | zero => rw [goN, goN, he]
    | succ k ih => rw [goN, goN, he, ih]
  intro f
  induction f with
  | zero => intro h _; rfl
  | succ f ih =>
    intro h hl
    rw [goC, goF_succ, choT_get (by omega), if_pos (by omega), candsL, goP_reps hB (Nat.le_refl _) (hx _ (by omega)), Nat.min_eq_right hB]
    exact hn _ _ _ _ (fun c => ih _ (by rw [List.length_append, List.length_singleton]; omega))
end Go.Proofs.YtfaiehjomcgjgaaDoor

/- Slices of slices that a call has made. -/
namespace Go.Proofs.YtfaiehjomcgjgaaDoor
set_option linter.unusedVariables false
open Go.RowKit
/-- A slice of slices: its row and theirs lie in blocks of their own from lo on, below hi. -/
structure OwnS (w : World) (lo hi : Nat) (v : Value) (vs : List Value) (xss : List (List Int)) : Prop where
  row : w.ownsRow lo 59 1 v xss.length vs
  top : ∀ b, v.ownBlock = some b → b < hi
  each : ∀ i, i < xss.length → ∃ u, vs[i]? = some u ∧ Own .i8 22 w lo hi u (xss.getD i [])
  apart : ∀ (i : Nat) (u : Value), vs[i]? = some u → ∀ b, u.ownBlock = some b → v.ownBlock ≠ some b
  dist : ∀ (i j : Nat) (u u' : Value), i ≠ j → vs[i]? = some u → vs[j]? = some u' → ∀ b, u.ownBlock = some b → u'.ownBlock ≠ some b
section
variable {w w' : World} {lo hi n cap : Nat} {v : Value} {vs : List Value} {a : Option Addr} {xss : List (List Int)}
theorem OwnS.len (h : OwnS w lo hi (.slice a n cap) vs xss) : n = xss.length := by
  rcases h.row.2 with ⟨h1, h2⟩ | ⟨g', cap', cur, h1, _⟩
  · simp only [Value.slice.injEq] at h1; rw [h1.2.1, h2]
  · simp only [Value.slice.injEq] at h1; exact h1.2.1
theorem OwnS.at_ (h : OwnS w lo hi (.slice a n cap) vs xss) {i : Nat} (hi' : i < xss.length) :
    ∃ g a' c', a = some ⟨g, 0, none⟩ ∧ w.cell? ⟨g, i, none⟩ = some (.slice a' (xss.getD i []).length c') ∧ vs[i]? = some (.slice a' (xss.getD i []).length c') ∧ Own .i8 22 w lo hi (.slice a' (xss.getD i []).length c') (xss.getD i []) := by
  obtain ⟨u, hu, ho⟩ := h.each i hi'
  obtain ⟨a', c', rfl⟩ := ho.shape
  have hl := h.len
  subst hl
  rcases h.row.2 with ⟨h1, h2⟩ | ⟨g', cap', cur, h1, _⟩
  · omega
  · simp only [Value.slice.injEq] at h1
    obtain ⟨rfl, _, rfl⟩ := h1
    exact ⟨g', a', c', rfl, by rw [h.row.cellAt i (by omega)]; exact hu, hu, ho⟩
theorem OwnS.reads (h : OwnS w lo hi (.slice a n cap) vs xss) : SlicesOf .i8 w a xss := by
  intro i hi'
  obtain ⟨g, a', c', rfl, hc, _, ho⟩ := h.at_ hi'
  exact ⟨g, 0, a', c', rfl, by rw [Nat.zero_add]; exact hc, ho.reads⟩
theorem OwnS.put {i : Nat} {u : Value} {ys : List Int} (h : OwnS w lo hi v vs xss) (hu : vs[i]? = some u) (ho : Own .i8 22 w' lo hi u ys) (hg : w.grownBy w' u.ownBlock) :
    OwnS w' lo hi v vs (xss.set i ys) := by
  refine ⟨?_, h.top, ?_, h.apart, h.dist⟩
  · rw [List.length_set]
    refine h.row.kept hg ?_
    cases hb : v.ownBlock with
    | none => exact .inl rfl
    | some b => exact .inr (fun e => h.apart i u hu b e.symm hb)
  · intro j hj
    rw [List.length_set] at hj
    obtain ⟨u', hu', ho'⟩ := h.each j hj
    by_cases hij : i = j
    · subst hij
      refine ⟨u, hu, ?_⟩
      have e : (xss.set i ys).getD i [] = ys := by simp [List.getD, hj]
      rw [e]; exact ho
    · refine ⟨u', hu', ?_⟩
      have e : (xss.set i ys).getD j [] = xss.getD j [] := by simp [List.getD, hij]
      rw [e]
      refine ⟨ho'.row.kept hg ?_, ho'.top⟩
      cases hb : u'.ownBlock with
      | none => exact .inl rfl
      | some b => exact .inr (fun e => h.dist i j u u' hij hu hu' b e.symm hb)
end
theorem OwnS.gr {w w' : World} {lo hi : Nat} {v : Value} {vs : List Value} {xss : List (List Int)} (h : OwnS w lo hi v vs xss) (g : Gr w w') : OwnS w' lo hi v vs xss := by
  refine ⟨⟨h.row.1, ?_⟩, h.top, fun i hi0 => ?_, h.apart, h.dist⟩
  · rcases h.row.2 with h1 | ⟨g', cap, cur, h1, h2, h3, r⟩
    · exact .inl h1
    · exact .inr ⟨g', cap, cur, h1, h2, g.heap h3, r⟩
  · obtain ⟨u, hu, ho⟩ := h.each i hi0
    exact ⟨u, hu, ho.gr g⟩
theorem OwnS.widen {w : World} {lo hi hi' : Nat} {v : Value} {vs : List Value} {xss : List (List Int)} (h : OwnS w lo hi v vs xss) (hh : hi ≤ hi') : OwnS w lo hi' v vs xss := by
  refine ⟨h.row, fun b hb => Nat.lt_of_lt_of_le (h.top b hb) hh, fun i hi0 => ?_, h.apart, h.dist⟩
  obtain ⟨u, hu, ho⟩ := h.each i hi0
  exact ⟨u, hu, ho.widen (Nat.le_refl _) hh⟩
theorem OwnS.nil (w : World) (lo hi : Nat) : OwnS w lo hi (.slice none 0 0) [] [] :=
  ⟨World.ownsRow_nil w lo _ 1, fun b hb => by simp [Value.ownBlock] at hb, fun i hi0 => by simp at hi0, fun i u hu => by simp at hu, fun i j u u' _ hu => by simp at hu⟩
/-- Rows of different types lie in different blocks. -/
theorem apart_of_types {w : World} {l1 l2 n m : Nat} {v u : Value} {vs ys : List Value} (h : w.ownsRow l1 59 1 v n vs) (ho : w.ownsRow l2 22 1 u m ys) : ∀ b, u.ownBlock = some b → v.ownBlock ≠ some b := by
  intro b hb hv
  rcases h.2 with ⟨rfl, _⟩ | ⟨g, cap, cur, rfl, _, h1, _⟩
  · simp [Value.ownBlock] at hv
  · rcases ho.2 with ⟨rfl, _⟩ | ⟨g', cap', cur', rfl, _, h2, _⟩
    · simp [Value.ownBlock] at hb
    · simp only [Value.ownBlock, Option.some.injEq] at hb hv
      subst hb hv
      rw [h1] at h2
      simp at h2
/-- One slice more is appended: its row lies behind all the others. -/
theorem OwnS.snoc {w w' : World} {lo hi hi' : Nat} {v v' u : Value} {vs : List Value} {xss : List (List Int)} {ys : List Int} (h : OwnS w lo hi v vs xss) (hlh : lo ≤ hi) (ho : Own .i8 22 w hi hi' u ys)
    (hrow : w'.ownsRow lo 59 1 v' (xss.length + 1) (vs ++ [u])) (hg : w.grownBy w' v.ownBlock) : OwnS w' lo w'.heap.size v' (vs ++ [u]) (xss ++ [ys]) := by
  have hvl : vs.length = xss.length := by have := h.row.1; omega
  have keep : ∀ {x : Value} {n : Nat} {zs : List Value} {l : Nat}, w.ownsRow l 22 1 x n zs → w'.ownsRow l 22 1 x n zs := by
    intro x n zs l hx
    refine hx.kept hg ?_
    cases hb : x.ownBlock with
    | none => exact .inl rfl
    | some b => exact .inr (fun e => apart_of_types h.row hx b hb e.symm)
  have each : ∀ i, i < (xss ++ [ys]).length → ∃ x, (vs ++ [u])[i]? = some x ∧ Own .i8 22 w' lo w'.heap.size x ((xss ++ [ys]).getD i []) ∧ (i < xss.length → vs[i]? = some x ∧ ∀ b, x.ownBlock = some b → b < hi) ∧ (i = xss.length → x = u) := by
    intro i hi0
    rw [List.length_append, List.length_singleton] at hi0
    by_cases hlt : i < xss.length
    · obtain ⟨x, hx, hox⟩ := h.each i hlt
      refine ⟨x, by rw [List.getElem?_append_left (by omega)]; exact hx, ?_, fun _ => ⟨hx, hox.top⟩, fun e => by omega⟩
      have e : (xss ++ [ys]).getD i [] = xss.getD i [] := by simp only [List.getD_eq_getElem?_getD]; rw [List.getElem?_append_left hlt]
      rw [e]
      exact ⟨keep hox.row, fun b hb => ((keep hox.row).lt b hb).2⟩
    · have hil : i = xss.length := by omega
      subst hil
      refine ⟨u, by rw [List.getElem?_append_right (by omega), hvl, Nat.sub_self]; rfl, ?_, fun e => by omega, fun _ => rfl⟩
      have e : (xss ++ [ys]).getD xss.length [] = ys := by simp only [List.getD_eq_getElem?_getD]; rw [List.getElem?_append_right (by omega), Nat.sub_self]; rfl
      rw [e]
      have hw := ho.widen hlh (Nat.le_refl _)
      exact ⟨keep hw.row, fun b hb => ((keep hw.row).lt b hb).2⟩
  have lt : ∀ {i : Nat} {x : Value}, (vs ++ [u])[i]? = some x → i < (xss ++ [ys]).length := by
    intro i x hx
    have := (List.getElem?_eq_some_iff.1 hx).1
    rw [List.length_append, List.length_singleton] at this ⊢
    omega
  refine ⟨by rw [List.length_append, List.length_singleton]; exact hrow, fun b hb => (hrow.lt b hb).2, fun i hi0 => ?_, fun i x hx b hb => ?_, fun i j x x' hij hx hx' b hb => ?_⟩
  · obtain ⟨x, h1, h2, _⟩ := each i hi0
    exact ⟨x, h1, h2⟩
  · obtain ⟨x1, h1, h2, _⟩ := each i (lt hx)
    obtain rfl : x1 = x := Option.some.inj (h1.symm.trans hx)
    exact apart_of_types hrow h2.row b hb
  · obtain ⟨x1, h1, _, h3, h4⟩ := each i (lt hx)
    obtain rfl : x1 = x := Option.some.inj (h1.symm.trans hx)
    obtain ⟨x2, g1, _, g3, g4⟩ := each j (lt hx')
    obtain rfl : x2 = x' := Option.some.inj (g1.symm.trans hx')
    have li := lt hx
    have lj := lt hx'
    rw [List.length_append, List.length_singleton] at li lj
    intro hb'
    by_cases hi1 : i < xss.length
    · by_cases hj1 : j < xss.length
      · exact h.dist i j _ _ hij (h3 hi1).1 (g3 hj1).1 b hb hb'
      · obtain rfl := g4 (by omega)
        have := (h3 hi1).2 b hb
        have := (ho.row.lt b hb').1
        omega
    · by_cases hj1 : j < xss.length
      · obtain rfl := h4 (by omega)
        have := (g3 hj1).2 b hb'
        have := (ho.row.lt b hb).1
        omega
      · omega
def lens (xss : List (List Int)) : List Nat := xss.map List.length
theorem lens_length (xss : List (List Int)) : (lens xss).length = xss.length := by simp [lens]
theorem lens_get (xss : List (List Int)) (i : Nat) : (lens xss).getD i 0 = (xss.getD i []).length := by
  unfold lens
  simp only [List.getD_eq_getElem?_getD, List.getElem?_map]
  cases xss[i]? <;> rfl
/-- The first k are marked. -/
def mixS (k0 : Nat) (xss : List (List Int)) (k : Nat) : List (List Int) := (markS k0 (lens xss)).take k ++ xss.drop k
theorem mixS_length {k0 : Nat} {xss : List (List Int)} {k : Nat} (h : k ≤ xss.length) : (mixS k0 xss k).length = xss.length := by simp [mixS, markS_length, lens_length]; omega
theorem mixS_zero (k0 : Nat) (xss : List (List Int)) : mixS k0 xss 0 = xss := by simp [mixS]
theorem mixS_all (k0 : Nat) (xss : List (List Int)) : mixS k0 xss xss.length = markS k0 (lens xss) := by
  unfold mixS
  rw [List.drop_length, List.append_nil, List.take_of_length_le (by rw [markS_length, lens_length]; exact Nat.le_refl _)]
theorem mixS_get {k0 : Nat} {xss : List (List Int)} {k : Nat} (h : k < xss.length) : (mixS k0 xss k).getD k [] = xss.getD k [] := by
  have hl : ((markS k0 (lens xss)).take k).length = k := by rw [List.length_take, markS_length, lens_length]; omega
  unfold mixS
  simp only [List.getD_eq_getElem?_getD]
  rw [List.getElem?_append_right (by omega), hl, List.getElem?_drop, Nat.sub_self, Nat.add_zero]
theorem mixS_set {k0 : Nat} {xss : List (List Int)} {k : Nat} (h : k < xss.length) : (mixS k0 xss k).set k (markL .i8 (k0 + sumTo (lens xss) k) (xss.getD k []).length) = mixS k0 xss (k + 1) := by
  have hl : ((markS k0 (lens xss)).take k).length = k := by rw [List.length_take, markS_length, lens_length]; omega
  have hm : k < (markS k0 (lens xss)).length := by rw [markS_length, lens_length]; exact h
  have hg := markS_get (k0 := k0) (ls := lens xss) (i := k) (by rw [lens_length]; exact h)
  rw [lens_get, List.getD_eq_getElem?_getD, List.getElem?_eq_getElem hm, Option.getD_some] at hg
  unfold mixS
  rw [List.set_append_right _ _ (by omega), hl, Nat.sub_self, List.drop_eq_getElem_cons h, List.set_cons_zero, List.take_succ_eq_append_getElem hm, hg, List.append_assoc]
  rfl
end Go.Proofs.YtfaiehjomcgjgaaDoor

/- A slice of slices: one of them is made anew, and stored back. -/
namespace Go.Proofs.YtfaiehjomcgjgaaDoor
set_option linter.unusedVariables false
open Go.RowKit
theorem OwnS.renew {w w1 : World} {lo hi n cap g i : Nat} {vs : List Value} {xss : List (List Int)} {u u' : Value} {ys : List Int}
    (h : OwnS w lo hi (.slice (some ⟨g, 0, none⟩) n cap) vs xss) (hhi : hi ≤ w.heap.size) (hi0 : i < xss.length) (hu : vs[i]? = some u)
    (ho : w1.ownsRow lo 22 1 u' ys.length (ys.map (Value.int .i8))) (hg : w.grownBy w1 u.ownBlock)
    (hloc : u'.ownBlock = u.ownBlock ∨ ∃ b, u'.ownBlock = some b ∧ w.heap.size ≤ b) :
    OwnS (w1.setCell ⟨g, i, none⟩ u') lo w1.heap.size (.slice (some ⟨g, 0, none⟩) n cap) (vs.set i u') (xss.set i ys) ∧ w1.grownBy (w1.setCell ⟨g, i, none⟩ u') (some g) := by
  have hl := h.len
  subst hl
  have hrow1 : w1.ownsRow lo 59 1 (.slice (some ⟨g, 0, none⟩) xss.length cap) xss.length vs := h.row.kept hg (.inr (fun e => h.apart i u hu g e.symm rfl))
  have hst := hrow1.stored i u'
  have hvl : vs.length = xss.length := by have := h.row.1; omega
  have keep : ∀ {x : Value} {m : Nat} {zs : List Value} {l : Nat}, w1.ownsRow l 22 1 x m zs → (w1.setCell ⟨g, i, none⟩ u').ownsRow l 22 1 x m zs := by
    intro x m zs l hx
    refine hx.kept hst.2 ?_
    cases hb : x.ownBlock with
    | none => exact .inl rfl
    | some b => exact .inr (fun e => apart_of_types hrow1 hx b hb e.symm)
  have old : ∀ {j : Nat}, j < xss.length → j ≠ i → ∃ x, vs[j]? = some x ∧ w1.ownsRow lo 22 1 x (xss.getD j []).length ((xss.getD j []).map (Value.int .i8)) ∧ ∀ b, x.ownBlock = some b → b < hi := by
    intro j hj hji
    obtain ⟨x, hx, hox⟩ := h.each j hj
    refine ⟨x, hx, hox.row.kept hg ?_, hox.top⟩
    cases hb : x.ownBlock with
    | none => exact .inl rfl
    | some b => exact .inr (fun e => h.dist i j u x (Ne.symm hji) hu hx b e.symm hb)
  have hsz : (w1.setCell ⟨g, i, none⟩ u').heap.size = w1.heap.size := by simp
  have each : ∀ j, j < xss.length → ∃ x, (vs.set i u')[j]? = some x ∧ Own .i8 22 (w1.setCell ⟨g, i, none⟩ u') lo w1.heap.size x ((xss.set i ys).getD j []) ∧ (j ≠ i → vs[j]? = some x ∧ ∀ b, x.ownBlock = some b → b < hi) ∧ (j = i → x = u') := by
    intro j hj
    by_cases hji : j = i
    · subst hji
      refine ⟨u', by rw [List.getElem?_set_self (by omega)], ?_, fun e => absurd rfl e, fun _ => rfl⟩
      have e : (xss.set j ys).getD j [] = ys := by simp [List.getD, hj]
      rw [e]
      exact ⟨keep ho, fun b hb => (ho.lt b hb).2⟩
    · obtain ⟨x, hx, hox, ht⟩ := old hj hji
      refine ⟨x, by rw [List.getElem?_set_ne (Ne.symm hji)]; exact hx, ?_, fun _ => ⟨hx, ht⟩, fun e => absurd e hji⟩
      have e : (xss.set i ys).getD j [] = xss.getD j [] := by simp [List.getD, Ne.symm hji]
      rw [e]
      exact ⟨keep hox, fun b hb => (hox.lt b hb).2⟩
  have lt : ∀ {j : Nat} {x : Value}, (vs.set i u')[j]? = some x → j < xss.length := by
    intro j x hx
    have := (List.getElem?_eq_some_iff.1 hx).1
    rw [List.length_set] at this
    omega
  have hro : (w1.setCell ⟨g, i, none⟩ u').ownsRow lo 59 1 (.slice (some ⟨g, 0, none⟩) xss.length cap) xss.length (vs.set i u') := hst.1
  have far : ∀ b, u'.ownBlock = some b → ∀ (j : Nat) (x : Value), j ≠ i → vs[j]? = some x → (∀ b', x.ownBlock = some b' → b' < hi) → x.ownBlock ≠ some b := by
    intro b hb j x hji hx ht hxb
    rcases hloc with e | ⟨b', e, hb'⟩
    · rw [e] at hb
      exact h.dist i j u x (Ne.symm hji) hu hx b hb hxb
    · rw [e] at hb
      cases hb
      have := ht b hxb
      omega
  refine ⟨⟨by rw [List.length_set]; exact hro, fun b hb => hsz ▸ (hro.lt b hb).2, fun j hj => ?_, fun j x hx b hb => ?_, fun j k x y hjk hx hy b hb hyb => ?_⟩, hst.2⟩
  · rw [List.length_set] at hj
    obtain ⟨x, h1, h2, _⟩ := each j hj
    exact ⟨x, h1, h2⟩
  · obtain ⟨x1, h1, h2, _⟩ := each j (lt hx)
    obtain rfl : x1 = x := Option.some.inj (h1.symm.trans hx)
    exact apart_of_types hro h2.row b hb
  · obtain ⟨x1, h1, _, h3, h4⟩ := each j (lt hx)
    obtain rfl : x1 = x := Option.some.inj (h1.symm.trans hx)
    obtain ⟨y1, g1, _, g3, g4⟩ := each k (lt hy)
    obtain rfl : y1 = y := Option.some.inj (g1.symm.trans hy)
    by_cases hji : j = i
    · have hki : k ≠ i := fun e => hjk (hji.trans e.symm)
      have e1 := h4 hji
      rw [e1] at hb
      exact far b hb k _ hki (g3 hki).1 (g3 hki).2 hyb
    · by_cases hki : k = i
      · have e1 := g4 hki
        rw [e1] at hyb
        exact far b hyb j _ hji (h3 hji).1 (h3 hji).2 hb
      · exact h.dist j k _ _ hjk (h3 hji).1 (g3 hki).1 b hb hyb
end Go.Proofs.YtfaiehjomcgjgaaDoor

/- Rows of slices that share their places: a row lies in a block of its own, its places in blocks of numbers. -/
namespace Go.Proofs.YtfaiehjomcgjgaaDoor
set_option linter.unusedVariables false
open Go.RowKit
theorem infoMn : (Tryd.prog.info? 59).map (fun i => (i.zero, i.size, i.bytes)) = some (some (.slice none 0 0), 1, 24) := by kernel_rfl
structure RowQ (w : World) (lo : Nat) (v : Value) (vs : List Value) (xss : List (List Int)) : Prop where
  row : w.ownsRow lo 59 1 v xss.length vs
  each : ∀ i, i < xss.length → ∃ g c, vs[i]? = some (.slice (some ⟨g, 0, none⟩) (xss.getD i []).length c) ∧ w.ownsRow lo 22 1 (.slice (some ⟨g, 0, none⟩) (xss.getD i []).length c) (xss.getD i []).length ((xss.getD i []).map (Value.int .i8))
/-- Two rows lie in two blocks. -/
def Sep (v u : Value) : Prop := ∀ b, v.ownBlock = some b → u.ownBlock ≠ some b
theorem Sep.symm {v u : Value} (h : Sep v u) : Sep u v := fun b hu hv => h b hv hu
section
variable {w w' : World} {lo n cap : Nat} {v u : Value} {vs ys : List Value} {a : Option Addr} {xss : List (List Int)}
theorem ownsRow_gr {e : TypeId} {size n : Nat} {xs : List Value} (h : w.ownsRow lo e size v n xs) (g : Gr w w') : w'.ownsRow lo e size v n xs := by
  refine ⟨h.1, ?_⟩
  rcases h.2 with h1 | ⟨g', cap, cur, h1, h2, h3, r⟩
  · exact .inl h1
  · exact .inr ⟨g', cap, cur, h1, h2, g.heap h3, r⟩
theorem RowQ.gr (h : RowQ w lo v vs xss) (g : Gr w w') : RowQ w' lo v vs xss :=
  ⟨ownsRow_gr h.row g, fun i hi => by obtain ⟨g0, c, h1, h2⟩ := h.each i hi; exact ⟨g0, c, h1, ownsRow_gr h2 g⟩⟩
theorem RowQ.alloc_ (h : RowQ w lo v vs xss) (o : Obj) : RowQ (w.alloc o) lo v vs xss := h.gr ((Gr.refl w).alloc o)
theorem RowQ.vlen (h : RowQ w lo v vs xss) : vs.length = xss.length := by have := h.row.1; omega
/-- Another row has grown. -/
theorem RowQ.other {m : Nat} (h : RowQ w lo v vs xss) (hu : w.ownsRow lo 59 1 u m ys) (hs : Sep v u) (hg : w.grownBy w' u.ownBlock) : RowQ w' lo v vs xss := by
  refine ⟨h.row.kept hg ?_, fun i hi => ?_⟩
  · cases hb : v.ownBlock with
    | none => exact .inl rfl
    | some b => exact .inr (fun e => hs b hb e.symm)
  · obtain ⟨g0, c, h1, h2⟩ := h.each i hi
    refine ⟨g0, c, h1, h2.kept hg (.inr fun e => ?_)⟩
    exact apart_of_types hu h2 _ rfl e.symm
theorem RowQ.at_ (h : RowQ w lo (.slice a n cap) vs xss) {i : Nat} (hi : i < xss.length) :
    ∃ g g' c, a = some ⟨g, 0, none⟩ ∧ w.cell? ⟨g, i, none⟩ = some (.slice (some ⟨g', 0, none⟩) (xss.getD i []).length c) ∧ w.ownsRow lo 22 1 (.slice (some ⟨g', 0, none⟩) (xss.getD i []).length c) (xss.getD i []).length ((xss.getD i []).map (Value.int .i8)) := by
  obtain ⟨g', c, h1, h2⟩ := h.each i hi
  rcases h.row.2 with ⟨_, h3⟩ | ⟨g, cap', cur, h3, _⟩
  · omega
  · have h4 := h.row
    simp only [Value.slice.injEq] at h3
    obtain ⟨rfl, rfl, rfl⟩ := h3
    exact ⟨g, g', c, rfl, by rw [h4.cellAt i (by omega)]; exact h1, h2⟩
theorem RowQ.len (h : RowQ w lo (.slice a n cap) vs xss) : n = xss.length := by
  rcases h.row.2 with ⟨h1, h2⟩ | ⟨g', cap', cur, h1, _⟩
  · simp only [Value.slice.injEq] at h1; rw [h1.2.1, h2]
  · simp only [Value.slice.injEq] at h1; exact h1.2.1
theorem row_reads {g k c : Nat} {xs : List Int} (h : w.ownsRow lo 22 1 (.slice (some ⟨g, 0, none⟩) k c) k (xs.map (Value.int .i8))) (hk : k = xs.length) : SliceOf .i8 w (some ⟨g, 0, none⟩) xs := by
  intro i hi
  refine ⟨g, 0, rfl, ?_⟩
  rw [Nat.zero_add, h.cellAt i (by omega)]
  simp [List.getElem?_eq_getElem hi, List.getD]
theorem row_cap {g k c : Nat} {xs : List Value} {e : TypeId} (h : w.ownsRow lo e 1 (.slice (some ⟨g, 0, none⟩) k c) k xs) : k ≤ c := by
  rcases h.2 with ⟨h1, _⟩ | ⟨g', cap', cur, h1, _, _, h2, _⟩
  · simp at h1
  · simp only [Value.slice.injEq] at h1
    obtain ⟨_, _, rfl⟩ := h1
    exact h2
theorem RowQ.reads (h : RowQ w lo (.slice a n cap) vs xss) : SlicesOf .i8 w a xss := by
  intro i hi
  obtain ⟨g, g', c, rfl, hc, ho⟩ := h.at_ hi
  exact ⟨g, 0, some ⟨g', 0, none⟩, c, rfl, by rw [Nat.zero_add]; exact hc, row_reads ho rfl⟩
/-- One slice more is appended. -/
theorem RowQ.snoc {v' : Value} {g c : Nat} {xs : List Int} (h : RowQ w lo v vs xss) (ho : w.ownsRow lo 22 1 (.slice (some ⟨g, 0, none⟩) xs.length c) xs.length (xs.map (Value.int .i8)))
    (hrow : w'.ownsRow lo 59 1 v' (xss.length + 1) (vs ++ [.slice (some ⟨g, 0, none⟩) xs.length c])) (hg : w.grownBy w' v.ownBlock) : RowQ w' lo v' (vs ++ [.slice (some ⟨g, 0, none⟩) xs.length c]) (xss ++ [xs]) := by
  have hvl := h.vlen
  have keep : ∀ {x : Value} {n : Nat} {zs : List Value}, w.ownsRow lo 22 1 x n zs → w'.ownsRow lo 22 1 x n zs := by
    intro x n zs hx
    refine hx.kept hg ?_
    cases hb : x.ownBlock with
    | none => exact .inl rfl
    | some b => exact .inr (fun e => apart_of_types h.row hx b hb e.symm)
  refine ⟨by rw [List.length_append, List.length_singleton]; exact hrow, fun i hi => ?_⟩
  rw [List.length_append, List.length_singleton] at hi
  by_cases hlt : i < xss.length
  · obtain ⟨g0, c0, h1, h2⟩ := h.each i hlt
    have e : (xss ++ [xs]).getD i [] = xss.getD i [] := by simp only [List.getD_eq_getElem?_getD]; rw [List.getElem?_append_left hlt]
    rw [e]
    exact ⟨g0, c0, by rw [List.getElem?_append_left (by omega)]; exact h1, keep h2⟩
  · have hil : i = xss.length := by omega
    subst hil
    have e : (xss ++ [xs]).getD xss.length [] = xs := by simp only [List.getD_eq_getElem?_getD]; rw [List.getElem?_append_right (by omega), Nat.sub_self]; rfl
    rw [e]
    exact ⟨g, c, by rw [List.getElem?_append_right (by omega), hvl, Nat.sub_self]; rfl, keep ho⟩
/-- Where a row lies behind an append. -/
theorem Sep.grown {g c k H : Nat} (h : Sep v u) (hg : v.ownBlock = some g ∨ g = H) (hu : ∀ b, u.ownBlock = some b → b < H) : Sep (.slice (some ⟨g, 0, none⟩) k c) u := by
  intro b hb e
  simp only [Value.ownBlock, Option.some.injEq] at hb
  subst hb
  rcases hg with hg | hg
  · exact h _ hg e
  · have := hu _ e; omega
theorem Sep.new {H k c : Nat} (hu : ∀ b, u.ownBlock = some b → b < H) : Sep (.slice (some ⟨H, 0, none⟩) k c) u := fun b hb e => by
  simp only [Value.ownBlock, Option.some.injEq] at hb
  have := hu _ e; omega
theorem RowQ.empty (hl : lo ≤ w.heap.size) : RowQ (w.alloc (.cells #[] 59)) lo (.slice (some ⟨w.heap.size, 0, none⟩) 0 0) [] [] :=
  ⟨World.ownsRow_lit (base := lo) (e := 59) (size := 1) w #[] 0 hl (by unfold maxLen; omega) (by simp), fun i hi => by simp at hi⟩
/-- One slice of nothing. -/
theorem RowQ.one (hl : lo ≤ w.heap.size) : RowQ ((w.alloc (.cells #[] 22)).alloc (.cells #[.slice (some ⟨w.heap.size, 0, none⟩) 0 0] 59)) lo (.slice (some ⟨w.heap.size + 1, 0, none⟩) 1 1) [.slice (some ⟨w.heap.size, 0, none⟩) 0 0] [[]] := by
  have h1 := World.ownsRow_lit (base := lo) (e := 22) (size := 1) w #[] 0 hl (by unfold maxLen; omega) (by simp)
  have h3 := World.ownsRow_lit (base := lo) (e := 59) (size := 1) (w.alloc (.cells #[] 22)) #[.slice (some ⟨w.heap.size, 0, none⟩) 0 0] 1 (by simp; omega) (by unfold maxLen; omega) (by simp)
  simp only [World.size_alloc] at h3
  refine ⟨h3, fun i hi => ?_⟩
  simp at hi
  subst hi
  exact ⟨w.heap.size, 0, rfl, h1.alloc _⟩
theorem RowQ.form {xss : List (List Int)} (h : RowQ w lo v vs xss) (h1 : v ≠ .slice none 0 0) : ∃ g c, v = .slice (some ⟨g, 0, none⟩) xss.length c ∧ lo ≤ g ∧ g < w.heap.size := by
  rcases h.row.2 with ⟨h2, _⟩ | ⟨g', cap', cur, h2, h3, h4, _⟩
  · exact absurd h2 h1
  · exact ⟨g', cap', h2, h3, lt_of_heap h4⟩
end
end Go.Proofs.YtfaiehjomcgjgaaDoor
