/- Entries that are left out: plain lists; rows that are written over, cut and cleared. -/
import Derived.Test.YtlgfibiggiknjaaDoorClone
import Derived.Test.YtlgfibiggiknjaaDoorStrX
import Derived.Lib.SliceRun
namespace Go.Proofs.YtlgfibiggiknjaaDoor
set_option linter.unusedVariables false
open Go.RowKit
/-- Some places of a list, from o on, are written over. -/
def putsL : List Value → Nat → List Value → List Value
  | cs, _, [] => cs
  | cs, o, v :: vs => putsL (cs.set o v) (o + 1) vs
theorem putsL_length : ∀ (vs cs : List Value) (o : Nat), (putsL cs o vs).length = cs.length
  | [], _, _ => rfl
  | v :: vs, cs, o => by show (putsL (cs.set o v) (o + 1) vs).length = _; rw [putsL_length vs, List.length_set]
theorem putsL_take : ∀ (vs cs : List Value) (o : Nat), (putsL cs o vs).take o = cs.take o
  | [], _, _ => rfl
  | v :: vs, cs, o => by
    show (putsL (cs.set o v) (o + 1) vs).take o = _
    have h := congrArg (List.take o) (putsL_take vs (cs.set o v) (o + 1))
    rw [List.take_take, List.take_take, Nat.min_eq_left (by omega)] at h
    rw [h, List.take_set_of_le (Nat.le_refl _)]
section
variable {e : TypeId} {sz : Nat} {w : World} {lo hi m n cap : Nat} {cs : List Value}
theorem OwnV.puts {g : Nat} : ∀ (vs : List Value) (o : Nat) (w : World) (cs : List Value), OwnV e sz w lo hi (.slice (some ⟨g, 0, none⟩) m cap) n cs →
    OwnV e sz (w.setCells g o vs) lo hi (.slice (some ⟨g, 0, none⟩) m cap) n (putsL cs o vs) ∧ w.grownBy (w.setCells g o vs) (some g)
  | [], _, w, cs, h => ⟨h, ⟨rfl, rfl, rfl, Nat.le_refl _, fun _ _ _ => rfl⟩⟩
  | v :: vs, o, w, cs, h => by
    have h1 := h.put o v
    have h2 := OwnV.puts vs (o + 1) _ _ h1.1
    exact ⟨h2.1, h1.2.trans h2.2⟩
theorem OwnV.there_ {g : Nat} (h : OwnV e sz w lo hi (.slice (some ⟨g, 0, none⟩) m cap) n cs) (o k : Nat) (hk : o + k ≤ cs.length) : w.there g o k := by
  intro j hj
  obtain ⟨g', e1, _, hc, hf⟩ := h.at_ (List.getElem?_eq_getElem (i := o + j) (by omega))
  cases e1
  exact ⟨by rw [hc]; rfl, hf⟩
theorem OwnV.cut {a : Option Addr} (h : OwnV e sz w lo hi (.slice a n cap) n cs) {i : Nat} (hi' : i ≤ n) : OwnV e sz w lo hi (.slice a i cap) i (cs.take (i * sz)) := by
  have hm : i * sz ≤ n * sz := Nat.mul_le_mul_right _ hi'
  refine ⟨⟨by rw [List.length_take, h.row.1]; omega, ?_⟩, fun b hb => h.top b (by cases a <;> exact hb)⟩
  rcases h.row.2 with ⟨h1, h2⟩ | ⟨g', cap', cur, h1, h2, h3, h4, h5, h6, h7⟩
  · simp only [Value.slice.injEq] at h1
    exact .inl ⟨by rw [h1.1, h1.2.2]; congr 1; omega, by omega⟩
  · simp only [Value.slice.injEq] at h1
    obtain ⟨rfl, _, rfl⟩ := h1
    exact .inr ⟨g', _, cur, rfl, h2, h3, by omega, h5, h6, by rw [← h7, List.take_take, Nat.min_eq_left hm]⟩
theorem OwnV.caps {a : Option Addr} (h : OwnV e sz w lo hi (.slice a n cap) n cs) : n ≤ cap ∧ cap ≤ maxLen := by
  rcases h.row.2 with ⟨h1, h2⟩ | ⟨g', cap', cur, h1, h2, h3, h4, h5, h6, h7⟩
  · simp only [Value.slice.injEq] at h1
    exact ⟨by omega, by rw [h1.2.2]; exact Nat.zero_le _⟩
  · simp only [Value.slice.injEq] at h1
    obtain ⟨_, _, rfl⟩ := h1
    exact ⟨h4, h5⟩
end
theorem enCells_put : ∀ (ds : List En) (i : Nat) (x : En), i < ds.length → putsL (enCells ds) (i * 3) x.cells = enCells (ds.set i x)
  | [], i, x, h => by simp at h
  | e :: r, 0, x, h => by simp [enCells, En.cells, putsL]
  | e :: r, i + 1, x, h => by
    have key : ∀ (us pre cs : List Value) (o : Nat), putsL (pre ++ cs) (pre.length + o) us = pre ++ putsL cs o us := by
      intro us
      induction us with
      | nil => intro pre cs o; rfl
      | cons u us ih =>
        intro pre cs o
        show putsL ((pre ++ cs).set (pre.length + o) u) (pre.length + o + 1) us = pre ++ putsL (cs.set o u) (o + 1) us
        rw [List.set_append_right _ _ (by omega), Nat.add_sub_cancel_left, Nat.add_assoc, ih]
    have e1 : (i + 1) * 3 = e.cells.length + i * 3 := by simp [En.cells]; omega
    rw [e1]
    simp only [enCells, List.set_cons_succ]
    rw [key, enCells_put r i x (by simpa using h)]
theorem enCells_take : ∀ (ds : List En) (i : Nat), i ≤ ds.length → (enCells ds).take (i * 3) = enCells (ds.take i)
  | _, 0, _ => by simp [enCells]
  | [], i + 1, h => by simp at h
  | e :: r, i + 1, h => by
    have e1 : (i + 1) * 3 = e.cells.length + i * 3 := by simp [En.cells]; omega
    rw [e1]
    simp only [enCells, List.take_succ_cons]
    rw [List.take_length_add_append, enCells_take r i (by simpa using h)]
/-- The entries that haul down. -/
def dnL (es : List En) : List En := es.filter (·.d)
/-- How far the leaving out is: the first i are those of the first j that stay, and from j on nothing is touched. -/
structure DelR (es ds : List En) (j i : Nat) : Prop where
  len : ds.length = es.length
  lt : i < j
  le : j ≤ es.length
  pre : ds.take i = dnL (es.take j)
  post : ds.drop j = es.drop j
theorem take_snoc {es : List En} {j : Nat} (h : j < es.length) : es.take (j + 1) = es.take j ++ [enAt es j] := by
  rw [List.take_add_one, List.getElem?_eq_getElem h]
  simp [enAt, List.getD, h]
theorem dnL_none {es : List En} : ∀ k, k ≤ es.length → (∀ i, i < k → (enAt es i).d = true) → dnL (es.take k) = es.take k
  | 0, _, _ => by simp [dnL]
  | k + 1, hk, h => by
    have ih := dnL_none (es := es) k (by omega) (fun i hi => h i (by omega))
    unfold dnL at ih ⊢
    rw [take_snoc (by omega), List.filter_append, ih]
    simp [h k (by omega)]
theorem DelR.start {es : List En} {k : Nat} (hk : k < es.length) (h : ∀ i, i < k → (enAt es i).d = true) (hn : (enAt es k).d = false) : DelR es es (k + 1) k := by
  refine ⟨rfl, by omega, hk, ?_, rfl⟩
  have ih := dnL_none k (by omega) h
  unfold dnL at ih ⊢
  rw [take_snoc hk, List.filter_append, ih]
  simp [hn]
theorem DelR.skip {es ds : List En} {j i : Nat} (h : DelR es ds j i) (hj : j < es.length) (hn : (enAt es j).d = false) : DelR es ds (j + 1) i := by
  refine ⟨h.len, by have := h.lt; omega, hj, ?_, ?_⟩
  · have := h.pre
    unfold dnL at this ⊢
    rw [this, take_snoc hj, List.filter_append]
    simp [hn]
  · rw [← List.drop_drop, ← List.drop_drop, h.post]
theorem DelR.keep {es ds : List En} {j i : Nat} (h : DelR es ds j i) (hj : j < es.length) (hn : (enAt es j).d = true) : DelR es (ds.set i (enAt es j)) (j + 1) (i + 1) := by
  have hl := h.lt
  have hlen := h.len
  refine ⟨by rw [List.length_set]; exact h.len, by omega, hj, ?_, ?_⟩
  · have h1 := h.pre
    unfold dnL at h1 ⊢
    rw [List.take_add_one, List.getElem?_set_self (by omega), List.take_set_of_le (Nat.le_refl _), h1, take_snoc hj, List.filter_append]
    simp [hn]
  · rw [List.drop_set_of_lt (by omega), ← List.drop_drop, ← List.drop_drop, h.post]
theorem DelR.at_ {es ds : List En} {j i : Nat} (h : DelR es ds j i) : enAt ds j = enAt es j := by
  have e := congrArg (fun l => l[0]?) h.post
  simp only [List.getElem?_drop, Nat.add_zero] at e
  unfold enAt
  simp only [List.getD, e]
theorem DelR.done {es ds : List En} {i : Nat} (h : DelR es ds es.length i) : ds.take i = dnL es := by
  have := h.pre
  rwa [List.take_length] at this
theorem DelR.done_len {es ds : List En} {i : Nat} (h : DelR es ds es.length i) : (dnL es).length = i := by
  rw [← h.done, List.length_take]
  have := h.lt
  have := h.len
  omega
theorem clear_any {P : Program} {t e ty : TypeId} {z : Value} (ht : P.underlying t = some (.slice e)) (hv : ∀ w, (zeroValue e).run P w = .ok z w) (b o n c : Nat) (w : World) (hn : 0 < n)
    (h1 : ∀ v ∈ (Builtin.zeroCells z.cells n).toList, v.oneCell' = true) (hth : w.there b o (Builtin.zeroCells z.cells n).toList.length) :
    (Builtin.clear_ #[t] ty #[.slice (some ⟨b, o, none⟩) n c]).run P w = .ok (.tuple #[]) (w.setCells b o (Builtin.zeroCells z.cells n).toList) := by
  have hst := run_storeCells_cells (P := P) b o (Builtin.zeroCells z.cells n).toList 0 w (fun j hj => (hth j hj).1) (fun j hj => (hth j hj).2) h1
  simp only [Nat.add_zero] at hst
  obtain ⟨m, rfl⟩ : ∃ m, n = m + 1 := ⟨n - 1, by omega⟩
  simp [Builtin.clear_, run_underlying ht, hv, hst]
def zE : Value := .agg #[.int .i64 0, .int .i64 0, .bool false]
theorem zE_len (n : Nat) : (Builtin.zeroCells zE.cells n).toList.length = n * 3 := by simp [Builtin.zeroCells, zE, Value.cells]
theorem zE_one (n : Nat) : ∀ v ∈ (Builtin.zeroCells zE.cells n).toList, v.oneCell' = true := by
  intro v hv
  simp only [Builtin.zeroCells, zE, Value.cells, Array.toList_map, List.mem_map] at hv
  obtain ⟨i, _, rfl⟩ := hv
  have h3 : i % 3 = 0 ∨ i % 3 = 1 ∨ i % 3 = 2 := by omega
  show ((#[Value.int .i64 0, .int .i64 0, .bool false] : Array Value)[i % 3]!).oneCell' = true
  rcases h3 with h | h | h <;> rw [h] <;> rfl
end Go.Proofs.YtlgfibiggiknjaaDoor
