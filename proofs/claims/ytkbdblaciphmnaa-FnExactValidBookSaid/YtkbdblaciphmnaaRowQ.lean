/- Rows of slices that share their places: a row lies in a block of its own, its places in blocks of numbers. -/
import Derived.Test.YtkbdblaciphmnaaOwnS
import Derived.Test.YtkbdblaciphmnaaHoistR
import Derived.Deep.AppendLies
import Derived.Deep.RegionLaw
namespace Go.Proofs.Ytkbdblaciphmnaa
set_option linter.unusedVariables false
open Go.RowKit
theorem infoMn : (Try.prog.info? 38).map (fun i => (i.zero, i.size, i.bytes)) = some (some (.slice none 0 0), 1, 24) := by kernel_rfl
structure RowQ (w : World) (lo : Nat) (v : Value) (vs : List Value) (xss : List (List Int)) : Prop where
  row : w.ownsRow lo 38 1 v xss.length vs
  each : ∀ i, i < xss.length → ∃ g c, vs[i]? = some (.slice (some ⟨g, 0, none⟩) (xss.getD i []).length c) ∧ w.ownsRow lo 22 1 (.slice (some ⟨g, 0, none⟩) (xss.getD i []).length c) (xss.getD i []).length ((xss.getD i []).map (Value.int .i8))
/-- Two rows lie in two blocks. -/
def Sep (v u : Value) : Prop := ∀ b, v.ownBlock = some b → u.ownBlock ≠ some b
theorem Sep.symm {v u : Value} (h : Sep v u) : Sep u v := fun b hu hv => h b hv hu
section
variable {w w' : World} {lo n cap : Nat} {v u : Value} {vs ys : List Value} {a : Option Addr} {xss : List (List Int)}
theorem ownsRow_gr {e : TypeId} {size n : Nat} {xs : List Value} (h : w.ownsRow lo e size v n xs) (g : Gr w w') : w'.ownsRow lo e size v n xs := by
  refine ⟨h.1, ?_⟩
  rcases h.2 with h1 | ⟨g', cap, cur, h1, h2, h3, r⟩
  · exact .inl h1
  · exact .inr ⟨g', cap, cur, h1, h2, g.heap h3, r⟩
theorem RowQ.gr (h : RowQ w lo v vs xss) (g : Gr w w') : RowQ w' lo v vs xss :=
  ⟨ownsRow_gr h.row g, fun i hi => by obtain ⟨g0, c, h1, h2⟩ := h.each i hi; exact ⟨g0, c, h1, ownsRow_gr h2 g⟩⟩
theorem RowQ.alloc_ (h : RowQ w lo v vs xss) (o : Obj) : RowQ (w.alloc o) lo v vs xss := h.gr ((Gr.refl w).alloc o)
theorem RowQ.vlen (h : RowQ w lo v vs xss) : vs.length = xss.length := by have := h.row.1; omega
/-- Another row has grown. -/
theorem RowQ.other {m : Nat} (h : RowQ w lo v vs xss) (hu : w.ownsRow lo 38 1 u m ys) (hs : Sep v u) (hg : w.grownBy w' u.ownBlock) : RowQ w' lo v vs xss := by
  refine ⟨h.row.kept hg ?_, fun i hi => ?_⟩
  · cases hb : v.ownBlock with
    | none => exact .inl rfl
    | some b => exact .inr (fun e => hs b hb e.symm)
  · obtain ⟨g0, c, h1, h2⟩ := h.each i hi
    refine ⟨g0, c, h1, h2.kept hg (.inr fun e => ?_)⟩
    exact apart_of_types hu h2 _ rfl e.symm
theorem RowQ.at_ (h : RowQ w lo (.slice a n cap) vs xss) {i : Nat} (hi : i < xss.length) :
    ∃ g g' c, a = some ⟨g, 0, none⟩ ∧ w.cell? ⟨g, i, none⟩ = some (.slice (some ⟨g', 0, none⟩) (xss.getD i []).length c) ∧ w.ownsRow lo 22 1 (.slice (some ⟨g', 0, none⟩) (xss.getD i []).length c) (xss.getD i []).length ((xss.getD i []).map (Value.int .i8)) := by
  obtain ⟨g', c, h1, h2⟩ := h.each i hi
  rcases h.row.2 with ⟨_, h3⟩ | ⟨g, cap', cur, h3, _⟩
  · omega
  · have h4 := h.row
    simp only [Value.slice.injEq] at h3
    obtain ⟨rfl, rfl, rfl⟩ := h3
    exact ⟨g, g', c, rfl, by rw [h4.cellAt i (by omega)]; exact h1, h2⟩
theorem RowQ.len (h : RowQ w lo (.slice a n cap) vs xss) : n = xss.length := by
  rcases h.row.2 with ⟨h1, h2⟩ | ⟨g', cap', cur, h1, _⟩
  · simp only [Value.slice.injEq] at h1; rw [h1.2.1, h2]
  · simp only [Value.slice.injEq] at h1; exact h1.2.1
theorem row_reads {g k c : Nat} {xs : List Int} (h : w.ownsRow lo 22 1 (.slice (some ⟨g, 0, none⟩) k c) k (xs.map (Value.int .i8))) (hk : k = xs.length) : SliceOf .i8 w (some ⟨g, 0, none⟩) xs := by
  intro i hi
  refine ⟨g, 0, rfl, ?_⟩
  rw [Nat.zero_add, h.cellAt i (by omega)]
  simp [List.getElem?_eq_getElem hi, List.getD]
theorem row_cap {g k c : Nat} {xs : List Value} {e : TypeId} (h : w.ownsRow lo e 1 (.slice (some ⟨g, 0, none⟩) k c) k xs) : k ≤ c := by
  rcases h.2 with ⟨h1, _⟩ | ⟨g', cap', cur, h1, _, _, h2, _⟩
  · simp at h1
  · simp only [Value.slice.injEq] at h1
    obtain ⟨_, _, rfl⟩ := h1
    exact h2
theorem RowQ.reads (h : RowQ w lo (.slice a n cap) vs xss) : SlicesOf .i8 w a xss := by
  intro i hi
  obtain ⟨g, g', c, rfl, hc, ho⟩ := h.at_ hi
  exact ⟨g, 0, some ⟨g', 0, none⟩, c, rfl, by rw [Nat.zero_add]; exact hc, row_reads ho rfl⟩
/-- One slice more is appended. -/
theorem RowQ.snoc {v' : Value} {g c : Nat} {xs : List Int} (h : RowQ w lo v vs xss) (ho : w.ownsRow lo 22 1 (.slice (some ⟨g, 0, none⟩) xs.length c) xs.length (xs.map (Value.int .i8)))
    (hrow : w'.ownsRow lo 38 1 v' (xss.length + 1) (vs ++ [.slice (some ⟨g, 0, none⟩) xs.length c])) (hg : w.grownBy w' v.ownBlock) : RowQ w' lo v' (vs ++ [.slice (some ⟨g, 0, none⟩) xs.length c]) (xss ++ [xs]) := by
  have hvl := h.vlen
  have keep : ∀ {x : Value} {n : Nat} {zs : List Value}, w.ownsRow lo 22 1 x n zs → w'.ownsRow lo 22 1 x n zs := by
    intro x n zs hx
    refine hx.kept hg ?_
    cases hb : x.ownBlock with
    | none => exact .inl rfl
    | some b => exact .inr (fun e => apart_of_types h.row hx b hb e.symm)
  refine ⟨by rw [List.length_append, List.length_singleton]; exact hrow, fun i hi => ?_⟩
  rw [List.length_append, List.length_singleton] at hi
  by_cases hlt : i < xss.length
  · obtain ⟨g0, c0, h1, h2⟩ := h.each i hlt
    have e : (xss ++ [xs]).getD i [] = xss.getD i [] := by simp only [List.getD_eq_getElem?_getD]; rw [List.getElem?_append_left hlt]
    rw [e]
    exact ⟨g0, c0, by rw [List.getElem?_append_left (by omega)]; exact h1, keep h2⟩
  · have hil : i = xss.length := by omega
    subst hil
    have e : (xss ++ [xs]).getD xss.length [] = xs := by simp only [List.getD_eq_getElem?_getD]; rw [List.getElem?_append_right (by omega), Nat.sub_self]; rfl
    rw [e]
    exact ⟨g, c, by rw [List.getElem?_append_right (by omega), hvl, Nat.sub_self]; rfl, keep ho⟩
/-- Where a row lies behind an append. -/
theorem Sep.grown {g c k H : Nat} (h : Sep v u) (hg : v.ownBlock = some g ∨ g = H) (hu : ∀ b, u.ownBlock = some b → b < H) : Sep (.slice (some ⟨g, 0, none⟩) k c) u := by
  intro b hb e
  simp only [Value.ownBlock, Option.some.injEq] at hb
  subst hb
  rcases hg with hg | hg
  · exact h _ hg e
  · have := hu _ e; omega
theorem Sep.new {H k c : Nat} (hu : ∀ b, u.ownBlock = some b → b < H) : Sep (.slice (some ⟨H, 0, none⟩) k c) u := fun b hb e => by
  simp only [Value.ownBlock, Option.some.injEq] at hb
  have := hu _ e; omega
theorem RowQ.empty (hl : lo ≤ w.heap.size) : RowQ (w.alloc (.cells #[] 38)) lo (.slice (some ⟨w.heap.size, 0, none⟩) 0 0) [] [] :=
  ⟨World.ownsRow_lit (base := lo) (e := 38) (size := 1) w #[] 0 hl (by unfold maxLen; omega) (by simp), fun i hi => by simp at hi⟩
/-- One slice of nothing. -/
theorem RowQ.one (hl : lo ≤ w.heap.size) : RowQ ((w.alloc (.cells #[] 22)).alloc (.cells #[.slice (some ⟨w.heap.size, 0, none⟩) 0 0] 38)) lo (.slice (some ⟨w.heap.size + 1, 0, none⟩) 1 1) [.slice (some ⟨w.heap.size, 0, none⟩) 0 0] [[]] := by
  have h1 := World.ownsRow_lit (base := lo) (e := 22) (size := 1) w #[] 0 hl (by unfold maxLen; omega) (by simp)
  have h3 := World.ownsRow_lit (base := lo) (e := 38) (size := 1) (w.alloc (.cells #[] 22)) #[.slice (some ⟨w.heap.size, 0, none⟩) 0 0] 1 (by simp; omega) (by unfold maxLen; omega) (by simp)
  simp only [World.size_alloc] at h3
  refine ⟨h3, fun i hi => ?_⟩
  simp at hi
  subst hi
  exact ⟨w.heap.size, 0, rfl, h1.alloc _⟩
theorem RowQ.form {xss : List (List Int)} (h : RowQ w lo v vs xss) (h1 : v ≠ .slice none 0 0) : ∃ g c, v = .slice (some ⟨g, 0, none⟩) xss.length c ∧ lo ≤ g ∧ g < w.heap.size := by
  rcases h.row.2 with ⟨h2, _⟩ | ⟨g', cap', cur, h2, h3, h4, _⟩
  · exact absurd h2 h1
  · exact ⟨g', cap', h2, h3, lt_of_heap h4⟩
end
end Go.Proofs.Ytkbdblaciphmnaa
