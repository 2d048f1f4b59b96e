/- Slices of the call's own; worlds in which nothing old has turned. -/
import Derived.Test.YtnkoakneffjkbaaDoorInts
import Derived.Laws.OwnMore
import Derived.Below
import Derived.Maps.AppendAt
namespace Go.Proofs.YtnkoakneffjkbaaDoor
set_option linter.unusedVariables false
open Go.RowKit

/-- Nothing that was there has turned. -/
def Gr (W w : World) : Prop := Below W.heap.size W w
theorem Gr.size {W w : World} (h : Gr W w) : W.heap.size ≤ w.heap.size := Below.size h
theorem Gr.refl (W : World) : Gr W W := Below.refl _ _
theorem Gr.trans {A B C : World} (h : Gr A B) (g : Gr B C) : Gr A C := Below.trans h (Below.mono g h.size)
theorem Gr.alloc {W w : World} (h : Gr W w) (o : Obj) : Gr W (w.alloc o) := Below.alloc h (Below.size h) o
theorem Gr.setCell {W w : World} (h : Gr W w) {p : Addr} (hp : W.heap.size ≤ p.block) (u : Value) : Gr W (w.setCell p u) := Below.setCell h hp u
theorem Gr.drew {W w : World} (h : Gr W w) : Gr W w.drew := Below.drew h
theorem Gr.drewN {W w : World} (h : Gr W w) (n : Nat) : Gr W (w.drewN n) := ⟨h.1, h.2, h.3, h.4, h.5⟩
theorem Gr.by_ {W w w' : World} {row : Option Nat} (h : Gr W w) (hg : w.grownBy w' row) (hr : ∀ k, row = some k → W.heap.size ≤ k) : Gr W w' := Below.grown h hg h.size hr
theorem Gr.setRow {W w : World} (h : Gr W w) {g : Nat} (hg : W.heap.size ≤ g) (cs : Array Value) : Gr W (w.setRow g cs) :=
  h.by_ (row := some g) ⟨rfl, rfl, rfl, by rw [size_setRow]; exact Nat.le_refl _, fun k _ hk => setRow_other w g k cs (fun e => hk (by rw [e]))⟩ (fun k e => by cases e; exact hg)
theorem Gr.heap {W w : World} (h : Gr W w) {i : Nat} {x : Obj} (hx : W.heap[i]? = some x) : w.heap[i]? = some x := by rw [Below.block h i (lt_of_heap hx)]; exact hx
theorem Gr.cell {W w : World} (h : Gr W w) {a : Addr} {v : Value} (hc : W.cell? a = some v) : w.cell? a = some v :=
  (World.cell?_of_block (w := W) (Below.block h a.block (World.block_lt_of_cell? W a hc))).trans hc
theorem Gr.of {W w : World} (h : Grown W w) : Gr W w := h.below
theorem SliceOf.gr {k : IntKind} {W w : World} {a : Option Addr} {xs : List Int} (h : SliceOf k W a xs) (hg : Gr W w) : SliceOf k w a xs := by
  intro i hi
  obtain ⟨b, off, e, hc⟩ := h i hi
  exact ⟨b, off, e, hg.cell hc⟩
theorem SliceOf.drewN {k : IntKind} {W : World} {a : Option Addr} {xs : List Int} (h : SliceOf k W a xs) (n : Nat) : SliceOf k (W.drewN n) a xs := h.gr ((Gr.refl W).drewN n)

/-- A slice whose row lies in a block from lo on, below hi, and holds xs. -/
structure Own (k : IntKind) (e : TypeId) (w : World) (lo hi : Nat) (v : Value) (xs : List Int) : Prop where
  row : w.ownsRow lo e 1 v xs.length (xs.map (Value.int k))
  top : ∀ b, v.ownBlock = some b → b < hi
section
variable {k : IntKind} {e : TypeId} {W w w' : World} {lo hi n cap : Nat} {v : Value} {a : Option Addr} {xs : List Int}
theorem Own.by_ {row : Option Nat} (h : Own k e w lo hi v xs) (hg : w.grownBy w' row) (hne : ∀ b, row = some b → b < lo ∨ hi ≤ b) : Own k e w' lo hi v xs := by
  refine ⟨h.row.kept hg ?_, h.top⟩
  cases hv : v.ownBlock with
  | none => exact .inl rfl
  | some b =>
    right
    intro hr
    have h1 := (h.row.lt b hv).1
    have h2 := h.top b hv
    have h3 := hne b hr.symm
    omega
theorem Own.gr (h : Own k e W lo hi v xs) (g : Gr W w) : Own k e w lo hi v xs := by
  refine ⟨⟨h.row.1, ?_⟩, h.top⟩
  rcases h.row.2 with h1 | ⟨g', cap, cur, h1, h2, h3, r⟩
  · exact .inl h1
  · exact .inr ⟨g', cap, cur, h1, h2, g.heap h3, r⟩
theorem Own.widen {lo' hi' : Nat} (h : Own k e w lo hi v xs) (hl : lo' ≤ lo) (hh : hi ≤ hi') : Own k e w lo' hi' v xs := by
  refine ⟨⟨h.row.1, ?_⟩, fun b hb => Nat.lt_of_lt_of_le (h.top b hb) hh⟩
  rcases h.row.2 with h1 | ⟨g', cap, cur, h1, h2, r⟩
  · exact .inl h1
  · exact .inr ⟨g', cap, cur, h1, Nat.le_trans hl h2, r⟩
theorem Own.shape (h : Own k e w lo hi v xs) : ∃ a cap, v = .slice a xs.length cap := by
  rcases h.row.2 with ⟨h1, h2⟩ | ⟨g', cap, cur, h1, _⟩
  · exact ⟨none, 0, by rw [h1, h2]⟩
  · exact ⟨_, _, h1⟩
theorem Own.len (h : Own k e w lo hi (.slice a n cap) xs) : n = xs.length := by
  obtain ⟨a', c', h1⟩ := h.shape
  simp only [Value.slice.injEq] at h1
  exact h1.2.1
theorem Own.at_ (h : Own k e w lo hi (.slice a n cap) xs) {i : Nat} (hi' : i < xs.length) :
    ∃ g, a = some ⟨g, 0, none⟩ ∧ (lo ≤ g ∧ g < hi) ∧ w.cell? ⟨g, i, none⟩ = some (.int k (xs.getD i 0)) ∧ w.frozen? ⟨g, i, none⟩ = false := by
  have hl := h.len
  subst hl
  rcases h.row.2 with ⟨h1, h2⟩ | ⟨g', cap', cur, h1, h2, _⟩
  · omega
  · simp only [Value.slice.injEq] at h1
    obtain ⟨rfl, _, rfl⟩ := h1
    refine ⟨g', rfl, ⟨h2, h.top g' rfl⟩, ?_, h.row.frozenAt i⟩
    rw [h.row.cellAt i (by omega)]
    simp [List.getElem?_eq_getElem hi', List.getD]
theorem Own.reads (h : Own k e w lo hi (.slice a n cap) xs) : SliceOf k w a xs := by
  intro i hi'
  obtain ⟨g, rfl, _, hc, _⟩ := h.at_ hi'
  exact ⟨g, 0, rfl, by rw [Nat.zero_add]; exact hc⟩
theorem Own.put {g : Nat} (h : Own k e w lo hi (.slice (some ⟨g, 0, none⟩) n cap) xs) (i : Nat) (x : Int) :
    Own k e (w.setCell ⟨g, i, none⟩ (.int k x)) lo hi (.slice (some ⟨g, 0, none⟩) n cap) (xs.set i x) ∧ w.grownBy (w.setCell ⟨g, i, none⟩ (.int k x)) (some g) := by
  have hl := h.len
  subst hl
  have h1 := h.row.stored i (.int k x)
  refine ⟨⟨?_, h.top⟩, h1.2⟩
  rw [List.length_set, List.map_set]
  exact h1.1
theorem Own.new (w : World) (xs : List Int) (hm : xs.length ≤ maxLen) : Own k e (w.alloc (.cells (kCells k xs) e)) w.heap.size (w.heap.size + 1) (.slice (some ⟨w.heap.size, 0, none⟩) xs.length xs.length) xs := by
  refine ⟨?_, fun b hb => ?_⟩
  · have := World.ownsRow_lit (e := e) (size := 1) w (kCells k xs) xs.length (Nat.le_refl _) hm (by rw [kCells_size, Nat.mul_one])
    simpa [kCells] using this
  · simp only [Value.ownBlock, Option.some.injEq] at hb; omega
theorem Own.ofBlock {b : Nat} (hb : w.heap[b]? = some (.cells (kCells k xs) e (0, 0))) (hm : xs.length ≤ maxLen) : Own k e w b (b + 1) (.slice (some ⟨b, 0, none⟩) xs.length xs.length) xs := by
  refine ⟨⟨by simp, .inr ⟨b, xs.length, kCells k xs, rfl, Nat.le_refl _, hb, Nat.le_refl _, hm, by rw [kCells_size, Nat.mul_one], ?_⟩⟩, fun b' hb' => ?_⟩
  · rw [Nat.mul_one]
    exact List.take_of_length_le (by rw [Array.length_toList, kCells_size]; exact Nat.le_refl _)
  · simp only [Value.ownBlock, Option.some.injEq] at hb'; omega
theorem Own.nil (w : World) (lo hi : Nat) : Own k e w lo hi (.slice none 0 0) [] := ⟨World.ownsRow_nil w lo e 1, fun b hb => by simp [Value.ownBlock] at hb⟩
theorem Own.ofRow {ys : List Value} {m : Nat} (h : w.ownsRow lo e 1 v m ys) (hy : ys = xs.map (Value.int k)) (hm : m = xs.length) : Own k e w lo w.heap.size v xs := by
  subst hy hm
  exact ⟨h, fun b hb => (h.lt b hb).2⟩
theorem own_row_block {g : Nat} (h : w.grownBy w' (Value.slice (some ⟨g, 0, none⟩) n cap).ownBlock) : w.grownBy w' (some g) := h
end

/-- A slice is handed back, with a code or without. -/
def RetOwn (k : IntKind) (e : TypeId) (mk : Value → Value) (xs : List Int) (w : World) (r : Ending) (w' : World) : Prop :=
  ∃ v, r = .returned (mk v) ∧ Own k e w' w.heap.size w'.heap.size v xs ∧ Gr w w'
def withCode (c : Int) (v : Value) : Value := .tuple #[v, .int .i64 c]

/-- Marks: numbers that rise from k0 on, as so many as there are places. -/
def markL (k : IntKind) (k0 n : Nat) : List Int := (List.range n).map fun i => k.wrap ((k0 + i : Nat) : Int)
theorem markL_length (k : IntKind) (k0 n : Nat) : (markL k k0 n).length = n := by simp [markL]
theorem markL_get {k : IntKind} {k0 n i : Nat} (h : i < n) : (markL k k0 n).getD i 0 = k.wrap ((k0 + i : Nat) : Int) := by simp [markL, List.getD, h]
def markTo (k : IntKind) (k0 : Nat) (xs : List Int) (j : Nat) : List Int := (List.range j).map (fun i => k.wrap ((k0 + i : Nat) : Int)) ++ xs.drop j
theorem markTo_length {k : IntKind} {k0 : Nat} {xs : List Int} {j : Nat} (h : j ≤ xs.length) : (markTo k k0 xs j).length = xs.length := by simp [markTo]; omega
theorem markTo_zero (k : IntKind) (k0 : Nat) (xs : List Int) : markTo k k0 xs 0 = xs := by simp [markTo]
theorem markTo_all (k : IntKind) (k0 : Nat) (xs : List Int) : markTo k k0 xs xs.length = markL k k0 xs.length := by simp [markTo, markL]
theorem markTo_set {k : IntKind} {k0 : Nat} {xs : List Int} {j : Nat} (h : j < xs.length) : (markTo k k0 xs j).set j (k.wrap ((k0 + j : Nat) : Int)) = markTo k k0 xs (j + 1) := by
  unfold markTo
  rw [List.set_append_right _ _ (by simp), List.length_map, List.length_range, Nat.sub_self, List.range_succ, List.map_append, List.append_assoc]
  congr 1
  rw [List.drop_eq_getElem_cons h]
  rfl
end Go.Proofs.YtnkoakneffjkbaaDoor
