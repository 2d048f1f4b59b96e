/- Lines of ships: times as data. -/
import Derived.Test.YtnkoakneffjkbaaDoorOwn
namespace Go.Proofs.YtnkoakneffjkbaaDoor
set_option linter.unusedVariables false
open Go.RowKit

/-- The times of a ship. -/
structure Tm where
  f : Int
  s : Int
  c : Int
  l : Int
def noT : Tm := ⟨-1, -1, -1, -1⟩
def Tm.cells (t : Tm) : List Value := [.int .i8 t.f, .int .i64 t.s, .int .i64 t.c, .int .i64 t.l]
def tmAt (ts : List Tm) (i : Nat) : Tm := ts.getD i noT
def tmCells : List Tm → List Value
  | [] => []
  | t :: ts => t.cells ++ tmCells ts
theorem tmCells_length (ts : List Tm) : (tmCells ts).length = ts.length * 4 := by
  induction ts with
  | nil => rfl
  | cons t ts ih => simp only [tmCells, List.length_append, List.length_cons, ih, Tm.cells, List.length_nil]; omega
theorem tmCells_append (ts us : List Tm) : tmCells (ts ++ us) = tmCells ts ++ tmCells us := by
  induction ts with
  | nil => rfl
  | cons t ts ih => simp only [List.cons_append, tmCells, ih, List.append_assoc]
theorem tmCells_get (ts : List Tm) : ∀ (i q : Nat), i < ts.length → q < 4 → (tmCells ts)[i * 4 + q]? = (tmAt ts i).cells[q]? := by
  induction ts with
  | nil => intro i q h; simp at h
  | cons t ts ih =>
    intro i q h hq
    cases i with
    | zero => simp only [tmCells, tmAt, List.getD]; rw [Nat.zero_mul, Nat.zero_add, List.getElem?_append_left (by simp [Tm.cells]; omega)]; rfl
    | succ i =>
      simp only [tmCells]
      rw [List.getElem?_append_right (by simp [Tm.cells]; omega)]
      have e : (i + 1) * 4 + q - t.cells.length = i * 4 + q := by simp [Tm.cells]; omega
      rw [e, ih i q (by simpa using h) hq]
      simp [tmAt, List.getD]
theorem tmAt_append_left {ts us : List Tm} {i : Nat} (h : i < ts.length) : tmAt (ts ++ us) i = tmAt ts i := by
  simp [tmAt, List.getD, List.getElem?_append_left h]
theorem tmAt_append_last (ts : List Tm) (t : Tm) : tmAt (ts ++ [t]) ts.length = t := by
  simp [tmAt, List.getD]

/-- A ship that flies, and flies earlier than the one found so far. -/
def betterB (ts : List Tm) (b : Int) (k : Nat) : Bool := decide (0 ≤ (tmAt ts k).l) && (decide (b < 0) || decide ((tmAt ts k).l < (tmAt ts b.toNat).l))
/-- The first one of those that fly first, from lo on, within so many. -/
def bestTo (ts : List Tm) (lo : Nat) : Nat → Int
  | 0 => -1
  | j + 1 => if betterB ts (bestTo ts lo j) (lo + j) = true then ((lo + j : Nat) : Int) else bestTo ts lo j
theorem bestTo_yes {ts : List Tm} {lo j : Nat} (h : betterB ts (bestTo ts lo j) (lo + j) = true) : bestTo ts lo (j + 1) = ((lo + j : Nat) : Int) := by simp [bestTo, h]
theorem bestTo_no {ts : List Tm} {lo j : Nat} (h : betterB ts (bestTo ts lo j) (lo + j) = false) : bestTo ts lo (j + 1) = bestTo ts lo j := by simp [bestTo, h]
theorem bestTo_range (ts : List Tm) (lo : Nat) : ∀ j, bestTo ts lo j = -1 ∨ ((lo : Int) ≤ bestTo ts lo j ∧ bestTo ts lo j < (lo + j : Nat) ∧ 0 ≤ (tmAt ts (bestTo ts lo j).toNat).l)
  | 0 => .inl rfl
  | j + 1 => by
    by_cases h : betterB ts (bestTo ts lo j) (lo + j) = true
    · rw [bestTo_yes h]
      right
      refine ⟨by omega, by omega, ?_⟩
      rw [Int.toNat_natCast]
      simp only [betterB, Bool.and_eq_true, decide_eq_true_eq] at h
      exact h.1
    · rw [bestTo_no (by simpa using h)]
      rcases bestTo_range ts lo j with h1 | ⟨h1, h2, h3⟩
      · exact .inl h1
      · exact .inr ⟨h1, by omega, h3⟩
/-- What is told of a ship that has this one ahead of it. -/
def fromT (ts : List Tm) (p r b : Int) : Tm := if p < 0 then noT else ⟨p, (tmAt ts p.toNat).l, (tmAt ts p.toNat).l + r, (tmAt ts p.toNat).l + r + b⟩
def bestOf (ts : List Tm) (s : Int) : Int := bestTo ts (ts.length - s.toNat) (ts.length - (ts.length - s.toNat))
def dueT (ts : List Tm) (s r b : Int) : Tm := fromT ts (bestOf ts s) r b
def timesTo (S R B : Nat → Int) : Nat → List Tm
  | 0 => []
  | k + 1 => timesTo S R B k ++ [if k = 0 then ⟨-1, 0, 0, B 0⟩ else dueT (timesTo S R B k) (S k) (R k) (B k)]
theorem timesTo_length (S R B : Nat → Int) : ∀ k, (timesTo S R B k).length = k
  | 0 => rfl
  | k + 1 => by simp [timesTo, timesTo_length S R B k]
/-- Times as they may be: of none, or of one that is reached. -/
def TmOk (i : Nat) (t : Tm) : Prop := t = noT ∨ (-1 ≤ t.f ∧ t.f < i ∧ (t.f = -1 → i = 0) ∧ 0 ≤ t.s ∧ t.s ≤ t.c ∧ t.c ≤ t.l ∧ t.l ≤ 240 * (i + 1))
def TsOk (ts : List Tm) : Prop := ∀ i, i < ts.length → TmOk i (tmAt ts i)
/-- What a line tells. -/
def LineOk (n : Nat) (S R B : Nat → Int) : Prop := n ≤ 20 ∧ ∀ i, i < n → (0 ≤ S i ∧ S i ≤ 6) ∧ (0 ≤ R i ∧ R i ≤ 120) ∧ (0 ≤ B i ∧ B i ≤ 60)
theorem dueT_ok {ts : List Tm} (h : TsOk ts) (h0 : 0 < ts.length) {s r b : Int} (hr : 0 ≤ r ∧ r ≤ 120) (hb : 0 ≤ b ∧ b ≤ 60) : TmOk ts.length (dueT ts s r b) := by
  unfold dueT fromT
  split
  · exact .inl rfl
  · rename_i hp
    have hr0 := bestTo_range ts (ts.length - s.toNat) (ts.length - (ts.length - s.toNat))
    change bestOf ts s = -1 ∨ _ ≤ bestOf ts s ∧ bestOf ts s < _ ∧ 0 ≤ (tmAt ts (bestOf ts s).toNat).l at hr0
    rcases hr0 with h1 | ⟨h1, h2, h3⟩
    · omega
    · generalize bestOf ts s = p at *
      right
      have hi : p.toNat < ts.length := by omega
      rcases h p.toNat hi with h4 | ⟨_, _, _, _, _, _, h4⟩
      · rw [h4] at h3; simp [noT] at h3
      · refine ⟨by show -1 ≤ p; omega, by show p < _; omega, fun e => ?_, h3, by show (tmAt ts p.toNat).l ≤ (tmAt ts p.toNat).l + r; omega, by show (tmAt ts p.toNat).l + r ≤ (tmAt ts p.toNat).l + r + b; omega, ?_⟩
        · have e' : p = -1 := e
          omega
        · show (tmAt ts p.toNat).l + r + b ≤ _
          have : (p.toNat : Int) + 1 ≤ (ts.length : Int) := by omega
          omega
theorem timesTo_ok {n : Nat} {S R B : Nat → Int} (h : LineOk n S R B) : ∀ k, k ≤ n → TsOk (timesTo S R B k)
  | 0, _ => fun i hi => by simp [timesTo] at hi
  | k + 1, hk => by
    have ih := timesTo_ok h k (by omega)
    have hl := timesTo_length S R B k
    intro i hi
    rw [timesTo_length] at hi
    by_cases hik : i < k
    · rw [timesTo, tmAt_append_left (by rw [hl]; exact hik)]
      exact ih i (by rw [hl]; exact hik)
    · obtain rfl : i = k := by omega
      rw [timesTo]
      have e := tmAt_append_last (timesTo S R B i) (if i = 0 then ⟨-1, 0, 0, B 0⟩ else dueT (timesTo S R B i) (S i) (R i) (B i))
      rw [hl] at e
      rw [e]
      split
      · rename_i h0
        subst h0
        obtain ⟨_, _, hb⟩ := h.2 0 (by omega)
        exact .inr ⟨by simp, by simp, fun _ => rfl, by simp, by simp, by simpa using hb.1, by simp; omega⟩
      · obtain ⟨_, hr, hb⟩ := h.2 i (by omega)
        have := dueT_ok ih (by omega) (s := S i) hr hb
        rw [hl] at this
        exact this
theorem tm_dec (t : Tm) (i : Nat) (h : TmOk i t) : (t = noT ∧ t.l = -1) ∨ (t ≠ noT ∧ 0 ≤ t.l) := by
  rcases h with h | ⟨h1, h2, h3, h4, h5, h6, h7⟩
  · exact .inl ⟨h, by rw [h]; rfl⟩
  · refine .inr ⟨fun e => ?_, by omega⟩
    rw [e] at h4
    simp [noT] at h4
end Go.Proofs.YtnkoakneffjkbaaDoor
