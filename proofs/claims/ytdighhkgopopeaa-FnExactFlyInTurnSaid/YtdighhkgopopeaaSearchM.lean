/- The hoists for a meaning: plain lists. -/
import Derived.Test.YtdighhkgopopeaaSetsN
namespace Go.Proofs.Ytdighhkgopopeaa
set_option linter.unusedVariables false
open Go.RowKit
/-- The substitute n repeats what is at a place. -/
def repB (m : List Int) (i n : Nat) : Bool := decide (startOf m i + n ≤ i) && (m.getD (startOf m i + n - 1) 0 == m.getD i 0)
/-- There is one more of a number. -/
def okX (S : Int) (h : List Int) (x : Int) : Bool := decide (x = -10) || decide (occ h x h.length < S)
def goN (next : List Int → List (List Int)) (m : List Int) (S : Int) (h : List Int) : Nat → List (List Int)
  | 0 => if okX S h (m.getD h.length 0) then next (h ++ [m.getD h.length 0]) else []
  | n + 1 => (if repB m h.length (n + 1) && okX S h (-((n + 1 : Nat) : Int)) then next (h ++ [-((n + 1 : Nat) : Int)]) else []) ++ goN next m S h n
/-- All that go on from h, with f numbers more. -/
def goF (m : List Int) (S : Int) (B : Nat) : Nat → List Int → List (List Int)
  | 0, h => [h]
  | f + 1, h => goN (goF m S B f) m S h B
theorem goF_zero (m : List Int) (S : Int) (B : Nat) (h : List Int) : goF m S B 0 h = [h] := rfl
theorem goF_succ (m : List Int) (S : Int) (B f : Nat) (h : List Int) : goF m S B (f + 1) h = goN (goF m S B f) m S h B := rfl
theorem repB_brk {m : List Int} {i n : Nat} (hb : m.getD i 0 = -10) (hn : 1 ≤ n) : repB m i n = false := by
  unfold repB
  by_cases h : startOf m i + n ≤ i
  · have := startOf_in (h := m) (i := i) (j := startOf m i + n - 1) (by omega) (by omega)
    rw [hb]
    simp only [Bool.and_eq_false_iff, decide_eq_false_iff_not, beq_eq_false_iff_ne]
    exact .inr this
  · simp [h]
theorem goN_brk {next : List Int → List (List Int)} {m : List Int} {S : Int} {h : List Int} {n : Nat} (hb : m.getD h.length 0 = -10) : goN next m S h n = next (h ++ [-10]) := by
  induction n with
  | zero => rw [goN, hb, if_pos (by unfold okX; simp)]
  | succ n ih => rw [goN, repB_brk hb (by omega), Bool.false_and, if_neg (by simp), List.nil_append, ih]
theorem goN_length {next : List Int → List (List Int)} {m : List Int} {S : Int} {h : List Int} {P : Nat} (hp : ∀ g, (next g).length ≤ P) (n : Nat) : (goN next m S h n).length ≤ (n + 1) * P := by
  induction n with
  | zero =>
    rw [goN]
    split
    · have := hp (h ++ [m.getD h.length 0]); omega
    · simp
  | succ n ih =>
    rw [goN, List.length_append, Nat.succ_mul]
    split
    · have := hp (h ++ [-((n + 1 : Nat) : Int)]); omega
    · simp only [List.length_nil]; omega
theorem goF_length (m : List Int) (S : Int) (B : Nat) (hB : B ≤ 4) (f : Nat) : ∀ h, (goF m S B f h).length ≤ 5 ^ f := by
  induction f with
  | zero => intro h; simp [goF]
  | succ f ih =>
    intro h
    rw [goF_succ, Nat.pow_succ]
    have h1 := goN_length (m := m) (S := S) (h := h) ih B
    have h2 : (B + 1) * 5 ^ f ≤ 5 * 5 ^ f := Nat.mul_le_mul_right _ (by omega)
    omega
/-- No number comes too often. -/
def Fine (S : Int) (h : List Int) : Prop := setsTo h h.length h.length ≤ S
theorem occ_snoc_lt {h : List Int} {x c : Int} : ∀ {k : Nat}, k ≤ h.length → occ (h ++ [x]) c k = occ h c k := by
  intro k
  induction k with
  | zero => intro _; rfl
  | succ k ih =>
    intro hk
    have e : (h ++ [x]).getD k 0 = h.getD k 0 := getD_snoc_lt (by omega)
    simp only [occ]
    rw [e, ih (by omega)]
theorem occ_snoc {h : List Int} {x c : Int} : occ (h ++ [x]) c (h.length + 1) = if x = c then occ h c h.length + 1 else occ h c h.length := by
  have e : (h ++ [x]).getD h.length 0 = x := getD_snoc_eq rfl
  by_cases hc : x = c
  · rw [if_pos hc, occ_yes (by rw [e]; exact hc), occ_snoc_lt (Nat.le_refl _)]
  · rw [if_neg hc, occ_no (by rw [e]; exact hc), occ_snoc_lt (Nat.le_refl _)]
theorem Fine.snoc {S : Int} {h : List Int} {x : Int} (hf : Fine S h) : Fine S (h ++ [x]) ↔ okX S h x = true := by
  unfold Fine at hf ⊢
  have hl : (h ++ [x]).length = h.length + 1 := by simp
  rw [hl]
  obtain ⟨h0, h1⟩ := setsTo_le.1 hf
  unfold okX
  simp only [Bool.or_eq_true, decide_eq_true_eq]
  rw [setsTo_le]
  constructor
  · rintro ⟨_, g⟩
    by_cases hx : x = -10
    · exact .inl hx
    · right
      have := g h.length (by omega) (by rw [getD_snoc_eq rfl]; exact hx)
      rw [getD_snoc_eq rfl, occ_snoc, if_pos rfl] at this
      omega
  · intro hx
    refine ⟨h0, fun i hi hne => ?_⟩
    by_cases e : i = h.length
    · subst e
      rw [getD_snoc_eq rfl] at hne ⊢
      rw [occ_snoc, if_pos rfl]
      rcases hx with hx | hx
      · exact absurd hx hne
      · omega
    · have hi' : i < h.length := by omega
      rw [getD_snoc_lt hi'] at hne ⊢
      have h2 := h1 i hi' hne
      rw [occ_snoc]
      by_cases hxc : x = h.getD i 0
      · rw [if_pos hxc, ← hxc]
        rcases hx with hx | hx
        · rw [hx] at hxc; exact absurd hxc.symm hne
        · omega
      · rw [if_neg hxc]; exact h2
theorem Fine.nil {S : Int} (hS : 0 ≤ S) : Fine S [] := by
  unfold Fine
  exact setsTo_le.2 ⟨hS, fun i hi => by simp at hi⟩
theorem NumN.snoc {h : List Int} {x : Int} (hn : NumN h) (hl : h.length < 8) (hx : x = -10 ∨ (-4 ≤ x ∧ x ≤ -1) ∨ (0 ≤ x ∧ x ≤ 39)) : NumN (h ++ [x]) := by
  refine ⟨by rw [List.length_append, List.length_singleton]; omega, fun k hk => ?_⟩
  rw [List.length_append, List.length_singleton] at hk
  by_cases e : k = h.length
  · rw [getD_snoc_eq e]; exact hx
  · rw [getD_snoc_lt (by omega)]; exact hn.num k (by omega)
theorem NumN.nil : NumN [] := ⟨by simp, fun k hk => by simp at hk⟩
/-- The hoists for a meaning, in ascending order. -/
def hoistsL (m : List Int) (S : Int) (B : Nat) : List (List Int) := goF m S B m.length []
end Go.Proofs.Ytdighhkgopopeaa
