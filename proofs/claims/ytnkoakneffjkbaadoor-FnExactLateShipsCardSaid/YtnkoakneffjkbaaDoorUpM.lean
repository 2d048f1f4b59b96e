/- Logs: the entries whose signals are up: the model's list. -/
import Derived.Test.YtnkoakneffjkbaaDoorFlyM
namespace Go.Proofs.YtnkoakneffjkbaaDoor
set_option linter.unusedVariables false
open Go.RowKit
/-- The last one of so many that is so. -/
def lastP (p : Nat → Bool) : Nat → Int
  | 0 => -1
  | j + 1 => if p j = true then (j : Int) else lastP p j
theorem lastP_range (p : Nat → Bool) : ∀ n, lastP p n = -1 ∨ (0 ≤ lastP p n ∧ lastP p n < n ∧ p (lastP p n).toNat = true)
  | 0 => .inl rfl
  | j + 1 => by
    rw [lastP]
    split
    · rename_i h; right; exact ⟨by omega, by omega, by rw [Int.toNat_natCast]; exact h⟩
    · rcases lastP_range p j with h | ⟨h1, h2, h3⟩
      · exact .inl h
      · exact .inr ⟨h1, by omega, h3⟩
theorem lastP_none {p : Nat → Bool} : ∀ {n : Nat}, lastP p n < 0 → ∀ j, j < n → p j = false
  | 0, _, j, h => by omega
  | n + 1, h, j, hj => by
    rw [lastP] at h
    split at h
    · omega
    · rename_i hp
      by_cases hjn : j = n
      · subst hjn; simpa using hp
      · exact lastP_none h j (by omega)
def sigAt (es : List En) (up : List Int) (j : Nat) : Int := (enAt es (up.getD j 0).toNat).s
def atUp (es : List En) (up : List Int) (x : Int) : Int := lastP (fun j => sigAt es up j == x) up.length
def upS (es : List En) : Nat → List Int
  | 0 => []
  | k + 1 => if atUp es (upS es k) (enAt es k).s < 0 then upS es k ++ [(k : Int)] else (upS es k).take (atUp es (upS es k) (enAt es k).s).toNat ++ (upS es k).drop ((atUp es (upS es k) (enAt es k).s).toNat + 1)
/-- What is up is on the list, once. -/
structure UpInv (es : List En) (k : Nat) (up : List Int) : Prop where
  mem : ∀ x, (∃ j, j < up.length ∧ sigAt es up j = x) ↔ isUp es k x = true
  one : ∀ i j, i < up.length → j < up.length → sigAt es up i = sigAt es up j → i = j
  low : ∀ j, j < up.length → 0 ≤ up.getD j 0 ∧ up.getD j 0 < k
  len : up.length ≤ k
theorem atUp_spec {es : List En} {up : List Int} {k : Nat} (h : UpInv es k up) (x : Int) : decide (0 ≤ atUp es up x) = isUp es k x := by
  unfold atUp
  rcases lastP_range (fun j => sigAt es up j == x) up.length with h1 | ⟨h1, h2, h3⟩
  · rw [decide_eq_false (by omega)]
    cases hu : isUp es k x
    · rfl
    · obtain ⟨j, hj, hs⟩ := (h.mem x).2 hu
      have := lastP_none (p := fun j => sigAt es up j == x) (by omega) j hj
      rw [hs] at this
      simp at this
  · rw [decide_eq_true h1]
    have h4 : sigAt es up (lastP (fun j => sigAt es up j == x) up.length).toNat = x := by simpa using h3
    exact ((h.mem x).1 ⟨_, by omega, h4⟩).symm
theorem getD_app_left {a b : List Int} {i : Nat} (h : i < a.length) : (a ++ b).getD i 0 = a.getD i 0 := by simp [List.getD, List.getElem?_append_left h]
theorem getD_app_right {a b : List Int} {i : Nat} (h : a.length ≤ i) : (a ++ b).getD i 0 = b.getD (i - a.length) 0 := by simp [List.getD, List.getElem?_append_right h]
theorem up_inv (es : List En) : ∀ k, UpInv es k (upS es k)
  | 0 => ⟨fun x => by simp [upS, isUp], fun i j h => by simp [upS] at h, fun j h => by simp [upS] at h, Nat.le_refl _⟩
  | k + 1 => by
    have ih := up_inv es k
    have hat := atUp_spec ih (enAt es k).s
    have hrg := lastP_range (fun j => sigAt es (upS es k) j == (enAt es k).s) (upS es k).length
    change atUp es (upS es k) (enAt es k).s = -1 ∨ _ at hrg
    rw [upS]
    obtain ⟨hm, ho, hl, hn⟩ := ih
    generalize hup : upS es k = up at *
    generalize hz : atUp es up (enAt es k).s = z at *
    by_cases hneg : z < 0
    · rw [if_pos hneg]
      rw [decide_eq_false (by omega)] at hat
      have hsl : ∀ j, j < up.length → sigAt es (up ++ [(k : Int)]) j = sigAt es up j := fun j hj => by unfold sigAt; rw [getD_app_left hj]
      have hsk : sigAt es (up ++ [(k : Int)]) up.length = (enAt es k).s := by unfold sigAt; rw [getD_app_right (Nat.le_refl _), Nat.sub_self]; rfl
      have hnot : ∀ j, j < up.length → sigAt es up j ≠ (enAt es k).s := fun j hj e => by
        have := (hm (enAt es k).s).1 ⟨j, hj, e⟩
        rw [← hat] at this; cases this
      refine ⟨fun x => ?_, fun i j hi hj e => ?_, fun j hj => ?_, by simp; omega⟩
      · rw [isUp]
        by_cases hx : x = (enAt es k).s
        · rw [if_pos hx, hx, ← hat]
          exact ⟨fun _ => rfl, fun _ => ⟨up.length, by simp, hsk⟩⟩
        · rw [if_neg hx, ← hm x]
          refine ⟨fun ⟨j, hj, e⟩ => ?_, fun ⟨j, hj, e⟩ => ⟨j, by simp; omega, by rw [hsl j hj]; exact e⟩⟩
          simp only [List.length_append, List.length_cons, List.length_nil] at hj
          by_cases hjl : j < up.length
          · exact ⟨j, hjl, by rw [← hsl j hjl]; exact e⟩
          · obtain rfl : j = up.length := by omega
            rw [hsk] at e; exact absurd e.symm hx
      · simp only [List.length_append, List.length_cons, List.length_nil] at hi hj
        by_cases h1 : i < up.length
        · by_cases h2 : j < up.length
          · rw [hsl i h1, hsl j h2] at e; exact ho i j h1 h2 e
          · obtain rfl : j = up.length := by omega
            rw [hsl i h1, hsk] at e; exact absurd e (hnot i h1)
        · obtain rfl : i = up.length := by omega
          by_cases h2 : j < up.length
          · rw [hsl j h2, hsk] at e; exact absurd e.symm (hnot j h2)
          · omega
      · simp only [List.length_append, List.length_cons, List.length_nil] at hj
        by_cases h1 : j < up.length
        · rw [getD_app_left h1]; have := hl j h1; omega
        · obtain rfl : j = up.length := by omega
          rw [getD_app_right (Nat.le_refl _), Nat.sub_self]
          show 0 ≤ (k : Int) ∧ (k : Int) < _
          omega
    · rw [if_neg hneg]
      rw [decide_eq_true (by omega)] at hat
      obtain ⟨q, rfl⟩ : ∃ q : Nat, z = (q : Int) := ⟨z.toNat, by omega⟩
      rw [Int.toNat_natCast]
      rcases hrg with hrg | ⟨_, g2, g3⟩
      · omega
      · have e0 : lastP (fun j => sigAt es up j == (enAt es k).s) up.length = (q : Int) := hz
        rw [e0] at g2 g3
        rw [Int.toNat_natCast] at g3
        have g4 : sigAt es up q = (enAt es k).s := by simpa using g3
        have hq : q < up.length := by omega
        have htl : (up.take q).length = q := by simp; omega
        have hln : (up.take q ++ up.drop (q + 1)).length = up.length - 1 := by simp; omega
        have hga : ∀ j, j < q → (up.take q ++ up.drop (q + 1)).getD j 0 = up.getD j 0 := fun j hj => by
          rw [getD_app_left (by omega)]; simp [List.getD, hj]
        have hgb : ∀ j, q ≤ j → (up.take q ++ up.drop (q + 1)).getD j 0 = up.getD (j + 1) 0 := fun j hj => by
          rw [getD_app_right (by omega), htl]
          simp only [List.getD, List.getElem?_drop]
          rw [show q + 1 + (j - q) = j + 1 by omega]
        have hsa : ∀ j, j < q → sigAt es (up.take q ++ up.drop (q + 1)) j = sigAt es up j := fun j hj => by unfold sigAt; rw [hga j hj]
        have hsb : ∀ j, q ≤ j → sigAt es (up.take q ++ up.drop (q + 1)) j = sigAt es up (j + 1) := fun j hj => by unfold sigAt; rw [hgb j hj]
        refine ⟨fun x => ?_, fun i j hi hj e => ?_, fun j hj => ?_, by rw [hln]; omega⟩
        · rw [isUp]
          by_cases hx : x = (enAt es k).s
          · rw [if_pos hx, hx, ← hat]
            refine ⟨fun ⟨j, hj, e⟩ => ?_, fun h => by cases h⟩
            rw [hln] at hj
            by_cases hjq : j < q
            · rw [hsa j hjq, ← g4] at e
              have := ho j q (by omega) hq e; omega
            · rw [hsb j (by omega), ← g4] at e
              have := ho (j + 1) q (by omega) hq e; omega
          · rw [if_neg hx, ← hm x]
            refine ⟨fun ⟨j, hj, e⟩ => ?_, fun ⟨j, hj, e⟩ => ?_⟩
            · rw [hln] at hj
              by_cases hjq : j < q
              · exact ⟨j, by omega, by rw [← hsa j hjq]; exact e⟩
              · exact ⟨j + 1, by omega, by rw [← hsb j (by omega)]; exact e⟩
            · by_cases hjq : j < q
              · exact ⟨j, by rw [hln]; omega, by rw [hsa j hjq]; exact e⟩
              · have hne : j ≠ q := fun h => by rw [h, g4] at e; exact hx e.symm
                exact ⟨j - 1, by rw [hln]; omega, by rw [hsb (j - 1) (by omega), show j - 1 + 1 = j by omega]; exact e⟩
        · rw [hln] at hi hj
          by_cases h1 : i < q <;> by_cases h2 : j < q
          · rw [hsa i h1, hsa j h2] at e; exact ho i j (by omega) (by omega) e
          · rw [hsa i h1, hsb j (by omega)] at e; have := ho i (j + 1) (by omega) (by omega) e; omega
          · rw [hsb i (by omega), hsa j h2] at e; have := ho (i + 1) j (by omega) (by omega) e; omega
          · rw [hsb i (by omega), hsb j (by omega)] at e; have := ho (i + 1) (j + 1) (by omega) (by omega) e; omega
        · rw [hln] at hj
          by_cases h1 : j < q
          · rw [hga j h1]; have := hl j (by omega); omega
          · rw [hgb j (by omega)]; have := hl (j + 1) (by omega); omega
/-- An entry fits to what is up. -/
def okUp (es : List En) (k : Nat) : Bool := (enAt es k).d == decide (0 ≤ atUp es (upS es k) (enAt es k).s)
theorem okUp_eq (es : List En) (k : Nat) : okUp es k = ((enAt es k).d == isUp es k (enAt es k).s) := by
  unfold okUp; rw [atUp_spec (up_inv es k)]
def tmOkE (es : List En) (k : Nat) : Bool := rgV (enAt es k).t (beforeE es k) 100000 && rgV (enAt es k).s 0 9999
theorem validE_split (es : List En) : validE es = (decide (es.length ≤ 60) && (allTo (tmOkE es) es.length && allTo (okUp es) es.length)) := by
  unfold validE
  congr 1
  cases h : allTo (goodE es) es.length
  · obtain ⟨k, h1, _, h3⟩ := allTo_first h
    unfold goodE at h3
    symm
    rw [Bool.and_eq_false_iff]
    cases h4 : tmOkE es k
    · left; exact allTo_no h1 h4
    · right
      refine allTo_no h1 ?_
      unfold tmOkE at h4
      rw [Bool.and_eq_true] at h4
      rw [h4.1, h4.2] at h3
      rw [okUp_eq]
      simpa using h3
  · symm
    have hh := fun i (hi : i < es.length) => allTo_iff.1 h i hi
    rw [Bool.and_eq_true]
    refine ⟨allTo_iff.2 fun i hi => ?_, allTo_iff.2 fun i hi => ?_⟩
    · have h1 := hh i hi
      unfold goodE at h1
      unfold tmOkE
      rw [Bool.and_eq_true, Bool.and_eq_true] at h1
      rw [h1.1, h1.2.1]; rfl
    · have h1 := hh i hi
      unfold goodE at h1
      rw [Bool.and_eq_true, Bool.and_eq_true] at h1
      rw [okUp_eq]; exact h1.2.2
end Go.Proofs.YtnkoakneffjkbaaDoor
