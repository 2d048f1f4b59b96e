/- Lines of ships: what is told by the times. -/
import Derived.Test.YtflbjjcpkhldkaaDoorLineM
namespace Go.Proofs.YtflbjjcpkhldkaaDoor
open Go.RowKit

/-- All places with a property. -/
def whereL (p : Nat → Bool) : Nat → List Int
  | 0 => []
  | n + 1 => whereL p n ++ (if p n = true then [(n : Int)] else [])
theorem whereL_length (p : Nat → Bool) : ∀ n, (whereL p n).length ≤ n
  | 0 => Nat.le_refl _
  | n + 1 => by
    have := whereL_length p n
    unfold whereL
    split <;> simp <;> omega
theorem whereL_yes {p : Nat → Bool} {n : Nat} (h : p n = true) : whereL p (n + 1) = whereL p n ++ [(n : Int)] := by simp [whereL, h]
theorem whereL_no {p : Nat → Bool} {n : Nat} (h : p n = false) : whereL p (n + 1) = whereL p n := by simp [whereL, h]
theorem whereL_congr {p q : Nat → Bool} : ∀ n, (∀ i, i < n → p i = q i) → whereL p n = whereL q n
  | 0, _ => rfl
  | n + 1, h => by simp only [whereL, whereL_congr n (fun i hi => h i (by omega)), h n (by omega)]
def unrB (ts : List Tm) (i : Nat) : Bool := decide ((tmAt ts i).l < 0)
def cloB (ts : List Tm) (t : Int) (i : Nat) : Bool := decide (0 ≤ (tmAt ts i).c) && decide ((tmAt ts i).c ≤ t)

/-- The first ship that closes up last. -/
def lastTo (ts : List Tm) : Nat → Nat
  | 0 => 0
  | k + 1 => if (tmAt ts k).c > (tmAt ts (lastTo ts k)).c then k else lastTo ts k
theorem lastTo_lt (ts : List Tm) : ∀ k, 0 < k → lastTo ts k < k
  | 0, h => by omega
  | k + 1, _ => by
    unfold lastTo
    split
    · omega
    · cases k with
      | zero => simp [lastTo]
      | succ k => have := lastTo_lt ts (k + 1) (by omega); omega
theorem lastTo_max (ts : List Tm) : ∀ k j, j < k → (tmAt ts j).c ≤ (tmAt ts (lastTo ts k)).c
  | k + 1, j, h => by
    unfold lastTo
    by_cases hjk : j < k
    · have := lastTo_max ts k j hjk
      split <;> omega
    · obtain rfl : j = k := by omega
      split <;> omega
def lastC (ts : List Tm) : Int := (tmAt ts (lastTo ts ts.length)).c

/-- From a ship over those from which it has the hoist. -/
def wayR (ts : List Tm) : Nat → Int → List Int
  | 0, _ => []
  | q + 1, a => if a < 0 then [] else a :: wayR ts q (tmAt ts a.toNat).f

/-- Each one that is reached has it from one that is reached. -/
def TsFrom (ts : List Tm) : Prop := ∀ i, i < ts.length → 0 ≤ (tmAt ts i).f → (tmAt ts i).f < i ∧ 0 ≤ (tmAt ts (tmAt ts i).f.toNat).l
theorem timesTo_from (S R B : Nat → Int) : ∀ k, TsFrom (timesTo S R B k)
  | 0 => fun i hi => by simp [timesTo] at hi
  | k + 1 => by
    have ih := timesTo_from S R B k
    have hl := timesTo_length S R B k
    intro i hi hf
    rw [timesTo_length] at hi
    rw [timesTo] at hf ⊢
    by_cases hik : i < k
    · rw [tmAt_append_left (by rw [hl]; exact hik)] at hf ⊢
      obtain ⟨h1, h2⟩ := ih i (by rw [hl]; exact hik) hf
      exact ⟨h1, by rw [tmAt_append_left (by rw [hl]; omega)]; exact h2⟩
    · obtain rfl : i = k := by omega
      have e := tmAt_append_last (timesTo S R B i) (if i = 0 then ⟨-1, 0, 0, B 0⟩ else dueT (timesTo S R B i) (S i) (R i) (B i))
      rw [hl] at e
      rw [e] at hf ⊢
      by_cases h0 : i = 0
      · rw [if_pos h0] at hf; simp at hf
      · rw [if_neg h0] at hf ⊢
        unfold dueT fromT at hf ⊢
        by_cases hp : bestOf (timesTo S R B i) (S i) < 0
        · rw [if_pos hp] at hf; simp [noT] at hf
        · rw [if_neg hp] at hf ⊢
          have hr0 := bestTo_range (timesTo S R B i) ((timesTo S R B i).length - (S i).toNat) ((timesTo S R B i).length - ((timesTo S R B i).length - (S i).toNat))
          change bestOf (timesTo S R B i) (S i) = -1 ∨ _ ≤ bestOf (timesTo S R B i) (S i) ∧ bestOf (timesTo S R B i) (S i) < _ ∧ 0 ≤ (tmAt (timesTo S R B i) (bestOf (timesTo S R B i) (S i)).toNat).l at hr0
          generalize bestOf (timesTo S R B i) (S i) = p at *
          rcases hr0 with h1 | ⟨h1, h2, h3⟩
          · omega
          · rw [hl] at h2
            dsimp only at hf ⊢
            refine ⟨by omega, ?_⟩
            rw [tmAt_append_left (by rw [hl]; omega)]; exact h3

/-- When all are ready: what the loop from the last ship on does. -/
def readyStep (ts : List Tm) (rd : List Int) (k : Nat) : List Int :=
  let r := max (rd.getD k 0) (tmAt ts k).c
  let rd1 := rd.set k r
  if 0 ≤ (tmAt ts k).f then rd1.set (tmAt ts k).f.toNat (max (rd1.getD (tmAt ts k).f.toNat 0) r) else rd1
def readyTo (ts : List Tm) : Nat → List Int
  | 0 => List.replicate ts.length 0
  | j + 1 => readyStep ts (readyTo ts j) (ts.length - (j + 1))
theorem readyStep_length (ts : List Tm) (rd : List Int) (k : Nat) : (readyStep ts rd k).length = rd.length := by
  unfold readyStep; dsimp only; split <;> simp
theorem readyTo_length (ts : List Tm) : ∀ j, (readyTo ts j).length = ts.length
  | 0 => by simp [readyTo]
  | j + 1 => by rw [readyTo, readyStep_length, readyTo_length ts j]
theorem getD_set_int (l : List Int) (i j : Nat) (v : Int) (hi : i < l.length) : (l.set i v).getD j 0 = if i = j then v else l.getD j 0 := by
  by_cases h : i = j
  · subst h; simp [List.getD, hi]
  · simp [List.getD, h]
structure ReadyInv (ts : List Tm) (i : Nat) (rd : List Int) : Prop where
  len : rd.length = ts.length
  none : ∀ j, j < ts.length → (tmAt ts j).l < 0 → rd.getD j 0 = 0
  most : ∀ j, j < ts.length → 0 ≤ rd.getD j 0 ∧ rd.getD j 0 ≤ lastC ts
  has : ∃ j, j < i ∧ (rd.getD j 0 = lastC ts ∨ (tmAt ts j).c = lastC ts)
theorem ready_step {ts : List Tm} (hok : TsOk ts) (hfr : TsFrom ts) (h0 : 0 < ts.length) (hc0 : (tmAt ts 0).c = 0) (_hl0 : 0 ≤ (tmAt ts 0).l) {k : Nat} (hk0 : 0 < k) (hk : k < ts.length) {rd : List Int} (h : ReadyInv ts (k + 1) rd) : ReadyInv ts k (readyStep ts rd k) := by
  have hM : ∀ j, j < ts.length → (tmAt ts j).c ≤ lastC ts := fun j hj => lastTo_max ts _ j hj
  have hM0 : 0 ≤ lastC ts := by have := hM 0 h0; omega
  obtain ⟨hl, hn, hm, j, hj, hh⟩ := h
  have hmk := hm k hk
  have hck := hM k hk
  have hlk : k < rd.length := by omega
  rcases hok k hk with he | ⟨e1, e2, e3, e4, e5, e6, _⟩
  · have hf : ¬ 0 ≤ (tmAt ts k).f := by rw [he]; simp [noT]
    have hr0 := hn k hk (by rw [he]; simp [noT])
    have hst : readyStep ts rd k = rd.set k 0 := by
      unfold readyStep
      dsimp only
      rw [if_neg hf, hr0, he]
      rfl
    rw [hst]
    have hg : ∀ q, (rd.set k 0).getD q 0 = rd.getD q 0 := fun q => by
      rw [getD_set_int _ _ _ _ hlk]
      split
      · rename_i e; rw [← e, hr0]
      · rfl
    refine ⟨by simp [hl], fun q hq hq2 => by rw [hg]; exact hn q hq hq2, fun q hq => by rw [hg]; exact hm q hq, ?_⟩
    by_cases hjk : j < k
    · exact ⟨j, hjk, by rw [hg]; exact hh⟩
    · obtain rfl : j = k := by omega
      refine ⟨0, hk0, .inr ?_⟩
      rw [hr0, he] at hh
      simp only [noT] at hh
      omega
  · have hf : 0 ≤ (tmAt ts k).f := by
      rcases (by omega : (tmAt ts k).f = -1 ∨ 0 ≤ (tmAt ts k).f) with e | e
      · have := e3 e; omega
      · exact e
    obtain ⟨hp1, hp2⟩ := hfr k hk hf
    generalize hp : (tmAt ts k).f.toNat = p at *
    have hpk : p < k := by omega
    have hst : readyStep ts rd k = (rd.set k (max (rd.getD k 0) (tmAt ts k).c)).set p (max (rd.getD p 0) (max (rd.getD k 0) (tmAt ts k).c)) := by
      unfold readyStep
      dsimp only
      rw [if_pos hf, hp, getD_set_int _ _ _ _ hlk, if_neg (by omega)]
    rw [hst]
    have hg : ∀ q, ((rd.set k (max (rd.getD k 0) (tmAt ts k).c)).set p (max (rd.getD p 0) (max (rd.getD k 0) (tmAt ts k).c))).getD q 0 = if p = q then max (rd.getD p 0) (max (rd.getD k 0) (tmAt ts k).c) else if k = q then max (rd.getD k 0) (tmAt ts k).c else rd.getD q 0 := fun q => by
      rw [getD_set_int _ _ _ _ (by simp; omega), getD_set_int _ _ _ _ hlk]
    have hmp := hm p (by omega)
    refine ⟨by simp [hl], fun q hq hq2 => ?_, fun q hq => ?_, ?_⟩
    · rw [hg, if_neg (by intro e; rw [e] at hp2; omega), if_neg (by intro e; subst e; omega)]
      exact hn q hq hq2
    · rw [hg]
      have := hm q hq
      split
      · omega
      · split <;> omega
    · by_cases hjk : j < k
      · refine ⟨j, hjk, ?_⟩
        rw [hg]
        rcases hh with hh | hh
        · left
          split
          · rename_i e; rw [← e] at hh; omega
          · rw [if_neg (by omega)]; exact hh
        · exact .inr hh
      · obtain rfl : j = k := by omega
        refine ⟨p, hpk, .inl ?_⟩
        rw [hg, if_pos rfl]
        omega
theorem ready_inv {ts : List Tm} (hok : TsOk ts) (hfr : TsFrom ts) (h0 : 0 < ts.length) (hc0 : (tmAt ts 0).c = 0) (hl0 : 0 ≤ (tmAt ts 0).l) : ∀ j, j < ts.length → ReadyInv ts (ts.length - j) (readyTo ts j)
  | 0, _ => by
    have hM0 : 0 ≤ lastC ts := by have := lastTo_max ts _ 0 h0; unfold lastC; omega
    have hz : ∀ q, (List.replicate ts.length (0 : Int)).getD q 0 = 0 := fun q => by
      by_cases hq : q < ts.length
      · simp [List.getD, hq]
      · simp [List.getD, hq]
    refine ⟨by simp [readyTo], fun q _ _ => hz q, fun q _ => ?_, lastTo ts ts.length, lastTo_lt ts _ h0, .inr rfl⟩
    show 0 ≤ (List.replicate ts.length (0 : Int)).getD q 0 ∧ (List.replicate ts.length (0 : Int)).getD q 0 ≤ _
    rw [hz]; exact ⟨Int.le_refl _, hM0⟩
  | j + 1, hj => by
    have ih := ready_inv hok hfr h0 hc0 hl0 j (by omega)
    have e : ts.length - j = (ts.length - (j + 1)) + 1 := by omega
    rw [e] at ih
    exact ready_step hok hfr h0 hc0 hl0 (by omega) (by omega) ih
theorem ready_zero {ts : List Tm} (hok : TsOk ts) (hfr : TsFrom ts) (h0 : 0 < ts.length) (hc0 : (tmAt ts 0).c = 0) (hl0 : 0 ≤ (tmAt ts 0).l) (hf0 : (tmAt ts 0).f = -1) : (readyTo ts ts.length).getD 0 0 = lastC ts := by
  obtain ⟨n, hn⟩ : ∃ n, ts.length = n + 1 := ⟨ts.length - 1, by omega⟩
  have h := ready_inv hok hfr h0 hc0 hl0 n (by omega)
  rw [hn, readyTo, hn, Nat.sub_self]
  rw [show ts.length - n = 1 by omega] at h
  obtain ⟨hl, _, hm, j, hj, hh⟩ := h
  obtain rfl : j = 0 := by omega
  have h1 := (hm 0 h0).2
  have h2 : (tmAt ts 0).c ≤ lastC ts := lastTo_max ts _ 0 h0
  unfold readyStep
  dsimp only
  rw [if_neg (by rw [hf0]; omega), getD_set_int _ _ _ _ (by omega), if_pos rfl]
  omega

/-- When they haul down. -/
def downTo (ts : List Tm) : Nat → List Int
  | 0 => []
  | k + 1 => downTo ts k ++ [if k = 0 then max (lastC ts) (tmAt ts 0).l else if 0 ≤ (tmAt ts k).l then (downTo ts k).getD (tmAt ts k).f.toNat 0 + 1 else -1]
theorem downTo_length (ts : List Tm) : ∀ k, (downTo ts k).length = k
  | 0 => rfl
  | k + 1 => by simp [downTo, downTo_length ts k]
def maxTo (xs : List Int) : Nat → Int
  | 0 => xs.getD 0 0
  | k + 1 => max (maxTo xs k) (xs.getD k 0)
end Go.Proofs.YtflbjjcpkhldkaaDoor
