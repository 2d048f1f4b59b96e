/- The signal that has been up the longest: by the flights and by the model's loops: the same. -/
import Derived.Test.YtlgfibiggiknjaaDoorUpP
namespace Go.Proofs.YtlgfibiggiknjaaDoor
set_option linter.unusedVariables false
open Go.RowKit
/-- Where the signal that is hauled down in an entry has been hoisted. -/
def hzE (es : List En) (d : Nat) : Int := (upS es d).getD (atUp es (upS es d) (enAt es d).s).toNat 0
def lenE (es : List En) (d : Nat) : Int := (enAt es d).t - (enAt es (hzE es d).toNat).t
def longTo (es : List En) : Nat → Int × Int
  | 0 => (0, -1)
  | i + 1 => if (enAt es i).d = true ∧ (longTo es i).2 < lenE es i then (hzE es i, lenE es i) else longTo es i
def lastF (es : List En) (p : Int × Int) : Int := (enAt es p.2.toNat).t - (enAt es p.1.toNat).t
def endF (F : List (Int × Int)) : List (Int × Int) := F.filter (fun p => p.2 != -1)
def betterF (es : List En) (p m : Int × Int) : Bool := decide (lastF es m < lastF es p) || (decide (lastF es m = lastF es p) && decide (p.2 < m.2))
def bestFl (es : List En) (E : List (Int × Int)) : Nat → Int × Int
  | 0 => flAt E 0
  | k + 1 => if betterF es (flAt E (k + 1)) (bestFl es E k) = true then flAt E (k + 1) else bestFl es E k
/-- The entry of a flight's end, in the model's words. -/
structure FlLink (es : List En) (k : Nat) (F : List (Int × Int)) : Prop where
  fst : ∀ i, i < F.length → (flAt F i).2 = -1 ∨ ∃ d : Nat, d < k ∧ (flAt F i).2 = (d : Int) ∧ (enAt es d).d = true ∧ (flAt F i).1 = hzE es d
  snd : ∀ d : Nat, d < k → (enAt es d).d = true → ∃ i, i < F.length ∧ (flAt F i).2 = (d : Int)
theorem hz_of {es : List En} {k i : Nat} (hs : (flyTo es k).u (enAt es k).s = some i) : (flAt (flyTo es k).F i).1 = hzE es k := by
  have I := fly_inv es k
  have U := up_inv es k
  obtain ⟨h1, h2, h3⟩ := I.up _ i hs
  have hm : (flAt (flyTo es k).F i).1 ∈ upS es k := by
    rw [← upF_now es k]
    unfold upF
    refine List.mem_map.2 ⟨flAt (flyTo es k).F i, List.mem_filter.2 ⟨?_, ?_⟩, rfl⟩
    · have e : flAt (flyTo es k).F i = (flyTo es k).F[i] := by simp [flAt, List.getD, h1]
      rw [e]; exact List.getElem_mem h1
    · have hr := I.rng i h1
      unfold openAt
      rw [h2]; simp; omega
  obtain ⟨q, hq, hqe⟩ := List.mem_iff_getElem.1 hm
  have hqd : (upS es k).getD q 0 = (flAt (flyTo es k).F i).1 := by simp [List.getD, hq, hqe]
  have hsq : sigAt es (upS es k) q = (enAt es k).s := by unfold sigAt; rw [hqd, h3]
  have hat : 0 ≤ atUp es (upS es k) (enAt es k).s := by
    have := atUp_spec U (enAt es k).s
    rw [(U.mem _).1 ⟨q, hq, hsq⟩] at this
    simpa using this
  rcases lastP_range (fun j => sigAt es (upS es k) j == (enAt es k).s) (upS es k).length with g | ⟨g1, g2, g3⟩
  · change atUp es (upS es k) (enAt es k).s = -1 at g; omega
  · change atUp es (upS es k) (enAt es k).s < _ at g2
    change (sigAt es (upS es k) (atUp es (upS es k) (enAt es k).s).toNat == (enAt es k).s) = true at g3
    have he := U.one (atUp es (upS es k) (enAt es k).s).toNat q (by omega) hq (by rw [hsq]; simpa using g3)
    unfold hzE
    rw [he, hqd]
theorem fl_link {es : List En} : ∀ k, allTo (okUp es) k = true → FlLink es k (flyTo es k).F
  | 0, _ => ⟨fun i h => by simp [flyTo] at h, fun d h => by omega⟩
  | k + 1, hv => by
    have hok : okUp es k = true := allTo_iff.1 hv k (by omega)
    have ih := fl_link k (allTo_iff.2 fun i hi => allTo_iff.1 hv i (by omega))
    rw [okUp_eq] at hok
    rw [← fly_up] at hok
    have I := fly_inv es k
    cases hs : (flyTo es k).u (enAt es k).s with
    | some i =>
      rw [hs] at hok
      obtain ⟨h1, h2, h3⟩ := I.up _ i hs
      have hz := hz_of hs
      have hd : (enAt es k).d = true := by simpa using hok
      rw [flyTo_yes hs]
      refine ⟨fun j hj => ?_, fun d hdk hdd => ?_⟩
      · rw [List.length_set] at hj
        by_cases hij : i = j
        · subst hij
          rw [flAt_set_eq h1]
          exact .inr ⟨k, by omega, rfl, hd, hz⟩
        · rw [flAt_set_ne hij]
          rcases ih.fst j hj with h | ⟨d, a, b, c, e⟩
          · exact .inl h
          · exact .inr ⟨d, by omega, b, c, e⟩
      · by_cases e : d = k
        · subst e
          exact ⟨i, by rw [List.length_set]; exact h1, by rw [flAt_set_eq h1]⟩
        · obtain ⟨j, hj, hjd⟩ := ih.snd d (by omega) hdd
          have hij : i ≠ j := fun e => by rw [← e, h2] at hjd; omega
          exact ⟨j, by rw [List.length_set]; exact hj, by rw [flAt_set_ne hij]; exact hjd⟩
    | none =>
      rw [hs] at hok
      have hd : (enAt es k).d = false := by cases h : (enAt es k).d <;> simp [h] at hok ⊢
      rw [flyTo_no hs]
      refine ⟨fun j hj => ?_, fun d hdk hdd => ?_⟩
      · simp only [List.length_append, List.length_cons, List.length_nil] at hj
        by_cases hjl : j < (flyTo es k).F.length
        · rw [flAt_app_left hjl]
          rcases ih.fst j hjl with h | ⟨d, a, b, c, e⟩
          · exact .inl h
          · exact .inr ⟨d, by omega, b, c, e⟩
        · obtain rfl : j = (flyTo es k).F.length := by omega
          rw [flAt_app_last]
          exact .inl rfl
      · by_cases e : d = k
        · subst e; rw [hd] at hdd; cases hdd
        · obtain ⟨j, hj, hjd⟩ := ih.snd d (by omega) hdd
          exact ⟨j, by simp; omega, by rw [flAt_app_left hj]; exact hjd⟩
theorem hzE_low {es : List En} {d : Nat} (hv : okUp es d = true) (hd : (enAt es d).d = true) : 0 ≤ hzE es d ∧ hzE es d < d := by
  unfold okUp at hv
  rw [hd] at hv
  have h0 : 0 ≤ atUp es (upS es d) (enAt es d).s := by simpa using hv
  rcases lastP_range (fun j => sigAt es (upS es d) j == (enAt es d).s) (upS es d).length with g | ⟨g1, g2, g3⟩
  · change atUp es (upS es d) (enAt es d).s = -1 at g; omega
  · change atUp es (upS es d) (enAt es d).s < _ at g2
    exact (up_inv es d).low _ (by omega)
/-- What the model's loop has found. -/
def LongInv (es : List En) (i : Nat) (st : Int × Int) : Prop :=
  (st = (0, -1) ∧ ∀ d, d < i → (enAt es d).d = false) ∨ ∃ d, d < i ∧ (enAt es d).d = true ∧ st = (hzE es d, lenE es d) ∧ ∀ d', d' < i → (enAt es d').d = true → lenE es d' < lenE es d ∨ (lenE es d' = lenE es d ∧ d ≤ d')
theorem long_inv {es : List En} (hl : ∀ d, d < es.length → (enAt es d).d = true → 0 ≤ lenE es d) : ∀ i, i ≤ es.length → LongInv es i (longTo es i)
  | 0, _ => .inl ⟨rfl, fun d h => by omega⟩
  | i + 1, hi => by
    have ih := long_inv hl i (by omega)
    rw [longTo]
    cases hd : (enAt es i).d
    · rw [if_neg (by simp)]
      rcases ih with ⟨h1, h2⟩ | ⟨d, h1, h2, h3, h4⟩
      · exact .inl ⟨h1, fun d h => by
          by_cases e : d = i
          · rw [e]; exact hd
          · exact h2 d (by omega)⟩
      · exact .inr ⟨d, by omega, h2, h3, fun d' g1 g2 => h4 d' (by
          by_cases e : d' = i
          · rw [e, hd] at g2; cases g2
          · omega) g2⟩
    · have hl0 := hl i (by omega) hd
      rcases ih with ⟨h1, h2⟩ | ⟨d, h1, h2, h3, h4⟩
      · rw [h1, if_pos ⟨rfl, by simp only; omega⟩]
        refine .inr ⟨i, by omega, hd, rfl, fun d' g1 g2 => ?_⟩
        by_cases e : d' = i
        · rw [e]; exact .inr ⟨rfl, Nat.le_refl _⟩
        · rw [h2 d' (by omega)] at g2; cases g2
      · rw [h3]
        by_cases hlt : lenE es d < lenE es i
        · rw [if_pos ⟨rfl, hlt⟩]
          refine .inr ⟨i, by omega, hd, rfl, fun d' g1 g2 => ?_⟩
          by_cases e : d' = i
          · rw [e]; exact .inr ⟨rfl, Nat.le_refl _⟩
          · rcases h4 d' (by omega) g2 with h | ⟨h, _⟩
            · left; omega
            · left; omega
        · rw [if_neg (fun h => hlt h.2)]
          refine .inr ⟨d, by omega, h2, rfl, fun d' g1 g2 => ?_⟩
          by_cases e : d' = i
          · subst e
            by_cases e2 : lenE es d' = lenE es d
            · exact .inr ⟨e2, by omega⟩
            · left; omega
          · exact h4 d' (by omega) g2
theorem best_inv (es : List En) (E : List (Int × Int)) : ∀ k, k < E.length → (∃ j, j ≤ k ∧ bestFl es E k = flAt E j) ∧ ∀ j, j ≤ k → lastF es (flAt E j) < lastF es (bestFl es E k) ∨ (lastF es (flAt E j) = lastF es (bestFl es E k) ∧ (bestFl es E k).2 ≤ (flAt E j).2)
  | 0, _ => ⟨⟨0, Nat.le_refl _, rfl⟩, fun j hj => by
      obtain rfl : j = 0 := by omega
      exact .inr ⟨rfl, Int.le_refl _⟩⟩
  | k + 1, hk => by
    obtain ⟨⟨j0, hj0, hb⟩, hall⟩ := best_inv es E k (by omega)
    rw [bestFl]
    cases hbt : betterF es (flAt E (k + 1)) (bestFl es E k)
    · rw [if_neg (by simp)]
      refine ⟨⟨j0, by omega, hb⟩, fun j hj => ?_⟩
      by_cases e : j = k + 1
      · subst e
        unfold betterF at hbt
        rw [Bool.or_eq_false_iff, Bool.and_eq_false_iff] at hbt
        simp only [decide_eq_false_iff_not] at hbt
        rcases hbt with ⟨h1, h2 | h2⟩
        · left; omega
        · by_cases h3 : lastF es (bestFl es E k) = lastF es (flAt E (k + 1))
          · right; omega
          · left; omega
      · exact hall j (by omega)
    · rw [if_pos rfl]
      refine ⟨⟨k + 1, Nat.le_refl _, rfl⟩, fun j hj => ?_⟩
      by_cases e : j = k + 1
      · subst e; exact .inr ⟨rfl, Int.le_refl _⟩
      · unfold betterF at hbt
        rw [Bool.or_eq_true, Bool.and_eq_true] at hbt
        simp only [decide_eq_true_eq] at hbt
        have := hall j (by omega)
        omega
theorem endF_at {F : List (Int × Int)} {j : Nat} (h : j < (endF F).length) : ∃ i, i < F.length ∧ flAt F i = flAt (endF F) j ∧ (flAt (endF F) j).2 ≠ -1 := by
  have e : flAt (endF F) j = (endF F)[j] := by simp [flAt, List.getD, h]
  have hm : (endF F)[j] ∈ endF F := List.getElem_mem h
  obtain ⟨h1, h2⟩ := List.mem_filter.1 (show (endF F)[j] ∈ F.filter (fun p => p.2 != -1) from hm)
  have h3 : ((endF F)[j].2 != -1) = true := h2
  obtain ⟨i, hi, hie⟩ := List.mem_iff_getElem.1 h1
  exact ⟨i, hi, by rw [e, ← hie]; simp [flAt, List.getD, hi], by rw [e]; exact bne_iff_ne.1 h3⟩
theorem endF_of {F : List (Int × Int)} {i : Nat} (h : i < F.length) (hn : (flAt F i).2 ≠ -1) : ∃ j, j < (endF F).length ∧ flAt (endF F) j = flAt F i := by
  have e : flAt F i = F[i] := by simp [flAt, List.getD, h]
  have hm : F[i] ∈ endF F := List.mem_filter.2 ⟨List.getElem_mem h, by rw [e] at hn; simpa using hn⟩
  obtain ⟨j, hj, hje⟩ := List.mem_iff_getElem.1 hm
  exact ⟨j, hj, by rw [e, ← hje]; simp [flAt, List.getD, hj]⟩
/-- The two ways find the same. -/
theorem long_eq {es : List En} (hup : allTo (okUp es) es.length = true) (hl : ∀ d, d < es.length → (enAt es d).d = true → 0 ≤ lenE es d) :
    ((endF (flyTo es es.length).F).length = 0 → (longTo es es.length).2 < 0) ∧
    (0 < (endF (flyTo es es.length).F).length → 0 ≤ (longTo es es.length).2 ∧ longTo es es.length = ((bestFl es (endF (flyTo es es.length).F) ((endF (flyTo es es.length).F).length - 1)).1, lastF es (bestFl es (endF (flyTo es es.length).F) ((endF (flyTo es es.length).F).length - 1)))) := by
  have L := fl_link es.length hup
  have V := long_inv hl es.length (Nat.le_refl _)
  have hb := best_inv es (endF (flyTo es es.length).F) ((endF (flyTo es es.length).F).length - 1)
  have hat := @endF_at (flyTo es es.length).F
  have hof := @endF_of (flyTo es es.length).F
  generalize bestFl es (endF (flyTo es es.length).F) ((endF (flyTo es es.length).F).length - 1) = p at *
  generalize endF (flyTo es es.length).F = E at *
  generalize (flyTo es es.length).F = F at *
  constructor
  · intro h0
    rcases V with ⟨h1, _⟩ | ⟨d, h1, h2, h3, h4⟩
    · rw [h1]; simp
    · obtain ⟨i, hi, hie⟩ := L.snd d h1 h2
      obtain ⟨j, hj, _⟩ := hof hi (by omega)
      omega
  · intro h0
    obtain ⟨⟨j, hj, hpj⟩, hall⟩ := hb (by omega)
    obtain ⟨i, hi, hie, hin⟩ := hat (show j < E.length by omega)
    rcases L.fst i hi with h | ⟨d, g1, g2, g3, g4⟩
    · rw [hie] at h; exact absurd h hin
    · rw [hie, ← hpj] at g2 g4
      have hlp : lastF es p = lenE es d := by unfold lastF lenE; rw [g2, g4, Int.toNat_natCast]
      rcases V with ⟨h1, h2⟩ | ⟨d2, h1, h2, h3, h4⟩
      · rw [h2 d g1] at g3; cases g3
      · obtain ⟨i2, hi2, hie2⟩ := L.snd d2 h1 h2
        obtain ⟨j2, hj2, hje2⟩ := hof hi2 (by omega)
        have hc := hall j2 (by omega)
        have hz2 : (flAt F i2).1 = hzE es d2 := by
          rcases L.fst i2 hi2 with h | ⟨d3, _, b, _, e⟩
          · omega
          · have : d2 = d3 := by omega
            rw [this]; exact e
        have hl2 : lastF es (flAt E j2) = lenE es d2 := by unfold lastF lenE; rw [hje2, hie2, hz2, Int.toNat_natCast]
        rw [hl2, hlp, hje2, hie2, g2] at hc
        have hc2 := h4 d g1 g3
        obtain rfl : d = d2 := by omega
        rw [h3, hlp, g4]
        exact ⟨hl d g1 g3, rfl⟩
end Go.Proofs.YtlgfibiggiknjaaDoor
