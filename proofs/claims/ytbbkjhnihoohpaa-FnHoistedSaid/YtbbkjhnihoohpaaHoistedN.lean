/- What the law on hoists asks. -/
import Derived.Test.YtbbkjhnihoohpaaHoistedM
import Derived.Test.YtbbkjhnihoohpaaHForL
namespace Go.Proofs.Ytbbkjhnihoohpaa
open Go.RowKit
theorem askC_plain {m : List Int} (hm : plainH m = true) {S B : Int} (h1 : 1 ≤ S) (h8 : S ≤ 8) (hB : 0 ≤ B) (hB4 : B ≤ 4) : askC m S B = 0 := by
  unfold askC betB
  rw [if_pos hm, if_pos (by simp; omega)]
theorem headC_zero {R : List (List Int)} : headC R = 0 ↔ R ≠ [] := by
  cases R with
  | nil => exact ⟨fun h => absurd (show (6 : Int) = 0 from h) (by decide), fun h => absurd rfl h⟩
  | cons x R => exact ⟨fun _ => by simp, fun _ => rfl⟩
theorem headL_mem {R : List (List Int)} (h : R ≠ []) : headL R ∈ R := by
  cases R with
  | nil => exact absurd rfl h
  | cons x R => exact List.mem_cons_self
theorem hoists_zero {m x : List Int} {B : Nat} (hv : validH x = true) : x ∉ hoistsL m 0 B := by
  intro h
  obtain ⟨_, _, h3⟩ := (mem_hoists (Int.le_refl 0)).1 h
  have hl := (validH_len hv).1
  have h0 := validH_at hv (show 0 < x.length by omega)
  have hne : ¬ x.getD 0 0 = -10 := by
    intro hb
    unfold okAt at h0
    rw [if_pos (brkI_iff.2 hb)] at h0
    simp at h0
  have h4 := (setsTo_le.1 h3).2 0 (by omega) hne
  have h5 : ∀ n, 1 ≤ n → 1 ≤ occ x (x.getD 0 0) n := by
    intro n
    induction n with
    | zero => intro h; omega
    | succ n ih =>
      intro _
      rw [occ]
      by_cases e : n = 0
      · subst e; rw [if_pos rfl, occ]; omega
      · have := ih (by omega); split <;> omega
  have := h5 x.length hl
  omega
/-- All that the law asks. -/
structure Asked (m : List Int) (S B : Int) : Prop where
  ask : askC m S B = 0
  ask8 : askC m 8 B = 0
  ask0 : askC m 8 0 = 0
  leastC0 : leastC m B = 0
  code : hforC m S B = 0 ∨ hforC m S B = 6
  ways : 0 < waysV m S B ↔ hforC m S B = 0
  least : hforC m S B = 0 ↔ leastV m B ≤ S
  all : waysV m S B ≤ waysV m 8 B
  none : waysV m 8 0 = 1
  valid : hforC m S B = 0 → validH (hforL m S B) = true
  read : hforC m S B = 0 → readL (hforL m S B) = m
  need : hforC m S B = 0 → setsF (hforL m S B) ≤ S
  known : hforC m S B = 0 → leastV m B ≤ setsF (hforL m S B)
  subs : hforC m S B = 0 → ∀ c : Nat, B ≤ (c : Int) → c < 4 → (subsF (hforL m S B)).getD c 0 = 0
theorem asked (m : List Int) (hm : plainH m = true) (S' B' : Int) (h1' : 1 ≤ S') (h3' : S' ≤ 3) (hB0 : 0 ≤ B') (hB' : B' ≤ 4) : Asked m S' B' := by
  obtain ⟨S, rfl⟩ := Int.eq_ofNat_of_zero_le (show 0 ≤ S' by omega)
  obtain ⟨B, rfl⟩ := Int.eq_ofNat_of_zero_le hB0
  have h1 : 1 ≤ S := by omega
  have h3 : S ≤ 3 := by omega
  have hB : B ≤ 4 := by omega
  clear h1' h3' hB0 hB'
  have hl := (validH_len (plainH_valid hm)).2
  have ha : askC m (S : Int) (B : Int) = 0 := askC_plain hm (by omega) (by omega) (by omega) (by omega)
  have ha8 : askC m 8 (B : Int) = 0 := askC_plain hm (by omega) (by omega) (by omega) (by omega)
  have ha0 : askC m 8 0 = 0 := askC_plain hm (by omega) (by omega) (by omega) (by omega)
  have ha1 : askC m 1 (B : Int) = 0 := askC_plain hm (by omega) (by omega) (by omega) (by omega)
  obtain ⟨eL, eC, eW⟩ := hfor_yes ha
  obtain ⟨_, _, eW8⟩ := hfor_yes ha8
  obtain ⟨_, _, eW0⟩ := hfor_yes ha0
  have eV := leastV_yes ha1
  rw [Int.toNat_natCast] at eL eC eW eW8 eV
  rw [show (0 : Int).toNat = 0 from rfl] at eW0
  have hi := least_iff (m := m) (B := B) (s := S) hl h1 (by omega)
  have hmem : hforC m (S : Int) (B : Int) = 0 → hforL m (S : Int) (B : Int) ∈ hoistsL m (S : Int) B := fun h => by
    rw [eL]; rw [eC] at h; exact headL_mem (headC_zero.1 h)
  have hS0 : (0 : Int) ≤ (S : Int) := by omega
  have hvalid := fun h => hoists_mean hS0 hB hm (hmem h)
  refine ⟨ha, ha8, ha0, ha1, ?_, ?_, ?_, ?_, ?_, fun h => (hvalid h).1, fun h => ?_, fun h => ?_, fun h => ?_, fun h c h5 h6 => ?_⟩
  · rw [eC]
    cases hoistsL m (S : Int) B with
    | nil => exact .inr rfl
    | cons x R => exact .inl rfl
  · rw [eC, eW, headC_zero]
    cases hoistsL m (S : Int) B with
    | nil => simp
    | cons x R => simp
  · rw [eC, headC_zero, hi, eV]; omega
  · rw [eW, eW8]
    have := hoists_count (m := m) (S := (S : Int)) (T := 8) (by omega) B
    omega
  · rw [eW0, hoists_one (by omega) hl]; rfl
  · rw [readL_yes (hvalid h).1]; exact (hvalid h).2
  · rw [setsF_yes (hvalid h).1]; exact (hoists_own hS0 (hmem h)).2.1
  · obtain ⟨g0, g1, g2⟩ := hoists_own hS0 (hmem h)
    rw [setsF_yes (hvalid h).1, eV]
    have hv := (hvalid h).1
    generalize hforL m (S : Int) (B : Int) = r at *
    obtain ⟨s, hs⟩ : ∃ s : Nat, (s : Int) = setsTo r r.length r.length := ⟨_, Int.toNat_of_nonneg g0⟩
    rw [← hs] at g1 g2 ⊢
    have hne : s ≠ 0 := by
      intro e
      rw [e] at g2
      exact hoists_zero hv g2
    have := (least_iff (m := m) (B := B) (s := s) hl (by omega) (by omega)).1 (fun e => by rw [e] at g2; simp at g2)
    omega
  · rw [subsF_yes (hvalid h).1, colL_get h6]
    exact hoists_subs hS0 hm (hmem h) (by omega) h6
end Go.Proofs.Ytbbkjhnihoohpaa
