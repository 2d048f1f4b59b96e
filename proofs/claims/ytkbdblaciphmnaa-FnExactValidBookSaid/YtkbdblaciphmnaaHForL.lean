/- The least sets for a meaning: the program's function; how long hoists are. -/
import Derived.Test.YtkbdblaciphmnaaHFor
namespace Go.Proofs.Ytkbdblaciphmnaa
set_option linter.unusedVariables false
open Go.RowKit
theorem goN_mem {next : List Int → List (List Int)} {m : List Int} {S : Int} {h x : List Int} {n : Nat} (hx : x ∈ goN next m S h n) : ∃ c, x ∈ next (h ++ [c]) := by
  induction n with
  | zero =>
    rw [goN] at hx
    split at hx
    · exact ⟨_, hx⟩
    · simp at hx
  | succ n ih =>
    rw [goN] at hx
    rcases List.mem_append.1 hx with h1 | h1
    · split at h1
      · exact ⟨_, h1⟩
      · simp at h1
    · exact ih h1
theorem goF_len {m : List Int} {S : Int} {B : Nat} : ∀ (f : Nat) (h x : List Int), x ∈ goF m S B f h → x.length = h.length + f := by
  intro f
  induction f with
  | zero => intro h x hx; rw [goF_zero, List.mem_singleton] at hx; rw [hx]; rfl
  | succ f ih =>
    intro h x hx
    rw [goF_succ] at hx
    obtain ⟨c, hc⟩ := goN_mem hx
    rw [ih _ _ hc, List.length_append, List.length_singleton]
    omega
theorem hforL_length (m : List Int) (S B : Int) : (hforL m S B).length ≤ 8 := by
  by_cases hc : askC m S B = 0
  · obtain ⟨eL, _, _⟩ := hfor_yes hc
    have h8 := (validH_len (plainH_valid (askC_yes hc).1)).2
    rw [eL]
    cases hR : hoistsL m S B.toNat with
    | nil => simp [headL]
    | cons x R =>
      have := goF_len (m := m) (S := S) (B := B.toNat) m.length [] x (by have := hR; unfold hoistsL at this; rw [this]; exact List.mem_cons_self)
      show x.length ≤ 8
      rw [this, List.length_nil]
      omega
  · rw [(hfor_no hc).1]; simp
theorem askC_sets {m : List Int} {S B : Int} (h : askC m 1 B = 0) (h1 : 1 ≤ S) (h8 : S ≤ 8) : askC m S B = 0 := by
  obtain ⟨hv, _, hB0, hB4⟩ := askC_yes h
  unfold askC betB
  rw [if_pos hv, if_pos (by simp; omega)]
theorem headC_six {R : List (List Int)} : headC R = 6 ↔ R = [] := by
  cases R with
  | nil => exact ⟨fun _ => rfl, fun _ => rfl⟩
  | cons x R => exact ⟨fun h => absurd (show (0 : Int) = 6 from h) (by decide), fun h => absurd h (by simp)⟩
theorem headC_ok {R : List (List Int)} (h : R ≠ []) : headC R = 0 := by
  cases R with
  | nil => exact absurd rfl h
  | cons x R => rfl
end Go.Proofs.Ytkbdblaciphmnaa
