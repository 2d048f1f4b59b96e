/- How many meanings there are: plain lists; in how many ways kinds can be chosen. -/
import Derived.Test.YtkbdblaciphmnaaPats
namespace Go.Proofs.Ytkbdblaciphmnaa
set_option linter.unusedVariables false
open Go.RowKit
def posI (x : Int) : Int := if x < 0 then 0 else x
/-- In how many ways so many kinds can be chosen. -/
def wtC (K : Int) : Nat → Int
  | 0 => 1
  | c + 1 => wtC K c * posI (K - c)
theorem posI_bd {K : Int} {c : Nat} (h0 : 0 ≤ K) (h4 : K ≤ 40) : 0 ≤ posI (K - c) ∧ posI (K - c) ≤ 40 := by unfold posI; split <;> omega
theorem wtC_bd {K : Int} (h0 : 0 ≤ K) (h4 : K ≤ 40) (c : Nat) : 0 ≤ wtC K c ∧ wtC K c ≤ 40 ^ c := by
  induction c with
  | zero => exact ⟨by show (0 : Int) ≤ 1; decide, by show (1 : Int) ≤ 40 ^ 0; decide⟩
  | succ c ih =>
    have h := posI_bd (c := c) h0 h4
    refine ⟨Int.mul_nonneg ih.1 h.1, ?_⟩
    rw [Int.pow_succ]
    exact Int.mul_le_mul ih.2 h.2 h.1 (Int.le_trans ih.1 ih.2)
theorem pow40 {c : Nat} (h : c ≤ 6) : (40 : Int) ^ c ≤ 4096000000 := by
  rcases (show c = 0 ∨ c = 1 ∨ c = 2 ∨ c = 3 ∨ c = 4 ∨ c = 5 ∨ c = 6 by omega) with rfl | rfl | rfl | rfl | rfl | rfl | rfl <;> decide
theorem wtC_big {K : Int} (h0 : 0 ≤ K) (h4 : K ≤ 40) {c : Nat} (h : c ≤ 6) : 0 ≤ wtC K c ∧ wtC K c ≤ 4096000000 := ⟨(wtC_bd h0 h4 c).1, Int.le_trans (wtC_bd h0 h4 c).2 (pow40 h)⟩
/-- More kinds than there are. -/
theorem wtC_none {K : Nat} : ∀ {c : Nat}, K < c → wtC (K : Int) c = 0 := by
  intro c
  induction c with
  | zero => intro h; omega
  | succ c ih =>
    intro h
    rw [wtC]
    by_cases e : K = c
    · rw [e, Int.sub_self]; simp [posI]
    · rw [ih (by omega), Int.zero_mul]
def wgt (K S : Int) (B n : Nat) (M : List Int) : Int := if hoistsL M S B = [] then 0 else wtC K (used M n)
def sumW (K S : Int) (B n : Nat) : List (List Int) → Int
  | [] => 0
  | M :: L => wgt K S B n M + sumW K S B n L
theorem sumW_append (K S : Int) (B n : Nat) (L L' : List (List Int)) : sumW K S B n (L ++ L') = sumW K S B n L + sumW K S B n L' := by
  induction L with
  | nil => simp [sumW]
  | cons M L ih => simp only [List.cons_append, sumW, ih]; omega
theorem wgt_bd {K S : Int} {B n : Nat} {M : List Int} (h0 : 0 ≤ K) (h4 : K ≤ 40) (hn : n ≤ 6) : 0 ≤ wgt K S B n M ∧ wgt K S B n M ≤ 4096000000 := by
  unfold wgt
  split
  · exact ⟨by decide, by decide⟩
  · exact wtC_big h0 h4 (by have := used_le M n; omega)
theorem sumW_bd {K S : Int} {B n : Nat} (h0 : 0 ≤ K) (h4 : K ≤ 40) (hn : n ≤ 6) (L : List (List Int)) : 0 ≤ sumW K S B n L ∧ sumW K S B n L ≤ 4096000000 * L.length := by
  induction L with
  | nil => exact ⟨by simp [sumW], by simp [sumW]⟩
  | cons M L ih =>
    have h := wgt_bd (S := S) (B := B) (M := M) h0 h4 hn
    simp only [sumW, List.length_cons]
    omega
theorem patN_length {next : List Int → Nat → List (List Int)} {P : Nat} {m : List Int} {nx : Nat} (hp : ∀ g k, k ≤ nx + 1 → (next g k).length ≤ P) : ∀ (c x : Nat), (patN next m nx x c).length ≤ c * P := by
  intro c
  induction c with
  | zero => intro x; simp [patN]
  | succ c ih =>
    intro x
    have h1 := hp (m ++ [(x : Int)]) (if x = nx then nx + 1 else nx) (by split <;> omega)
    have h2 := ih (x + 1)
    rw [patN, List.length_append, Nat.succ_mul]
    omega
theorem patF_length : ∀ (f : Nat) (m : List Int) (nx : Nat), nx + f ≤ 6 → (patF f m nx).length ≤ 7 ^ f := by
  intro f
  induction f with
  | zero => intro m nx _; simp [patF]
  | succ f ih =>
    intro m nx h
    rw [patF]
    have h1 := patN_length (next := patF f) (P := 7 ^ f) (m := m) (nx := nx) (fun g k hk => ih g k (by omega)) (nx + 1) 0
    have h2 : (nx + 1) * 7 ^ f ≤ 7 * 7 ^ f := Nat.mul_le_mul_right _ (by omega)
    rw [Nat.pow_succ]
    omega
theorem patF_big {n : Nat} (h : n ≤ 6) : (patF n [] 0).length ≤ 117649 := Nat.le_trans (patF_length n [] 0 (by omega)) (by
  have := Nat.pow_le_pow_right (n := 7) (by omega) h
  omega)
/-- New numbers come one by one in all of them. -/
theorem rgs_snoc {m : List Int} {k x : Nat} (h : Rgs m k) (hx : x ≤ used m k) : Rgs (m ++ [(x : Int)]) (k + 1) ∧ used (m ++ [(x : Int)]) (k + 1) = if x = used m k then used m k + 1 else used m k := by
  have hlt : ∀ j, j < k → (m ++ [(x : Int)]).getD j 0 = m.getD j 0 := fun j hj => getD_snoc_lt (by rw [h.1]; exact hj)
  have hu : ∀ j, j ≤ k → used (m ++ [(x : Int)]) j = used m j := fun j hj => used_same (fun i hi => hlt i (by omega))
  have hk : (m ++ [(x : Int)]).getD k 0 = (x : Int) := getD_snoc_eq h.1.symm
  refine ⟨⟨by rw [List.length_append, h.1]; rfl, fun j hj => ?_⟩, ?_⟩
  · by_cases e : j = k
    · subst e
      exact ⟨x, hk, by rw [hu j (Nat.le_refl _)]; exact hx⟩
    · rw [hlt j (by omega), hu j (by omega)]
      exact h.2 j (by omega)
  · simp only [used, hk, hu k (Nat.le_refl _)]
    by_cases e : x = used m k
    · rw [if_pos (by omega), if_pos e]
    · rw [if_neg (by omega), if_neg e]
theorem patN_mem {next : List Int → Nat → List (List Int)} {m M : List Int} {nx : Nat} : ∀ {c x : Nat}, M ∈ patN next m nx x c → ∃ y, x ≤ y ∧ y < x + c ∧ M ∈ next (m ++ [(y : Int)]) (if y = nx then nx + 1 else nx) := by
  intro c
  induction c with
  | zero => intro x h; simp [patN] at h
  | succ c ih =>
    intro x h
    rw [patN] at h
    rcases List.mem_append.1 h with h1 | h1
    · exact ⟨x, Nat.le_refl _, by omega, h1⟩
    · obtain ⟨y, h2, h3, h4⟩ := ih h1
      exact ⟨y, by omega, by omega, h4⟩
theorem patF_rgs : ∀ (f : Nat) (m : List Int) (k : Nat), Rgs m k → ∀ M ∈ patF f m (used m k), Rgs M (k + f) := by
  intro f
  induction f with
  | zero => intro m k h M hM; rw [patF, List.mem_singleton] at hM; rw [hM]; exact h
  | succ f ih =>
    intro m k h M hM
    rw [patF] at hM
    obtain ⟨y, _, h2, h3⟩ := patN_mem hM
    obtain ⟨g1, g2⟩ := rgs_snoc h (show y ≤ used m k by omega)
    rw [← g2] at h3
    have := ih _ _ g1 M h3
    rwa [show k + 1 + f = k + (f + 1) by omega] at this
theorem pat_rgs {n : Nat} {M : List Int} (h : M ∈ patF n [] 0) : Rgs M n := by
  have := patF_rgs n [] 0 ⟨rfl, fun j hj => by omega⟩ M h
  rwa [Nat.zero_add] at this
theorem rgs_fits {M : List Int} {n : Nat} (h : Rgs M n) (hn : n ≤ 6) : Fits .i8 M := by
  intro x hx
  obtain ⟨i, hi, rfl⟩ := List.mem_iff_getElem.1 hx
  obtain ⟨p, hp, hu⟩ := h.2 i (by rw [← h.1]; exact hi)
  have := used_le M i
  rw [List.getD_eq_getElem?_getD, List.getElem?_eq_getElem hi] at hp
  simp only [Option.getD_some] at hp
  rw [hp]
  have hl := h.1
  have h6 : p ≤ 6 := by omega
  rcases (show p = 0 ∨ p = 1 ∨ p = 2 ∨ p = 3 ∨ p = 4 ∨ p = 5 ∨ p = 6 by omega) with rfl | rfl | rfl | rfl | rfl | rfl | rfl <;> rfl
set_option maxRecDepth 100000 in
set_option maxHeartbeats 1000000 in
theorem waysToChoose_any (c : Nat) (h6 : c ≤ 6) (K : Int) (h0 : 0 ≤ K) (h4 : K ≤ 40) (w : World) :
    Calls Try.prog 72 #[.int .i64 c, .int .i64 K] w fun e w' => e = .returned (.int .i64 (wtC K c)) ∧ w = w' := by
  have HB := hid (fun i (h : i ≤ 6) => wtC_big h0 h4 h)
  have HP := hid (fun i : Nat => posI_bd (c := i) h0 h4)
  have HS := hid (fun i => show wtC K (i + 1) = wtC K i * posI (K - i) from rfl)
  have HZ := hid (show wtC K 0 = 1 from rfl)
  generalize wtC K = f at *
  go_enter Try.func72, Try.ntmps72
  go_wp2_with fail
  go_loop [5, 8] (fun v i => ∃ k : Nat, k ≤ c ∧ i = .int .i64 k ∧ v = .int .i64 (f k)) (fun _ i => c - (intOf i).toNat)
  case atStart => exact ⟨0, Nat.zero_le _, rfl, by rw [HZ.out]⟩
  case round =>
    obtain ⟨k, hk, rfl, rfl⟩ := hrel
    by_cases hlt : k < c
    · have HSK := hid (HS.out k)
      obtain ⟨p0, p1⟩ := HP.out k
      obtain ⟨q0, q1⟩ := HB.out k (by omega)
      have e1 : IntKind.i64.wrap (K - (k : Int)) = K - (k : Int) := IntWalk.i64_in _ (by omega)
      have hm : f k * posI (K - k) ≤ 4096000000 * 40 := Int.mul_le_mul q1 p1 p0 (by omega)
      have hm0 : 0 ≤ f k * posI (K - k) := Int.mul_nonneg q0 p0
      have e2 : IntKind.i64.wrap (f k * posI (K - k)) = f k * posI (K - k) := IntWalk.i64_in _ (by omega)
      unfold posI at e2 HSK
      clear hm hm0 p0 p1
      generalize f k = y at *
      go_wp2_with fail
      exact ⟨⟨k + 1, by omega, by rw [show ((k + 1 : Nat) : Int) = (k : Int) + 1 by omega], by rw [HSK.out]⟩, by simp [intOf]; omega⟩
    · obtain rfl : k = c := by omega
      go_wp2_with fail
      go_ret
      exact ⟨rfl, rfl⟩
end Go.Proofs.Ytkbdblaciphmnaa
