/- slices.Reverse of whole numbers of one's own. -/
import Derived.Test.YtflbjjcpkhldkaaDoorWhere
namespace Go.Proofs.YtflbjjcpkhldkaaDoor
set_option linter.unusedVariables false
open Go.RowKit
/-- So many from both ends exchanged. -/
def revTo (xs : List Int) : Nat → List Int
  | 0 => xs
  | k + 1 => ((revTo xs k).set k ((revTo xs k).getD (xs.length - 1 - k) 0)).set (xs.length - 1 - k) ((revTo xs k).getD k 0)
theorem revTo_length (xs : List Int) : ∀ k, (revTo xs k).length = xs.length
  | 0 => rfl
  | k + 1 => by simp [revTo, revTo_length xs k]
theorem revTo_get (xs : List Int) : ∀ k, 2 * k ≤ xs.length → ∀ i, i < xs.length → (revTo xs k).getD i 0 = if i < k ∨ xs.length - k ≤ i then xs.getD (xs.length - 1 - i) 0 else xs.getD i 0
  | 0, _, i, h => by rw [revTo, if_neg (by omega)]
  | k + 1, hk, i, h => by
    have ih := revTo_get xs k (by omega)
    have hl := revTo_length xs k
    rw [revTo, getD_set_int _ _ _ _ (by simp; omega), getD_set_int _ _ _ _ (by omega), ih k (by omega), ih _ (show xs.length - 1 - k < xs.length by omega), ih i h]
    by_cases h1 : xs.length - 1 - k = i
    · rw [if_pos h1, if_neg (by omega), if_pos (by omega)]; congr 1; omega
    · rw [if_neg h1]
      by_cases h2 : k = i
      · rw [if_pos h2, if_neg (by omega), if_pos (by omega), ← h2]
      · rw [if_neg h2]
        by_cases h3 : i < k ∨ xs.length - k ≤ i
        · rw [if_pos h3, if_pos (by omega)]
        · rw [if_neg h3, if_neg (by omega)]
theorem revTo_all {xs : List Int} {k : Nat} (hk : 2 * k ≤ xs.length) (hk2 : xs.length ≤ 2 * k + 1) : revTo xs k = xs.reverse := by
  have hl := revTo_length xs k
  apply List.ext_getElem (by simp [hl])
  intro i h1 h2
  have hi : i < xs.length := by omega
  have h := revTo_get xs k hk i hi
  have e1 : (revTo xs k).getD i 0 = (revTo xs k)[i] := by simp [List.getD, List.getElem?_eq_getElem h1]
  have e2 : xs.getD (xs.length - 1 - i) 0 = xs.reverse[i] := by
    rw [List.getElem_reverse]
    simp [List.getD, List.getElem?_eq_getElem (show xs.length - 1 - i < xs.length by omega)]
  rw [← e1, ← e2, h]
  split
  · rfl
  · congr 1; omega
set_option maxRecDepth 100000 in
set_option maxHeartbeats 2000000 in
theorem reverse_any (a : Option Addr) (n c : Nat) (xs : List Int) (hl : n = xs.length) (hn : n ≤ 1048576) (w : World) (lo hi : Nat) (ho : Own .i64 2 w lo hi (.slice a n c) xs) :
    Calls Tryd.prog 73 #[.slice a n c] w fun e w' => e = .returned (.tuple #[]) ∧ Own .i64 2 w' lo hi (.slice a n c) xs.reverse ∧ w.grownBy w' (Value.slice a n c).ownBlock := by
  have HL := hid (revTo_length xs)
  have HS := hid (fun k => show revTo xs (k + 1) = ((revTo xs k).set k ((revTo xs k).getD (n - 1 - k) 0)).set (n - 1 - k) ((revTo xs k).getD k 0) by rw [hl]; rfl)
  have HE := hid (fun k (h1 : 2 * k ≤ n) (h2 : n ≤ 2 * k + 1) => revTo_all (xs := xs) (k := k) (by omega) (by omega))
  have HN := hid hl
  have OO := hid ho
  clear ho hl
  go_enter Tryd.func73, Tryd.ntmps73
  go_wp2_with fail
  go_loopw [2, 3] (fun i j wr => ∃ k : Nat, 2 * k ≤ n ∧ i = .int .i64 k ∧ j = .int .i64 ((n : Int) - 1 - k) ∧ Hid (Own .i64 2 wr lo hi (.slice a n c) (revTo xs k)) ∧ Hid (w.grownBy wr (Value.slice a n c).ownBlock)) (fun i _ _ => n - (intOf i).toNat)
  case atStart => exact ⟨0, by omega, rfl, by simp, OO, hid ⟨rfl, rfl, rfl, Nat.le_refl _, fun _ _ _ => rfl⟩⟩
  case round =>
    obtain ⟨k, hk, rfl, rfl, O, G⟩ := hrel
    by_cases hlt : k < n - 1 - k
    · obtain ⟨q, hq⟩ : ∃ q, q = n - 1 - k := ⟨_, rfl⟩
      have eq : (n : Int) - 1 - k = (q : Int) := by omega
      have hst := HS.out k
      rw [← hq] at hst
      have hkq : k < q := by omega
      have hqn : q < n := by omega
      have hln := HL.out k
      obtain ⟨g, rfl, -, c1, f1⟩ := O.out.at_ (i := k) (by rw [hln, ← HN.out]; omega)
      obtain ⟨g2, e2, -, c2, f2⟩ := O.out.at_ (i := q) (by rw [hln, ← HN.out]; omega)
      cases e2
      have p1 := O.out.put k ((revTo xs k).getD q 0)
      have p2 := p1.1.put q ((revTo xs k).getD k 0)
      rw [← hst] at p2
      have O2 := hid (p2.1.gr (Gr.refl _).drew)
      have G2 := hid (G.out.trans (p1.2.trans p2.2))
      have HQ := hid (show (n : Int) - 1 - ((k + 1 : Nat) : Int) = (q : Int) - 1 from by omega)
      rw [eq]
      clear p1 p2 hst hq eq hln
      generalize (revTo xs k).getD q 0 = y at *
      generalize (revTo xs k).getD k 0 = x at *
      have hb0 : (0 : Int) ≤ k := by omega
      have hb1 : (k : Int) < n := by omega
      have hb2 : (0 : Int) ≤ q := by omega
      have hb3 : (q : Int) < n := by omega
      have hb4 : (k : Int) < q := by omega
      have hne : k ≠ q := by omega
      go_wp2_with fail
      go_region
      all_goals
        go_wp2_with fail
        go_roundw
        case rel => exact ⟨k + 1, by omega, by go_num, by rw [HQ.out], O2, hid (G2.out.trans ⟨rfl, rfl, rfl, Nat.le_refl _, fun _ _ _ => rfl⟩)⟩
        case measure => simp [intOf] <;> omega
    · have hxx := HE.out k hk (by omega)
      rw [hxx] at O
      have hb4 : ¬ (k : Int) < (n : Int) - 1 - k := by omega
      go_wp2_with fail
      go_end0
      exact ⟨rfl, O.out, G.out⟩
end Go.Proofs.YtflbjjcpkhldkaaDoor
