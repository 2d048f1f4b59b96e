/- Slices of steps: marks. -/
import Derived.Test.YtnkoakneffjkbaaDoorStepX
namespace Go.Proofs.YtnkoakneffjkbaaDoor
set_option linter.unusedVariables false
open Go.RowKit
def stMark (i : Nat) : Value := .int .i64 ((1 + i : Nat) : Int)
def stMarks (n : Nat) : List Value := (List.range n).map stMark
theorem stMarks_length (n : Nat) : (stMarks n).length = n := by simp [stMarks]
theorem stMarks_get {n i : Nat} (h : i < n) : (stMarks n)[i]? = some (stMark i) := by simp [stMarks, h]
def stMarkTo (cs : List Value) (j : Nat) : List Value := stMarks j ++ cs.drop j
theorem stMarkTo_zero (cs : List Value) : stMarkTo cs 0 = cs := by simp [stMarkTo, stMarks]
theorem stMarkTo_all {cs : List Value} {n : Nat} (h : n = cs.length) : stMarkTo cs n = stMarks n := by simp [stMarkTo, h]
theorem stMarkTo_length {cs : List Value} {j : Nat} (h : j ≤ cs.length) : (stMarkTo cs j).length = cs.length := by simp [stMarkTo, stMarks_length]; omega
theorem stMarkTo_set {cs : List Value} {j : Nat} (h : j < cs.length) : (stMarkTo cs j).set j (stMark j) = stMarkTo cs (j + 1) := by
  unfold stMarkTo
  rw [List.set_append_right _ _ (by rw [stMarks_length]; exact Nat.le_refl _), stMarks_length, Nat.sub_self, List.drop_eq_getElem_cons h, List.set_cons_zero]
  simp [stMarks, List.range_succ]
theorem stMarkTo_get {cs : List Value} {i j : Nat} (hj : j ≤ i) (_hi : i < cs.length) : (stMarkTo cs j)[i]? = cs[i]? := by
  unfold stMarkTo
  rw [List.getElem?_append_right (by rw [stMarks_length]; exact hj), stMarks_length, List.getElem?_drop, show j + (i - j) = i by omega]
theorem stMark_0 (k : Nat) : stMark (k * 2) = .int .i64 ((1 + k * 2 : Nat) : Int) := rfl
theorem stMark_1 (k : Nat) : stMark (k * 2 + 1) = .int .i64 (((1 + k * 2 : Nat) : Int) + 1) := by unfold stMark; congr 1
set_option maxRecDepth 100000 in
set_option maxHeartbeats 1600000 in
theorem markStepS_one (a : Option Addr) (n cap lo hi : Nat) (cs : List Value) (hc : cs.length = n * 2) (hn : n ≤ 1048576) (w : World) (ho : OwnV 60 2 w lo hi (.slice a n cap) n cs) :
    Calls Tryd.prog 14 #[.slice a n cap, .int .i64 1] w fun e w' => e = .returned (.int .i64 (1 + (n * 2 : Nat) : Nat)) ∧ OwnV 60 2 w' lo hi (.slice a n cap) n (stMarks (n * 2)) ∧ w.grownBy w' (Value.slice a n cap).ownBlock := by
  have HO := hid ho
  have HC := hid hc
  clear ho hc
  go_enter Tryd.func14, Tryd.ntmps14
  go_wp2_with fail
  go_loopw [1, 5] (fun q i wr => ∃ k : Nat, k ≤ n ∧ i = .int .i64 k ∧ q = .int .i64 (1 + (k * 2 : Nat) : Nat) ∧ Hid (OwnV 60 2 wr lo hi (.slice a n cap) n (stMarkTo cs (k * 2))) ∧ Hid (w.grownBy wr (Value.slice a n cap).ownBlock)) (fun _ i _ => n - (intOf i).toNat)
  case atStart => exact ⟨0, Nat.zero_le _, rfl, by simp, hid (by rw [Nat.zero_mul, stMarkTo_zero]; exact HO.out), hid ⟨rfl, rfl, rfl, Nat.le_refl _, fun _ _ _ => rfl⟩⟩
  case round =>
    obtain ⟨k, hk, rfl, rfl, hw, hg⟩ := hrel
    by_cases hlt : k < n
    · obtain ⟨m, hm⟩ : ∃ m : Int, m = ((1 + k * 2 : Nat) : Int) := ⟨_, rfl⟩
      have HM := hid hm
      have e0 := stMark_0 k
      have e1 := stMark_1 k
      rw [← hm] at e0 e1 ⊢
      have hm0 : 0 ≤ m := by omega
      have hm1 : m ≤ 5000000 := by omega
      clear hm
      have hlx : k * 2 + 2 ≤ cs.length := by rw [HC.out]; omega
      have hq0 : (stMarkTo cs (k * 2))[k * 2]? = some cs[k * 2] := (stMarkTo_get (by omega) (by omega)).trans (List.getElem?_eq_getElem (by omega))
      have hq1 : (stMarkTo cs (k * 2))[k * 2 + 1]? = some cs[k * 2 + 1] := (stMarkTo_get (by omega) (by omega)).trans (List.getElem?_eq_getElem (by omega))
      obtain ⟨g, ea, hgb, hc0, hf0⟩ := hw.out.at_ hq0
      subst ea
      obtain ⟨g1, ea, _, hc1, hf1⟩ := hw.out.at_ hq1
      cases ea
      have pp0 := hw.out.put (k * 2) (stMark (k * 2))
      rw [stMarkTo_set (by omega)] at pp0
      have pp1 := pp0.1.put (k * 2 + 1) (stMark (k * 2 + 1))
      rw [stMarkTo_set (by omega)] at pp1
      have gg := (pp0.2.trans pp1.2)
      rw [e0, e1] at pp1 gg
      have P3 := hid pp1
      have GG := hid gg
      clear gg hq0 pp0 pp1 hq1 hgb e0 e1
      generalize cs[k * 2] = y0 at *
      generalize cs[k * 2 + 1] = y1 at *
      clear hlx
      go_wp2_with fail
      go_roundw
      case rel => exact ⟨k + 1, by omega, by go_num, by rw [show m = ((1 + k * 2 : Nat) : Int) from HM.out]; go_num, hid (by rw [Nat.add_mul, Nat.one_mul]; exact P3.out.1), hid (hg.out.trans GG.out)⟩
      case measure => simp [intOf]; omega
    · have hkn : k = n := by omega
      have H0 : Hid (OwnV 60 2 wr lo hi (.slice a n cap) n (stMarks (n * 2))) := by
        rw [hkn, stMarkTo_all HC.out.symm] at hw; exact hw
      have HK := hid hkn
      clear hw hkn
      go_wp2_with fail
      go_ret
      exact ⟨ret_int (by rw [HK.out]), H0.out, hg.out⟩
set_option maxRecDepth 100000 in
set_option maxHeartbeats 1600000 in
theorem heldStepS_one (a : Option Addr) (n cap : Nat) (hn : n ≤ 1048576) (w : World) (hs : CellsOf w a (stMarks (n * 2))) :
    Calls Tryd.prog 15 #[.slice a n cap, .int .i64 1] w fun e w' => e = .returned (.int .i64 (1 + (n * 2 : Nat) : Nat)) ∧ Gr w w' := by
  have HS := hid hs
  clear hs
  go_enter Tryd.func15, Tryd.ntmps15
  go_wp2_with fail
  go_loopw [1, 5] (fun q i wr => ∃ k : Nat, k ≤ n ∧ i = .int .i64 k ∧ q = .int .i64 (1 + (k * 2 : Nat) : Nat) ∧ Hid (Gr w wr)) (fun _ i _ => n - (intOf i).toNat)
  case atStart => exact ⟨0, Nat.zero_le _, rfl, by simp, hid (Gr.refl _)⟩
  case round =>
    obtain ⟨k, hk, rfl, rfl, hg⟩ := hrel
    by_cases hlt : k < n
    · obtain ⟨m, hm⟩ : ∃ m : Int, m = ((1 + k * 2 : Nat) : Int) := ⟨_, rfl⟩
      have HM := hid hm
      have e0 := stMark_0 k
      have e1 := stMark_1 k
      rw [← hm] at e0 e1 ⊢
      have hm0 : 0 ≤ m := by omega
      have hm1 : m ≤ 5000000 := by omega
      clear hm
      obtain ⟨b, off, rfl, c0⟩ := (HS.out.gr hg.out).at_ (stMarks_get (i := k * 2) (by omega))
      obtain ⟨b1, off1, ea1, c1⟩ := (HS.out.gr hg.out).at_ (stMarks_get (i := k * 2 + 1) (by omega))
      cases ea1
      rw [e0] at c0
      rw [e1, ← Nat.add_assoc] at c1
      clear e0 e1
      go_wp2_with fail
      go_roundw
      case rel => exact ⟨k + 1, by omega, by go_num, by rw [show m = ((1 + k * 2 : Nat) : Int) from HM.out]; go_num, hg⟩
      case measure => simp [intOf]; omega
    · have hkn : k = n := by omega
      have HK := hid hkn
      clear hkn
      go_wp2_with fail
      go_ret
      exact ⟨ret_int (by rw [HK.out]), hg.out⟩
end Go.Proofs.YtnkoakneffjkbaaDoor
