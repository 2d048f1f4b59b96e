/- Slices of entries: marks. -/
import Derived.Test.YtnkoakneffjkbaaDoorEntM
namespace Go.Proofs.YtnkoakneffjkbaaDoor
set_option linter.unusedVariables false
open Go.RowKit
def enMark (i : Nat) : Value := if i % 3 = 2 then .bool true else .int .i64 ((1 + i : Nat) : Int)
def enMarks (n : Nat) : List Value := (List.range n).map enMark
theorem enMarks_length (n : Nat) : (enMarks n).length = n := by simp [enMarks]
theorem enMarks_get {n i : Nat} (h : i < n) : (enMarks n)[i]? = some (enMark i) := by simp [enMarks, h]
def enMarkTo (cs : List Value) (j : Nat) : List Value := enMarks j ++ cs.drop j
theorem enMarkTo_zero (cs : List Value) : enMarkTo cs 0 = cs := by simp [enMarkTo, enMarks]
theorem enMarkTo_all {cs : List Value} {n : Nat} (h : n = cs.length) : enMarkTo cs n = enMarks n := by simp [enMarkTo, h]
theorem enMarkTo_length {cs : List Value} {j : Nat} (h : j ≤ cs.length) : (enMarkTo cs j).length = cs.length := by simp [enMarkTo, enMarks_length]; omega
theorem enMarkTo_set {cs : List Value} {j : Nat} (h : j < cs.length) : (enMarkTo cs j).set j (enMark j) = enMarkTo cs (j + 1) := by
  unfold enMarkTo
  rw [List.set_append_right _ _ (by rw [enMarks_length]; exact Nat.le_refl _), enMarks_length, Nat.sub_self, List.drop_eq_getElem_cons h, List.set_cons_zero]
  simp [enMarks, List.range_succ]
theorem enMarkTo_get {cs : List Value} {i j : Nat} (hj : j ≤ i) (_hi : i < cs.length) : (enMarkTo cs j)[i]? = cs[i]? := by
  unfold enMarkTo
  rw [List.getElem?_append_right (by rw [enMarks_length]; exact hj), enMarks_length, List.getElem?_drop, show j + (i - j) = i by omega]
theorem enMark_0 (k : Nat) : enMark (k * 3) = .int .i64 ((1 + k * 3 : Nat) : Int) := by unfold enMark; rw [if_neg (by omega)]
theorem enMark_1 (k : Nat) : enMark (k * 3 + 1) = .int .i64 (((1 + k * 3 : Nat) : Int) + 1) := by unfold enMark; rw [if_neg (by omega)]; congr 1
theorem enMark_2 (k : Nat) : enMark (k * 3 + 2) = .bool true := by unfold enMark; rw [if_pos (by omega)]
set_option maxRecDepth 100000 in
set_option maxHeartbeats 1600000 in
theorem markLog_one (a : Option Addr) (n cap lo hi : Nat) (cs : List Value) (hc : cs.length = n * 3) (hn : n ≤ 1048576) (w : World) (ho : OwnV 58 3 w lo hi (.slice a n cap) n cs) :
    Calls Tryd.prog 13 #[.slice a n cap, .int .i64 1] w fun e w' => e = .returned (.int .i64 (1 + (n * 3 : Nat) : Nat)) ∧ OwnV 58 3 w' lo hi (.slice a n cap) n (enMarks (n * 3)) ∧ w.grownBy w' (Value.slice a n cap).ownBlock := by
  have HO := hid ho
  have HC := hid hc
  clear ho hc
  go_enter Tryd.func13, Tryd.ntmps13
  go_wp2_with fail
  go_loopw [1, 5] (fun q i wr => ∃ k : Nat, k ≤ n ∧ i = .int .i64 k ∧ q = .int .i64 (1 + (k * 3 : Nat) : Nat) ∧ Hid (OwnV 58 3 wr lo hi (.slice a n cap) n (enMarkTo cs (k * 3))) ∧ Hid (w.grownBy wr (Value.slice a n cap).ownBlock)) (fun _ i _ => n - (intOf i).toNat)
  case atStart => exact ⟨0, Nat.zero_le _, rfl, by simp, hid (by rw [Nat.zero_mul, enMarkTo_zero]; exact HO.out), hid ⟨rfl, rfl, rfl, Nat.le_refl _, fun _ _ _ => rfl⟩⟩
  case round =>
    obtain ⟨k, hk, rfl, rfl, hw, hg⟩ := hrel
    by_cases hlt : k < n
    · obtain ⟨m, hm⟩ : ∃ m : Int, m = ((1 + k * 3 : Nat) : Int) := ⟨_, rfl⟩
      have HM := hid hm
      have e0 := enMark_0 k
      have e1 := enMark_1 k
      have e2 := enMark_2 k
      rw [← hm] at e0 e1 ⊢
      have hm0 : 0 ≤ m := by omega
      have hm1 : m ≤ 5000000 := by omega
      have hmd : (m + 1 + 1) % 3 = 0 := by omega
      clear hm
      have hlx : k * 3 + 3 ≤ cs.length := by rw [HC.out]; omega
      have hq0 : (enMarkTo cs (k * 3))[k * 3]? = some cs[k * 3] := (enMarkTo_get (by omega) (by omega)).trans (List.getElem?_eq_getElem (by omega))
      have hq1 : (enMarkTo cs (k * 3))[k * 3 + 1]? = some cs[k * 3 + 1] := (enMarkTo_get (by omega) (by omega)).trans (List.getElem?_eq_getElem (by omega))
      have hq2 : (enMarkTo cs (k * 3))[k * 3 + 2]? = some cs[k * 3 + 2] := (enMarkTo_get (by omega) (by omega)).trans (List.getElem?_eq_getElem (by omega))
      obtain ⟨g, ea, hgb, hc0, hf0⟩ := hw.out.at_ hq0
      subst ea
      obtain ⟨g1, ea, _, hc1, hf1⟩ := hw.out.at_ hq1
      cases ea
      obtain ⟨g2, ea, _, hc2, hf2⟩ := hw.out.at_ hq2
      cases ea
      have pp0 := hw.out.put (k * 3) (enMark (k * 3))
      rw [enMarkTo_set (by omega)] at pp0
      have pp1 := pp0.1.put (k * 3 + 1) (enMark (k * 3 + 1))
      rw [enMarkTo_set (by omega)] at pp1
      have pp2 := pp1.1.put (k * 3 + 2) (enMark (k * 3 + 2))
      rw [enMarkTo_set (by omega)] at pp2
      have gg := ((pp0.2.trans pp1.2).trans pp2.2)
      rw [e0, e1, e2] at pp2 gg
      have P3 := hid pp2
      have GG := hid gg
      clear gg hq0 pp0 pp1 pp2 hq1 hq2 hgb e0 e1 e2
      generalize cs[k * 3] = y0 at *
      generalize cs[k * 3 + 1] = y1 at *
      generalize cs[k * 3 + 2] = y2 at *
      clear hlx
      go_wp2_with fail
      go_roundw
      case rel => exact ⟨k + 1, by omega, by go_num, by rw [show m = ((1 + k * 3 : Nat) : Int) from HM.out]; go_num, hid (by rw [Nat.add_mul, Nat.one_mul]; exact P3.out.1), hid (hg.out.trans GG.out)⟩
      case measure => simp [intOf]; omega
    · have hkn : k = n := by omega
      have H0 : Hid (OwnV 58 3 wr lo hi (.slice a n cap) n (enMarks (n * 3))) := by
        rw [hkn, enMarkTo_all HC.out.symm] at hw; exact hw
      have HK := hid hkn
      clear hw hkn
      go_wp2_with fail
      go_ret
      exact ⟨ret_int (by rw [HK.out]), H0.out, hg.out⟩
end Go.Proofs.YtnkoakneffjkbaaDoor
