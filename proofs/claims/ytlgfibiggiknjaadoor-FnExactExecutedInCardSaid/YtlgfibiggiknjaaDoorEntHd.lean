/- Slices of entries: marks that are held. -/
import Derived.Test.YtlgfibiggiknjaaDoorEntMk
namespace Go.Proofs.YtlgfibiggiknjaaDoor
set_option linter.unusedVariables false
open Go.RowKit
set_option maxRecDepth 100000 in
set_option maxHeartbeats 1600000 in
theorem markLog_from (a : Option Addr) (n cap lo hi q : Nat) (cs : List Value) (hc : cs.length = n * 3) (hn : n ≤ 1048576) (hq : q ≤ 1048576) (w : World) (ho : OwnV 70 3 w lo hi (.slice a n cap) n cs) :
    Calls Tryd.prog 21 #[.slice a n cap, .int .i64 (1 + (q : Int) * 3)] w fun e w' => e = .returned (.int .i64 (1 + ((q : Int) + (n : Int)) * 3)) ∧ w.grownBy w' (Value.slice a n cap).ownBlock := by
  have HO := hid ho
  have HC := hid hc
  clear ho hc
  go_enter Tryd.func21, Tryd.ntmps21
  go_wp2_with fail
  go_loopw [1, 5] (fun qv i wr => ∃ (k : Nat) (m : Int) (ds : List Value), k ≤ n ∧ i = .int .i64 k ∧ qv = .int .i64 m ∧ Hid (m = 1 + ((q : Int) + (k : Int)) * 3) ∧ Hid (ds.length = n * 3) ∧ Hid (OwnV 70 3 wr lo hi (.slice a n cap) n ds) ∧ Hid (w.grownBy wr (Value.slice a n cap).ownBlock)) (fun _ i _ => n - (intOf i).toNat)
  case atStart => exact ⟨0, _, cs, Nat.zero_le _, rfl, rfl, hid (by omega), HC, HO, hid ⟨rfl, rfl, rfl, Nat.le_refl _, fun _ _ _ => rfl⟩⟩
  case round =>
    obtain ⟨k, m, ds, hk, rfl, rfl, HM, HD, hw, hg⟩ := hrel
    by_cases hlt : k < n
    · have hm0 : 0 ≤ m := by have := HM.out; omega
      have hm1 : m ≤ 50000000 := by have := HM.out; omega
      have hmd : (m + 1 + 1) % 3 = 0 := by have := HM.out; omega
      have hlx : k * 3 + 3 ≤ ds.length := by rw [HD.out]; omega
      obtain ⟨g, ea, hgb, hc0, hf0⟩ := hw.out.at_ (i := k * 3) (List.getElem?_eq_getElem (by omega))
      subst ea
      obtain ⟨g1, ea, _, hc1, hf1⟩ := hw.out.at_ (i := k * 3 + 1) (List.getElem?_eq_getElem (by omega))
      cases ea
      obtain ⟨g2, ea, _, hc2, hf2⟩ := hw.out.at_ (i := k * 3 + 2) (List.getElem?_eq_getElem (by omega))
      cases ea
      have pp0 := hw.out.put (k * 3) (.int .i64 m)
      have pp1 := pp0.1.put (k * 3 + 1) (.int .i64 (m + 1))
      have pp2 := pp1.1.put (k * 3 + 2) (.bool true)
      have GG := hid ((pp0.2.trans pp1.2).trans pp2.2)
      have P3 := hid pp2.1
      have HL := hid (show (((ds.set (k * 3) (.int .i64 m)).set (k * 3 + 1) (.int .i64 (m + 1))).set (k * 3 + 2) (.bool true)).length = n * 3 by simp only [List.length_set]; exact HD.out)
      clear pp0 pp1 pp2 hgb
      generalize ds[k * 3] = y0 at *
      generalize ds[k * 3 + 1] = y1 at *
      generalize ds[k * 3 + 2] = y2 at *
      clear hlx
      go_wp2_with fail
      go_roundw
      case rel => exact ⟨k + 1, _, _, by omega, by go_num, rfl, hid (by have := HM.out; omega), HL, P3, hid (hg.out.trans GG.out)⟩
      case measure => simp [intOf]; omega
    · obtain rfl : k = n := by omega
      go_wp2_with fail
      go_ret
      exact ⟨ret_int HM.out, hg.out⟩
set_option maxRecDepth 100000 in
set_option maxHeartbeats 1600000 in
theorem heldLog_one (a : Option Addr) (n cap : Nat) (hn : n ≤ 1048576) (w : World) (hs : CellsOf w a (enMarks (n * 3))) :
    Calls Tryd.prog 28 #[.slice a n cap, .int .i64 1] w fun e w' => e = .returned (.int .i64 (1 + (n * 3 : Nat) : Nat)) ∧ Gr w w' := by
  have HS := hid hs
  clear hs
  go_enter Tryd.func28, Tryd.ntmps28
  go_wp2_with fail
  go_loopw [1, 5] (fun q i wr => ∃ k : Nat, k ≤ n ∧ i = .int .i64 k ∧ q = .int .i64 (1 + (k * 3 : Nat) : Nat) ∧ Hid (Gr w wr)) (fun _ i _ => n - (intOf i).toNat)
  case atStart => exact ⟨0, Nat.zero_le _, rfl, by simp, hid (Gr.refl _)⟩
  case round =>
    obtain ⟨k, hk, rfl, rfl, hg⟩ := hrel
    by_cases hlt : k < n
    · obtain ⟨m, hm⟩ : ∃ m : Int, m = ((1 + k * 3 : Nat) : Int) := ⟨_, rfl⟩
      have HM := hid hm
      have e0 := enMark_0 k
      have e1 := enMark_1 k
      have e2 := enMark_2 k
      rw [← hm] at e0 e1 ⊢
      have hm0 : 0 ≤ m := by omega
      have hm1 : m ≤ 5000000 := by omega
      have hmd : (m + 1 + 1) % 3 = 0 := by omega
      clear hm
      obtain ⟨b, off, rfl, c0⟩ := (HS.out.gr hg.out).at_ (enMarks_get (i := k * 3) (by omega))
      obtain ⟨b1, off1, ea1, c1⟩ := (HS.out.gr hg.out).at_ (enMarks_get (i := k * 3 + 1) (by omega))
      cases ea1
      obtain ⟨b2, off2, ea2, c2⟩ := (HS.out.gr hg.out).at_ (enMarks_get (i := k * 3 + 2) (by omega))
      cases ea2
      rw [e0] at c0
      rw [e1, ← Nat.add_assoc] at c1
      rw [e2, ← Nat.add_assoc] at c2
      clear e0 e1 e2
      go_wp2_with fail
      go_roundw
      case rel => exact ⟨k + 1, by omega, by go_num, by rw [show m = ((1 + k * 3 : Nat) : Int) from HM.out]; go_num, hg⟩
      case measure => simp [intOf]; omega
    · have hkn : k = n := by omega
      have HK := hid hkn
      clear hkn
      go_wp2_with fail
      go_ret
      exact ⟨ret_int (by rw [HK.out]), hg.out⟩
set_option maxRecDepth 100000 in
set_option maxHeartbeats 1600000 in
theorem heldEntryS_one (a : Option Addr) (n cap : Nat) (hn : n ≤ 1048576) (w : World) (hs : CellsOf w a (enMarks (n * 3))) :
    Calls Tryd.prog 23 #[.slice a n cap, .int .i64 1] w fun e w' => e = .returned (.int .i64 (1 + (n * 3 : Nat) : Nat)) ∧ Gr w w' := by
  have HS := hid hs
  clear hs
  go_enter Tryd.func23, Tryd.ntmps23
  go_wp2_with fail
  go_loopw [1, 5] (fun q i wr => ∃ k : Nat, k ≤ n ∧ i = .int .i64 k ∧ q = .int .i64 (1 + (k * 3 : Nat) : Nat) ∧ Hid (Gr w wr)) (fun _ i _ => n - (intOf i).toNat)
  case atStart => exact ⟨0, Nat.zero_le _, rfl, by simp, hid (Gr.refl _)⟩
  case round =>
    obtain ⟨k, hk, rfl, rfl, hg⟩ := hrel
    by_cases hlt : k < n
    · obtain ⟨m, hm⟩ : ∃ m : Int, m = ((1 + k * 3 : Nat) : Int) := ⟨_, rfl⟩
      have HM := hid hm
      have e0 := enMark_0 k
      have e1 := enMark_1 k
      have e2 := enMark_2 k
      rw [← hm] at e0 e1 ⊢
      have hm0 : 0 ≤ m := by omega
      have hm1 : m ≤ 5000000 := by omega
      have hmd : (m + 1 + 1) % 3 = 0 := by omega
      clear hm
      obtain ⟨b, off, rfl, c0⟩ := (HS.out.gr hg.out).at_ (enMarks_get (i := k * 3) (by omega))
      obtain ⟨b1, off1, ea1, c1⟩ := (HS.out.gr hg.out).at_ (enMarks_get (i := k * 3 + 1) (by omega))
      cases ea1
      obtain ⟨b2, off2, ea2, c2⟩ := (HS.out.gr hg.out).at_ (enMarks_get (i := k * 3 + 2) (by omega))
      cases ea2
      rw [e0] at c0
      rw [e1, ← Nat.add_assoc] at c1
      rw [e2, ← Nat.add_assoc] at c2
      clear e0 e1 e2
      go_wp2_with fail
      go_roundw
      case rel => exact ⟨k + 1, by omega, by go_num, by rw [show m = ((1 + k * 3 : Nat) : Int) from HM.out]; go_num, hg⟩
      case measure => simp [intOf]; omega
    · have hkn : k = n := by omega
      have HK := hid hkn
      clear hkn
      go_wp2_with fail
      go_ret
      exact ⟨ret_int (by rw [HK.out]), hg.out⟩
end Go.Proofs.YtlgfibiggiknjaaDoor
