/- Slices of entries: marks that are held. -/
import Derived.Test.YtnkoakneffjkbaaDoorEntMk
namespace Go.Proofs.YtnkoakneffjkbaaDoor
set_option linter.unusedVariables false
open Go.RowKit
set_option maxRecDepth 100000 in
set_option maxHeartbeats 1600000 in
theorem markLog_from (a : Option Addr) (n cap lo hi q : Nat) (cs : List Value) (hc : cs.length = n * 3) (hn : n ≤ 1048576) (hq : q ≤ 1048576) (w : World) (ho : OwnV 58 3 w lo hi (.slice a n cap) n cs) :
    Calls Tryd.prog 13 #[.slice a n cap, .int .i64 (1 + (q : Int) * 3)] w fun e w' => e = .returned (.int .i64 (1 + ((q : Int) + (n : Int)) * 3)) ∧ w.grownBy w' (Value.slice a n cap).ownBlock := by
  have HO := hid ho
  have HC := hid hc
  clear ho hc
  go_enter Tryd.func13, Tryd.ntmps13
  go_wp2_with fail
  go_loopw [1, 5] (fun qv i wr => ∃ (k : Nat) (m : Int) (ds : List Value), k ≤ n ∧ i = .int .i64 k ∧ qv = .int .i64 m ∧ Hid (m = 1 + ((q : Int) + (k : Int)) * 3) ∧ Hid (ds.length = n * 3) ∧ Hid (OwnV 58 3 wr lo hi (.slice a n cap) n ds) ∧ Hid (w.grownBy wr (Value.slice a n cap).ownBlock)) (fun _ i _ => n - (intOf i).toNat)
  case atStart => exact ⟨0, _, cs, Nat.zero_le _, rfl, rfl, hid (by omega), HC, HO, hid ⟨rfl, rfl, rfl, Nat.le_refl _, fun _ _ _ => rfl⟩⟩
  case round =>
    obtain ⟨k, m, ds, hk, rfl, rfl, HM, HD, hw, hg⟩ := hrel
    by_cases hlt : k < n
    · have hm0 : 0 ≤ m := by have := HM.out; omega
      have hm1 : m ≤ 50000000 := by have := HM.out; omega
      have hmd : (m + 1 + 1) % 3 = 0 := by have := HM.out; omega
      have hlx : k * 3 + 3 ≤ ds.length := by rw [HD.out]; omega
      obtain ⟨g, ea, hgb, hc0, hf0⟩ := hw.out.at_ (i := k * 3) (List.getElem?_eq_getElem (by omega))
      subst ea
      obtain ⟨g1, ea, _, hc1, hf1⟩ := hw.out.at_ (i := k * 3 + 1) (List.getElem?_eq_getElem (by omega))
      cases ea
      obtain ⟨g2, ea, _, hc2, hf2⟩ := hw.out.at_ (i := k * 3 + 2) (List.getElem?_eq_getElem (by omega))
      cases ea
      have pp0 := hw.out.put (k * 3) (.int .i64 m)
      have pp1 := pp0.1.put (k * 3 + 1) (.int .i64 (m + 1))
      have pp2 := pp1.1.put (k * 3 + 2) (.bool true)
      have GG := hid ((pp0.2.trans pp1.2).trans pp2.2)
      have P3 := hid pp2.1
      have HL := hid (show (((ds.set (k * 3) (.int .i64 m)).set (k * 3 + 1) (.int .i64 (m + 1))).set (k * 3 + 2) (.bool true)).length = n * 3 by simp only [List.length_set]; exact HD.out)
      clear pp0 pp1 pp2 hgb
      generalize ds[k * 3] = y0 at *
      generalize ds[k * 3 + 1] = y1 at *
      generalize ds[k * 3 + 2] = y2 at *
      clear hlx
      go_wp2_with fail
      go_roundw
      case rel => exact ⟨k + 1, _, _, by omega, by go_num, rfl, hid (by have := HM.out; omega), HL, P3, hid (hg.out.trans GG.out)⟩
      case measure => simp [intOf]; omega
    · obtain rfl : k = n := by omega
      go_wp2_with fail
      go_ret
      exact ⟨ret_int HM.out, hg.out⟩
end Go.Proofs.YtnkoakneffjkbaaDoor
