/- Logs that are equal. -/
import Derived.Test.YtflbjjcpkhldkaaEntM
import Derived.Test.YtflbjjcpkhldkaaHoistM
namespace Go.Proofs.Ytflbjjcpkhldkaa
set_option linter.unusedVariables false
open Go.RowKit
def eqEn (t u : En) : Bool := (t.t == u.t) && ((t.s == u.s) && (t.d == u.d))
def eqEAt (ts us : List En) (i : Nat) : Bool := eqEn (enAt ts i) (enAt us i)
def sameE (ts us : List En) : Bool := decide (ts.length = us.length) && allTo (eqEAt ts us) ts.length
set_option maxRecDepth 100000 in
set_option maxHeartbeats 1600000 in
theorem spec_SameLog_law (a : Option Addr) (n ca : Nat) (ts : List En) (hl : n = ts.length) (hn : n ≤ 1048576) (hf : EnFits ts) (b : Option Addr) (m cb : Nat) (us : List En) (hl2 : m = us.length) (hm : m ≤ 1048576) (hf2 : EnFits us) (w : World) (ha : CellsOf w a (enCells ts)) (hb : CellsOf w b (enCells us)) :
    Calls Try.prog 5 #[.slice a n ca, .slice b m cb] w fun e w' => e = .returned (.bool (sameE ts us)) ∧ Gr w w' := by
  have HA := hid ha
  have HB := hid hb
  have HL := hid hl
  have HM := hid hl2
  clear ha hb hf hf2
  by_cases hnm : n = m
  · subst hnm
    have HE := hid (show sameE ts us = allTo (eqEAt ts us) n by unfold sameE; rw [← hl, ← hl2, decide_eq_true rfl]; rfl)
    have HQ := hid (show ∀ i, eqEAt ts us i = (((enAt ts i).t == (enAt us i).t) && (((enAt ts i).s == (enAt us i).s) && ((enAt ts i).d == (enAt us i).d))) from fun _ => rfl)
    generalize sameE ts us = r at *
    clear hl hl2
    go_enter Try.func5, Try.ntmps5
    go_wp2_with fail
    go_loopw [5] (fun i wr => ∃ k : Nat, k ≤ n ∧ i = .int .i64 k ∧ Hid (allTo (eqEAt ts us) k = true) ∧ Hid (Gr w wr)) (fun i _ => n - (intOf i).toNat)
    case atStart => exact ⟨0, Nat.zero_le _, rfl, hid rfl, hid (Gr.refl _)⟩
    case round =>
      obtain ⟨k, hk, rfl, hok, hg⟩ := hrel
      by_cases hlt : k < n
      · obtain ⟨b0, o0, rfl, p0, p1, p2⟩ := en_at (HA.out.gr hg.out) (i := k) (by rw [← HL.out]; exact hlt)
        obtain ⟨b1, o1, rfl, q0, q1, q2⟩ := en_at (HB.out.gr hg.out) (i := k) (by rw [← HM.out]; exact hlt)
        have HY := hid (fun (h : eqEAt ts us k = true) => allTo_step hok.out h)
        have HZ := hid (fun (h : eqEAt ts us k = false) => HE.out.trans (allTo_no (p := eqEAt ts us) (k := n) hlt h))
        have HQk := hid (HQ.out k)
        generalize (enAt ts k).t = x0 at *
        generalize (enAt ts k).s = x1 at *
        generalize (enAt ts k).d = x2 at *
        generalize (enAt us k).t = y0 at *
        generalize (enAt us k).s = y1 at *
        generalize (enAt us k).d = y2 at *
        have hb0 : (0 : Int) ≤ k := by omega
        have hb1 : (k : Int) < n := by omega
        cases e0 : (x0 == y0)
        · have HR := hid (HZ.out (by rw [HQk.out, e0]; rfl))
          clear HY HZ HQk
          go_wp2_with fail
          go_quiet (fail)
          go_wp2_with fail
          go_ret
          exact ⟨ret_bool HR.out.symm, hid (hg.out.drewN _)⟩
        cases e1 : (x1 == y1)
        · have HR := hid (HZ.out (by rw [HQk.out, e0, e1]; rfl))
          clear HY HZ HQk
          go_wp2_with fail
          go_quiet (fail)
          go_wp2_with fail
          go_ret
          exact ⟨ret_bool HR.out.symm, hid (hg.out.drewN _)⟩
        cases e2 : (x2 == y2)
        · have HR := hid (HZ.out (by rw [HQk.out, e0, e1, e2]; rfl))
          clear HY HZ HQk
          go_wp2_with fail
          go_quiet (fail)
          go_wp2_with fail
          go_ret
          exact ⟨ret_bool HR.out.symm, hid (hg.out.drewN _)⟩
        · have HR := hid (HY.out (by rw [HQk.out, e0, e1, e2]; rfl))
          clear HY HZ HQk
          go_wp2_with fail
          go_quiet (fail)
          go_wp2_with fail
          go_roundw
          case rel => exact ⟨k + 1, by omega, by go_num, HR, hid (hg.out.drewN _)⟩
          case measure => simp [intOf] <;> omega
      · obtain rfl : k = n := by omega
        have HR := hid (HE.out.trans hok.out)
        go_wp2_with fail
        go_ret
        exact ⟨ret_bool HR.out.symm, hg.out⟩
  · have HE := hid (show sameE ts us = false by unfold sameE; rw [← hl, ← hl2, decide_eq_false hnm]; rfl)
    have hnm' : ((n : Int) == (m : Int)) = false := by simp; omega
    have hnm2 : ¬ (n : Int) = (m : Int) := by omega
    clear hl hl2
    go_enter Try.func5, Try.ntmps5
    go_wp2_with fail
    go_ret
    exact ⟨ret_bool HE.out.symm, Gr.refl _⟩
set_option maxRecDepth 100000 in
set_option maxHeartbeats 1600000 in
theorem equalLog_any (a : Option Addr) (n ca : Nat) (ts : List En) (hl : n = ts.length) (hn : n ≤ 1048576) (hf : EnFits ts) (b : Option Addr) (m cb : Nat) (us : List En) (hl2 : m = us.length) (hm : m ≤ 1048576) (hf2 : EnFits us) (w : World) (ha : CellsOf w a (enCells ts)) (hb : CellsOf w b (enCells us)) :
    Calls Try.prog 10 #[.slice a n ca, .slice b m cb] w fun e w' => e = .returned (.bool (sameE ts us)) ∧ Gr w w' := by
  have HA := hid ha
  have HB := hid hb
  have HL := hid hl
  have HM := hid hl2
  clear ha hb hf hf2
  by_cases hnm : n = m
  · subst hnm
    have HE := hid (show sameE ts us = allTo (eqEAt ts us) n by unfold sameE; rw [← hl, ← hl2, decide_eq_true rfl]; rfl)
    have HQ := hid (show ∀ i, eqEAt ts us i = (((enAt ts i).t == (enAt us i).t) && (((enAt ts i).s == (enAt us i).s) && ((enAt ts i).d == (enAt us i).d))) from fun _ => rfl)
    generalize sameE ts us = r at *
    clear hl hl2
    go_enter Try.func10, Try.ntmps10
    go_wp2_with fail
    go_loopw [13] (fun i wr => ∃ k : Nat, k ≤ n ∧ i = .int .i64 k ∧ Hid (allTo (eqEAt ts us) k = true) ∧ Hid (Gr w wr)) (fun i _ => n - (intOf i).toNat)
    case atStart => exact ⟨0, Nat.zero_le _, rfl, hid rfl, hid (Gr.refl _)⟩
    case round =>
      obtain ⟨k, hk, rfl, hok, hg⟩ := hrel
      by_cases hlt : k < n
      · obtain ⟨b0, o0, rfl, p0, p1, p2⟩ := en_at (HA.out.gr hg.out) (i := k) (by rw [← HL.out]; exact hlt)
        obtain ⟨b1, o1, rfl, q0, q1, q2⟩ := en_at (HB.out.gr hg.out) (i := k) (by rw [← HM.out]; exact hlt)
        have HY := hid (fun (h : eqEAt ts us k = true) => allTo_step hok.out h)
        have HZ := hid (fun (h : eqEAt ts us k = false) => HE.out.trans (allTo_no (p := eqEAt ts us) (k := n) hlt h))
        have HQk := hid (HQ.out k)
        generalize (enAt ts k).t = x0 at *
        generalize (enAt ts k).s = x1 at *
        generalize (enAt ts k).d = x2 at *
        generalize (enAt us k).t = y0 at *
        generalize (enAt us k).s = y1 at *
        generalize (enAt us k).d = y2 at *
        have hb0 : (0 : Int) ≤ k := by omega
        have hb1 : (k : Int) < n := by omega
        cases e0 : (x0 == y0)
        · have HR := hid (HZ.out (by rw [HQk.out, e0]; rfl))
          clear HY HZ HQk
          go_wp2_with fail
          go_quiet (fail)
          go_wp2_with fail
          go_ret
          exact ⟨ret_bool HR.out.symm, hid (hg.out.drewN _)⟩
        cases e1 : (x1 == y1)
        · have HR := hid (HZ.out (by rw [HQk.out, e0, e1]; rfl))
          clear HY HZ HQk
          go_wp2_with fail
          go_quiet (fail)
          go_wp2_with fail
          go_ret
          exact ⟨ret_bool HR.out.symm, hid (hg.out.drewN _)⟩
        cases e2 : (x2 == y2)
        · have HR := hid (HZ.out (by rw [HQk.out, e0, e1, e2]; rfl))
          clear HY HZ HQk
          go_wp2_with fail
          go_quiet (fail)
          go_wp2_with fail
          go_ret
          exact ⟨ret_bool HR.out.symm, hid (hg.out.drewN _)⟩
        · have HR := hid (HY.out (by rw [HQk.out, e0, e1, e2]; rfl))
          clear HY HZ HQk
          go_wp2_with fail
          go_quiet (fail)
          go_wp2_with fail
          go_roundw
          case rel => exact ⟨k + 1, by omega, by go_num, HR, hid (hg.out.drewN _)⟩
          case measure => simp [intOf] <;> omega
      · obtain rfl : k = n := by omega
        have HR := hid (HE.out.trans hok.out)
        go_wp2_with fail
        go_ret
        exact ⟨ret_bool HR.out.symm, hg.out⟩
  · have HE := hid (show sameE ts us = false by unfold sameE; rw [← hl, ← hl2, decide_eq_false hnm]; rfl)
    have hnm' : ((n : Int) == (m : Int)) = false := by simp; omega
    have hnm2 : ¬ (n : Int) = (m : Int) := by omega
    clear hl hl2
    go_enter Try.func10, Try.ntmps10
    go_wp2_with fail
    go_ret
    exact ⟨ret_bool HE.out.symm, Gr.refl _⟩
set_option maxRecDepth 100000 in
theorem impl_SameLog_law (a : Option Addr) (n ca : Nat) (ts : List En) (hl : n = ts.length) (hn : n ≤ 1048576) (hf : EnFits ts) (b : Option Addr) (m cb : Nat) (us : List En) (hl2 : m = us.length) (hm : m ≤ 1048576) (hf2 : EnFits us) (w : World) (ha : CellsOf w a (enCells ts)) (hb : CellsOf w b (enCells us)) :
    Calls Try.prog 7 #[.slice a n ca, .slice b m cb] w fun e w' => e = .returned (.bool (sameE ts us)) ∧ Gr w w' := by
  have HA := hid (equalLog_any a n ca ts hl hn hf b m cb us hl2 hm hf2 w ha hb)
  clear ha hb hf hf2 hl hl2
  generalize sameE ts us = r at *
  go_enter Try.func7, Try.ntmps7
  go_wp2_with fail
  refine HA.out.mono ?_
  rintro e w1 ⟨rfl, g1⟩
  have G1 := hid g1
  clear g1
  go_wp2_with fail
  go_ret
  exact ⟨rfl, G1.out⟩
end Go.Proofs.Ytflbjjcpkhldkaa
