/- Lists of times that are equal. -/
import Derived.Test.YtflbjjcpkhldkaaDoorLineA
import Derived.Test.YtflbjjcpkhldkaaDoorLineT
namespace Go.Proofs.YtflbjjcpkhldkaaDoor
set_option linter.unusedVariables false
open Go.RowKit
def eqT (t u : Tm) : Bool := (t.f == u.f) && ((t.s == u.s) && ((t.c == u.c) && (t.l == u.l)))
def eqAt (ts us : List Tm) (i : Nat) : Bool := eqT (tmAt ts i) (tmAt us i)
def sameT (ts us : List Tm) : Bool := decide (ts.length = us.length) && allTo (eqAt ts us) ts.length
set_option maxRecDepth 100000 in
set_option maxHeartbeats 1600000 in
theorem spec_SameTimes_law (a : Option Addr) (n ca : Nat) (ts : List Tm) (hl : n = ts.length) (hn : n ≤ 1048576) (hf : TmFits ts) (b : Option Addr) (m cb : Nat) (us : List Tm) (hl2 : m = us.length) (hm : m ≤ 1048576) (hf2 : TmFits us) (w : World) (ha : CellsOf w a (tmCells ts)) (hb : CellsOf w b (tmCells us)) :
    Calls Tryd.prog 56 #[.slice a n ca, .slice b m cb] w fun e w' => e = .returned (.bool (sameT ts us)) ∧ Gr w w' := by
  have HA := hid ha
  have HB := hid hb
  have HL := hid hl
  have HM := hid hl2
  clear ha hb hf hf2
  by_cases hnm : n = m
  · subst hnm
    have HE := hid (show sameT ts us = allTo (eqAt ts us) n by unfold sameT; rw [← hl, ← hl2, decide_eq_true rfl]; rfl)
    have HQ := hid (show ∀ i, eqAt ts us i = (((tmAt ts i).f == (tmAt us i).f) && (((tmAt ts i).s == (tmAt us i).s) && (((tmAt ts i).c == (tmAt us i).c) && ((tmAt ts i).l == (tmAt us i).l)))) from fun _ => rfl)
    generalize sameT ts us = r at *
    clear hl hl2
    go_enter Tryd.func56, Tryd.ntmps56
    go_wp2_with fail
    go_loopw [5] (fun i wr => ∃ k : Nat, k ≤ n ∧ i = .int .i64 k ∧ Hid (allTo (eqAt ts us) k = true) ∧ Hid (Gr w wr)) (fun i _ => n - (intOf i).toNat)
    case atStart => exact ⟨0, Nat.zero_le _, rfl, hid rfl, hid (Gr.refl _)⟩
    case round =>
      obtain ⟨k, hk, rfl, hok, hg⟩ := hrel
      by_cases hlt : k < n
      · obtain ⟨b0, o0, rfl, p0, p1, p2, p3⟩ := tm_at (HA.out.gr hg.out) (i := k) (by rw [← HL.out]; exact hlt)
        obtain ⟨b1, o1, rfl, q0, q1, q2, q3⟩ := tm_at (HB.out.gr hg.out) (i := k) (by rw [← HM.out]; exact hlt)
        have HY := hid (fun (h : eqAt ts us k = true) => allTo_step hok.out h)
        have HZ := hid (fun (h : eqAt ts us k = false) => HE.out.trans (allTo_no (p := eqAt ts us) (k := n) hlt h))
        have HQk := hid (HQ.out k)
        generalize (tmAt ts k).f = x0 at *
        generalize (tmAt ts k).s = x1 at *
        generalize (tmAt ts k).c = x2 at *
        generalize (tmAt ts k).l = x3 at *
        generalize (tmAt us k).f = y0 at *
        generalize (tmAt us k).s = y1 at *
        generalize (tmAt us k).c = y2 at *
        generalize (tmAt us k).l = y3 at *
        have hb0 : (0 : Int) ≤ k := by omega
        have hb1 : (k : Int) < n := by omega
        cases e0 : (x0 == y0)
        · have HR := hid (HZ.out (by rw [HQk.out, e0]; rfl))
          clear HY HZ HQk
          go_wp2_with fail
          go_quiet (fail)
          go_wp2_with fail
          go_ret
          exact ⟨ret_bool HR.out.symm, hid (hg.out.drewN _)⟩
        cases e1 : (x1 == y1)
        · have HR := hid (HZ.out (by rw [HQk.out, e0, e1]; rfl))
          clear HY HZ HQk
          go_wp2_with fail
          go_quiet (fail)
          go_wp2_with fail
          go_ret
          exact ⟨ret_bool HR.out.symm, hid (hg.out.drewN _)⟩
        cases e2 : (x2 == y2)
        · have HR := hid (HZ.out (by rw [HQk.out, e0, e1, e2]; rfl))
          clear HY HZ HQk
          go_wp2_with fail
          go_quiet (fail)
          go_wp2_with fail
          go_ret
          exact ⟨ret_bool HR.out.symm, hid (hg.out.drewN _)⟩
        cases e3 : (x3 == y3)
        · have HR := hid (HZ.out (by rw [HQk.out, e0, e1, e2, e3]; rfl))
          clear HY HZ HQk
          go_wp2_with fail
          go_quiet (fail)
          go_wp2_with fail
          go_ret
          exact ⟨ret_bool HR.out.symm, hid (hg.out.drewN _)⟩
        · have HR := hid (HY.out (by rw [HQk.out, e0, e1, e2, e3]; rfl))
          clear HY HZ HQk
          go_wp2_with fail
          go_quiet (fail)
          go_wp2_with fail
          go_roundw
          case rel => exact ⟨k + 1, by omega, by go_num, HR, hid (hg.out.drewN _)⟩
          case measure => simp [intOf] <;> omega
      · obtain rfl : k = n := by omega
        have HR := hid (HE.out.trans hok.out)
        go_wp2_with fail
        go_ret
        exact ⟨ret_bool HR.out.symm, hg.out⟩
  · have HE := hid (show sameT ts us = false by unfold sameT; rw [← hl, ← hl2, decide_eq_false hnm]; rfl)
    have hnm' : ((n : Int) == (m : Int)) = false := by simp; omega
    have hnm2 : ¬ (n : Int) = (m : Int) := by omega
    clear hl hl2
    go_enter Tryd.func56, Tryd.ntmps56
    go_wp2_with fail
    go_ret
    exact ⟨ret_bool HE.out.symm, Gr.refl _⟩
set_option maxRecDepth 100000 in
set_option maxHeartbeats 1600000 in
theorem equalTimes_any (a : Option Addr) (n ca : Nat) (ts : List Tm) (hl : n = ts.length) (hn : n ≤ 1048576) (hf : TmFits ts) (b : Option Addr) (m cb : Nat) (us : List Tm) (hl2 : m = us.length) (hm : m ≤ 1048576) (hf2 : TmFits us) (w : World) (ha : CellsOf w a (tmCells ts)) (hb : CellsOf w b (tmCells us)) :
    Calls Tryd.prog 101 #[.slice a n ca, .slice b m cb] w fun e w' => e = .returned (.bool (sameT ts us)) ∧ Gr w w' := by
  have HA := hid ha
  have HB := hid hb
  have HL := hid hl
  have HM := hid hl2
  clear ha hb hf hf2
  by_cases hnm : n = m
  · subst hnm
    have HE := hid (show sameT ts us = allTo (eqAt ts us) n by unfold sameT; rw [← hl, ← hl2, decide_eq_true rfl]; rfl)
    have HQ := hid (show ∀ i, eqAt ts us i = (((tmAt ts i).f == (tmAt us i).f) && (((tmAt ts i).s == (tmAt us i).s) && (((tmAt ts i).c == (tmAt us i).c) && ((tmAt ts i).l == (tmAt us i).l)))) from fun _ => rfl)
    generalize sameT ts us = r at *
    clear hl hl2
    go_enter Tryd.func101, Tryd.ntmps101
    go_wp2_with fail
    go_loopw [13] (fun i wr => ∃ k : Nat, k ≤ n ∧ i = .int .i64 k ∧ Hid (allTo (eqAt ts us) k = true) ∧ Hid (Gr w wr)) (fun i _ => n - (intOf i).toNat)
    case atStart => exact ⟨0, Nat.zero_le _, rfl, hid rfl, hid (Gr.refl _)⟩
    case round =>
      obtain ⟨k, hk, rfl, hok, hg⟩ := hrel
      by_cases hlt : k < n
      · obtain ⟨b0, o0, rfl, p0, p1, p2, p3⟩ := tm_at (HA.out.gr hg.out) (i := k) (by rw [← HL.out]; exact hlt)
        obtain ⟨b1, o1, rfl, q0, q1, q2, q3⟩ := tm_at (HB.out.gr hg.out) (i := k) (by rw [← HM.out]; exact hlt)
        have HY := hid (fun (h : eqAt ts us k = true) => allTo_step hok.out h)
        have HZ := hid (fun (h : eqAt ts us k = false) => HE.out.trans (allTo_no (p := eqAt ts us) (k := n) hlt h))
        have HQk := hid (HQ.out k)
        generalize (tmAt ts k).f = x0 at *
        generalize (tmAt ts k).s = x1 at *
        generalize (tmAt ts k).c = x2 at *
        generalize (tmAt ts k).l = x3 at *
        generalize (tmAt us k).f = y0 at *
        generalize (tmAt us k).s = y1 at *
        generalize (tmAt us k).c = y2 at *
        generalize (tmAt us k).l = y3 at *
        have hb0 : (0 : Int) ≤ k := by omega
        have hb1 : (k : Int) < n := by omega
        cases e0 : (x0 == y0)
        · have HR := hid (HZ.out (by rw [HQk.out, e0]; rfl))
          clear HY HZ HQk
          go_wp2_with fail
          go_quiet (fail)
          go_wp2_with fail
          go_ret
          exact ⟨ret_bool HR.out.symm, hid (hg.out.drewN _)⟩
        cases e1 : (x1 == y1)
        · have HR := hid (HZ.out (by rw [HQk.out, e0, e1]; rfl))
          clear HY HZ HQk
          go_wp2_with fail
          go_quiet (fail)
          go_wp2_with fail
          go_ret
          exact ⟨ret_bool HR.out.symm, hid (hg.out.drewN _)⟩
        cases e2 : (x2 == y2)
        · have HR := hid (HZ.out (by rw [HQk.out, e0, e1, e2]; rfl))
          clear HY HZ HQk
          go_wp2_with fail
          go_quiet (fail)
          go_wp2_with fail
          go_ret
          exact ⟨ret_bool HR.out.symm, hid (hg.out.drewN _)⟩
        cases e3 : (x3 == y3)
        · have HR := hid (HZ.out (by rw [HQk.out, e0, e1, e2, e3]; rfl))
          clear HY HZ HQk
          go_wp2_with fail
          go_quiet (fail)
          go_wp2_with fail
          go_ret
          exact ⟨ret_bool HR.out.symm, hid (hg.out.drewN _)⟩
        · have HR := hid (HY.out (by rw [HQk.out, e0, e1, e2, e3]; rfl))
          clear HY HZ HQk
          go_wp2_with fail
          go_quiet (fail)
          go_wp2_with fail
          go_roundw
          case rel => exact ⟨k + 1, by omega, by go_num, HR, hid (hg.out.drewN _)⟩
          case measure => simp [intOf] <;> omega
      · obtain rfl : k = n := by omega
        have HR := hid (HE.out.trans hok.out)
        go_wp2_with fail
        go_ret
        exact ⟨ret_bool HR.out.symm, hg.out⟩
  · have HE := hid (show sameT ts us = false by unfold sameT; rw [← hl, ← hl2, decide_eq_false hnm]; rfl)
    have hnm' : ((n : Int) == (m : Int)) = false := by simp; omega
    have hnm2 : ¬ (n : Int) = (m : Int) := by omega
    clear hl hl2
    go_enter Tryd.func101, Tryd.ntmps101
    go_wp2_with fail
    go_ret
    exact ⟨ret_bool HE.out.symm, Gr.refl _⟩
set_option maxRecDepth 100000 in
theorem impl_SameTimes_law (a : Option Addr) (n ca : Nat) (ts : List Tm) (hl : n = ts.length) (hn : n ≤ 1048576) (hf : TmFits ts) (b : Option Addr) (m cb : Nat) (us : List Tm) (hl2 : m = us.length) (hm : m ≤ 1048576) (hf2 : TmFits us) (w : World) (ha : CellsOf w a (tmCells ts)) (hb : CellsOf w b (tmCells us)) :
    Calls Tryd.prog 60 #[.slice a n ca, .slice b m cb] w fun e w' => e = .returned (.bool (sameT ts us)) ∧ Gr w w' := by
  have HA := hid (equalTimes_any a n ca ts hl hn hf b m cb us hl2 hm hf2 w ha hb)
  clear ha hb hf hf2 hl hl2
  generalize sameT ts us = r at *
  go_enter Tryd.func60, Tryd.ntmps60
  go_wp2_with fail
  refine HA.out.mono ?_
  rintro e w1 ⟨rfl, g1⟩
  have G1 := hid g1
  clear g1
  go_wp2_with fail
  go_ret
  exact ⟨rfl, G1.out⟩
end Go.Proofs.YtflbjjcpkhldkaaDoor
