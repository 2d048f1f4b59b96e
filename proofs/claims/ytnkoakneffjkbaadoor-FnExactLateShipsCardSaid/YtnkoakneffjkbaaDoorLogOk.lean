/- Logs that are valid: the model's function. -/
import Derived.Test.YtnkoakneffjkbaaDoorUpS
import Derived.Test.YtnkoakneffjkbaaDoorFlights
namespace Go.Proofs.YtnkoakneffjkbaaDoor
set_option linter.unusedVariables false
open Go.RowKit
set_option maxRecDepth 100000 in
set_option maxHeartbeats 2000000 in
theorem l07Ok_any (a : Option Addr) (n cap : Nat) (es : List En) (hl : n = es.length) (hn : n ≤ 1048576) (w : World) (ha : CellsOf w a (enCells es)) :
    Calls Tryd.prog 29 #[.slice a n cap] w fun e w' => e = .returned (.bool (validE es)) ∧ Gr w w' := by
  have HA := hid ha
  have HL := hid hl
  have HU := hid (fun V (g : Gr w V) => l07Up_any a n cap es hl hn n (Nat.le_refl _) V (ha.gr g))
  have HV := hid (validE_split es)
  clear ha hl
  by_cases h60 : n ≤ 60
  · rw [decide_eq_true (show es.length ≤ 60 by rw [← HL.out]; exact h60), Bool.true_and, ← HL.out] at HV
    generalize hve : validE es = ve at *
    clear hve
    go_enter Tryd.func29, Tryd.ntmps29
    go_wp2_with fail
    go_loopw [3, 4] (fun b i wr => ∃ k : Nat, k ≤ n ∧ i = .int .i64 k ∧ b = .int .i64 (beforeE es k) ∧ Hid (allTo (tmOkE es) k = true) ∧ Hid (Gr w wr)) (fun _ i _ => n - (intOf i).toNat)
    case atStart => exact ⟨0, Nat.zero_le _, rfl, rfl, hid rfl, hid (Gr.refl _)⟩
    case round =>
      obtain ⟨k, hk, rfl, rfl, hok, hg⟩ := hrel
      by_cases hlt : k < n
      · obtain ⟨b0, o0, rfl, p0, p1, -⟩ := en_at (HA.out.gr hg.out) (i := k) (by rw [← HL.out]; exact hlt)
        have HQ := hid (show tmOkE es k = (rgV (enAt es k).t (beforeE es k) 100000 && rgV (enAt es k).s 0 9999) from rfl)
        have HBN := hid (before_succ es k)
        have HR0 := hid (fun V => l00In_v (n := (enAt es k).t) (a := beforeE es k) (b := 100000) rfl V)
        have HR1 := hid (fun V => l00In_v (n := (enAt es k).s) (a := 0) (b := 9999) rfl V)
        have HNO := hid (fun (h : tmOkE es k = false) => allTo_no (p := tmOkE es) (k := n) hlt h)
        have HYES := hid (fun (h : tmOkE es k = true) => allTo_step hok.out h)
        generalize (enAt es k).t = x0 at *
        generalize (enAt es k).s = x1 at *
        generalize beforeE es k = bf at *
        generalize rgV x0 bf 100000 = q0 at *
        generalize rgV x1 0 9999 = q1 at *
        have hb0 : (0 : Int) ≤ k := by omega
        have hb1 : (k : Int) < n := by omega
        cases q0
        · have HF := hid (show ve = false by rw [HV.out, HNO.out HQ.out]; rfl)
          go_wp2_with ((with_reducible refine (HR0.out _).mono ?_); rintro e w' ⟨rfl, rfl⟩)
          go_ret
          exact ⟨ret_bool HF.out.symm, hg.out⟩
        cases q1
        · have HF := hid (show ve = false by rw [HV.out, HNO.out HQ.out]; rfl)
          go_wp2_with (first | ((with_reducible refine (HR0.out _).mono ?_); rintro e w' ⟨rfl, rfl⟩) | ((with_reducible refine (HR1.out _).mono ?_); rintro e w' ⟨rfl, rfl⟩))
          go_ret
          exact ⟨ret_bool HF.out.symm, hg.out⟩
        · have HY2 := hid (HYES.out HQ.out)
          go_wp2_with (first | ((with_reducible refine (HR0.out _).mono ?_); rintro e w' ⟨rfl, rfl⟩) | ((with_reducible refine (HR1.out _).mono ?_); rintro e w' ⟨rfl, rfl⟩))
          go_roundw
          case rel => exact ⟨k + 1, by omega, by go_num, by rw [HBN.out], HY2, hg⟩
          case measure => simp [intOf]; omega
      · obtain rfl : k = n := by omega
        have HF := hid (show ve = allTo (okUp es) k by rw [HV.out, hok.out]; rfl)
        go_wp2_with fail
        refine (HU.out _ hg.out).mono ?_
        rintro e w2 ⟨v, rfl, -, g2⟩
        have G2 := hid (hg.out.trans g2)
        clear g2
        go_wp2_with fail
        go_ret
        exact ⟨ret_bool HF.out.symm, G2.out⟩
  · have HF := hid (show validE es = false by unfold validE; rw [decide_eq_false (by rw [← HL.out]; exact h60)]; rfl)
    go_enter Tryd.func29, Tryd.ntmps29
    go_wp2_with fail
    go_ret
    exact ⟨ret_bool HF.out.symm, Gr.refl _⟩
end Go.Proofs.YtnkoakneffjkbaaDoor
