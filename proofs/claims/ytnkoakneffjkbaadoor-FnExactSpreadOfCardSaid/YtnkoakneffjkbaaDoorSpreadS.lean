/- When a signal has been executed in several logs: the model's functions. -/
import Derived.Test.YtnkoakneffjkbaaDoorSpreadM
import Derived.Test.YtnkoakneffjkbaaDoorLogOk
import Derived.Test.YtnkoakneffjkbaaDoorCosts
namespace Go.Proofs.YtnkoakneffjkbaaDoor
set_option linter.unusedVariables false
open Go.RowKit
set_option maxRecDepth 100000 in
set_option maxHeartbeats 1000000 in
theorem l07First_any (a : Option Addr) (n cap : Nat) (es : List En) (hl : n = es.length) (hn : n ≤ 1048576) (s : Int) (w : World) (ha : CellsOf w a (enCells es)) :
    Calls Tryd.prog 60 #[.slice a n cap, .int .i64 s] w fun e w' => e = .returned (.int .i64 (firstT es s)) ∧ Gr w w' := by
  have HA := hid ha
  have HL := hid hl
  have HY := hid (fun k => firstFrom_yes (p := exeB es s) (n := es.length) (j := k))
  have HN := hid (fun k => firstFrom_no (p := exeB es s) (n := es.length) (j := k))
  have HG := hid (fun k => firstFrom_ge (p := exeB es s) (n := es.length) (j := k))
  have HE := hid (fun k => show exeB es s k = ((enAt es k).d && ((enAt es k).s == s)) from rfl)
  have HX := hid (show exeAt es s = firstFrom (exeB es s) es.length 0 from rfl)
  have HT := hid (show firstT es s = if exeAt es s < es.length then (enAt es (exeAt es s)).t else -1 from rfl)
  rw [← hl] at HY HN HG HX HT
  generalize firstT es s = r at *
  generalize exeAt es s = x at *
  generalize exeB es s = p at *
  clear ha hl
  go_enter Tryd.func60, Tryd.ntmps60
  go_wp2_with fail
  go_loopw [5] (fun i wr => ∃ k : Nat, k ≤ n ∧ i = .int .i64 k ∧ Hid (x = firstFrom p n k) ∧ Hid (Gr w wr)) (fun i _ => n - (intOf i).toNat)
  case atStart => exact ⟨0, Nat.zero_le _, rfl, HX, hid (Gr.refl _)⟩
  case round =>
    obtain ⟨k, hk, rfl, hx, hg⟩ := hrel
    by_cases hlt : k < n
    · obtain ⟨b, o, rfl, p0, p1, p2⟩ := en_at (HA.out.gr hg.out) (i := k) (by rw [← HL.out]; exact hlt)
      have HEK := hid (HE.out k)
      have HYK := hid (fun h => hx.out.trans (HY.out k hlt h))
      have HNK := hid (fun h => hx.out.trans (HN.out k hlt h))
      have HTK := hid (fun (h : x = k) => show r = (enAt es k).t by rw [HT.out, h, if_pos hlt])
      generalize enAt es k = y at *
      obtain ⟨yt, ys, yd⟩ := y
      dsimp only at p0 p1 p2 HEK HTK
      have hk0 : (0 : Int) ≤ k := by omega
      have hk1 : (k : Int) < n := by omega
      cases yd with
      | false =>
        have HF := hid (HNK.out (by rw [HEK.out, Bool.false_and]))
        go_wp2_with fail
        go_roundw
        case rel => exact ⟨k + 1, by omega, by go_num, HF, hg⟩
        case measure => simp [intOf]; omega
      | true =>
        cases hs : (ys == s) with
        | false =>
          have HF := hid (HNK.out (by rw [HEK.out, hs]; rfl))
          go_wp2_with fail
          go_roundw
          case rel => exact ⟨k + 1, by omega, by go_num, HF, hg⟩
          case measure => simp [intOf]; omega
        | true =>
          have HF := hid (HTK.out (HYK.out (by rw [HEK.out, hs]; rfl)))
          go_wp2_with fail
          go_ret
          exact ⟨ret_int HF.out.symm, hg.out⟩
    · have HF := hid (show r = -1 by rw [HT.out, hx.out, HG.out k (by omega), if_neg (Nat.lt_irrefl _)])
      go_wp2_with fail
      go_ret
      exact ⟨ret_int HF.out.symm, hg.out⟩
set_option maxRecDepth 100000 in
set_option maxHeartbeats 2000000 in
theorem l07Spread_any (a : Option Addr) (n cap : Nat) (ls : List Lg) (hl : n = ls.length) (hn : n ≤ 1048576) (s : Int) (w : World) (ha : LogsAt w a ls) :
    Calls Tryd.prog 55 #[.slice a n cap, .int .i64 s] w fun e w' => e = .returned (.tuple #[.int .i64 (lowTo ls s n), .int .i64 (highTo ls s n)]) ∧ Gr w w' := by
  have HA := hid ha
  have HL := hid hl
  have HLO := hid (fun k => show lowTo ls s (k + 1) = if 0 ≤ firstT (lgAt ls k).es s ∧ (lowTo ls s k < 0 ∨ firstT (lgAt ls k).es s < lowTo ls s k) then firstT (lgAt ls k).es s else lowTo ls s k from rfl)
  have HHI := hid (fun k => show highTo ls s (k + 1) = max (highTo ls s k) (firstT (lgAt ls k).es s) from rfl)
  have HFT := hid (fun k V (h : LgOk V (lgAt ls k)) => l07First_any (lgAt ls k).a (lgAt ls k).es.length (lgAt ls k).c (lgAt ls k).es rfl h.len s V h.reads)
  clear ha hl
  go_enter Tryd.func55, Tryd.ntmps55
  go_wp2_with fail
  go_loopw [6, 7, 8, 9] (fun lv hv iv _ wr => ∃ k : Nat, k ≤ n ∧ iv = .int .i64 k ∧ lv = .int .i64 (lowTo ls s k) ∧ hv = .int .i64 (highTo ls s k) ∧ Hid (Gr w wr)) (fun _ _ iv _ _ => n - (intOf iv).toNat)
  case atStart => exact ⟨0, Nat.zero_le _, rfl, rfl, rfl, hid (Gr.refl _)⟩
  case round =>
    obtain ⟨k, hk, rfl, rfl, rfl, hg⟩ := hrel
    by_cases hlt : k < n
    · obtain ⟨b, o, rfl, hc, hok⟩ := (HA.out.gr hg.out) k (by rw [← HL.out]; exact hlt)
      have HC := hid (HFT.out k wr hok)
      have HL1 := hid (HLO.out k)
      have HH1 := hid (HHI.out k)
      unfold Lg.val at hc
      generalize firstT (lgAt ls k).es s = t at *
      generalize hq1 : lowTo ls s (k + 1) = l1 at *
      generalize hq2 : highTo ls s (k + 1) = h1 at *
      have HQ1 := hid hq1
      have HQ2 := hid hq2
      clear hq1 hq2
      generalize hl0 : lowTo ls s k = l0 at *
      generalize hh0 : highTo ls s k = h0 at *
      generalize (lgAt ls k).es.length = m at *
      have HL0 := hid hl0
      have HH0 := hid hh0
      clear hl0 hh0 hok HLO HHI HFT
      have HM := hid (fun V => l00Max_any h0 t V)
      have hk0 : (0 : Int) ≤ k := by omega
      have hk1 : (k : Int) < n := by omega
      by_cases ht : 0 ≤ t
      · by_cases h2 : l0 < 0
        · have HV := hid (show l1 = t by rw [HL1.out, if_pos ⟨ht, .inl h2⟩])
          go_wp2_with fail
          refine HC.out.mono ?_
          rintro e w2 ⟨rfl, g2⟩
          have G2 := hid (hg.out.trans g2)
          clear g2
          go_wp2_with fail
          refine (HM.out _).mono ?_
          rintro e w3 ⟨rfl, rfl⟩
          go_wp2_with fail
          go_roundw
          case rel => exact ⟨k + 1, by omega, by go_num, by rw [HQ1.out, HV.out], by rw [HQ2.out, HH1.out], G2⟩
          case measure => simp [intOf]; omega
        · by_cases h3 : t < l0
          · have HV := hid (show l1 = t by rw [HL1.out, if_pos ⟨ht, .inr h3⟩])
            go_wp2_with fail
            refine HC.out.mono ?_
            rintro e w2 ⟨rfl, g2⟩
            have G2 := hid (hg.out.trans g2)
            clear g2
            go_wp2_with fail
            refine (HM.out _).mono ?_
            rintro e w3 ⟨rfl, rfl⟩
            go_wp2_with fail
            go_roundw
            case rel => exact ⟨k + 1, by omega, by go_num, by rw [HQ1.out, HV.out], by rw [HQ2.out, HH1.out], G2⟩
            case measure => simp [intOf]; omega
          · have HV := hid (show l1 = l0 by rw [HL1.out, if_neg (by omega)])
            go_wp2_with fail
            refine HC.out.mono ?_
            rintro e w2 ⟨rfl, g2⟩
            have G2 := hid (hg.out.trans g2)
            clear g2
            go_wp2_with fail
            refine (HM.out _).mono ?_
            rintro e w3 ⟨rfl, rfl⟩
            go_wp2_with fail
            go_roundw
            case rel => exact ⟨k + 1, by omega, by go_num, by rw [HQ1.out, HV.out], by rw [HQ2.out, HH1.out], G2⟩
            case measure => simp [intOf]; omega
      · have HV := hid (show l1 = l0 by rw [HL1.out, if_neg (by omega)])
        go_wp2_with fail
        refine HC.out.mono ?_
        rintro e w2 ⟨rfl, g2⟩
        have G2 := hid (hg.out.trans g2)
        clear g2
        go_wp2_with fail
        refine (HM.out _).mono ?_
        rintro e w3 ⟨rfl, rfl⟩
        go_wp2_with fail
        go_roundw
        case rel => exact ⟨k + 1, by omega, by go_num, by rw [HQ1.out, HV.out], by rw [HQ2.out, HH1.out], G2⟩
        case measure => simp [intOf]; omega
    · have hkn : k = n := by omega
      subst hkn
      go_wp2_with fail
      go_ret2
      exact ⟨rfl, hg.out⟩
set_option maxRecDepth 100000 in
set_option maxHeartbeats 1000000 in
theorem l07Logs_any (a : Option Addr) (n cap : Nat) (ls : List Lg) (hl : n = ls.length) (hn : n ≤ 1048576) (w : World) (ha : LogsAt w a ls) :
    Calls Tryd.prog 53 #[.slice a n cap] w fun e w' => e = .returned (.int .i64 (lgC ls)) ∧ Gr w w' := by
  have HA := hid ha
  have HL := hid hl
  have HOK := hid (fun k V (h : LgOk V (lgAt ls k)) => l07Ok_any (lgAt ls k).a (lgAt ls k).es.length (lgAt ls k).c (lgAt ls k).es rfl h.len V h.reads)
  have HV := hid (fun k => show lgV ls k = validE (lgAt ls k).es from rfl)
  have H1 := hid (fun i (hi : i < n) (h : lgV ls i = false) => lgC_bad (ls := ls) (by unfold allV; exact allTo_no (show i < ls.length by omega) h))
  have H2 := hid (fun (h : allTo (lgV ls) n = true) h2 => lgC_many (ls := ls) (by unfold allV; rw [← hl]; exact h) h2)
  have H3 := hid (fun (h : allTo (lgV ls) n = true) h2 => lgC_ok (ls := ls) (by unfold allV; rw [← hl]; exact h) h2)
  have HIN := hid (fun V => l00In_v (n := (n : Int)) (a := 1) (b := 8) (r := rgV (n : Int) 1 8) rfl V)
  rw [← hl] at H2 H3
  generalize lgC ls = c at *
  clear ha hl
  go_enter Tryd.func53, Tryd.ntmps53
  go_wp2_with fail
  go_loopw [3] (fun i wr => ∃ k : Nat, k ≤ n ∧ i = .int .i64 k ∧ Hid (allTo (lgV ls) k = true) ∧ Hid (Gr w wr)) (fun i _ => n - (intOf i).toNat)
  case atStart => exact ⟨0, Nat.zero_le _, rfl, hid rfl, hid (Gr.refl _)⟩
  case round =>
    obtain ⟨k, hk, rfl, hok, hg⟩ := hrel
    by_cases hlt : k < n
    · obtain ⟨b, o, rfl, hc, hlg⟩ := (HA.out.gr hg.out) k (by rw [← HL.out]; exact hlt)
      have HC := hid (HOK.out k wr hlg)
      have HST := hid (fun (h : lgV ls k = true) => allTo_step hok.out h)
      have H1K := hid (H1.out k hlt)
      rw [← HV.out k] at HC
      unfold Lg.val at hc
      generalize (lgAt ls k).es.length = m at *
      have hk0 : (0 : Int) ≤ k := by omega
      have hk1 : (k : Int) < n := by omega
      clear hlg H1 H2 H3 HOK HV HIN
      cases hv : lgV ls k with
      | false =>
        rw [hv] at HC
        have HZ := hid (H1K.out hv)
        clear hv HST H1K
        go_wp2_with fail
        refine HC.out.mono ?_
        rintro e w2 ⟨rfl, g2⟩
        have G2 := hid (hg.out.trans g2)
        clear g2
        go_wp2_with fail
        go_ret
        exact ⟨ret_int HZ.out.symm, G2.out⟩
      | true =>
        rw [hv] at HC
        have HZ := hid (HST.out hv)
        clear hv HST H1K
        go_wp2_with fail
        refine HC.out.mono ?_
        rintro e w2 ⟨rfl, g2⟩
        have G2 := hid (hg.out.trans g2)
        clear g2
        go_wp2_with fail
        go_roundw
        case rel => exact ⟨k + 1, by omega, by go_num, HZ, G2⟩
        case measure => simp [intOf]; omega
    · have hall : allTo (lgV ls) n = true := by rw [show n = k by omega]; exact hok.out
      have HI := HIN
      cases hr : rgV (n : Int) 1 8 with
      | false =>
        rw [hr] at HI
        have HZ := hid (H2.out hall hr)
        clear hr hall H1 H2 H3 HOK HV HIN
        go_wp2_with fail
        refine (HI.out _).mono ?_
        rintro e w2 ⟨rfl, rfl⟩
        go_wp2_with fail
        go_ret
        exact ⟨ret_int HZ.out.symm, hg.out⟩
      | true =>
        rw [hr] at HI
        have HZ := hid (H3.out hall hr)
        clear hr hall H1 H2 H3 HOK HV HIN
        go_wp2_with fail
        refine (HI.out _).mono ?_
        rintro e w2 ⟨rfl, rfl⟩
        go_wp2_with fail
        go_ret
        exact ⟨ret_int HZ.out.symm, hg.out⟩
/-- Three numbers are handed back. -/
def Ret3 (x y c : Int) (w : World) (e : Ending) (w' : World) : Prop := e = .returned (.tuple #[.int .i64 x, .int .i64 y, .int .i64 c]) ∧ Gr w w'
set_option maxRecDepth 100000 in
set_option maxHeartbeats 1000000 in
theorem spec_SpreadOf_any (a : Option Addr) (n cap : Nat) (ls : List Lg) (hl : n = ls.length) (hn : n ≤ 1048576) (s : Int) (w : World) (ha : LogsAt w a ls) :
    Calls Tryd.prog 19 #[.slice a n cap, .int .i64 s] w (Ret3 (spLo ls s) (spHi ls s) (spC ls s) w) := by
  have HL := hid (l07Logs_any a n cap ls hl hn w ha)
  have HSP := hid (fun V (g : Gr w V) => l07Spread_any a n cap ls hl hn s V (ha.gr g))
  have HIN := hid (fun V => l00In_v (n := s) (a := 0) (b := 9999) (r := rgV s 0 9999) rfl V)
  by_cases h0 : lgC ls = 0
  · cases h1 : rgV s 0 9999 with
    | false =>
      obtain ⟨e1, e2, e3⟩ := sp_sig h0 h1
      rw [e1, e2, e3]
      rw [h0] at HL
      rw [h1] at HIN
      clear e1 e2 e3 h0 h1 HSP ha hl
      go_enter Tryd.func19, Tryd.ntmps19
      go_wp2_with fail
      refine HL.out.mono ?_
      rintro e w1 ⟨rfl, g1⟩
      have G1 := hid g1
      clear g1
      go_wp2_with fail
      refine (HIN.out _).mono ?_
      rintro e w2 ⟨rfl, rfl⟩
      go_wp2_with fail
      go_ret3
      exact ⟨rfl, G1.out⟩
    | true =>
      rw [h0] at HL
      rw [h1] at HIN
      by_cases h2 : lowTo ls s n < 0
      · obtain ⟨e1, e2, e3⟩ := sp_none h0 h1 (by rw [← hl]; exact h2)
        rw [e1, e2, e3]
        clear e1 e2 e3 h0 h1 ha hl
        generalize lowTo ls s n = lo at *
        generalize highTo ls s n = hi at *
        go_enter Tryd.func19, Tryd.ntmps19
        go_wp2_with fail
        refine HL.out.mono ?_
        rintro e w1 ⟨rfl, g1⟩
        have G1 := hid g1
        clear g1
        go_wp2_with fail
        refine (HIN.out _).mono ?_
        rintro e w2 ⟨rfl, rfl⟩
        go_wp2_with fail
        refine (HSP.out _ G1.out).mono ?_
        rintro e w3 ⟨rfl, g3⟩
        have G3 := hid (G1.out.trans g3)
        clear g3
        go_wp2_with fail
        go_ret3
        exact ⟨rfl, G3.out⟩
      · obtain ⟨e1, e2, e3⟩ := sp_some h0 h1 (by rw [← hl]; exact h2)
        rw [e1, e2, e3, ← hl]
        clear e1 e2 e3 h0 h1 ha hl
        generalize lowTo ls s n = lo at *
        generalize highTo ls s n = hi at *
        go_enter Tryd.func19, Tryd.ntmps19
        go_wp2_with fail
        refine HL.out.mono ?_
        rintro e w1 ⟨rfl, g1⟩
        have G1 := hid g1
        clear g1
        go_wp2_with fail
        refine (HIN.out _).mono ?_
        rintro e w2 ⟨rfl, rfl⟩
        go_wp2_with fail
        refine (HSP.out _ G1.out).mono ?_
        rintro e w3 ⟨rfl, g3⟩
        have G3 := hid (G1.out.trans g3)
        clear g3
        go_wp2_with fail
        go_ret3
        exact ⟨rfl, G3.out⟩
  · obtain ⟨e1, e2, e3⟩ := sp_lg (s := s) h0
    rw [e1, e2, e3]
    have hne : (lgC ls == 0) = false := beq_eq_false_iff_ne.2 h0
    clear e1 e2 e3 h0 HSP HIN ha hl
    generalize lgC ls = c at *
    go_enter Tryd.func19, Tryd.ntmps19
    go_wp2_with fail
    refine HL.out.mono ?_
    rintro e w1 ⟨rfl, g1⟩
    have G1 := hid g1
    clear g1
    go_wp2_with fail
    go_ret3
    exact ⟨rfl, G1.out⟩
end Go.Proofs.YtnkoakneffjkbaaDoor
