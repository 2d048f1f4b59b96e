/- When a signal has been executed in several logs: as data. -/
import Derived.Test.YtnkoakneffjkbaaDoorTabM
import Derived.Test.YtnkoakneffjkbaaDoorMust
import Derived.Test.YtnkoakneffjkbaaDoorLogOk
import Derived.Test.YtnkoakneffjkbaaDoorCosts
import Derived.Test.YtnkoakneffjkbaaDoorCommonI
import Derived.Test.YtnkoakneffjkbaaDoorUpAt
import Derived.Test.YtnkoakneffjkbaaDoorTwo7
namespace Go.Proofs.YtnkoakneffjkbaaDoor
set_option linter.unusedVariables false
open Go.RowKit
/-- An entry that executes a signal. -/
def exeB (es : List En) (s : Int) (k : Nat) : Bool := (enAt es k).d && ((enAt es k).s == s)
def exeAt (es : List En) (s : Int) : Nat := firstFrom (exeB es s) es.length 0
/-- When it was executed for the first time, -1 if it was not. -/
def firstT (es : List En) (s : Int) : Int := if exeAt es s < es.length then (enAt es (exeAt es s)).t else -1
def lowTo (ls : List Lg) (s : Int) : Nat → Int
  | 0 => -1
  | k + 1 => if 0 ≤ firstT (lgAt ls k).es s ∧ (lowTo ls s k < 0 ∨ firstT (lgAt ls k).es s < lowTo ls s k) then firstT (lgAt ls k).es s else lowTo ls s k
def highTo (ls : List Lg) (s : Int) : Nat → Int
  | 0 => -1
  | k + 1 => max (highTo ls s k) (firstT (lgAt ls k).es s)
/-- The times of those that executed it. -/
def tmsTo (ls : List Lg) (s : Int) : Nat → List Int
  | 0 => []
  | k + 1 => if exeAt (lgAt ls k).es s < (lgAt ls k).es.length then tmsTo ls s k ++ [firstT (lgAt ls k).es s] else tmsTo ls s k
theorem tmsTo_length (ls : List Lg) (s : Int) : ∀ k, (tmsTo ls s k).length ≤ k
  | 0 => Nat.le_refl _
  | k + 1 => by
    have := tmsTo_length ls s k
    rw [tmsTo]
    split
    · rw [List.length_append, List.length_singleton]; omega
    · omega
/-- The least, the greatest of a list from its first number on. -/
def minL (xs : List Int) : Nat → Int
  | 0 => xs.getD 0 0
  | k + 1 => min (minL xs k) (xs.getD (k + 1) 0)
def maxL (xs : List Int) : Nat → Int
  | 0 => xs.getD 0 0
  | k + 1 => max (maxL xs k) (xs.getD (k + 1) 0)
theorem minL_old (xs : List Int) (x : Int) : ∀ k, k < xs.length → minL (xs ++ [x]) k = minL xs k
  | 0, h => by rw [minL, minL, List.getD_eq_getElem?_getD, List.getElem?_append_left h, ← List.getD_eq_getElem?_getD]
  | k + 1, h => by
    rw [minL, minL, minL_old xs x k (by omega)]
    congr 1
    simp [List.getD, List.getElem?_append_left h]
theorem maxL_old (xs : List Int) (x : Int) : ∀ k, k < xs.length → maxL (xs ++ [x]) k = maxL xs k
  | 0, h => by rw [maxL, maxL, List.getD_eq_getElem?_getD, List.getElem?_append_left h, ← List.getD_eq_getElem?_getD]
  | k + 1, h => by
    rw [maxL, maxL, maxL_old xs x k (by omega)]
    congr 1
    simp [List.getD, List.getElem?_append_left h]
theorem minL_snoc (xs : List Int) (x : Int) (h : 0 < xs.length) : minL (xs ++ [x]) xs.length = min (minL xs (xs.length - 1)) x := by
  obtain ⟨k, hk⟩ : ∃ k, xs.length = k + 1 := ⟨xs.length - 1, by omega⟩
  rw [hk, minL, minL_old xs x k (by omega), Nat.add_sub_cancel, ← hk]
  congr 1
  simp [List.getD]
theorem maxL_snoc (xs : List Int) (x : Int) (h : 0 < xs.length) : maxL (xs ++ [x]) xs.length = max (maxL xs (xs.length - 1)) x := by
  obtain ⟨k, hk⟩ : ∃ k, xs.length = k + 1 := ⟨xs.length - 1, by omega⟩
  rw [hk, maxL, maxL_old xs x k (by omega), Nat.add_sub_cancel, ← hk]
  congr 1
  simp [List.getD]
theorem exeAt_ok {es : List En} {s : Int} (h : exeAt es s < es.length) : exeB es s (exeAt es s) = true := ((firstFrom_spec (exeB es s) es.length _ 0 rfl).2.2 h).2
/-- Both ways are one. -/
theorem spread_eq {ls : List Lg} {s : Int} : ∀ k, (∀ i, i < k → ∀ j, j < (lgAt ls i).es.length → 0 ≤ (enAt (lgAt ls i).es j).t) →
    (tmsTo ls s k = [] ∧ lowTo ls s k = -1 ∧ highTo ls s k = -1) ∨ (0 < (tmsTo ls s k).length ∧ 0 ≤ lowTo ls s k ∧ lowTo ls s k = minL (tmsTo ls s k) ((tmsTo ls s k).length - 1) ∧ highTo ls s k = maxL (tmsTo ls s k) ((tmsTo ls s k).length - 1) ∧ 0 ≤ highTo ls s k)
  | 0, _ => .inl ⟨rfl, rfl, rfl⟩
  | k + 1, hg => by
    have ih := spread_eq (ls := ls) (s := s) k (fun i hi => hg i (by omega))
    by_cases hx : exeAt (lgAt ls k).es s < (lgAt ls k).es.length
    · have ht : 0 ≤ firstT (lgAt ls k).es s := by unfold firstT; rw [if_pos hx]; exact hg k (by omega) _ hx
      have e1 : tmsTo ls s (k + 1) = tmsTo ls s k ++ [firstT (lgAt ls k).es s] := by rw [tmsTo, if_pos hx]
      have e2 : lowTo ls s (k + 1) = if 0 ≤ firstT (lgAt ls k).es s ∧ (lowTo ls s k < 0 ∨ firstT (lgAt ls k).es s < lowTo ls s k) then firstT (lgAt ls k).es s else lowTo ls s k := rfl
      have e3 : highTo ls s (k + 1) = max (highTo ls s k) (firstT (lgAt ls k).es s) := rfl
      generalize firstT (lgAt ls k).es s = t at *
      right
      rw [e1, e2, e3, List.length_append, List.length_singleton, Nat.add_sub_cancel]
      rcases ih with ⟨a, b, c⟩ | ⟨a, b, c, d, e⟩
      · rw [a, b, c, if_pos ⟨ht, .inl (by omega)⟩]
        refine ⟨by simp, ht, ?_, ?_, by omega⟩
        · show t = minL [t] 0; rfl
        · show max (-1) t = maxL [t] 0
          rw [show maxL [t] 0 = t from rfl]; omega
      · rw [minL_snoc _ _ a, maxL_snoc _ _ a, ← c, ← d]
        refine ⟨by omega, ?_, ?_, rfl, by omega⟩
        · split <;> omega
        · split <;> omega
    · have ht : firstT (lgAt ls k).es s = -1 := by unfold firstT; rw [if_neg hx]
      have e1 : tmsTo ls s (k + 1) = tmsTo ls s k := by rw [tmsTo, if_neg hx]
      have e2 : lowTo ls s (k + 1) = lowTo ls s k := by rw [lowTo, ht, if_neg (by omega)]
      have e3 : highTo ls s (k + 1) = max (highTo ls s k) (-1) := by rw [highTo, ht]
      rw [e1, e2, e3]
      rcases ih with ⟨a, b, c⟩ | ⟨a, b, c, d, e⟩
      · exact .inl ⟨a, b, by rw [c]; rfl⟩
      · exact .inr ⟨a, b, c, by rw [← d]; omega, by omega⟩
/-- The code of logs; of logs and a signal. -/
def lgC (ls : List Lg) : Int := if allV ls = true then (if rgV (ls.length : Int) 1 8 = true then 0 else 2) else 1
def lsC (ls : List Lg) (s : Int) : Int := if lgC ls = 0 then (if rgV s 0 9999 = true then 0 else 2) else lgC ls
def spC (ls : List Lg) (s : Int) : Int := if lsC ls s = 0 then (if lowTo ls s ls.length < 0 then 6 else 0) else lsC ls s
def spLo (ls : List Lg) (s : Int) : Int := if spC ls s = 0 then lowTo ls s ls.length else 0
def spHi (ls : List Lg) (s : Int) : Int := if spC ls s = 0 then highTo ls s ls.length else 0
theorem lgC_bad {ls : List Lg} (h : allV ls = false) : lgC ls = 1 := by unfold lgC; rw [h]; rfl
theorem lgC_many {ls : List Lg} (h : allV ls = true) (h2 : rgV (ls.length : Int) 1 8 = false) : lgC ls = 2 := by unfold lgC; rw [h, h2]; rfl
theorem lgC_ok {ls : List Lg} (h : allV ls = true) (h2 : rgV (ls.length : Int) 1 8 = true) : lgC ls = 0 := by unfold lgC; rw [h, h2]; rfl
theorem lgC_zero {ls : List Lg} (h : lgC ls = 0) : allV ls = true ∧ rgV (ls.length : Int) 1 8 = true := by
  cases h1 : allV ls with
  | false => rw [lgC_bad h1] at h; exact absurd h (by decide)
  | true =>
    cases h2 : rgV (ls.length : Int) 1 8 with
    | false => rw [lgC_many h1 h2] at h; exact absurd h (by decide)
    | true => exact ⟨rfl, rfl⟩
theorem sp_lg {ls : List Lg} {s : Int} (h : ¬ lgC ls = 0) : spC ls s = lgC ls ∧ spLo ls s = 0 ∧ spHi ls s = 0 := by
  have e : spC ls s = lgC ls := by unfold spC lsC; rw [if_neg h, if_neg h]
  exact ⟨e, by unfold spLo; rw [e, if_neg h], by unfold spHi; rw [e, if_neg h]⟩
theorem sp_sig {ls : List Lg} {s : Int} (h : lgC ls = 0) (h2 : rgV s 0 9999 = false) : spC ls s = 2 ∧ spLo ls s = 0 ∧ spHi ls s = 0 := by
  have e : spC ls s = 2 := by unfold spC lsC; rw [if_pos h, h2]; rfl
  exact ⟨e, by unfold spLo; rw [e]; rfl, by unfold spHi; rw [e]; rfl⟩
theorem sp_none {ls : List Lg} {s : Int} (h : lgC ls = 0) (h2 : rgV s 0 9999 = true) (h3 : lowTo ls s ls.length < 0) : spC ls s = 6 ∧ spLo ls s = 0 ∧ spHi ls s = 0 := by
  have e : spC ls s = 6 := by unfold spC lsC; rw [if_pos h, h2, if_pos rfl, if_pos rfl, if_pos h3]
  exact ⟨e, by unfold spLo; rw [e]; rfl, by unfold spHi; rw [e]; rfl⟩
theorem sp_some {ls : List Lg} {s : Int} (h : lgC ls = 0) (h2 : rgV s 0 9999 = true) (h3 : ¬ lowTo ls s ls.length < 0) : spC ls s = 0 ∧ spLo ls s = lowTo ls s ls.length ∧ spHi ls s = highTo ls s ls.length := by
  have e : spC ls s = 0 := by unfold spC lsC; rw [if_pos h, h2, if_pos rfl, if_pos rfl, if_neg h3]
  exact ⟨e, by unfold spLo; rw [if_pos e], by unfold spHi; rw [if_pos e]⟩
end Go.Proofs.YtnkoakneffjkbaaDoor

/- When a signal has been executed in several logs: the model's functions. -/
namespace Go.Proofs.YtnkoakneffjkbaaDoor
set_option linter.unusedVariables false
open Go.RowKit
set_option maxRecDepth 100000 in
set_option maxHeartbeats 1000000 in
theorem l07First_any (a : Option Addr) (n cap : Nat) (es : List En) (hl : n = es.length) (hn : n ≤ 1048576) (s : Int) (w : World) (ha : CellsOf w a (enCells es)) :
    Calls Tryd.prog 60 #[.slice a n cap, .int .i64 s] w fun e w' => e = .returned (.int .i64 (firstT es s)) ∧ Gr w w' := by
  have HA := hid ha
  have HL := hid hl
  have HY := hid (fun k => firstFrom_yes (p := exeB es s) (n := es.length) (j := k))
  have HN := hid (fun k => firstFrom_no (p := exeB es s) (n := es.length) (j := k))
  have HG := hid (fun k => firstFrom_ge (p := exeB es s) (n := es.length) (j := k))
  have HE := hid (fun k => show exeB es s k = ((enAt es k).d && ((enAt es k).s == s)) from rfl)
  have HX := hid (show exeAt es s = firstFrom (exeB es s) es.length 0 from rfl)
  have HT := hid (show firstT es s = if exeAt es s < es.length then (enAt es (exeAt es s)).t else -1 from rfl)
  rw [← hl] at HY HN HG HX HT
  generalize firstT es s = r at *
  generalize exeAt es s = x at *
  generalize exeB es s = p at *
  clear ha hl
  go_enter Tryd.func60, Tryd.ntmps60
  go_wp2_with fail
  go_loopw [5] (fun i wr => ∃ k : Nat, k ≤ n ∧ i = .int .i64 k ∧ Hid (x = firstFrom p n k) ∧ Hid (Gr w wr)) (fun i _ => n - (intOf i).toNat)
  case atStart => exact ⟨0, Nat.zero_le _, rfl, HX, hid (Gr.refl _)⟩
  case round =>
    obtain ⟨k, hk, rfl, hx, hg⟩ := hrel
    by_cases hlt : k < n
    · obtain ⟨b, o, rfl, p0, p1, p2⟩ := en_at (HA.out.gr hg.out) (i := k) (by rw [← HL.out]; exact hlt)
      have HEK := hid (HE.out k)
      have HYK := hid (fun h => hx.out.trans (HY.out k hlt h))
      have HNK := hid (fun h => hx.out.trans (HN.out k hlt h))
      have HTK := hid (fun (h : x = k) => show r = (enAt es k).t by rw [HT.out, h, if_pos hlt])
      generalize enAt es k = y at *
      obtain ⟨yt, ys, yd⟩ := y
      dsimp only at p0 p1 p2 HEK HTK
      have hk0 : (0 : Int) ≤ k := by omega
      have hk1 : (k : Int) < n := by omega
      cases yd with
      | false =>
        have HF := hid (HNK.out (by rw [HEK.out, Bool.false_and]))
        go_wp2_with fail
        go_roundw
        case rel => exact ⟨k + 1, by omega, by go_num, HF, hg⟩
        case measure => simp [intOf]; omega
      | true =>
        cases hs : (ys == s) with
        | false =>
          have HF := hid (HNK.out (by rw [HEK.out, hs]; rfl))
          go_wp2_with fail
          go_roundw
          case rel => exact ⟨k + 1, by omega, by go_num, HF, hg⟩
          case measure => simp [intOf]; omega
        | true =>
          have HF := hid (HTK.out (HYK.out (by rw [HEK.out, hs]; rfl)))
          go_wp2_with fail
          go_ret
          exact ⟨ret_int HF.out.symm, hg.out⟩
    · have HF := hid (show r = -1 by rw [HT.out, hx.out, HG.out k (by omega), if_neg (Nat.lt_irrefl _)])
      go_wp2_with fail
      go_ret
      exact ⟨ret_int HF.out.symm, hg.out⟩
set_option maxRecDepth 100000 in
set_option maxHeartbeats 2000000 in
theorem l07Spread_any (a : Option Addr) (n cap : Nat) (ls : List Lg) (hl : n = ls.length) (hn : n ≤ 1048576) (s : Int) (w : World) (ha : LogsAt w a ls) :
    Calls Tryd.prog 55 #[.slice a n cap, .int .i64 s] w fun e w' => e = .returned (.tuple #[.int .i64 (lowTo ls s n), .int .i64 (highTo ls s n)]) ∧ Gr w w' := by
  have HA := hid ha
  have HL := hid hl
  have HLO := hid (fun k => show lowTo ls s (k + 1) = if 0 ≤ firstT (lgAt ls k).es s ∧ (lowTo ls s k < 0 ∨ firstT (lgAt ls k).es s < lowTo ls s k) then firstT (lgAt ls k).es s else lowTo ls s k from rfl)
  have HHI := hid (fun k => show highTo ls s (k + 1) = max (highTo ls s k) (firstT (lgAt ls k).es s) from rfl)
  have HFT := hid (fun k V (h : LgOk V (lgAt ls k)) => l07First_any (lgAt ls k).a (lgAt ls k).es.length (lgAt ls k).c (lgAt ls k).es rfl h.len s V h.reads)
  clear ha hl
  go_enter Tryd.func55, Tryd.ntmps55
  go_wp2_with fail
  go_loopw [6, 7, 8, 9] (fun lv hv iv _ wr => ∃ k : Nat, k ≤ n ∧ iv = .int .i64 k ∧ lv = .int .i64 (lowTo ls s k) ∧ hv = .int .i64 (highTo ls s k) ∧ Hid (Gr w wr)) (fun _ _ iv _ _ => n - (intOf iv).toNat)
  case atStart => exact ⟨0, Nat.zero_le _, rfl, rfl, rfl, hid (Gr.refl _)⟩
  case round =>
    obtain ⟨k, hk, rfl, rfl, rfl, hg⟩ := hrel
    by_cases hlt : k < n
    · obtain ⟨b, o, rfl, hc, hok⟩ := (HA.out.gr hg.out) k (by rw [← HL.out]; exact hlt)
      have HC := hid (HFT.out k wr hok)
      have HL1 := hid (HLO.out k)
      have HH1 := hid (HHI.out k)
      unfold Lg.val at hc
      generalize firstT (lgAt ls k).es s = t at *
      generalize hq1 : lowTo ls s (k + 1) = l1 at *
      generalize hq2 : highTo ls s (k + 1) = h1 at *
      have HQ1 := hid hq1
      have HQ2 := hid hq2
      clear hq1 hq2
      generalize hl0 : lowTo ls s k = l0 at *
      generalize hh0 : highTo ls s k = h0 at *
      generalize (lgAt ls k).es.length = m at *
      have HL0 := hid hl0
      have HH0 := hid hh0
      clear hl0 hh0 hok HLO HHI HFT
      have HM := hid (fun V => l00Max_any h0 t V)
      have hk0 : (0 : Int) ≤ k := by omega
      have hk1 : (k : Int) < n := by omega
      by_cases ht : 0 ≤ t
      · by_cases h2 : l0 < 0
        · have HV := hid (show l1 = t by rw [HL1.out, if_pos ⟨ht, .inl h2⟩])
          go_wp2_with fail
          refine HC.out.mono ?_
          rintro e w2 ⟨rfl, g2⟩
          have G2 := hid (hg.out.trans g2)
          clear g2
          go_wp2_with fail
          refine (HM.out _).mono ?_
          rintro e w3 ⟨rfl, rfl⟩
          go_wp2_with fail
          go_roundw
          case rel => exact ⟨k + 1, by omega, by go_num, by rw [HQ1.out, HV.out], by rw [HQ2.out, HH1.out], G2⟩
          case measure => simp [intOf]; omega
        · by_cases h3 : t < l0
          · have HV := hid (show l1 = t by rw [HL1.out, if_pos ⟨ht, .inr h3⟩])
            go_wp2_with fail
            refine HC.out.mono ?_
            rintro e w2 ⟨rfl, g2⟩
            have G2 := hid (hg.out.trans g2)
            clear g2
            go_wp2_with fail
            refine (HM.out _).mono ?_
            rintro e w3 ⟨rfl, rfl⟩
            go_wp2_with fail
            go_roundw
            case rel => exact ⟨k + 1, by omega, by go_num, by rw [HQ1.out, HV.out], by rw [HQ2.out, HH1.out], G2⟩
            case measure => simp [intOf]; omega
          · have HV := hid (show l1 = l0 by rw [HL1.out, if_neg (by omega)])
            go_wp2_with fail
            refine HC.out.mono ?_
            rintro e w2 ⟨rfl, g2⟩
            have G2 := hid (hg.out.trans g2)
            clear g2
            go_wp2_with fail
            refine (HM.out _).mono ?_
            rintro e w3 ⟨rfl, rfl⟩
            go_wp2_with fail
            go_roundw
            case rel => exact ⟨k + 1, by omega, by go_num, by rw [HQ1.out, HV.out], by rw [HQ2.out, HH1.out], G2⟩
            case measure => simp [intOf]; omega
      · have HV := hid (show l1 = l0 by rw [HL1.out, if_neg (by omega)])
        go_wp2_with fail
        refine HC.out.mono ?_
        rintro e w2 ⟨rfl, g2⟩
        have G2 := hid (hg.out.trans g2)
        clear g2
        go_wp2_with fail
        refine (HM.out _).mono ?_
        rintro e w3 ⟨rfl, rfl⟩
        go_wp2_with fail
        go_roundw
        case rel => exact ⟨k + 1, by omega, by go_num, by rw [HQ1.out, HV.out], by rw [HQ2.out, HH1.out], G2⟩
        case measure => simp [intOf]; omega
    · have hkn : k = n := by omega
      subst hkn
      go_wp2_with fail
      go_ret2
      exact ⟨rfl, hg.out⟩
set_option maxRecDepth 100000 in
set_option maxHeartbeats 1000000 in
theorem l07Logs_any (a : Option Addr) (n cap : Nat) (ls : List Lg) (hl : n = ls.length) (hn : n ≤ 1048576) (w : World) (ha : LogsAt w a ls) :
    Calls Tryd.prog 53 #[.slice a n cap] w fun e w' => e = .returned (.int .i64 (lgC ls)) ∧ Gr w w' := by
  have HA := hid ha
  have HL := hid hl
  have HOK := hid (fun k V (h : LgOk V (lgAt ls k)) => l07Ok_any (lgAt ls k).a (lgAt ls k).es.length (lgAt ls k).c (lgAt ls k).es rfl h.len V h.reads)
  have HV := hid (fun k => show lgV ls k = validE (lgAt ls k).es from rfl)
  have H1 := hid (fun i (hi : i < n) (h : lgV ls i = false) => lgC_bad (ls := ls) (by unfold allV; exact allTo_no (show i < ls.length by omega) h))
  have H2 := hid (fun (h : allTo (lgV ls) n = true) h2 => lgC_many (ls := ls) (by unfold allV; rw [← hl]; exact h) h2)
  have H3 := hid (fun (h : allTo (lgV ls) n = true) h2 => lgC_ok (ls := ls) (by unfold allV; rw [← hl]; exact h) h2)
  have HIN := hid (fun V => l00In_v (n := (n : Int)) (a := 1) (b := 8) (r := rgV (n : Int) 1 8) rfl V)
  rw [← hl] at H2 H3
  generalize lgC ls = c at *
  clear ha hl
  go_enter Tryd.func53, Tryd.ntmps53
  go_wp2_with fail
  go_loopw [3] (fun i wr => ∃ k : Nat, k ≤ n ∧ i = .int .i64 k ∧ Hid (allTo (lgV ls) k = true) ∧ Hid (Gr w wr)) (fun i _ => n - (intOf i).toNat)
  case atStart => exact ⟨0, Nat.zero_le _, rfl, hid rfl, hid (Gr.refl _)⟩
  case round =>
    obtain ⟨k, hk, rfl, hok, hg⟩ := hrel
    by_cases hlt : k < n
    · obtain ⟨b, o, rfl, hc, hlg⟩ := (HA.out.gr hg.out) k (by rw [← HL.out]; exact hlt)
      have HC := hid (HOK.out k wr hlg)
      have HST := hid (fun (h : lgV ls k = true) => allTo_step hok.out h)
      have H1K := hid (H1.out k hlt)
      rw [← HV.out k] at HC
      unfold Lg.val at hc
      generalize (lgAt ls k).es.length = m at *
      have hk0 : (0 : Int) ≤ k := by omega
      have hk1 : (k : Int) < n := by omega
      clear hlg H1 H2 H3 HOK HV HIN
      cases hv : lgV ls k with
      | false =>
        rw [hv] at HC
        have HZ := hid (H1K.out hv)
        clear hv HST H1K
        go_wp2_with fail
        refine HC.out.mono ?_
        rintro e w2 ⟨rfl, g2⟩
        have G2 := hid (hg.out.trans g2)
        clear g2
        go_wp2_with fail
        go_ret
        exact ⟨ret_int HZ.out.symm, G2.out⟩
      | true =>
        rw [hv] at HC
        have HZ := hid (HST.out hv)
        clear hv HST H1K
        go_wp2_with fail
        refine HC.out.mono ?_
        rintro e w2 ⟨rfl, g2⟩
        have G2 := hid (hg.out.trans g2)
        clear g2
        go_wp2_with fail
        go_roundw
        case rel => exact ⟨k + 1, by omega, by go_num, HZ, G2⟩
        case measure => simp [intOf]; omega
    · have hall : allTo (lgV ls) n = true := by rw [show n = k by omega]; exact hok.out
      have HI := HIN
      cases hr : rgV (n : Int) 1 8 with
      | false =>
        rw [hr] at HI
        have HZ := hid (H2.out hall hr)
        clear hr hall H1 H2 H3 HOK HV HIN
        go_wp2_with fail
        refine (HI.out _).mono ?_
        rintro e w2 ⟨rfl, rfl⟩
        go_wp2_with fail
        go_ret
        exact ⟨ret_int HZ.out.symm, hg.out⟩
      | true =>
        rw [hr] at HI
        have HZ := hid (H3.out hall hr)
        clear hr hall H1 H2 H3 HOK HV HIN
        go_wp2_with fail
        refine (HI.out _).mono ?_
        rintro e w2 ⟨rfl, rfl⟩
        go_wp2_with fail
        go_ret
        exact ⟨ret_int HZ.out.symm, hg.out⟩
/-- Three numbers are handed back. -/
def Ret3 (x y c : Int) (w : World) (e : Ending) (w' : World) : Prop := e = .returned (.tuple #[.int .i64 x, .int .i64 y, .int .i64 c]) ∧ Gr w w'
set_option maxRecDepth 100000 in
set_option maxHeartbeats 1000000 in
theorem spec_SpreadOf_any (a : Option Addr) (n cap : Nat) (ls : List Lg) (hl : n = ls.length) (hn : n ≤ 1048576) (s : Int) (w : World) (ha : LogsAt w a ls) :
    Calls Tryd.prog 19 #[.slice a n cap, .int .i64 s] w (Ret3 (spLo ls s) (spHi ls s) (spC ls s) w) := by
  have HL := hid (l07Logs_any a n cap ls hl hn w ha)
  have HSP := hid (fun V (g : Gr w V) => l07Spread_any a n cap ls hl hn s V (ha.gr g))
  have HIN := hid (fun V => l00In_v (n := s) (a := 0) (b := 9999) (r := rgV s 0 9999) rfl V)
  by_cases h0 : lgC ls = 0
  · cases h1 : rgV s 0 9999 with
    | false =>
      obtain ⟨e1, e2, e3⟩ := sp_sig h0 h1
      rw [e1, e2, e3]
      rw [h0] at HL
      rw [h1] at HIN
      clear e1 e2 e3 h0 h1 HSP ha hl
      go_enter Tryd.func19, Tryd.ntmps19
      go_wp2_with fail
      refine HL.out.mono ?_
      rintro e w1 ⟨rfl, g1⟩
      have G1 := hid g1
      clear g1
      go_wp2_with fail
      refine (HIN.out _).mono ?_
      rintro e w2 ⟨rfl, rfl⟩
      go_wp2_with fail
      go_ret3
      exact ⟨rfl, G1.out⟩
    | true =>
      rw [h0] at HL
      rw [h1] at HIN
      by_cases h2 : lowTo ls s n < 0
      · obtain ⟨e1, e2, e3⟩ := sp_none h0 h1 (by rw [← hl]; exact h2)
        rw [e1, e2, e3]
        clear e1 e2 e3 h0 h1 ha hl
        generalize lowTo ls s n = lo at *
        generalize highTo ls s n = hi at *
        go_enter Tryd.func19, Tryd.ntmps19
        go_wp2_with fail
        refine HL.out.mono ?_
        rintro e w1 ⟨rfl, g1⟩
        have G1 := hid g1
        clear g1
        go_wp2_with fail
        refine (HIN.out _).mono ?_
        rintro e w2 ⟨rfl, rfl⟩
        go_wp2_with fail
        refine (HSP.out _ G1.out).mono ?_
        rintro e w3 ⟨rfl, g3⟩
        have G3 := hid (G1.out.trans g3)
        clear g3
        go_wp2_with fail
        go_ret3
        exact ⟨rfl, G3.out⟩
      · obtain ⟨e1, e2, e3⟩ := sp_some h0 h1 (by rw [← hl]; exact h2)
        rw [e1, e2, e3, ← hl]
        clear e1 e2 e3 h0 h1 ha hl
        generalize lowTo ls s n = lo at *
        generalize highTo ls s n = hi at *
        go_enter Tryd.func19, Tryd.ntmps19
        go_wp2_with fail
        refine HL.out.mono ?_
        rintro e w1 ⟨rfl, g1⟩
        have G1 := hid g1
        clear g1
        go_wp2_with fail
        refine (HIN.out _).mono ?_
        rintro e w2 ⟨rfl, rfl⟩
        go_wp2_with fail
        refine (HSP.out _ G1.out).mono ?_
        rintro e w3 ⟨rfl, g3⟩
        have G3 := hid (G1.out.trans g3)
        clear g3
        go_wp2_with fail
        go_ret3
        exact ⟨rfl, G3.out⟩
  · obtain ⟨e1, e2, e3⟩ := sp_lg (s := s) h0
    rw [e1, e2, e3]
    have hne : (lgC ls == 0) = false := beq_eq_false_iff_ne.2 h0
    clear e1 e2 e3 h0 HSP HIN ha hl
    generalize lgC ls = c at *
    go_enter Tryd.func19, Tryd.ntmps19
    go_wp2_with fail
    refine HL.out.mono ?_
    rintro e w1 ⟨rfl, g1⟩
    have G1 := hid g1
    clear g1
    go_wp2_with fail
    go_ret3
    exact ⟨rfl, G1.out⟩
end Go.Proofs.YtnkoakneffjkbaaDoor

/- When a signal has been executed in several logs: the program's functions. -/
namespace Go.Proofs.YtnkoakneffjkbaaDoor
set_option linter.unusedVariables false
open Go.RowKit
set_option maxRecDepth 100000 in
set_option maxHeartbeats 1000000 in
theorem exe1_any (y : En) (s : Int) (sp : Addr) (w : World) (hs : w.cell? sp = some (.int .i64 s)) :
    Calls Tryd.prog 83 #[enV y, .pointer (some sp)] w fun e w' => e = .returned (.bool (y.d && (y.s == s))) ∧ Gr w w' := by
  obtain ⟨yt, ys, yd⟩ := y
  unfold enV
  dsimp only
  have HC := hid (fun V (g : Gr w V) => g.cell hs)
  have hc := HC.out _ ((Gr.refl w).alloc (.cells #[.int .i64 yt, .int .i64 ys, .bool yd] 58))
  clear hs
  cases yd with
  | false =>
    go_enter Tryd.func83, Tryd.ntmps83
    go_wp2_with fail
    go_ret
    exact ⟨rfl, (Gr.refl _).alloc _⟩
  | true =>
    cases h : (ys == s) with
    | false =>
      go_enter Tryd.func83, Tryd.ntmps83
      go_wp2_with fail
      go_ret
      exact ⟨rfl, (Gr.refl _).alloc _⟩
    | true =>
      go_enter Tryd.func83, Tryd.ntmps83
      go_wp2_with fail
      go_ret
      exact ⟨rfl, (Gr.refl _).alloc _⟩
set_option maxRecDepth 100000 in
set_option maxHeartbeats 1000000 in
/-- Of a log: the first entry that executes a signal, or -1. -/
theorem indexEx_any (es : List En) (n cap : Nat) (hl : n = es.length) (hn : n ≤ 1048576) (s : Int) (sp : Addr) (a : Option Addr) (w : World) (ha : CellsOf w a (enCells es)) (hs : w.cell? sp = some (.int .i64 s)) :
    Calls Tryd.prog 38 #[.slice a n cap, .func (.func 83) #[] #[.pointer (some sp)]] w fun e w' =>
      e = .returned (.int .i64 (idxV (exeB es s) n 0)) ∧ Gr w w' := by
  have HA := hid ha
  have HL := hid hl
  have hcf := callFunc_enter Tryd.func83 (by kernel_rfl) (by kernel_rfl)
  have HAG := hid (fun k V (g : Gr w V) => exe1_any (enAt es k) s sp V (g.cell hs))
  have HPE := hid (fun k => show exeB es s k = ((enAt es k).d && ((enAt es k).s == s)) from rfl)
  have HFY := hid (fun q => firstFrom_yes (p := exeB es s) (n := n) (j := q))
  have HFN := hid (fun q => firstFrom_no (p := exeB es s) (n := n) (j := q))
  have HFG := hid (fun q => firstFrom_ge (p := exeB es s) (n := n) (j := q))
  generalize exeB es s = p at *
  clear ha hl hs
  go_enter Tryd.func38, Tryd.ntmps38
  go_wp2_with fail
  go_loopw [5, 8] (fun _ iv wr => ∃ q : Nat, q ≤ n ∧ iv = .int .i64 q ∧ Hid (firstFrom p n 0 = firstFrom p n q) ∧ Hid (Gr w wr)) (fun _ iv _ => n - (intOf iv).toNat)
  case atStart => exact ⟨0, Nat.zero_le _, rfl, hid rfl, hid (Gr.refl _)⟩
  case round =>
    obtain ⟨q, hq, rfl, hf, hg⟩ := hrel
    by_cases hlt : q < n
    · obtain ⟨b, o, rfl, p0, p1, p2⟩ := en_at (HA.out.gr hg.out) (i := q) (by rw [← HL.out]; exact hlt)
      have HR := hid (range3 ⟨p0, p1, p2⟩)
      have HC := hid (HAG.out q wr hg.out)
      have HE := hid (HPE.out q)
      have HY := hid (HFY.out q hlt)
      have HN := hid (HFN.out q hlt)
      rw [← HE.out] at HC
      clear p0 p1 p2
      generalize enAt es q = y at *
      obtain ⟨yt, ys, yd⟩ := y
      unfold enV at HC
      simp only at HR HC
      have hq0 : (0 : Int) ≤ q := by omega
      have hq1 : (q : Int) < n := by omega
      cases hpq : p q with
      | false =>
        rw [hpq] at HC
        have HF := hid (hf.out.trans (HN.out hpq))
        clear hpq
        go_wp2_with (refine wpList_load_mid rfl 58 _ rfl b (o + q * 3) rfl _ _ HR.out Tryd.underlying58 rfl sizeEn ?_)
        refine HC.out.mono ?_
        rintro e w2 ⟨rfl, g2⟩
        have G2 := hid (hg.out.trans g2)
        clear g2
        go_wp2_with fail
        go_roundw
        case rel => exact ⟨q + 1, by omega, by go_num, HF, G2⟩
        case measure => simp [intOf]; omega
      | true =>
        rw [hpq] at HC
        have HF := hid (show firstFrom p n 0 = q from hf.out.trans (HY.out hpq))
        have HLT := hid hlt
        clear hpq
        go_wp2_with (refine wpList_load_mid rfl 58 _ rfl b (o + q * 3) rfl _ _ HR.out Tryd.underlying58 rfl sizeEn ?_)
        refine HC.out.mono ?_
        rintro e w2 ⟨rfl, g2⟩
        have G2 := hid (hg.out.trans g2)
        clear g2
        go_wp2_with fail
        go_ret
        exact ⟨ret_int (by unfold idxV; rw [HF.out, if_pos HLT.out]; omega), G2.out⟩
    · have HF := hid (show firstFrom p n 0 = n by rw [hf.out, HFG.out q (by omega)])
      clear hf
      go_wp2_with fail
      go_ret
      exact ⟨ret_int (by unfold idxV; rw [HF.out, if_neg (by omega)]), hg.out⟩
set_option maxRecDepth 100000 in
set_option maxHeartbeats 1000000 in
theorem executedAt_any (es : List En) (n cap : Nat) (hl : n = es.length) (hn : n ≤ 1048576) (s : Int) (a : Option Addr) (w : World) (ha : CellsOf w a (enCells es)) :
    Calls Tryd.prog 66 #[.slice a n cap, .int .i64 s] w fun e w' =>
      ((exeAt es s < n ∧ e = .returned (.tuple #[.int .i64 (firstT es s), .bool true])) ∨ (¬ exeAt es s < n ∧ e = .returned (.tuple #[.int .i64 0, .bool false]))) ∧ Gr w w' := by
  obtain ⟨W1, hW1⟩ : ∃ W1, W1 = w.alloc (.cells #[.int .i64 s] 2) := ⟨_, rfl⟩
  have GW := hid (show Gr w W1 by rw [hW1]; exact (Gr.refl w).alloc _)
  have hc : W1.cell? ⟨w.heap.size, 0, none⟩ = some (.int .i64 s) := by rw [hW1, cell_of_row _ _ _ _ _ _ (heap_new (w := w) (o := .cells #[.int .i64 s] 2) rfl)]; rfl
  have HIX := hid (indexEx_any es n cap hl hn s ⟨w.heap.size, 0, none⟩ a W1 (ha.gr GW.out) hc)
  have HIV := hid (show idxV (exeB es s) n 0 = if exeAt es s < n then (exeAt es s : Int) else -1 by unfold idxV exeAt; rw [← hl]; simp)
  have HT := hid (fun (h : exeAt es s < n) => show firstT es s = (enAt es (exeAt es s)).t by unfold firstT; rw [← hl, if_pos h])
  have HA := hid (fun V (g : Gr w V) (h : exeAt es s < n) => en_at (ha.gr g) (i := exeAt es s) (by rw [← hl]; exact h))
  have hmf : ∀ (fn : Fn) (first cap : Array Value) (w : World), (Instr.makeFunc fn first cap).run Tryd.prog w = .ok (.func fn first cap) w := fun _ _ _ _ => rfl
  have HW1 := hid hW1
  generalize idxV (exeB es s) n 0 = ix at *
  generalize hx : exeAt es s = x at *
  generalize firstT es s = t at *
  clear hc hW1 ha hl hx
  go_enter Tryd.func66, Tryd.ntmps66
  go_wp2_with fail
  rw [← HW1.out]
  refine HIX.out.mono ?_
  rintro e w2 ⟨rfl, g2⟩
  have G2 := hid (GW.out.trans g2)
  clear g2
  by_cases h : x < n
  · have hix : ix = (x : Int) := by rw [HIV.out, if_pos h]
    subst hix
    obtain ⟨b, o, rfl, p0, -, -⟩ := HA.out w2 G2.out h
    rw [← HT.out h] at p0
    have HH := hid h
    have hx0 : (0 : Int) ≤ x := by omega
    have hx1 : (x : Int) < n := by omega
    have hx2 : ¬ (x : Int) < 0 := by omega
    clear HIV HT HA HIX
    go_wp2_with fail
    go_ret2
    exact ⟨.inl ⟨HH.out, rfl⟩, G2.out⟩
  · have hix : ix = -1 := by rw [HIV.out, if_neg h]
    subst hix
    have HH := hid h
    clear HIV HT HA HIX
    go_wp2_with fail
    go_ret2
    exact ⟨.inr ⟨HH.out, rfl⟩, G2.out⟩
end Go.Proofs.YtnkoakneffjkbaaDoor

/- When a signal has been executed in several logs: the program's functions, on. -/
namespace Go.Proofs.YtnkoakneffjkbaaDoor
set_option linter.unusedVariables false
open Go.RowKit
def sigTx : ByteArray := ⟨#[115, 105, 103, 110, 97, 108]⟩
def logsTx : ByteArray := ⟨#[108, 111, 103, 115]⟩
set_option maxRecDepth 100000 in
set_option maxHeartbeats 1000000 in
theorem minInts_any (a : Option Addr) (n cap : Nat) (xs : List Int) (hl : n = xs.length) (h1 : 0 < n) (hn : n ≤ 1048576) (w : World) (hs : SliceOf .i64 w a xs) :
    Calls Tryd.prog 80 #[.slice a n cap] w fun e w' => e = .returned (.int .i64 (minL xs (n - 1))) ∧ Gr w w' := by
  have HS := hid hs
  have HL := hid hl
  have HM := hid (fun k => show minL xs (k + 1) = min (minL xs k) (xs.getD (k + 1) 0) from rfl)
  have H0 := hid (show minL xs 0 = xs.getD 0 0 from rfl)
  obtain ⟨b, o, rfl, hc0⟩ := hs 0 (by omega)
  rw [← H0.out] at hc0
  replace hc0 : w.cell? ⟨b, o, none⟩ = some (.int .i64 (minL xs 0)) := hc0
  have hn1 : ¬ (n : Int) < 1 := by omega
  have hn0 : (0 : Int) < n := by omega
  clear hs hl H0
  go_enter Tryd.func80, Tryd.ntmps80
  go_wp2_with fail
  clear hc0
  go_loopw [3, 4] (fun mv iv wr => ∃ k : Nat, k < n ∧ iv = .int .i64 ((k : Int) + 1) ∧ mv = .int .i64 (minL xs k) ∧ Hid (Gr w wr)) (fun _ iv _ => n + 1 - (intOf iv).toNat)
  case atStart => exact ⟨0, h1, rfl, rfl, hid (Gr.refl _)⟩
  case round =>
    obtain ⟨k, hk, rfl, rfl, hg⟩ := hrel
    by_cases hlt : k + 1 < n
    · obtain ⟨b2, o2, e2, hc⟩ := (HS.out.gr hg.out) (k + 1) (by rw [← HL.out]; exact hlt)
      simp only [Option.some.injEq, Addr.mk.injEq, and_true] at e2
      obtain ⟨rfl, rfl⟩ := e2
      have HMK := hid (HM.out k)
      generalize hq : minL xs (k + 1) = q at *
      have HQ := hid hq
      clear hq HM
      generalize minL xs k = m0 at *
      generalize xs.getD (k + 1) 0 = v at *
      have hk0 : (0 : Int) ≤ (k : Int) + 1 := by omega
      have hk1 : (k : Int) + 1 < n := by omega
      go_wp2_with fail
      all_goals
        go_roundw
        case rel => exact ⟨k + 1, hlt, by go_num, by rw [HQ.out, HMK.out]; exact congrArg (Value.int .i64) (by omega), hg⟩
        case measure => simp [intOf]; omega
    · have HK := hid (show n - 1 = k by omega)
      have hk1 : ¬ (k : Int) + 1 < n := by omega
      go_wp2_with fail
      go_ret
      exact ⟨by rw [HK.out]; rfl, hg.out⟩
set_option maxRecDepth 100000 in
set_option maxHeartbeats 1000000 in
theorem maxInts_any (a : Option Addr) (n cap : Nat) (xs : List Int) (hl : n = xs.length) (h1 : 0 < n) (hn : n ≤ 1048576) (w : World) (hs : SliceOf .i64 w a xs) :
    Calls Tryd.prog 81 #[.slice a n cap] w fun e w' => e = .returned (.int .i64 (maxL xs (n - 1))) ∧ Gr w w' := by
  have HS := hid hs
  have HL := hid hl
  have HM := hid (fun k => show maxL xs (k + 1) = max (maxL xs k) (xs.getD (k + 1) 0) from rfl)
  have H0 := hid (show maxL xs 0 = xs.getD 0 0 from rfl)
  obtain ⟨b, o, rfl, hc0⟩ := hs 0 (by omega)
  rw [← H0.out] at hc0
  replace hc0 : w.cell? ⟨b, o, none⟩ = some (.int .i64 (maxL xs 0)) := hc0
  have hn1 : ¬ (n : Int) < 1 := by omega
  have hn0 : (0 : Int) < n := by omega
  clear hs hl H0
  go_enter Tryd.func81, Tryd.ntmps81
  go_wp2_with fail
  clear hc0
  go_loopw [3, 4] (fun mv iv wr => ∃ k : Nat, k < n ∧ iv = .int .i64 ((k : Int) + 1) ∧ mv = .int .i64 (maxL xs k) ∧ Hid (Gr w wr)) (fun _ iv _ => n + 1 - (intOf iv).toNat)
  case atStart => exact ⟨0, h1, rfl, rfl, hid (Gr.refl _)⟩
  case round =>
    obtain ⟨k, hk, rfl, rfl, hg⟩ := hrel
    by_cases hlt : k + 1 < n
    · obtain ⟨b2, o2, e2, hc⟩ := (HS.out.gr hg.out) (k + 1) (by rw [← HL.out]; exact hlt)
      simp only [Option.some.injEq, Addr.mk.injEq, and_true] at e2
      obtain ⟨rfl, rfl⟩ := e2
      have HMK := hid (HM.out k)
      generalize hq : maxL xs (k + 1) = q at *
      have HQ := hid hq
      clear hq HM
      generalize maxL xs k = m0 at *
      generalize xs.getD (k + 1) 0 = v at *
      have hk0 : (0 : Int) ≤ (k : Int) + 1 := by omega
      have hk1 : (k : Int) + 1 < n := by omega
      go_wp2_with fail
      all_goals
        go_roundw
        case rel => exact ⟨k + 1, hlt, by go_num, by rw [HQ.out, HMK.out]; exact congrArg (Value.int .i64) (by omega), hg⟩
        case measure => simp [intOf]; omega
    · have HK := hid (show n - 1 = k by omega)
      have hk1 : ¬ (k : Int) + 1 < n := by omega
      go_wp2_with fail
      go_ret
      exact ⟨by rw [HK.out]; rfl, hg.out⟩
set_option maxRecDepth 100000 in
set_option maxHeartbeats 4000000 in
theorem spread_any (a : Option Addr) (n cap : Nat) (ls : List Lg) (hl : n = ls.length) (hn : n ≤ 1048576) (s : Int) (w : World) (ha : LogsAt w a ls) :
    Calls Tryd.prog 58 #[.slice a n cap, .int .i64 s] w fun e w' =>
      ((tmsTo ls s n = [] ∧ e = .returned (.tuple #[.int .i64 0, .int .i64 0, .iface 80 (.string sigTx)])) ∨ (0 < (tmsTo ls s n).length ∧ e = .returned (.tuple #[.int .i64 (minL (tmsTo ls s n) ((tmsTo ls s n).length - 1)), .int .i64 (maxL (tmsTo ls s n) ((tmsTo ls s n).length - 1)), .nilIface]))) ∧ Gr w w' := by
  obtain ⟨i0, hi0, hz0, hz1, hz2⟩ := info_parts info64t
  have HA := hid ha
  have HL := hid hl
  have HEX := hid (fun k V (h : LgOk V (lgAt ls k)) => executedAt_any (lgAt ls k).es (lgAt ls k).es.length (lgAt ls k).c rfl h.len s (lgAt ls k).a V h.reads)
  have HTL := hid (tmsTo_length ls s)
  have HT1 := hid (fun k (h : exeAt (lgAt ls k).es s < (lgAt ls k).es.length) => show tmsTo ls s (k + 1) = tmsTo ls s k ++ [firstT (lgAt ls k).es s] by rw [tmsTo, if_pos h])
  have HT2 := hid (fun k (h : ¬ exeAt (lgAt ls k).es s < (lgAt ls k).es.length) => show tmsTo ls s (k + 1) = tmsTo ls s k by rw [tmsTo, if_neg h])
  clear ha hl
  go_enter Tryd.func58, Tryd.ntmps58
  go_wp2_with fail
  go_loopw [7, 9, 10, 11, 14, 18] (fun v _ _ _ iv _ wr => ∃ k : Nat, k ≤ n ∧ iv = .int .i64 k ∧ Hid (Own .i64 2 wr w.heap.size wr.heap.size v (tmsTo ls s k)) ∧ Hid (Gr w wr)) (fun _ _ _ _ iv _ _ => n - (intOf iv).toNat)
  case atStart => exact ⟨0, Nat.zero_le _, rfl, hid (Own.nil _ _ _), hid (Gr.refl _)⟩
  case round =>
    obtain ⟨k, hk, rfl, ho, hg⟩ := hrel
    obtain ⟨av, cv, rfl⟩ := ho.out.shape
    by_cases hlt : k < n
    · obtain ⟨b, o, rfl, hc, hok⟩ := (HA.out.gr hg.out) k (by rw [← HL.out]; exact hlt)
      have HC := hid (HEX.out k wr hok)
      have H1 := hid (HT1.out k)
      have H2 := hid (HT2.out k)
      have hol := HTL.out k
      unfold Lg.val at hc
      generalize firstT (lgAt ls k).es s = t at *
      generalize exeAt (lgAt ls k).es s = x at *
      generalize (lgAt ls k).es.length = m at *
      generalize hO : tmsTo ls s k = O at *
      generalize hol2 : O.length = ol at *
      have HOL := hid hol2
      have hk0 : (0 : Int) ≤ k := by omega
      have hk1 : (k : Int) < n := by omega
      clear hok HT1 HT2 HEX HTL hO hol2
      go_wp2_with fail
      refine HC.out.mono ?_
      rintro e w2 ⟨(⟨hx, rfl⟩ | ⟨hx, rfl⟩), g2⟩
      · have E1 := hid (H1.out hx)
        have G2 := hid (hg.out.trans g2)
        have O2 := hid ((ho.out.gr g2).widen (lo' := w.heap.size) (Nat.le_refl _) g2.size)
        have OR := hid O2.out.row
        rw [HOL.out] at OR
        clear g2 hx
        go_wp2_with (at_builtin; refine wpList_append_own _ rfl _ _ 44 rfl w.heap.size 2 i0 (.int .i64 0) 1 8 Tryd.underlying44 hi0 hz0 hz1 hz2 rfl (by decide) _ _ _ rfl (OR.out.alloc _) ⟨w2.heap.size, 0, none⟩ 1 1 [.int .i64 t] rfl rfl (news_ac (heap_new rfl)) (by simp [Value.oneCell']) (by unfold maxLen; omega) (by omega) (by have := G2.out.size; simp; omega) ?_; intro v4 w4 hown4 hgrow4 _)
        have O4 := hid (Own.ofRow (k := .i64) (xs := O ++ [t]) hown4 (by simp) (by rw [List.length_append, List.length_singleton, HOL.out]))
        have G4 := hid ((G2.out.alloc _).by_ hgrow4 (fun b e => (OR.out.lt b e).1))
        clear hown4 hgrow4
        go_wp2_with fail
        go_roundw
        case rel => exact ⟨k + 1, by omega, by go_num, hid (by rw [E1.out]; exact O4.out), G4⟩
        case measure => simp [intOf]; omega
      · have E2 := hid (H2.out hx)
        have G2 := hid (hg.out.trans g2)
        have O2 := hid ((ho.out.gr g2).widen (lo' := w.heap.size) (Nat.le_refl _) g2.size)
        clear g2 hx
        go_wp2_with fail
        go_roundw
        case rel => exact ⟨k + 1, by omega, by go_num, hid (by rw [E2.out]; exact O2.out), G2⟩
        case measure => simp [intOf]; omega
    · obtain rfl : k = n := by omega
      have hol := HTL.out k
      generalize hOe : tmsTo ls s k = O at *
      have HOE := hid hOe
      clear hOe
      have OO := hid ho.out
      generalize hol2 : O.length = ol at *
      have HOL := hid hol2
      by_cases h0 : ol = 0
      · have HE := hid (List.eq_nil_of_length_eq_zero (hol2.trans h0))
        subst h0
        clear hol2 ho
        go_wp2_with fail
        go_ret3
        exact ⟨.inl ⟨HOE.out.trans HE.out, rfl⟩, hg.out⟩
      · have HMN := hid (fun V (g : Gr wr V) => minInts_any av ol cv O hol2.symm (by omega) (by omega) V (OO.out.reads.gr g))
        have HMX := hid (fun V (g : Gr wr V) => maxInts_any av ol cv O hol2.symm (by omega) (by omega) V (OO.out.reads.gr g))
        have HP := hid (show 0 < ol by omega)
        have h9 : ((ol : Int) == 0) = false := beq_eq_false_iff_ne.2 (by omega)
        clear hol2 ho h0
        go_wp2_with fail
        refine (HMN.out _ (Gr.refl _)).mono ?_
        rintro e w2 ⟨rfl, g2⟩
        have G2 := hid g2
        clear g2
        go_wp2_with fail
        refine (HMX.out _ G2.out).mono ?_
        rintro e w3 ⟨rfl, g3⟩
        have G3 := hid (hg.out.trans (G2.out.trans g3))
        clear g3
        go_wp2_with fail
        go_ret3
        exact ⟨.inr ⟨by rw [HOE.out, HOL.out]; exact HP.out, by rw [HOE.out, HOL.out]; rfl⟩, G3.out⟩
set_option maxRecDepth 100000 in
set_option maxHeartbeats 1000000 in
theorem checkLogs_any (a : Option Addr) (n cap : Nat) (ls : List Lg) (hl : n = ls.length) (hn : n ≤ 1048576) (w : World) (ha : LogsAt w a ls) :
    Calls Tryd.prog 79 #[.slice a n cap] w fun e w' =>
      ((allV ls = false ∧ e = .panicked [{ v := .iface 144 (.int .i64 (badL ls)), recovered := false }]) ∨ (allV ls = true ∧ rgV (n : Int) 1 8 = false ∧ e = .returned (.iface 98 (.string logsTx))) ∨ (allV ls = true ∧ rgV (n : Int) 1 8 = true ∧ e = .returned .nilIface)) ∧ Gr w w' := by
  have HM := hid (mustBe_any a n cap ls hl hn w ha)
  have HIN := hid (fun V => isBetween_r (n := (n : Int)) (a := 1) (b := 8) (r := rgV (n : Int) 1 8) rfl V)
  clear ha hl
  go_enter Tryd.func79, Tryd.ntmps79
  go_wp2_with fail
  refine HM.out.mono ?_
  rintro e w1 (⟨hv, rfl, g1⟩ | ⟨hv, rfl, g1⟩)
  · have G1 := hid g1
    have HV := hid hv
    clear g1 hv HM
    cases hr : rgV (n : Int) 1 8 with
    | false =>
      rw [hr] at HIN
      have HR := hid hr
      clear hr
      go_wp2_with fail
      refine (HIN.out _).mono ?_
      rintro e w2 ⟨rfl, rfl⟩
      go_wp2_with fail
      go_ret
      exact ⟨.inr (.inl ⟨HV.out, HR.out, rfl⟩), G1.out⟩
    | true =>
      rw [hr] at HIN
      have HR := hid hr
      clear hr
      go_wp2_with fail
      refine (HIN.out _).mono ?_
      rintro e w2 ⟨rfl, rfl⟩
      go_wp2_with fail
      go_ret
      exact ⟨.inr (.inr ⟨HV.out, HR.out, rfl⟩), G1.out⟩
  · have G1 := hid g1
    have HV := hid hv
    clear g1 hv HM
    go_wp2_with fail
    exact ⟨rfl, .inl ⟨HV.out, rfl⟩, G1.out⟩
end Go.Proofs.YtnkoakneffjkbaaDoor

/- SpreadOf: what is told, and the program's function. -/
namespace Go.Proofs.YtnkoakneffjkbaaDoor
set_option linter.unusedVariables false
open Go.RowKit
theorem times_0 {es : List En} (hv : validE es = true) {i : Nat} (hi : i < es.length) : 0 ≤ (enAt es i).t := by
  have h1 := (valid_good hv).2
  have h2 := allTo_iff.1 h1 i hi
  unfold goodE at h2
  rw [Bool.and_eq_true] at h2
  have h3 := rgV_iff.1 h2.1
  have h4 := before_nonneg i (allTo_iff.2 fun j hj => allTo_iff.1 h1 j (by omega))
  omega
set_option maxRecDepth 100000 in
set_option maxHeartbeats 1000000 in
theorem checkSignal_any (a : Option Addr) (n cap : Nat) (ls : List Lg) (hl : n = ls.length) (hn : n ≤ 1048576) (s : Int) (w : World) (ha : LogsAt w a ls) :
    Calls Tryd.prog 57 #[.slice a n cap, .int .i64 s] w fun e w' =>
      ((allV ls = false ∧ e = .panicked [{ v := .iface 144 (.int .i64 (badL ls)), recovered := false }]) ∨ (allV ls = true ∧ rgV (n : Int) 1 8 = false ∧ e = .returned (.iface 98 (.string logsTx))) ∨ (allV ls = true ∧ rgV (n : Int) 1 8 = true ∧ rgV s 0 9999 = false ∧ e = .returned (.iface 98 (.string sigTx))) ∨ (allV ls = true ∧ rgV (n : Int) 1 8 = true ∧ rgV s 0 9999 = true ∧ e = .returned .nilIface)) ∧ Gr w w' := by
  have HM := hid (checkLogs_any a n cap ls hl hn w ha)
  have HIN := hid (fun V => isBetween_r (n := s) (a := 0) (b := 9999) (r := rgV s 0 9999) rfl V)
  clear ha hl
  go_enter Tryd.func57, Tryd.ntmps57
  go_wp2_with fail
  refine HM.out.mono ?_
  rintro e w1 ⟨(⟨hv, rfl⟩ | ⟨hv, hr, rfl⟩ | ⟨hv, hr, rfl⟩), g1⟩
  · have G1 := hid g1
    have HV := hid hv
    clear g1 hv HM
    go_wp2_with fail
    exact ⟨rfl, .inl ⟨HV.out, rfl⟩, G1.out⟩
  · have G1 := hid g1
    have HV := hid hv
    have HR := hid hr
    clear g1 hv hr HM
    go_wp2_with fail
    go_ret
    exact ⟨.inr (.inl ⟨HV.out, HR.out, rfl⟩), G1.out⟩
  · have G1 := hid g1
    have HV := hid hv
    have HR := hid hr
    clear g1 hv hr HM
    cases hs : rgV s 0 9999 with
    | false =>
      rw [hs] at HIN
      have HS := hid hs
      clear hs
      go_wp2_with fail
      refine (HIN.out _).mono ?_
      rintro e w2 ⟨rfl, rfl⟩
      go_wp2_with fail
      go_ret
      exact ⟨.inr (.inr (.inl ⟨HV.out, HR.out, HS.out, rfl⟩)), G1.out⟩
    | true =>
      rw [hs] at HIN
      have HS := hid hs
      clear hs
      go_wp2_with fail
      refine (HIN.out _).mono ?_
      rintro e w2 ⟨rfl, rfl⟩
      go_wp2_with fail
      go_ret
      exact ⟨.inr (.inr (.inr ⟨HV.out, HR.out, HS.out, rfl⟩)), G1.out⟩
/-- What is told of logs and a signal. -/
def SpTold (ls : List Lg) (s : Int) (e : Ending) : Prop :=
  (allV ls = false ∧ e = .panicked [{ v := .iface 144 (.int .i64 (badL ls)), recovered := false }]) ∨
  (allV ls = true ∧ rgV (ls.length : Int) 1 8 = false ∧ e = .returned (.tuple #[.int .i64 0, .int .i64 0, .iface 98 (.string logsTx)])) ∨
  (allV ls = true ∧ rgV (ls.length : Int) 1 8 = true ∧ rgV s 0 9999 = false ∧ e = .returned (.tuple #[.int .i64 0, .int .i64 0, .iface 98 (.string sigTx)])) ∨
  (allV ls = true ∧ rgV (ls.length : Int) 1 8 = true ∧ rgV s 0 9999 = true ∧ tmsTo ls s ls.length = [] ∧ e = .returned (.tuple #[.int .i64 0, .int .i64 0, .iface 80 (.string sigTx)])) ∨
  (allV ls = true ∧ rgV (ls.length : Int) 1 8 = true ∧ rgV s 0 9999 = true ∧ 0 < (tmsTo ls s ls.length).length ∧ e = .returned (.tuple #[.int .i64 (minL (tmsTo ls s ls.length) ((tmsTo ls s ls.length).length - 1)), .int .i64 (maxL (tmsTo ls s ls.length) ((tmsTo ls s ls.length).length - 1)), .nilIface]))
set_option maxRecDepth 100000 in
set_option maxHeartbeats 1000000 in
theorem spTell_any (a : Option Addr) (n cap : Nat) (ls : List Lg) (hl : n = ls.length) (hn : n ≤ 1048576) (s : Int) (lp sp : Addr) (w : World) (hlp : w.cell? lp = some (.slice a n cap)) (hsp : w.cell? sp = some (.int .i64 s)) (ha : LogsAt w a ls) :
    Calls Tryd.prog 56 #[.pointer (some lp), .pointer (some sp)] w fun e w' => SpTold ls s e ∧ Gr w w' := by
  have HC := hid (checkSignal_any a n cap ls hl hn s w ha)
  have HS := hid (fun V (g : Gr w V) => spread_any a n cap ls hl hn s V (ha.gr g))
  have HLP := hid (fun V (g : Gr w V) => And.intro (g.cell hlp) (g.cell hsp))
  rw [hl] at HS HC
  have HL := hid hl
  unfold SpTold
  generalize tmsTo ls s ls.length = T at *
  generalize minL T (T.length - 1) = lo at *
  generalize maxL T (T.length - 1) = hi at *
  rw [← HL.out] at HS HC
  clear ha hl
  go_enter Tryd.func56, Tryd.ntmps56
  go_wp2_with fail
  clear hlp hsp
  refine HC.out.mono ?_
  rintro e w1 ⟨(⟨hv, rfl⟩ | ⟨hv, hr, rfl⟩ | ⟨hv, hr, hs, rfl⟩ | ⟨hv, hr, hs, rfl⟩), g1⟩
  · have G1 := hid g1
    have HV := hid hv
    clear g1 hv HC
    go_wp2_with fail
    exact ⟨rfl, .inl ⟨HV.out, rfl⟩, G1.out⟩
  · have G1 := hid g1
    have HV := hid hv
    have HR := hid (show rgV (ls.length : Int) 1 8 = false by rw [← HL.out]; exact hr)
    clear g1 hv hr HC
    go_wp2_with fail
    go_ret3
    exact ⟨.inr (.inl ⟨HV.out, HR.out, rfl⟩), G1.out⟩
  · have G1 := hid g1
    have HV := hid hv
    have HR := hid (show rgV (ls.length : Int) 1 8 = true by rw [← HL.out]; exact hr)
    have HSI := hid hs
    clear g1 hv hr hs HC
    go_wp2_with fail
    go_ret3
    exact ⟨.inr (.inr (.inl ⟨HV.out, HR.out, HSI.out, rfl⟩)), G1.out⟩
  · have G1 := hid g1
    have HV := hid hv
    have HR := hid (show rgV (ls.length : Int) 1 8 = true by rw [← HL.out]; exact hr)
    have HSI := hid hs
    obtain ⟨c0, c1⟩ := HLP.out w1 g1
    clear g1 hv hr hs HC
    go_wp2_with fail
    refine (HS.out _ G1.out).mono ?_
    rintro e w2 ⟨(⟨ht, rfl⟩ | ⟨ht, rfl⟩), g2⟩
    · have G2 := hid (G1.out.trans g2)
      have HT := hid ht
      clear g2 ht
      go_wp2_with fail
      go_ret3
      exact ⟨.inr (.inr (.inr (.inl ⟨HV.out, HR.out, HSI.out, HT.out, rfl⟩))), G2.out⟩
    · have G2 := hid (G1.out.trans g2)
      have HT := hid ht
      clear g2 ht
      go_wp2_with fail
      go_ret3
      exact ⟨.inr (.inr (.inr (.inr ⟨HV.out, HR.out, HSI.out, HT.out, rfl⟩))), G2.out⟩
end Go.Proofs.YtnkoakneffjkbaaDoor
