/- When a signal has been executed in several logs: the program's functions, on. -/
import Derived.Test.YtnkoakneffjkbaaDoorSpreadI
import Derived.Test.YtnkoakneffjkbaaDoorTwo7
namespace Go.Proofs.YtnkoakneffjkbaaDoor
set_option linter.unusedVariables false
open Go.RowKit
def sigTx : ByteArray := ⟨#[115, 105, 103, 110, 97, 108]⟩
def logsTx : ByteArray := ⟨#[108, 111, 103, 115]⟩
set_option maxRecDepth 100000 in
set_option maxHeartbeats 1000000 in
theorem minInts_any (a : Option Addr) (n cap : Nat) (xs : List Int) (hl : n = xs.length) (h1 : 0 < n) (hn : n ≤ 1048576) (w : World) (hs : SliceOf .i64 w a xs) :
    Calls Tryd.prog 80 #[.slice a n cap] w fun e w' => e = .returned (.int .i64 (minL xs (n - 1))) ∧ Gr w w' := by
  have HS := hid hs
  have HL := hid hl
  have HM := hid (fun k => show minL xs (k + 1) = min (minL xs k) (xs.getD (k + 1) 0) from rfl)
  have H0 := hid (show minL xs 0 = xs.getD 0 0 from rfl)
  obtain ⟨b, o, rfl, hc0⟩ := hs 0 (by omega)
  rw [← H0.out] at hc0
  replace hc0 : w.cell? ⟨b, o, none⟩ = some (.int .i64 (minL xs 0)) := hc0
  have hn1 : ¬ (n : Int) < 1 := by omega
  have hn0 : (0 : Int) < n := by omega
  clear hs hl H0
  go_enter Tryd.func80, Tryd.ntmps80
  go_wp2_with fail
  clear hc0
  go_loopw [3, 4] (fun mv iv wr => ∃ k : Nat, k < n ∧ iv = .int .i64 ((k : Int) + 1) ∧ mv = .int .i64 (minL xs k) ∧ Hid (Gr w wr)) (fun _ iv _ => n + 1 - (intOf iv).toNat)
  case atStart => exact ⟨0, h1, rfl, rfl, hid (Gr.refl _)⟩
  case round =>
    obtain ⟨k, hk, rfl, rfl, hg⟩ := hrel
    by_cases hlt : k + 1 < n
    · obtain ⟨b2, o2, e2, hc⟩ := (HS.out.gr hg.out) (k + 1) (by rw [← HL.out]; exact hlt)
      simp only [Option.some.injEq, Addr.mk.injEq, and_true] at e2
      obtain ⟨rfl, rfl⟩ := e2
      have HMK := hid (HM.out k)
      generalize hq : minL xs (k + 1) = q at *
      have HQ := hid hq
      clear hq HM
      generalize minL xs k = m0 at *
      generalize xs.getD (k + 1) 0 = v at *
      have hk0 : (0 : Int) ≤ (k : Int) + 1 := by omega
      have hk1 : (k : Int) + 1 < n := by omega
      go_wp2_with fail
      all_goals
        go_roundw
        case rel => exact ⟨k + 1, hlt, by go_num, by rw [HQ.out, HMK.out]; exact congrArg (Value.int .i64) (by omega), hg⟩
        case measure => simp [intOf]; omega
    · have HK := hid (show n - 1 = k by omega)
      have hk1 : ¬ (k : Int) + 1 < n := by omega
      go_wp2_with fail
      go_ret
      exact ⟨by rw [HK.out]; rfl, hg.out⟩
set_option maxRecDepth 100000 in
set_option maxHeartbeats 1000000 in
theorem maxInts_any (a : Option Addr) (n cap : Nat) (xs : List Int) (hl : n = xs.length) (h1 : 0 < n) (hn : n ≤ 1048576) (w : World) (hs : SliceOf .i64 w a xs) :
    Calls Tryd.prog 81 #[.slice a n cap] w fun e w' => e = .returned (.int .i64 (maxL xs (n - 1))) ∧ Gr w w' := by
  have HS := hid hs
  have HL := hid hl
  have HM := hid (fun k => show maxL xs (k + 1) = max (maxL xs k) (xs.getD (k + 1) 0) from rfl)
  have H0 := hid (show maxL xs 0 = xs.getD 0 0 from rfl)
  obtain ⟨b, o, rfl, hc0⟩ := hs 0 (by omega)
  rw [← H0.out] at hc0
  replace hc0 : w.cell? ⟨b, o, none⟩ = some (.int .i64 (maxL xs 0)) := hc0
  have hn1 : ¬ (n : Int) < 1 := by omega
  have hn0 : (0 : Int) < n := by omega
  clear hs hl H0
  go_enter Tryd.func81, Tryd.ntmps81
  go_wp2_with fail
  clear hc0
  go_loopw [3, 4] (fun mv iv wr => ∃ k : Nat, k < n ∧ iv = .int .i64 ((k : Int) + 1) ∧ mv = .int .i64 (maxL xs k) ∧ Hid (Gr w wr)) (fun _ iv _ => n + 1 - (intOf iv).toNat)
  case atStart => exact ⟨0, h1, rfl, rfl, hid (Gr.refl _)⟩
  case round =>
    obtain ⟨k, hk, rfl, rfl, hg⟩ := hrel
    by_cases hlt : k + 1 < n
    · obtain ⟨b2, o2, e2, hc⟩ := (HS.out.gr hg.out) (k + 1) (by rw [← HL.out]; exact hlt)
      simp only [Option.some.injEq, Addr.mk.injEq, and_true] at e2
      obtain ⟨rfl, rfl⟩ := e2
      have HMK := hid (HM.out k)
      generalize hq : maxL xs (k + 1) = q at *
      have HQ := hid hq
      clear hq HM
      generalize maxL xs k = m0 at *
      generalize xs.getD (k + 1) 0 = v at *
      have hk0 : (0 : Int) ≤ (k : Int) + 1 := by omega
      have hk1 : (k : Int) + 1 < n := by omega
      go_wp2_with fail
      all_goals
        go_roundw
        case rel => exact ⟨k + 1, hlt, by go_num, by rw [HQ.out, HMK.out]; exact congrArg (Value.int .i64) (by omega), hg⟩
        case measure => simp [intOf]; omega
    · have HK := hid (show n - 1 = k by omega)
      have hk1 : ¬ (k : Int) + 1 < n := by omega
      go_wp2_with fail
      go_ret
      exact ⟨by rw [HK.out]; rfl, hg.out⟩
set_option maxRecDepth 100000 in
set_option maxHeartbeats 4000000 in
theorem spread_any (a : Option Addr) (n cap : Nat) (ls : List Lg) (hl : n = ls.length) (hn : n ≤ 1048576) (s : Int) (w : World) (ha : LogsAt w a ls) :
    Calls Tryd.prog 58 #[.slice a n cap, .int .i64 s] w fun e w' =>
      ((tmsTo ls s n = [] ∧ e = .returned (.tuple #[.int .i64 0, .int .i64 0, .iface 80 (.string sigTx)])) ∨ (0 < (tmsTo ls s n).length ∧ e = .returned (.tuple #[.int .i64 (minL (tmsTo ls s n) ((tmsTo ls s n).length - 1)), .int .i64 (maxL (tmsTo ls s n) ((tmsTo ls s n).length - 1)), .nilIface]))) ∧ Gr w w' := by
  obtain ⟨i0, hi0, hz0, hz1, hz2⟩ := info_parts info64t
  have HA := hid ha
  have HL := hid hl
  have HEX := hid (fun k V (h : LgOk V (lgAt ls k)) => executedAt_any (lgAt ls k).es (lgAt ls k).es.length (lgAt ls k).c rfl h.len s (lgAt ls k).a V h.reads)
  have HTL := hid (tmsTo_length ls s)
  have HT1 := hid (fun k (h : exeAt (lgAt ls k).es s < (lgAt ls k).es.length) => show tmsTo ls s (k + 1) = tmsTo ls s k ++ [firstT (lgAt ls k).es s] by rw [tmsTo, if_pos h])
  have HT2 := hid (fun k (h : ¬ exeAt (lgAt ls k).es s < (lgAt ls k).es.length) => show tmsTo ls s (k + 1) = tmsTo ls s k by rw [tmsTo, if_neg h])
  clear ha hl
  go_enter Tryd.func58, Tryd.ntmps58
  go_wp2_with fail
  go_loopw [7, 9, 10, 11, 14, 18] (fun v _ _ _ iv _ wr => ∃ k : Nat, k ≤ n ∧ iv = .int .i64 k ∧ Hid (Own .i64 2 wr w.heap.size wr.heap.size v (tmsTo ls s k)) ∧ Hid (Gr w wr)) (fun _ _ _ _ iv _ _ => n - (intOf iv).toNat)
  case atStart => exact ⟨0, Nat.zero_le _, rfl, hid (Own.nil _ _ _), hid (Gr.refl _)⟩
  case round =>
    obtain ⟨k, hk, rfl, ho, hg⟩ := hrel
    obtain ⟨av, cv, rfl⟩ := ho.out.shape
    by_cases hlt : k < n
    · obtain ⟨b, o, rfl, hc, hok⟩ := (HA.out.gr hg.out) k (by rw [← HL.out]; exact hlt)
      have HC := hid (HEX.out k wr hok)
      have H1 := hid (HT1.out k)
      have H2 := hid (HT2.out k)
      have hol := HTL.out k
      unfold Lg.val at hc
      generalize firstT (lgAt ls k).es s = t at *
      generalize exeAt (lgAt ls k).es s = x at *
      generalize (lgAt ls k).es.length = m at *
      generalize hO : tmsTo ls s k = O at *
      generalize hol2 : O.length = ol at *
      have HOL := hid hol2
      have hk0 : (0 : Int) ≤ k := by omega
      have hk1 : (k : Int) < n := by omega
      clear hok HT1 HT2 HEX HTL hO hol2
      go_wp2_with fail
      refine HC.out.mono ?_
      rintro e w2 ⟨(⟨hx, rfl⟩ | ⟨hx, rfl⟩), g2⟩
      · have E1 := hid (H1.out hx)
        have G2 := hid (hg.out.trans g2)
        have O2 := hid ((ho.out.gr g2).widen (lo' := w.heap.size) (Nat.le_refl _) g2.size)
        have OR := hid O2.out.row
        rw [HOL.out] at OR
        clear g2 hx
        go_wp2_with (at_builtin; refine wpList_append_own _ rfl _ _ 44 rfl w.heap.size 2 i0 (.int .i64 0) 1 8 Tryd.underlying44 hi0 hz0 hz1 hz2 rfl (by decide) _ _ _ rfl (OR.out.alloc _) ⟨w2.heap.size, 0, none⟩ 1 1 [.int .i64 t] rfl rfl (news_ac (heap_new rfl)) (by simp [Value.oneCell']) (by unfold maxLen; omega) (by omega) (by have := G2.out.size; simp; omega) ?_; intro v4 w4 hown4 hgrow4 _)
        have O4 := hid (Own.ofRow (k := .i64) (xs := O ++ [t]) hown4 (by simp) (by rw [List.length_append, List.length_singleton, HOL.out]))
        have G4 := hid ((G2.out.alloc _).by_ hgrow4 (fun b e => (OR.out.lt b e).1))
        clear hown4 hgrow4
        go_wp2_with fail
        go_roundw
        case rel => exact ⟨k + 1, by omega, by go_num, hid (by rw [E1.out]; exact O4.out), G4⟩
        case measure => simp [intOf]; omega
      · have E2 := hid (H2.out hx)
        have G2 := hid (hg.out.trans g2)
        have O2 := hid ((ho.out.gr g2).widen (lo' := w.heap.size) (Nat.le_refl _) g2.size)
        clear g2 hx
        go_wp2_with fail
        go_roundw
        case rel => exact ⟨k + 1, by omega, by go_num, hid (by rw [E2.out]; exact O2.out), G2⟩
        case measure => simp [intOf]; omega
    · obtain rfl : k = n := by omega
      have hol := HTL.out k
      generalize hOe : tmsTo ls s k = O at *
      have HOE := hid hOe
      clear hOe
      have OO := hid ho.out
      generalize hol2 : O.length = ol at *
      have HOL := hid hol2
      by_cases h0 : ol = 0
      · have HE := hid (List.eq_nil_of_length_eq_zero (hol2.trans h0))
        subst h0
        clear hol2 ho
        go_wp2_with fail
        go_ret3
        exact ⟨.inl ⟨HOE.out.trans HE.out, rfl⟩, hg.out⟩
      · have HMN := hid (fun V (g : Gr wr V) => minInts_any av ol cv O hol2.symm (by omega) (by omega) V (OO.out.reads.gr g))
        have HMX := hid (fun V (g : Gr wr V) => maxInts_any av ol cv O hol2.symm (by omega) (by omega) V (OO.out.reads.gr g))
        have HP := hid (show 0 < ol by omega)
        have h9 : ((ol : Int) == 0) = false := beq_eq_false_iff_ne.2 (by omega)
        clear hol2 ho h0
        go_wp2_with fail
        refine (HMN.out _ (Gr.refl _)).mono ?_
        rintro e w2 ⟨rfl, g2⟩
        have G2 := hid g2
        clear g2
        go_wp2_with fail
        refine (HMX.out _ G2.out).mono ?_
        rintro e w3 ⟨rfl, g3⟩
        have G3 := hid (hg.out.trans (G2.out.trans g3))
        clear g3
        go_wp2_with fail
        go_ret3
        exact ⟨.inr ⟨by rw [HOE.out, HOL.out]; exact HP.out, by rw [HOE.out, HOL.out]; rfl⟩, G3.out⟩
set_option maxRecDepth 100000 in
set_option maxHeartbeats 1000000 in
theorem checkLogs_any (a : Option Addr) (n cap : Nat) (ls : List Lg) (hl : n = ls.length) (hn : n ≤ 1048576) (w : World) (ha : LogsAt w a ls) :
    Calls Tryd.prog 79 #[.slice a n cap] w fun e w' =>
      ((allV ls = false ∧ e = .panicked [{ v := .iface 144 (.int .i64 (badL ls)), recovered := false }]) ∨ (allV ls = true ∧ rgV (n : Int) 1 8 = false ∧ e = .returned (.iface 98 (.string logsTx))) ∨ (allV ls = true ∧ rgV (n : Int) 1 8 = true ∧ e = .returned .nilIface)) ∧ Gr w w' := by
  have HM := hid (mustBe_any a n cap ls hl hn w ha)
  have HIN := hid (fun V => isBetween_r (n := (n : Int)) (a := 1) (b := 8) (r := rgV (n : Int) 1 8) rfl V)
  clear ha hl
  go_enter Tryd.func79, Tryd.ntmps79
  go_wp2_with fail
  refine HM.out.mono ?_
  rintro e w1 (⟨hv, rfl, g1⟩ | ⟨hv, rfl, g1⟩)
  · have G1 := hid g1
    have HV := hid hv
    clear g1 hv HM
    cases hr : rgV (n : Int) 1 8 with
    | false =>
      rw [hr] at HIN
      have HR := hid hr
      clear hr
      go_wp2_with fail
      refine (HIN.out _).mono ?_
      rintro e w2 ⟨rfl, rfl⟩
      go_wp2_with fail
      go_ret
      exact ⟨.inr (.inl ⟨HV.out, HR.out, rfl⟩), G1.out⟩
    | true =>
      rw [hr] at HIN
      have HR := hid hr
      clear hr
      go_wp2_with fail
      refine (HIN.out _).mono ?_
      rintro e w2 ⟨rfl, rfl⟩
      go_wp2_with fail
      go_ret
      exact ⟨.inr (.inr ⟨HV.out, HR.out, rfl⟩), G1.out⟩
  · have G1 := hid g1
    have HV := hid hv
    clear g1 hv HM
    go_wp2_with fail
    exact ⟨rfl, .inl ⟨HV.out, rfl⟩, G1.out⟩
end Go.Proofs.YtnkoakneffjkbaaDoor
