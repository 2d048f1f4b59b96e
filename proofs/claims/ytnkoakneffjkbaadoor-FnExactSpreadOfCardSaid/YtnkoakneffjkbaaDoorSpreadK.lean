/- SpreadOf: what is told, and the program's function. -/
import Derived.Test.YtnkoakneffjkbaaDoorSpreadJ
namespace Go.Proofs.YtnkoakneffjkbaaDoor
set_option linter.unusedVariables false
open Go.RowKit
theorem times_0 {es : List En} (hv : validE es = true) {i : Nat} (hi : i < es.length) : 0 ≤ (enAt es i).t := by
  have h1 := (valid_good hv).2
  have h2 := allTo_iff.1 h1 i hi
  unfold goodE at h2
  rw [Bool.and_eq_true] at h2
  have h3 := rgV_iff.1 h2.1
  have h4 := before_nonneg i (allTo_iff.2 fun j hj => allTo_iff.1 h1 j (by omega))
  omega
set_option maxRecDepth 100000 in
set_option maxHeartbeats 1000000 in
theorem checkSignal_any (a : Option Addr) (n cap : Nat) (ls : List Lg) (hl : n = ls.length) (hn : n ≤ 1048576) (s : Int) (w : World) (ha : LogsAt w a ls) :
    Calls Tryd.prog 57 #[.slice a n cap, .int .i64 s] w fun e w' =>
      ((allV ls = false ∧ e = .panicked [{ v := .iface 144 (.int .i64 (badL ls)), recovered := false }]) ∨ (allV ls = true ∧ rgV (n : Int) 1 8 = false ∧ e = .returned (.iface 98 (.string logsTx))) ∨ (allV ls = true ∧ rgV (n : Int) 1 8 = true ∧ rgV s 0 9999 = false ∧ e = .returned (.iface 98 (.string sigTx))) ∨ (allV ls = true ∧ rgV (n : Int) 1 8 = true ∧ rgV s 0 9999 = true ∧ e = .returned .nilIface)) ∧ Gr w w' := by
  have HM := hid (checkLogs_any a n cap ls hl hn w ha)
  have HIN := hid (fun V => isBetween_r (n := s) (a := 0) (b := 9999) (r := rgV s 0 9999) rfl V)
  clear ha hl
  go_enter Tryd.func57, Tryd.ntmps57
  go_wp2_with fail
  refine HM.out.mono ?_
  rintro e w1 ⟨(⟨hv, rfl⟩ | ⟨hv, hr, rfl⟩ | ⟨hv, hr, rfl⟩), g1⟩
  · have G1 := hid g1
    have HV := hid hv
    clear g1 hv HM
    go_wp2_with fail
    exact ⟨rfl, .inl ⟨HV.out, rfl⟩, G1.out⟩
  · have G1 := hid g1
    have HV := hid hv
    have HR := hid hr
    clear g1 hv hr HM
    go_wp2_with fail
    go_ret
    exact ⟨.inr (.inl ⟨HV.out, HR.out, rfl⟩), G1.out⟩
  · have G1 := hid g1
    have HV := hid hv
    have HR := hid hr
    clear g1 hv hr HM
    cases hs : rgV s 0 9999 with
    | false =>
      rw [hs] at HIN
      have HS := hid hs
      clear hs
      go_wp2_with fail
      refine (HIN.out _).mono ?_
      rintro e w2 ⟨rfl, rfl⟩
      go_wp2_with fail
      go_ret
      exact ⟨.inr (.inr (.inl ⟨HV.out, HR.out, HS.out, rfl⟩)), G1.out⟩
    | true =>
      rw [hs] at HIN
      have HS := hid hs
      clear hs
      go_wp2_with fail
      refine (HIN.out _).mono ?_
      rintro e w2 ⟨rfl, rfl⟩
      go_wp2_with fail
      go_ret
      exact ⟨.inr (.inr (.inr ⟨HV.out, HR.out, HS.out, rfl⟩)), G1.out⟩
/-- What is told of logs and a signal. -/
def SpTold (ls : List Lg) (s : Int) (e : Ending) : Prop :=
  (allV ls = false ∧ e = .panicked [{ v := .iface 144 (.int .i64 (badL ls)), recovered := false }]) ∨
  (allV ls = true ∧ rgV (ls.length : Int) 1 8 = false ∧ e = .returned (.tuple #[.int .i64 0, .int .i64 0, .iface 98 (.string logsTx)])) ∨
  (allV ls = true ∧ rgV (ls.length : Int) 1 8 = true ∧ rgV s 0 9999 = false ∧ e = .returned (.tuple #[.int .i64 0, .int .i64 0, .iface 98 (.string sigTx)])) ∨
  (allV ls = true ∧ rgV (ls.length : Int) 1 8 = true ∧ rgV s 0 9999 = true ∧ tmsTo ls s ls.length = [] ∧ e = .returned (.tuple #[.int .i64 0, .int .i64 0, .iface 80 (.string sigTx)])) ∨
  (allV ls = true ∧ rgV (ls.length : Int) 1 8 = true ∧ rgV s 0 9999 = true ∧ 0 < (tmsTo ls s ls.length).length ∧ e = .returned (.tuple #[.int .i64 (minL (tmsTo ls s ls.length) ((tmsTo ls s ls.length).length - 1)), .int .i64 (maxL (tmsTo ls s ls.length) ((tmsTo ls s ls.length).length - 1)), .nilIface]))
set_option maxRecDepth 100000 in
set_option maxHeartbeats 1000000 in
theorem spTell_any (a : Option Addr) (n cap : Nat) (ls : List Lg) (hl : n = ls.length) (hn : n ≤ 1048576) (s : Int) (lp sp : Addr) (w : World) (hlp : w.cell? lp = some (.slice a n cap)) (hsp : w.cell? sp = some (.int .i64 s)) (ha : LogsAt w a ls) :
    Calls Tryd.prog 56 #[.pointer (some lp), .pointer (some sp)] w fun e w' => SpTold ls s e ∧ Gr w w' := by
  have HC := hid (checkSignal_any a n cap ls hl hn s w ha)
  have HS := hid (fun V (g : Gr w V) => spread_any a n cap ls hl hn s V (ha.gr g))
  have HLP := hid (fun V (g : Gr w V) => And.intro (g.cell hlp) (g.cell hsp))
  rw [hl] at HS HC
  have HL := hid hl
  unfold SpTold
  generalize tmsTo ls s ls.length = T at *
  generalize minL T (T.length - 1) = lo at *
  generalize maxL T (T.length - 1) = hi at *
  rw [← HL.out] at HS HC
  clear ha hl
  go_enter Tryd.func56, Tryd.ntmps56
  go_wp2_with fail
  clear hlp hsp
  refine HC.out.mono ?_
  rintro e w1 ⟨(⟨hv, rfl⟩ | ⟨hv, hr, rfl⟩ | ⟨hv, hr, hs, rfl⟩ | ⟨hv, hr, hs, rfl⟩), g1⟩
  · have G1 := hid g1
    have HV := hid hv
    clear g1 hv HC
    go_wp2_with fail
    exact ⟨rfl, .inl ⟨HV.out, rfl⟩, G1.out⟩
  · have G1 := hid g1
    have HV := hid hv
    have HR := hid (show rgV (ls.length : Int) 1 8 = false by rw [← HL.out]; exact hr)
    clear g1 hv hr HC
    go_wp2_with fail
    go_ret3
    exact ⟨.inr (.inl ⟨HV.out, HR.out, rfl⟩), G1.out⟩
  · have G1 := hid g1
    have HV := hid hv
    have HR := hid (show rgV (ls.length : Int) 1 8 = true by rw [← HL.out]; exact hr)
    have HSI := hid hs
    clear g1 hv hr hs HC
    go_wp2_with fail
    go_ret3
    exact ⟨.inr (.inr (.inl ⟨HV.out, HR.out, HSI.out, rfl⟩)), G1.out⟩
  · have G1 := hid g1
    have HV := hid hv
    have HR := hid (show rgV (ls.length : Int) 1 8 = true by rw [← HL.out]; exact hr)
    have HSI := hid hs
    obtain ⟨c0, c1⟩ := HLP.out w1 g1
    clear g1 hv hr hs HC
    go_wp2_with fail
    refine (HS.out _ G1.out).mono ?_
    rintro e w2 ⟨(⟨ht, rfl⟩ | ⟨ht, rfl⟩), g2⟩
    · have G2 := hid (G1.out.trans g2)
      have HT := hid ht
      clear g2 ht
      go_wp2_with fail
      go_ret3
      exact ⟨.inr (.inr (.inr (.inl ⟨HV.out, HR.out, HSI.out, HT.out, rfl⟩))), G2.out⟩
    · have G2 := hid (G1.out.trans g2)
      have HT := hid ht
      clear g2 ht
      go_wp2_with fail
      go_ret3
      exact ⟨.inr (.inr (.inr (.inr ⟨HV.out, HR.out, HSI.out, HT.out, rfl⟩))), G2.out⟩
end Go.Proofs.YtnkoakneffjkbaaDoor
