/- Several logs: mustBe. -/
import Derived.Test.YtnkoakneffjkbaaDoorFlights
namespace Go.Proofs.YtnkoakneffjkbaaDoor
set_option linter.unusedVariables false
open Go.RowKit
/-- A log, as a slice. -/
structure Lg where
  a : Option Addr
  c : Nat
  es : List En
def Lg.val (l : Lg) : Value := .slice l.a l.es.length l.c
def noLg : Lg := ⟨none, 0, []⟩
def lgAt (ls : List Lg) (i : Nat) : Lg := ls.getD i noLg
/-- A log lies where it lies. -/
structure LgOk (w : World) (l : Lg) : Prop where
  reads : CellsOf w l.a (enCells l.es)
  fits : EnFits l.es
  len : l.es.length ≤ 1048576
theorem LgOk.gr {W w : World} {l : Lg} (h : LgOk W l) (g : Gr W w) : LgOk w l := ⟨h.reads.gr g, h.fits, h.len⟩
def LogsAt (w : World) (a : Option Addr) (ls : List Lg) : Prop := ∀ i, i < ls.length → ∃ b off, a = some ⟨b, off, none⟩ ∧ w.cell? ⟨b, off + i, none⟩ = some (lgAt ls i).val ∧ LgOk w (lgAt ls i)
theorem LogsAt.gr {W w : World} {a : Option Addr} {ls : List Lg} (h : LogsAt W a ls) (g : Gr W w) : LogsAt w a ls := fun i hi => by
  obtain ⟨b, off, e, hc, ho⟩ := h i hi
  exact ⟨b, off, e, g.cell hc, ho.gr g⟩
def lgV (ls : List Lg) (i : Nat) : Bool := validE (lgAt ls i).es
def allV (ls : List Lg) : Bool := allTo (lgV ls) ls.length
def badL (ls : List Lg) : Int := badX (lgAt ls (firstNo (lgV ls) ls.length)).es
set_option maxRecDepth 100000 in
set_option maxHeartbeats 1000000 in
theorem mustBe_any (a : Option Addr) (n c : Nat) (ls : List Lg) (hl : n = ls.length) (hn : n ≤ 1048576) (w : World) (ha : LogsAt w a ls) :
    Calls Tryd.prog 47 #[.slice a n c] w fun e w' =>
      (allV ls = true ∧ e = .returned (.tuple #[]) ∧ Gr w w') ∨
      (allV ls = false ∧ e = .panicked [{ v := .iface 144 (.int .i64 (badL ls)), recovered := false }] ∧ Gr w w') := by
  have HA := hid ha
  have HL := hid hl
  clear ha hl
  go_enter Tryd.func47, Tryd.ntmps47
  go_wp2_with fail
  go_loopw [6] (fun i wr => ∃ k : Nat, k ≤ n ∧ i = .int .i64 k ∧ Hid (allTo (lgV ls) k = true) ∧ Hid (Gr w wr)) (fun i _ => n - (intOf i).toNat)
  case atStart => exact ⟨0, Nat.zero_le _, rfl, hid rfl, hid (Gr.refl _)⟩
  case round =>
    obtain ⟨k, hk, rfl, hok, hg⟩ := hrel
    by_cases hlt : k < n
    · obtain ⟨b, off, rfl, hc, ho⟩ := (HA.out.gr hg.out) k (by rw [← HL.out]; exact hlt)
      have HF := hid (flightsOf_any (lgAt ls k).a (lgAt ls k).es.length (lgAt ls k).c (lgAt ls k).es rfl ho.len ho.fits wr ho.reads)
      have HY := hid (fun (h : validE (lgAt ls k).es = true) => allTo_step (p := lgV ls) hok.out h)
      have HN := hid (fun (h : validE (lgAt ls k).es = false) => show allV ls = false ∧ badL ls = badX (lgAt ls k).es from
        ⟨allTo_no (p := lgV ls) (by rw [← HL.out]; exact hlt) h, by unfold badL; rw [firstNo_eq hok.out h _ (by rw [← HL.out]; exact hlt)]⟩)
      unfold Lg.val at hc
      generalize lgAt ls k = l at *
      obtain ⟨la, lc, es⟩ := l
      dsimp only at *
      clear ho
      have hb0 : (0 : Int) ≤ k := by omega
      have hb1 : (k : Int) < n := by omega
      go_wp2_with fail
      refine HF.out.mono ?_
      rintro e w1 (⟨hv, v, rfl, -, g1⟩ | ⟨hv, rfl, g1⟩)
      · have HY2 := hid (HY.out hv)
        have G1 := hid (hg.out.trans g1)
        clear g1 hv
        go_wp2_with fail
        go_roundw
        case rel => exact ⟨k + 1, by omega, by go_num, HY2, G1⟩
        case measure => simp [intOf]; omega
      · have HN2 := hid (HN.out hv)
        have G1 := hid (hg.out.trans g1)
        clear g1 hv
        go_wp2_with fail
        exact ⟨rfl, .inr ⟨HN2.out.1, by rw [HN2.out.2], G1.out⟩⟩
    · obtain rfl : k = n := by omega
      have HV := hid (show allV ls = true by unfold allV; rw [← HL.out, hok.out])
      go_wp2_with fail
      (try simp only [Exit.inBlock, Exit.then])
      exact bodyPost_end (results_none (by rfl) _ _ _) rfl (Or.inl ⟨HV.out, rfl, hg.out⟩)
end Go.Proofs.YtnkoakneffjkbaaDoor
