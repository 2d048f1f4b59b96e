/- FaultsOf: what is told. -/
import Derived.Test.YtlgfibiggiknjaaDoorStory
import Derived.Test.YtlgfibiggiknjaaDoorUpAt
import Derived.Test.YtlgfibiggiknjaaDoorReplyInt7
import Derived.Test.YtlgfibiggiknjaaDoorCode2
namespace Go.Proofs.YtlgfibiggiknjaaDoor
set_option linter.unusedVariables false
open Go.RowKit
set_option maxRecDepth 100000 in
set_option maxHeartbeats 1000000 in
theorem FaultsOfTell_pan (a b : Option Addr) (n m ca cb : Nat) (es fs : List En) (hf : EnFits es) (hg : EnFits fs) (hv : valid2 es fs = false) (lp tp : Addr) (w : World) (hlp : w.cell? lp = some (.slice a n ca)) (htp : w.cell? tp = some (.slice b m cb)) (h2 : Logs2 w a b n m es fs) :
    Calls Tryd.prog 100 #[.pointer (some lp), .pointer (some tp)] w fun e w' => e = .panicked [{ v := .iface 177 (.int .i64 (bad2 es fs)), recovered := false }] ∧ Gr w w' := by
  have HS := hid (sidesOf_any a b n m ca cb es fs hf hg w h2)
  rw [hv] at HS
  clear h2 hf hg hv
  go_enter Tryd.func100, Tryd.ntmps100
  go_wp2_with fail
  refine HS.out.mono ?_
  rintro e w1 (⟨h, -⟩ | ⟨-, rfl, g1⟩)
  · cases h
  · have G1 := hid g1
    clear g1
    go_wp2_with fail
    exact ⟨rfl, rfl, G1.out⟩
set_option maxRecDepth 100000 in
set_option maxHeartbeats 1000000 in
theorem FaultsOfTell_ok (a b : Option Addr) (n m ca cb : Nat) (es fs : List En) (hf : EnFits es) (hg : EnFits fs) (hv : valid2 es fs = true) (lp tp : Addr) (w : World) (hlp : w.cell? lp = some (.slice a n ca)) (htp : w.cell? tp = some (.slice b m cb)) (h2 : Logs2 w a b n m es fs) :
    Calls Tryd.prog 100 #[.pointer (some lp), .pointer (some tp)] w fun e w' => e = .returned (.tuple #[.int .i64 (faultsV es fs), .nilIface]) ∧ Gr w w' := by
  have HS := hid (sidesOf_any a b n m ca cb es fs hf hg w h2)
  rw [hv] at HS
  have h60 := valid2_60 hv
  have HO := hid (fun V (g : Gr w V) => faultsOf_any a b n m ca cb es fs (by rw [h2.n_]; exact h60.1) (by rw [h2.m_]; exact h60.2) V (h2.gr g))
  have HV := hid (show faultsV es fs = costT es fs 0 0 by unfold faultsV; rw [if_pos hv])
  rw [HV.out]
  generalize hct : costT es fs 0 0 = t at *
  clear h2 hf hg hv HV hct
  unfold sidesC at HS HO
  go_enter Tryd.func100, Tryd.ntmps100
  go_wp2_with fail
  refine HS.out.mono ?_
  rintro e w1 (⟨-, rfl, g1⟩ | ⟨h, -⟩)
  · have G1 := hid g1
    clear g1
    go_wp2_with fail
    refine (HO.out _ G1.out).mono ?_
    rintro e w2 ⟨rfl, g2⟩
    have G2 := hid (G1.out.trans g2)
    clear g2
    go_wp2_with fail
    go_ret2
    exact ⟨rfl, G2.out⟩
  · cases h
end Go.Proofs.YtlgfibiggiknjaaDoor
