/- UpAt: the program's function. -/
import Derived.Test.YtehingpopgojkaaDoorUpAtF
namespace Go.Proofs.YtehingpopgojkaaDoor
set_option linter.unusedVariables false
open Go.RowKit
def timeTxt : ByteArray := ⟨#[116, 105, 109, 101]⟩
theorem fl_at {w : World} {a : Option Addr} {F : List (Int × Int)} {i : Nat} (h : CellsOf w a (flCells F)) (hi : i < F.length) : ∃ b off, a = some ⟨b, off, none⟩ ∧ w.rangeAt b (off + i * 2) [.int .i64 (flAt F i).1, .int .i64 (flAt F i).2] := by
  obtain ⟨b, off, rfl, _⟩ := h (i * 2) (by rw [flCells_length]; omega)
  have hr := h.range (i * 2) 2 (by rw [flCells_length]; omega)
  rw [flCells_elem F i hi] at hr
  exact ⟨b, off, rfl, hr⟩
theorem sizeFl : (Tryd.prog.info? 86).map (·.size) = some 2 := by kernel_rfl
set_option maxRecDepth 100000 in
set_option maxHeartbeats 1000000 in
theorem upTell_pan (al : Option Addr) (n cal : Nat) (es : List En) (hl : n = es.length) (hn : n ≤ 1048576) (hf : EnFits es) (hv : validE es = false) (lp tp : Addr) (w : World) (hlp : w.cell? lp = some (.slice al n cal)) (ha : CellsOf w al (enCells es)) :
    Calls Tryd.prog 67 #[.pointer (some lp), .pointer (some tp)] w fun e w' => e = .panicked [{ v := .iface 160 (.int .i64 (badX es)), recovered := false }] ∧ Gr w w' := by
  have HF := hid (flightsOf_any al n cal es hl hn hf w ha)
  rw [hv] at HF
  clear ha hl hf hv
  go_enter Tryd.func67, Tryd.ntmps67
  go_wp2_with fail
  refine HF.out.mono ?_
  rintro e w1 (⟨h, -⟩ | ⟨-, rfl, g1⟩)
  · cases h
  · have G1 := hid g1
    clear g1
    go_wp2_with fail
    exact ⟨rfl, rfl, G1.out⟩
set_option maxRecDepth 100000 in
set_option maxHeartbeats 1000000 in
theorem upTell_no (al : Option Addr) (n cal : Nat) (es : List En) (hl : n = es.length) (hn : n ≤ 1048576) (hf : EnFits es) (hv : validE es = true) (time : Int) (hr : rgV time 0 100000 = false) (lp tp : Addr) (w : World) (hlp : w.cell? lp = some (.slice al n cal)) (htp : w.cell? tp = some (.int .i64 time)) (ha : CellsOf w al (enCells es)) :
    Calls Tryd.prog 67 #[.pointer (some lp), .pointer (some tp)] w fun e w' => ∃ v, e = .returned (.tuple #[v, .iface 84 (.string timeTxt)]) ∧ Gr w w' := by
  have HF := hid (flightsOf_any al n cal es hl hn hf w ha)
  have HR := hid (fun V => isBetween_r hr V)
  have HT := hid htp
  rw [hv] at HF
  clear ha hl hf hv hr htp
  go_enter Tryd.func67, Tryd.ntmps67
  go_wp2_with fail
  refine HF.out.mono ?_
  rintro e w1 (⟨-, v, rfl, -, g1⟩ | ⟨h, -⟩)
  · have G1 := hid g1
    have ct := g1.cell HT.out
    clear g1
    go_wp2_with fail
    refine (HR.out _).mono ?_
    rintro e w2 ⟨rfl, rfl⟩
    go_wp2_with fail
    go_ret2
    exact ⟨_, rfl, G1.out⟩
  · cases h
set_option maxRecDepth 100000 in
set_option maxHeartbeats 2000000 in
theorem upTell_ok (al : Option Addr) (n cal : Nat) (es : List En) (hl : n = es.length) (hn : n ≤ 1048576) (hf : EnFits es) (hv : validE es = true) (time : Int) (hr : rgV time 0 100000 = true) (lp tp : Addr) (w : World) (hlp : w.cell? lp = some (.slice al n cal)) (htp : w.cell? tp = some (.int .i64 time)) (ha : CellsOf w al (enCells es)) :
    Calls Tryd.prog 67 #[.pointer (some lp), .pointer (some tp)] w (RetOwn .i64 2 (fun u => .tuple #[u, .nilIface]) ((upS es (cntT es time)).map (sigE es)) w) := by
  obtain ⟨i0, hi, hz0, hz1, hz2⟩ := info_parts info64u
  have HF := hid (flightsOf_any al n cal es hl hn hf w ha)
  have HR := hid (fun V => isBetween_r hr V)
  have HT := hid htp
  have HLP := hid hlp
  have HA := hid ha
  have HL := hid hl
  rw [hv] at HF
  have HU := hid (upAt_fly hv time)
  have HRG := hid (fly_inv es n).rng
  have HFL := hid (show (flyTo es n).F.length ≤ n from flyTo_length es n)
  rw [← hl] at HU
  have h60 : n ≤ 60 := by rw [hl]; exact (valid_good hv).1
  generalize (flyTo es n).F = F at *
  generalize (upS es (cntT es time)).map (sigE es) = ys at *
  clear ha hl hf hv hr htp
  go_enter Tryd.func67, Tryd.ntmps67
  go_wp2_with fail
  refine HF.out.mono ?_
  rintro e w1 (⟨-, v, rfl, o1, g1⟩ | ⟨h, -⟩)
  · have G1 := hid g1
    have ct := g1.cell HT.out
    obtain ⟨av, cv, rfl⟩ := o1.shape
    have O1 := hid o1
    have HM := hid (fun V (g : Gr w1 V) => (o1.gr g).reads)
    clear g1 o1 hlp
    go_wp2_with fail
    refine (HR.out _).mono ?_
    rintro e w2 ⟨rfl, rfl⟩
    go_wp2_with fail
    have hfn : F.length ≤ n := HFL.out
    go_loopw [5, 16] (fun v i wr => ∃ k : Nat, k ≤ F.length ∧ i = .int .i64 k ∧ Hid (Own .i64 2 wr w1.heap.size wr.heap.size v (onTo es time F k)) ∧ Hid (Gr w1 wr)) (fun _ i _ => F.length - (intOf i).toNat)
    case atStart => exact ⟨0, Nat.zero_le _, rfl, hid (Own.nil _ _ _), hid (Gr.refl _)⟩
    case round =>
      obtain ⟨k, hk, rfl, O, G⟩ := hrel
      obtain ⟨vv, vc, rfl⟩ := O.out.shape
      by_cases hlt : k < F.length
      · have hrg := HRG.out k hlt
        obtain ⟨b1, o1, rfl, hr1⟩ := fl_at (HM.out wr G.out) hlt
        have RG := hid hr1
        have HIS := hid (fun V (g : Gr w V) => isAt_any es al n cal HL.out (by omega) (flAt F k).1 (flAt F k).2 time ⟨by omega, by omega⟩ (by omega) V (HA.out.gr g))
        have HST := hid (show onTo es time F (k + 1) = if onB es time (flAt F k) = true then onTo es time F k ++ [sigE es (flAt F k).1] else onTo es time F k from rfl)
        have HLN := hid (onTo_length es time F k)
        obtain ⟨hN, hhN⟩ : ∃ hN : Nat, (flAt F k).1 = (hN : Int) := ⟨(flAt F k).1.toNat, by omega⟩
        have hh1 : (hN : Int) < n := by omega
        have hh0 : (0 : Int) ≤ hN := by omega
        have HSG := hid (show sigE es (flAt F k).1 = (enAt es hN).s by unfold sigE; rw [hhN, Int.toNat_natCast])
        rw [HSG.out] at HST
        have HE := hid (fun V (g : Gr w V) => en_at (HA.out.gr g) (i := hN) (by rw [← HL.out]; omega))
        have hpair : flAt F k = ((hN : Int), (flAt F k).2) := by rw [← hhN]
        rw [hhN] at HIS RG
        rw [hpair] at HST
        have HBK := hid (heap_new (w := wr) (o := .cells #[.int .i64 (hN : Int), .int .i64 (flAt F k).2] 86) rfl)
        generalize (flAt F k).2 = dd at *
        generalize onB es time ((hN : Int), dd) = q at *
        generalize (enAt es hN).s = sg at *
        have GW := hid (G1.out.trans G.out)
        have clp := (GW.out.alloc (.cells #[.int .i64 (hN : Int), .int .i64 dd] 86)).cell HLP.out
        have ctp := (GW.out.alloc (.cells #[.int .i64 (hN : Int), .int .i64 dd] 86)).cell HT.out
        have GA := hid (GW.out.alloc (.cells #[.int .i64 (hN : Int), .int .i64 dd] 86))
        have hb0 : (0 : Int) ≤ k := by omega
        have hb1 : (k : Int) < F.length := by omega
        clear hrg hhN hpair hr1
        go_wp2_with (refine wpList_load_mid rfl 86 _ rfl b1 (o1 + k * 2) rfl _ _ RG.out Tryd.underlying86 rfl sizeFl ?_)
        refine (HIS.out _ GA.out).mono ?_
        rintro e w2 ⟨rfl, g2⟩
        have B2 := hid (g2.heap HBK.out)
        have G2 := hid ((G.out.alloc (.cells #[.int .i64 (hN : Int), .int .i64 dd] 86)).trans g2)
        have O2 := hid ((O.out.gr (((Gr.refl wr).alloc (.cells #[.int .i64 (hN : Int), .int .i64 dd] 86)).trans g2)).widen (Nat.le_refl _) ((((Gr.refl wr).alloc (.cells #[.int .i64 (hN : Int), .int .i64 dd] 86)).trans g2).size))
        have c3 : w2.cell? ⟨wr.heap.size, 0, none⟩ = some (.int .i64 (hN : Int)) := by rw [cell_of_row _ _ _ _ _ _ B2.out]; rfl
        have clp2 := g2.cell clp
        have GG := hid (G1.out.trans G2.out)
        clear g2 clp ctp
        cases q
        · have HS2 := hid (show onTo es time F (k + 1) = onTo es time F k by rw [HST.out]; rfl)
          clear HST
          go_wp2_with fail
          go_roundw
          case rel => exact ⟨k + 1, by omega, by go_num, by rw [HS2.out]; exact O2, G2⟩
          case measure => simp [intOf]; omega
        · have HS2 := hid (show onTo es time F (k + 1) = onTo es time F k ++ [sg] by rw [HST.out]; rfl)
          clear HST
          obtain ⟨b0, o0, rfl, -, cs1, -⟩ := HE.out w2 GG.out
          have hlen := HLN.out
          generalize onTo es time F k = xs at *
          go_wp2_with (at_builtin; refine wpList_append_own _ rfl _ _ 30 rfl w1.heap.size 2 i0 (.int .i64 0) 1 8 Tryd.underlying30 hi hz0 hz1 hz2 rfl (by decide) _ _ _ rfl (O2.out.row.alloc _) ⟨w2.heap.size, 0, none⟩ 1 1 [.int .i64 sg] rfl rfl (news_int1 (heap_new rfl)) (by simp [Value.oneCell']) (by unfold maxLen; omega) (by omega) (by have := G2.out.size; simp; omega) ?_; intro v5 w5 hown5 hgrow5 _)
          have G6 := hid ((G2.out.alloc (.cells #[.int .i64 sg] 2)).by_ hgrow5 (fun b e => (O2.out.row.lt b e).1))
          have O5 := hid (show Own .i64 2 w5 w1.heap.size w5.heap.size v5 (xs ++ [sg]) from Own.ofRow hown5 (by simp) (by simp))
          clear hown5 hgrow5
          go_wp2_with fail
          go_roundw
          case rel => exact ⟨k + 1, by omega, by go_num, by rw [HS2.out]; exact O5, G6⟩
          case measure => simp [intOf]; omega
      · obtain rfl : k = F.length := by omega
        go_wp2_with fail
        go_ret2
        exact ⟨_, rfl, by rw [← HU.out]; exact O.out.widen G1.out.size (Nat.le_refl _), G1.out.trans G.out⟩
  · cases h
end Go.Proofs.YtehingpopgojkaaDoor
