/- FlagsUntilSure: both functions. -/
import Derived.Test.YtfaiehjomcgjgaaDoorUsesM
import Derived.Test.YtfaiehjomcgjgaaDoorHoistOf
namespace Go.Proofs.YtfaiehjomcgjgaaDoor
set_option linter.unusedVariables false
open Go.RowKit
set_option maxRecDepth 100000 in
set_option maxHeartbeats 2000000 in
theorem spec_FlagsUntilSure_any (k l s : Int) (hw : Wf3 k l s) (a : Option Addr) (cap n : Nat) (ss : List ByteArray) (hl : n = ss.length) (hn : n ≤ 1048576) (hz : SizesOk ss) (i : Int) (_hi : (Lit.int .i64 i).wf = true) (w : World) (hs : StrsOf w a ss) :
    Calls Tryd.prog 23 #[bookV k l s (.slice a n cap), .int .i64 i] w fun e w' => e = .returned (.tuple #[.int .i64 (sureV k l s ss i), .int .i64 (thereC k l s ss i)]) ∧ Gr w w' := by
  have gr : Gr w (w.alloc (.cells (bookC k l s (.slice a n cap)) 31)) := (Gr.refl _).alloc _
  have hb := bookAt_block (heap_new (w := w) (o := .cells (bookC k l s (.slice a n cap)) 31) rfl) hl (hs.gr gr)
  have HB := hid (l03There_any w.heap.size k l s a n cap ss hw hn hz i _ hb)
  have GR := hid gr
  by_cases h : thereC k l s ss i = 0
  · obtain ⟨hv, j, rfl, hj⟩ := there_yes h
    rw [sureV_at h]
    obtain ⟨K, L, B, rfl, rfl, rfl, k1, k2, l1, l2, b2⟩ := sizedB_yes (validBk_sizedT hv)
    obtain ⟨-, -, e3⟩ := room_yes (validBk_sizedT hv)
    have hnl := validBk_lens hv
    rw [h] at HB ⊢
    rw [e3, ← hl] at hnl
    rw [e3, ← hl]
    rw [← hl] at hj
    have hjX : j < (bookL K B L).length := by omega
    have HM := hid (fun V (g : Gr (w.alloc (.cells (bookC K L B (.slice a n cap)) 31)) V) => l03Meanings_any w.heap.size K L B a n cap ss k2 l2 b2 V (hb.gr g))
    have HCO := hid (fun (g0 c0 lo : Nat) (vs : List Value) (b : Option Addr) (cb p : Nat) (hp : p ≤ ((bookL K B L).getD j []).length) (V : World) (g : Gr (w.alloc (.cells (bookC K L B (.slice a n cap)) 31)) V) (hr : RowQ V lo (.slice (some ⟨g0, 0, none⟩) (bookL K B L).length c0) vs (bookL K B L)) (hsl : SliceOf .i8 V b (((bookL K B L).getD j []).take p)) =>
      l03Completions_any w.heap.size (K : Int) (L : Int) (B : Int) a n cap ss g0 (bookL K B L).length c0 lo vs (bookL K B L) rfl hnl.2 (by have := book_bd (B := B) k2 l2; omega) (book_lens l2) b p cb (((bookL K B L).getD j []).take p) (by rw [List.length_take]; omega) (by have := (book_len3 (B := B) l2 hjX).2; omega) V (hb.gr g) hr hsl)
    have HCN := hid (fun p => show cntP (bookL K B L) n ((bookL K B L).getD j []) p = (complTo (bookL K B L) (((bookL K B L).getD j []).take p) n).length from rfl)
    have HCL := hid (fun p => cntP_le (bookL K B L) n ((bookL K B L).getD j []) p)
    have HHE := hid (fun p (hp : p ≤ ((bookL K B L).getD j []).length) (h : cntP (bookL K B L) n ((bookL K B L).getD j []) p = 1) => sureF_here hp h)
    have HNE := hid (fun p (hp : p ≤ ((bookL K B L).getD j []).length) (h : ¬ cntP (bookL K B L) n ((bookL K B L).getD j []) p = 1) => sureF_next hp h)
    have HEN := hid (fun p (hp : p = ((bookL K B L).getD j []).length + 1) => sureF_end (X := bookL K B L) (n := n) hp)
    have HSA := hid (sureF_start (bookL K B L) n ((bookL K B L).getD j []))
    have hl3 := book_len3 (B := B) l2 hjX
    have HJ := hid hjX
    have h100 : n ≤ 100 := by rw [hl]; exact (by have := validBk_lens hv; omega)
    clear h hv hs hl gr hz hw hb e3 hnl hj hjX
    generalize bookL K B L = xss at *
    generalize hx : xss.getD j [] = x at *
    obtain ⟨m, hm⟩ : ∃ m, m = x.length := ⟨_, rfl⟩
    rw [← hm] at hl3 HHE HNE HEN HSA HCO
    have HX := hid hx
    have HML := hid hm
    clear hx hm
    go_enter Tryd.func23, Tryd.ntmps23
    go_wp2_with fail
    refine HB.out.mono ?_
    rintro e w2 ⟨rfl, g2⟩
    have GB2 := hid g2
    have G2 := hid (GR.out.trans g2)
    clear g2
    have HM2 := hid (HM.out _ GB2.out)
    clear HM
    go_wp2_with fail
    refine HM2.out.mono ?_
    rintro e w3 ⟨g, cc, vs, rfl, hrow, g3⟩
    have G3 := hid (G2.out.trans g3)
    have GB3 := hid (GB2.out.trans g3)
    have HR := hid hrow
    obtain ⟨g0, g', c', e0, hcc, ho⟩ := hrow.at_ HJ.out
    simp only [Option.some.injEq, Addr.mk.injEq, and_true] at e0
    subst e0
    rw [HX.out, ← HML.out] at hcc
    rw [HX.out] at ho
    have hcap := row_cap ho
    rw [← HML.out] at hcap
    have HRX := hid (row_reads ho rfl)
    clear hrow g3 HM2 ho
    have HJJ := HJ.out
    obtain ⟨p0, hp0⟩ : ∃ p0, p0 = xss.length := ⟨_, rfl⟩
    rw [← hp0] at HJJ HR HCO ⊢
    clear hp0
    obtain ⟨lo, hlo⟩ : ∃ lo, lo = w2.heap.size := ⟨_, rfl⟩
    rw [← hlo] at HR
    clear hlo
    go_wp2_with fail
    go_loopw [9] (fun i wr => ∃ p : Nat, 1 ≤ p ∧ p ≤ m + 1 ∧ i = .int .i64 p ∧ Hid (sureF xss n x (m + 1 - p) p = sureN xss n x) ∧ Hid (Gr w3 wr)) (fun i _ => m + 1 - (intOf i).toNat)
    case atStart => exact ⟨1, Nat.le_refl _, by omega, rfl, HSA, hid (Gr.refl _)⟩
    case round =>
      obtain ⟨p, hp1, hp2, rfl, hsu, gr⟩ := hrel
      by_cases hlt : p ≤ m
      · have HC := hid (HCO.out g cc lo vs (some ⟨g', 0, none⟩) c' p hlt wr (GB3.out.trans gr.out) (HR.out.gr gr.out) ((HRX.out.gr gr.out).takeQ p))
        have HCp := hid (HCN.out p)
        have HLp := hid (HCL.out p)
        have HHp := hid (HHE.out p hlt)
        have HNp := hid (HNE.out p hlt)
        have hpc : p ≤ c' := by omega
        have hcw : wr.cell? ⟨g, j, none⟩ = some (.slice (some ⟨g', 0, none⟩) m c') := gr.out.cell hcc
        clear HCN HCL HHE HNE
        by_cases h1 : cntP xss n x p = 1
        · have HV := hid ((HHp.out h1).symm.trans hsu.out)
          rw [h1] at HCp
          clear h1 HHp HNp HLp hsu
          go_wp2_with fail
          refine HC.out.mono ?_
          rintro e w4 ⟨v, rfl, o, g4⟩
          obtain ⟨pm, cm, rfl⟩ := o.shape
          rw [← HCp.out]
          have G4 := hid (G3.out.trans (gr.out.trans g4))
          clear o g4 HC
          go_wp2_with fail
          go_ret2
          exact ⟨by rw [← HV.out]; rfl, G4.out⟩
        · have HV := hid ((HNp.out h1).trans hsu.out)
          have hc1 : ((cntP xss n x p : Int) == 1) = false := by rw [beq_eq_false_iff_ne]; omega
          have hlp := HLp.out
          clear h1 HHp HNp hsu
          generalize cntP xss n x p = ct at *
          go_wp2_with fail
          refine HC.out.mono ?_
          rintro e w4 ⟨v, rfl, o, g4⟩
          obtain ⟨pm, cm, rfl⟩ := o.shape
          rw [← HCp.out]
          have G4 := hid (gr.out.trans g4)
          clear o g4 HC
          go_wp2_with fail
          go_roundw
          case rel => exact ⟨p + 1, by omega, by omega, by go_num, HV, G4⟩
          case measure => simp [intOf] <;> omega
      · have hpm : p = m + 1 := by omega
        have HV := hid ((HEN.out p hpm).symm.trans hsu.out)
        have HPM := hid hpm
        clear hpm hsu
        go_wp2_with fail
        go_ret2
        exact ⟨by rw [← HV.out, HPM.out]; push_cast; rfl, G3.out.trans gr.out⟩
  · rw [sureV_no h]
    have hcb : (thereC k l s ss i != 0) = true := by rw [bne_iff_ne]; exact h
    clear h hs hl gr hz hw hb
    generalize thereC k l s ss i = c at *
    go_enter Tryd.func23, Tryd.ntmps23
    go_wp2_with fail
    refine HB.out.mono ?_
    rintro e w2 ⟨rfl, g2⟩
    have G2 := hid (GR.out.trans g2)
    clear g2
    go_wp2_with fail
    go_ret2
    exact ⟨rfl, G2.out⟩
set_option maxRecDepth 100000 in
set_option maxHeartbeats 2000000 in
theorem impl_FlagsUntilSure_any (k l s : Int) (hw : Wf3 k l s) (a : Option Addr) (cap n : Nat) (ss : List ByteArray) (hl : n = ss.length) (hn : n ≤ 1048576) (hz : SizesOk ss) (i : Int) (_hi : (Lit.int .i64 i).wf = true) (b0 b1 b2 : Addr) (w : World) (hs : StrsOf w a ss) (hS : SentAt w b0 b1 b2) :
    Calls Tryd.prog 24 #[bookV k l s (.slice a n cap), .int .i64 i] w fun e w' => e = .returned (.tuple #[.int .i64 (sureV k l s ss i), .int .i64 (thereC k l s ss i)]) ∧ Gr w w' := by
  obtain ⟨W, hW⟩ : ∃ W, W = w.alloc (.cells (bookC k l s (.slice a n cap)) 31) := ⟨_, rfl⟩
  have G0 : Hid (Gr w W) := hid (by rw [hW]; exact (Gr.refl w).alloc _)
  have B0 : Hid (W.heap[w.heap.size]? = some (.cells (bookC k l s (.slice a n cap)) 31 (0, 0))) := hid (by rw [hW]; exact heap_new rfl)
  have HD := hid (fun V (g : Gr W V) => bk_cells (k := k) (l := l) (s := s) (v := .slice a n cap) (g.heap B0.out))
  have HCI := hid (fun V (g : Gr W V) => checkIndex_any k l s hw a cap n ss hl hn hz i b0 b1 b2 V (hs.gr (G0.out.trans g)) (hS.gr (G0.out.trans g)))
  have HSE := hid (fun V (g : Gr W V) => hS.gr (G0.out.trans g))
  have HW := hid hW
  clear hW hS
  by_cases h : thereC k l s ss i = 0
  · obtain ⟨hv, j, rfl, hj⟩ := there_yes h
    rw [sureV_at h]
    obtain ⟨K, L, B, rfl, rfl, rfl, k1, k2, l1, l2, b2'⟩ := sizedB_yes (validBk_sizedT hv)
    obtain ⟨-, -, e3⟩ := room_yes (validBk_sizedT hv)
    have hnl := validBk_lens hv
    rw [h] at HCI ⊢
    rw [errE_zero] at HCI
    rw [e3, ← hl] at hnl
    rw [← hl] at hj
    rw [e3, ← hl]
    have hjX : j < (bookL K B L).length := by omega
    have HM := hid (fun V => meaningsIn_any K L B k1 k2 l2 b2' a cap n hnl.2 V)
    have HTK : Hid (((bookL K B L).take n).getD j [] = (bookL K B L).getD j []) := hid (by simp [List.getD, hj])
    have HTL : Hid (j < ((bookL K B L).take n).length) := hid (by rw [List.length_take]; omega)
    have hl3 := book_len3 (B := B) l2 hjX
    have HCO := hid (fun (lo : Nat) (aa : Option Addr) (c : Nat) (vs : List Value) (b : Option Addr) (cb p : Nat) (hp : p ≤ ((bookL K B L).getD j []).length) (V : World) (hr : RowQ V lo (.slice aa n c) vs ((bookL K B L).take n)) (hsl : SliceOf .i8 V b (((bookL K B L).getD j []).take p)) => by
      have h1 := completions_any aa n c lo vs ((bookL K B L).take n) (by rw [List.length_take]; omega) hn (fun x hx => book_lens l2 x (List.mem_of_mem_take hx)) b p cb (((bookL K B L).getD j []).take p) (by rw [List.length_take]; omega) (by omega) V hr hsl
      rw [complTo_take _ _ n n (Nat.le_refl _)] at h1
      exact h1)
    have HCN := hid (fun p => show cntP (bookL K B L) n ((bookL K B L).getD j []) p = (complTo (bookL K B L) (((bookL K B L).getD j []).take p) n).length from rfl)
    have HCL := hid (fun p => And.intro (cntP_pos (X := bookL K B L) hj p) (cntP_le (bookL K B L) n ((bookL K B L).getD j []) p))
    have HHE := hid (fun p (hp : p ≤ ((bookL K B L).getD j []).length) (h : cntP (bookL K B L) n ((bookL K B L).getD j []) p = 1) => sureF_here hp h)
    have HNE := hid (fun p (hp : p ≤ ((bookL K B L).getD j []).length) (h : ¬ cntP (bookL K B L) n ((bookL K B L).getD j []) p = 1) => sureF_next hp h)
    have HEN := hid (fun p (hp : p = ((bookL K B L).getD j []).length + 1) => sureF_end (X := bookL K B L) (n := n) hp)
    have HSA := hid (sureF_start (bookL K B L) n ((bookL K B L).getD j []))
    clear h hv hs hl hz hw e3 hnl hjX
    generalize bookL K B L = X at *
    generalize hx : X.getD j [] = x at *
    obtain ⟨m, hm⟩ : ∃ m, m = x.length := ⟨_, rfl⟩
    rw [← hm] at hl3 HHE HNE HEN HSA HCO
    have HML := hid hm
    clear hx hm
    go_enter Tryd.func24, Tryd.ntmps24
    go_wp2_with fail
    rw [← HW.out]
    obtain ⟨d0, d1, d2, d3⟩ := HD.out _ (Gr.refl W)
    go_wp2_with fail
    refine (HCI.out _ (Gr.refl W)).mono ?_
    rintro e w2 ⟨rfl, g2⟩
    have GB2 := hid g2
    have G2 := hid (G0.out.trans g2)
    clear d0 d1 d2 d3
    obtain ⟨d0, d1, d2, d3⟩ := HD.out _ g2
    clear g2
    go_wp2_with fail
    refine (HM.out _).mono ?_
    rintro e w4 ⟨aa, c, vs, rfl, hrow, g4⟩
    have G4 := hid (G2.out.trans g4)
    have HR := hid hrow
    obtain ⟨g0, g', c', rfl, hcc, ho⟩ := hrow.at_ HTL.out
    rw [HTK.out, ← HML.out] at hcc
    rw [HTK.out] at ho
    have hcap := row_cap ho
    rw [← HML.out] at hcap
    have HRX := hid (row_reads ho rfl)
    clear hrow g4 HM d0 d1 d2 d3 ho
    obtain ⟨lo, hlo⟩ : ∃ lo, lo = w2.heap.size := ⟨_, rfl⟩
    rw [← hlo] at HR
    clear hlo
    go_wp2_with fail
    go_loopw [8] (fun i wr => ∃ p : Nat, 1 ≤ p ∧ p ≤ m + 1 ∧ i = .int .i64 p ∧ Hid (sureF X n x (m + 1 - p) p = sureN X n x) ∧ Hid (Gr w4 wr)) (fun i _ => m + 1 - (intOf i).toNat)
    case atStart => exact ⟨1, Nat.le_refl _, by omega, rfl, HSA, hid (Gr.refl _)⟩
    case round =>
      obtain ⟨p, hp1, hp2, rfl, hsu, gr⟩ := hrel
      have hcw : wr.cell? ⟨g0, j, none⟩ = some (.slice (some ⟨g', 0, none⟩) m c') := gr.out.cell hcc
      by_cases hlt : p ≤ m
      · have HC := hid (HCO.out lo (some ⟨g0, 0, none⟩) c vs (some ⟨g', 0, none⟩) c' p hlt wr (HR.out.gr gr.out) ((HRX.out.gr gr.out).takeQ p))
        have HCp := hid (HCN.out p)
        have HLp := hid (HCL.out p)
        have HHp := hid (HHE.out p hlt)
        have HNp := hid (HNE.out p hlt)
        have hpc : p ≤ c' := by omega
        clear HCN HCL HHE HNE
        by_cases h1 : cntP X n x p = 1
        · have HV := hid ((HHp.out h1).symm.trans hsu.out)
          rw [h1] at HCp
          clear h1 HHp HNp HLp hsu
          go_wp2_with fail
          refine HC.out.mono ?_
          rintro e w5 ⟨v, rfl, o, g5⟩
          obtain ⟨pm, cm, rfl⟩ := o.shape
          rw [← HCp.out]
          have G5 := hid (G4.out.trans (gr.out.trans g5))
          clear o g5 HC
          go_wp2_with fail
          go_ret2
          exact ⟨by rw [← HV.out]; rfl, G5.out⟩
        · have HV := hid ((HNp.out h1).trans hsu.out)
          have hlp := HLp.out
          have hc1 : 1 < cntP X n x p := by omega
          clear h1 HHp HNp hsu
          generalize cntP X n x p = ct at *
          go_wp2_with fail
          refine HC.out.mono ?_
          rintro e w5 ⟨v, rfl, o, g5⟩
          obtain ⟨pm, cm, rfl⟩ := o.shape
          rw [← HCp.out]
          have G5 := hid (gr.out.trans g5)
          clear o g5 HC
          go_wp2_with fail
          go_roundw
          case rel => exact ⟨p + 1, by omega, by omega, by go_num, HV, G5⟩
          case measure => simp [intOf] <;> omega
      · have hpm : p = m + 1 := by omega
        have HV := hid ((HEN.out p hpm).symm.trans hsu.out)
        clear hpm hsu
        have hle : decide (p ≤ m) = false := decide_eq_false hlt
        go_wp2_with fail
        go_ret2
        exact ⟨by rw [← HV.out]; rfl, G4.out.trans gr.out⟩
  · rw [sureV_no h]
    have hc3 : thereC k l s ss i = 1 ∨ thereC k l s ss i = 2 ∨ thereC k l s ss i = 4 := (there_cases k l s ss i).elim (fun e => absurd e h) (fun e => e.elim .inl (fun e => .inr (.inl e)))
    rw [errE_ne h] at HCI
    have HCO := hid (fun V (g : Gr W V) => codeOf_any b0 b1 b2 _ hc3 V (HSE.out V g))
    clear h hs hl hz hw hc3 HSE
    generalize thereC k l s ss i = c at *
    generalize errB b0 b1 b2 c = eb at *
    unfold sentV at HCI HCO
    go_enter Tryd.func24, Tryd.ntmps24
    go_wp2_with fail
    rw [← HW.out]
    obtain ⟨d0, d1, d2, d3⟩ := HD.out _ (Gr.refl W)
    go_wp2_with fail
    refine (HCI.out _ (Gr.refl W)).mono ?_
    rintro e w2 ⟨rfl, g2⟩
    have GB2 := hid g2
    have G2 := hid (G0.out.trans g2)
    clear g2 d0 d1 d2 d3
    go_wp2_with fail
    refine (HCO.out _ GB2.out).mono ?_
    rintro e w3 ⟨rfl, rfl⟩
    go_wp2_with fail
    go_ret2
    exact ⟨rfl, G2.out⟩
end Go.Proofs.YtfaiehjomcgjgaaDoor
