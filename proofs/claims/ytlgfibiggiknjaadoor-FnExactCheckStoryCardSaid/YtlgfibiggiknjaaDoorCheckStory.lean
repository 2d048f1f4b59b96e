/- CheckStory: both functions. -/
import Derived.Test.YtlgfibiggiknjaaDoorCheckStoryT
import Derived.Test.YtlgfibiggiknjaaDoorStoryS
import Derived.Deep.DeepCutAuto
namespace Go.Proofs.YtlgfibiggiknjaaDoor
set_option linter.unusedVariables false
open Go.RowKit
def StFits (_ : List (Int × Int)) : Prop := True
set_option maxRecDepth 100000 in
set_option maxHeartbeats 1000000 in
theorem impl_CheckStory_law (a : Option Addr) (n ca : Nat) (es : List En) (hn0 : n = es.length) (hn : n ≤ 1048576) (hf : EnFits es) (b : Option Addr) (m cb : Nat) (fs : List En) (hm0 : m = fs.length) (hm : m ≤ 1048576) (hg : EnFits fs) (c : Option Addr) (l cc : Nat) (ss : List (Int × Int)) (hl : l = ss.length) (hl2 : l ≤ 1048576) (_hs : StFits ss) (w : World) (ha : CellsOf w a (enCells es)) (hb : CellsOf w b (enCells fs)) (hc : CellsOf w c (flCells ss)) :
    Calls Tryd.prog 41 #[.slice a n ca, .slice b m cb, .slice c l cc] w fun e w' => e = .returned (.tuple #[.int .i64 (checkV es fs ss), .int .i64 (checkC es fs ss)]) ∧ Gr w w' := by
  have hmf : ∀ (fn : Fn) (first cap : Array Value) (w : World), (Instr.makeFunc fn first cap).run Tryd.prog w = .ok (.func fn first cap) w := fun _ _ _ _ => rfl
  have h2 : Logs2 w a b n m es fs := ⟨ha, hb, hn0, hm0, hn, hm⟩
  obtain ⟨Wa, hWa⟩ : ∃ Wa, Wa = w.alloc (.cells #[.slice a n ca] 27) := ⟨_, rfl⟩
  obtain ⟨Wb, hWb⟩ : ∃ Wb, Wb = Wa.alloc (.cells #[.slice b m cb] 27) := ⟨_, rfl⟩
  obtain ⟨W0, hW0⟩ : ∃ W0, W0 = Wb.alloc (.cells #[.slice c l cc] 39) := ⟨_, rfl⟩
  have ga : Gr w Wa := by rw [hWa]; exact (Gr.refl w).alloc _
  have gb : Gr Wa Wb := by rw [hWb]; exact (Gr.refl Wa).alloc _
  have gc : Gr Wb W0 := by rw [hW0]; exact (Gr.refl Wb).alloc _
  have g0 : Gr w W0 := (ga.trans gb).trans gc
  have G0 := hid g0
  have sa : Wa.heap.size = w.heap.size + 1 := by rw [hWa]; simp
  have sb : Wb.heap.size = w.heap.size + 2 := by rw [hWb]; simp [sa]
  have c0 : W0.cell? ⟨w.heap.size, 0, none⟩ = some (.slice a n ca) := by
    apply (gb.trans gc).cell
    rw [hWa, cell_of_row _ _ _ _ _ _ (heap_new (w := w) (o := .cells #[.slice a n ca] 27) rfl)]; rfl
  have c1 : W0.cell? ⟨w.heap.size + 1, 0, none⟩ = some (.slice b m cb) := by
    apply gc.cell
    rw [hWb, cell_of_row _ _ _ _ _ _ (heap_new (w := Wa) (o := .cells #[.slice b m cb] 27) sa.symm)]; rfl
  have c2 : W0.cell? ⟨w.heap.size + 2, 0, none⟩ = some (.slice c l cc) := by
    rw [hW0, cell_of_row _ _ _ _ _ _ (heap_new (w := Wb) (o := .cells #[.slice c l cc] 39) sb.symm)]; rfl
  have HA : Hid (Calls Tryd.prog 99 #[.func (.func 107) #[] #[.pointer (some ⟨w.heap.size, 0, none⟩), .pointer (some ⟨w.heap.size + 1, 0, none⟩), .pointer (some ⟨w.heap.size + 2, 0, none⟩)]] W0 (fun e w' => e = .returned (.tuple #[.int .i64 (checkV es fs ss), .int .i64 (checkC es fs ss)]) ∧ Gr W0 w')) := by
    apply hid
    have ge : Gr W0 (W0.alloc (.cells #[.nilIface] 75)) := (Gr.refl _).alloc _
    have hK : ∀ (args : Array Value) (w : World), (callFunc 107 args).run Tryd.prog w = .ok (.enter 107 args) w := fun args w => callFunc_enter Tryd.func107 (by kernel_rfl) (by kernel_rfl) args w
    cases hv : valid2 es fs with
    | false =>
      rw [show checkV es fs ss = 0 by unfold checkV; rw [hv]; rfl, show checkC es fs ss = 1 by unfold checkC; rw [hv]; rfl]
      exact rep_Int_pan_cannotBe (bad2 es fs) 107 #[.pointer (some ⟨w.heap.size, 0, none⟩), .pointer (some ⟨w.heap.size + 1, 0, none⟩), .pointer (some ⟨w.heap.size + 2, 0, none⟩)] W0 hK
        (chTell_pan a b n m ca cb es fs hf hg hv _ _ _ _ (ge.cell c0) (ge.cell c1) ((h2.gr g0).gr ge))
    | true =>
      have hT := chTell_any a b n m ca cb es fs hf hg hv c l cc ss hl hl2 _ _ _ _ (ge.cell c0) (ge.cell c1) ((h2.gr g0).gr ge) (ge.cell c2) ((hc.gr g0).gr ge)
      cases hr : ckEnd es fs ss with
      | none =>
        rw [show checkV es fs ss = 0 by unfold checkV; rw [hv, hr]; rfl, show checkC es fs ss = 8 by unfold checkC; rw [hv, hr]; rfl]
        rw [hr] at hT
        exact rep_Int_err_noStory (ckBad es fs ss) 107 #[.pointer (some ⟨w.heap.size, 0, none⟩), .pointer (some ⟨w.heap.size + 1, 0, none⟩), .pointer (some ⟨w.heap.size + 2, 0, none⟩)] W0 hK
          (hT.mono (by rintro e w' ⟨g, (⟨f, h, _⟩ | ⟨_, rfl⟩)⟩; (cases h); exact ⟨_, rfl, g⟩))
      | some f =>
        rw [show checkV es fs ss = f by unfold checkV; rw [hv, hr]; rfl, show checkC es fs ss = 0 by unfold checkC; rw [hv, hr]; rfl]
        rw [hr] at hT
        exact (rep_Int_ok 107 #[.pointer (some ⟨w.heap.size, 0, none⟩), .pointer (some ⟨w.heap.size + 1, 0, none⟩), .pointer (some ⟨w.heap.size + 2, 0, none⟩)] (fun v _ => v = .int .i64 f) W0 hK (fun _ _ _ _ h => h)
          (hT.mono (by rintro e w' ⟨g, (⟨f', h, rfl⟩ | ⟨h, _⟩)⟩; (cases h; exact ⟨_, rfl, rfl, g⟩); cases h))).mono (by rintro e w' ⟨v, rfl, rfl, g⟩; exact ⟨rfl, g⟩)
  generalize checkV es fs ss = ys at *
  generalize checkC es fs ss = cd at *
  rw [hW0, hWb, hWa] at HA
  clear h2 ha hb hc hf hg hn0 hm0 hl c0 c1 c2 g0 ga gb gc sa sb
  go_enter Tryd.func41, Tryd.ntmps41
  go_wp2_with fail
  refine HA.out.mono ?_
  rintro e w1 ⟨rfl, g1⟩
  rw [← hWa, ← hWb, ← hW0] at g1
  have G1 := hid (G0.out.trans g1)
  clear g1
  go_wp2_with fail
  go_ret2
  exact ⟨rfl, G1.out⟩
set_option maxRecDepth 100000 in
set_option maxHeartbeats 8000000 in
theorem spec_CheckStory_law (a : Option Addr) (n ca : Nat) (es : List En) (hn0 : n = es.length) (hn : n ≤ 1048576) (hf : EnFits es) (b : Option Addr) (m cb : Nat) (fs : List En) (hm0 : m = fs.length) (hm : m ≤ 1048576) (hg : EnFits fs) (c : Option Addr) (l cc : Nat) (ss : List (Int × Int)) (hl : l = ss.length) (hl2 : l ≤ 1048576) (_hs : StFits ss) (w : World) (ha : CellsOf w a (enCells es)) (hb : CellsOf w b (enCells fs)) (hc : CellsOf w c (flCells ss)) :
    Calls Tryd.prog 39 #[.slice a n ca, .slice b m cb, .slice c l cc] w fun e w' => e = .returned (.tuple #[.int .i64 (checkV es fs ss), .int .i64 (checkC es fs ss)]) ∧ Gr w w' := by
  have h2 : Logs2 w a b n m es fs := ⟨ha, hb, hn0, hm0, hn, hm⟩
  have HO1 := hid (fun V (g : Gr w V) => l07Ok_any a n ca es hn0 hn V (ha.gr g))
  have HO2 := hid (fun V (g : Gr w V) => l07Ok_any b m cb fs hm0 hm V (hb.gr g))
  cases hv : valid2 es fs with
  | false =>
    rw [show checkV es fs ss = 0 by unfold checkV; rw [hv]; rfl, show checkC es fs ss = 1 by unfold checkC; rw [hv]; rfl]
    cases hv1 : validE es with
    | false =>
      rw [hv1] at HO1
      clear h2 ha hb hf hg hn0 hm0 hv hv1
      go_enter Tryd.func39, Tryd.ntmps39
      go_wp2_with fail
      refine (HO1.out _ (Gr.refl _)).mono ?_
      rintro e w1 ⟨rfl, g1⟩
      have GF := hid g1
      clear g1
      go_wp2_with fail
      go_ret2
      exact ⟨rfl, GF.out⟩
    | true =>
      have hv2 : validE fs = false := by unfold valid2 at hv; rw [hv1, Bool.true_and] at hv; exact hv
      rw [hv1] at HO1
      rw [hv2] at HO2
      clear h2 ha hb hf hg hn0 hm0 hv hv1 hv2
      go_enter Tryd.func39, Tryd.ntmps39
      go_wp2_with fail
      refine (HO1.out _ (Gr.refl _)).mono ?_
      rintro e w1 ⟨rfl, g1⟩
      have G1 := hid g1
      clear g1
      go_wp2_with fail
      refine (HO2.out _ G1.out).mono ?_
      rintro e w2 ⟨rfl, g2⟩
      have GF := hid (G1.out.trans g2)
      clear g2
      go_wp2_with fail
      go_ret2
      exact ⟨rfl, GF.out⟩
  | true =>
    obtain ⟨h1, h2'⟩ := valid2_split hv
    have h60 := valid2_60 hv
    rw [h1] at HO1
    rw [h2'] at HO2
    have H2 := hid h2
    have HN := hid hn0
    have HM := hid hm0
    have hn6 : n ≤ 60 := by rw [hn0]; exact h60.1
    have hm6 : m ≤ 60 := by rw [hm0]; exact h60.2
    have HCC := hid hc
    have HL := hid hl
    have HV0 := hid (fun (h : ckEnd es fs ss = none) => show checkV es fs ss = 0 ∧ checkC es fs ss = 8 by unfold checkV checkC; rw [hv, h]; exact ⟨rfl, rfl⟩)
    have HV1 := hid (fun f (h : ckEnd es fs ss = some f) => show checkV es fs ss = f ∧ checkC es fs ss = 0 by unfold checkV checkC; rw [hv, h]; exact ⟨rfl, rfl⟩)
    generalize checkV es fs ss = ys at *
    generalize checkC es fs ss = cd at *
    clear h2 ha hb hc hf hg hv h1 h2' h60 hn0 hm0 hl
    go_enter Tryd.func39, Tryd.ntmps39
    go_wp2_with fail
    refine (HO1.out _ (Gr.refl _)).mono ?_
    rintro e w1 ⟨rfl, g1⟩
    have G1 := hid g1
    clear g1
    go_wp2_with fail
    refine (HO2.out _ G1.out).mono ?_
    rintro e w2 ⟨rfl, g2⟩
    have G2 := hid (G1.out.trans g2)
    clear g2
    go_wp2_with fail
    go_loopw [8, 9, 10, 11] (fun iv kv fv jv wr => ∃ (j : Nat) (ck : Ck), j ≤ l ∧ jv = .int .i64 j ∧ fv = .int .i64 ck.f ∧ iv = .int .i64 ck.i ∧ kv = .int .i64 ck.k ∧ Hid (ckTo es fs ss j = some ck) ∧ Hid (Gr w wr)) (fun _ _ _ jv _ => l - (intOf jv).toNat)
    case atStart => exact ⟨0, ⟨0, 0, 0⟩, Nat.zero_le _, rfl, rfl, rfl, rfl, hid rfl, G2⟩
    case round =>
      obtain ⟨j, ck, hj, rfl, rfl, rfl, rfl, hT, hg⟩ := hrel
      have hr := ckTo_range hT.out
      rw [← HN.out, ← HM.out] at hr
      by_cases hlt : j < l
      · have hlt2 : j < ss.length := by rw [← HL.out]; exact hlt
        obtain ⟨sb, so, rfl, rg⟩ := sp_at (HCC.out.gr hg.out) hlt2
        have RG := hid rg
        have HFAIL := hid (fun h => ckTo_fail hT.out h hlt2)
        have HGO := hid (fun x h => ckTo_go (a := x) hT.out h)
        generalize flAt ss j = xy at *
        obtain ⟨X, Y⟩ := xy
        obtain ⟨i, k, cf⟩ := ck
        simp only at hr HFAIL HGO RG ⊢
        have HB := hid (fun h1 h2 => find_both (es := es) (fs := fs) (i := i) (k := k) (x := (X, Y)) h1 h2)
        have HD := hid (fun h1 h2 => find_drop (es := es) (fs := fs) (i := i) (k := k) (x := (X, Y)) h1 h2)
        have HE := hid (fun h1 h2 => find_extra (es := es) (fs := fs) (i := i) (k := k) (x := (X, Y)) h1 h2)
        have HNO := hid (fun h0 h1 h2 => HFAIL.out (find_none (es := es) (fs := fs) (i := i) (k := k) (x := (X, Y)) h0 h1 h2))
        rw [← HN.out, ← HM.out] at HNO HB
        rw [← HN.out] at HD
        rw [← HM.out] at HE
        simp only at HNO HB HD HE
        obtain ⟨q1, hq1⟩ : ∃ q1 : Bool, (q1 = true) = (X = (i : Int) ∧ i < n) := ⟨decide (X = (i : Int) ∧ i < n), by simp⟩
        obtain ⟨q2, hq2⟩ : ∃ q2 : Bool, (q2 = true) = (Y = (k : Int) ∧ k < m) := ⟨decide (Y = (k : Int) ∧ k < m), by simp⟩
        rw [← hq1, ← hq2] at HNO HB
        rw [← hq1] at HD
        rw [← hq2] at HE
        have HQ1 := hid hq1
        have HQ2 := hid hq2
        obtain ⟨W3, hW3⟩ : ∃ W3, W3 = wr.alloc (.cells #[.int .i64 X, .int .i64 Y] 112) := ⟨_, rfl⟩
        have G3 := hid (show Gr w W3 by rw [hW3]; exact hg.out.alloc _)
        have B4 := hid (show W3.heap[wr.heap.size]? = some (.cells #[.int .i64 X, .int .i64 Y] 112 (0, 0)) by rw [hW3]; exact heap_new rfl)
        have HW3 := hid hW3
        have hb0 : (0 : Int) ≤ j := by omega
        have hb1 : (j : Int) < l := by omega
        have hi0 : (0 : Int) ≤ i := by omega
        have hk0 : (0 : Int) ≤ k := by omega
        clear rg hT hW3 hlt2 hq1 hq2
        go_upto_region 10 with (refine wpList_load_mid rfl 112 _ rfl sb (so + j * 2) rfl _ _ RG.out Tryd.underlying112 rfl (by kernel_rfl) ?_)
        rw [← HW3.out]
        have e0 : W3.cell? ⟨wr.heap.size, 0, none⟩ = some (.int .i64 X) := by rw [cell_of_row _ _ _ _ _ _ B4.out]; rfl
        have e1 : W3.cell? ⟨wr.heap.size, 1, none⟩ = some (.int .i64 Y) := by rw [cell_of_row _ _ _ _ _ _ B4.out]; rfl
        clear B4 HW3 RG
        go_cut [13] (fun v wx => v = .bool q1 ∧ W3 = wx)
        case first =>
          clear HNO HB HD HE HFAIL HGO HQ2 HV0 HV1
          by_cases hX : X = (i : Int)
          · have hXb : (X == (i : Int)) = true := by simpa using hX
            by_cases hi : i < n
            · obtain rfl : q1 = true := by rw [HQ1.out]; exact ⟨hX, hi⟩
              clear HQ1
              subst hX
              go_wp2_with fail
              go_meet
              case rel => exact ⟨rfl, rfl⟩
            · obtain rfl : q1 = false := by have h := HQ1.out; cases q1 with
                | false => rfl
                | true => exact absurd (h.mp rfl).2 hi
              clear HQ1
              subst hX
              go_wp2_with fail
              go_meet
              case rel => exact ⟨rfl, rfl⟩
          · have hXb : (X == (i : Int)) = false := by simpa using hX
            obtain rfl : q1 = false := by have h := HQ1.out; cases q1 with
              | false => rfl
              | true => exact absurd (h.mp rfl).1 hX
            clear HQ1
            go_wp2_with fail
            go_meet
            case rel => exact ⟨rfl, rfl⟩
        case rest =>
          obtain ⟨rfl, rfl⟩ := hcut
          go_upto_region 11 with (fail)
          go_cut [14] (fun v wx => v = .bool q2 ∧ W3 = wx)
          case first =>
            clear HNO HB HD HE HFAIL HGO HQ1 HV0 HV1
            by_cases hY : Y = (k : Int)
            · have hYb : (Y == (k : Int)) = true := by simpa using hY
              by_cases hk : k < m
              · obtain rfl : q2 = true := by rw [HQ2.out]; exact ⟨hY, hk⟩
                clear HQ2
                subst hY
                go_wp2_with fail
                go_meet
                case rel => exact ⟨rfl, rfl⟩
              · obtain rfl : q2 = false := by have h := HQ2.out; cases q2 with
                  | false => rfl
                  | true => exact absurd (h.mp rfl).2 hk
                clear HQ2
                subst hY
                go_wp2_with fail
                go_meet
                case rel => exact ⟨rfl, rfl⟩
            · have hYb : (Y == (k : Int)) = false := by simpa using hY
              obtain rfl : q2 = false := by have h := HQ2.out; cases q2 with
                | false => rfl
                | true => exact absurd (h.mp rfl).1 hY
              clear HQ2
              go_wp2_with fail
              go_meet
              case rel => exact ⟨rfl, rfl⟩
          case rest =>
            obtain ⟨rfl, rfl⟩ := hcut
            cases q1
            · cases q2
              · have HZ := hid (HV0.out (HNO.out (fun h => by cases h.1) (fun h => by cases h.1) (fun h => by cases h.1)))
                clear HNO HB HD HE HFAIL HGO HQ1 HQ2 HV0 HV1
                go_wp2_with fail
                go_ret2
                exact ⟨by rw [HZ.out.1, HZ.out.2]; rfl, G3.out⟩
              · by_cases hX : X = -1
                · have HT2 := hid (HGO.out _ (HE.out hX rfl))
                  have hXb : (X == -1) = true := by simpa using hX
                  clear HNO HB HD HE HFAIL HGO HQ1 HQ2 HV0 HV1
                  rw [ni_extra, nk_extra] at HT2
                  subst hX
                  go_wp2_with fail
                  go_roundw
                  case rel => exact ⟨j + 1, _, by omega, by go_num, rfl, by go_num, by go_num, HT2, G3⟩
                  case measure => simp [intOf]; omega
                · have hXb : (X == -1) = false := by simpa using hX
                  have HZ := hid (HV0.out (HNO.out (fun h => by cases h.1) (fun h => by cases h.1) (fun h => hX h.2)))
                  clear HNO HB HD HE HFAIL HGO HQ1 HQ2 HV0 HV1 hX
                  go_wp2_with fail
                  go_ret2
                  exact ⟨by rw [HZ.out.1, HZ.out.2]; rfl, G3.out⟩
            · have hi := (HQ1.out.mp rfl).2
              cases q2
              · by_cases hY : Y = -1
                · have HT2 := hid (HGO.out _ (HD.out rfl hY))
                  have hYb : (Y == -1) = true := by simpa using hY
                  clear HNO HB HD HE HFAIL HGO HQ1 HQ2 HV0 HV1
                  rw [ni_drop, nk_drop] at HT2
                  subst hY
                  go_wp2_with fail
                  go_roundw
                  case rel => exact ⟨j + 1, _, by omega, by go_num, rfl, by go_num, by go_num, HT2, G3⟩
                  case measure => simp [intOf]; omega
                · have hYb : (Y == -1) = false := by simpa using hY
                  have HZ := hid (HV0.out (HNO.out (fun h => by cases h.2) (fun h => hY h.2) (fun h => by cases h.1)))
                  clear HNO HB HD HE HFAIL HGO HQ1 HQ2 HV0 HV1 hY
                  go_wp2_with fail
                  go_ret2
                  exact ⟨by rw [HZ.out.1, HZ.out.2]; rfl, G3.out⟩
              · have hk := (HQ2.out.mp rfl).2
                have HF := hid (HB.out rfl rfl)
                obtain ⟨bb0, o0, rfl, p0, p1, p2⟩ := en_at (H2.out.gr G3.out).fst (i := i) (by rw [← HN.out]; exact hi)
                obtain ⟨bb1, o1, rfl, q0, q1, q2'⟩ := en_at (H2.out.gr G3.out).snd (i := k) (by rw [← HM.out]; exact hk)
                have HRG0 := hid (range3 ⟨p0, p1, p2⟩)
                have HRG1 := hid (range3 ⟨q0, q1, q2'⟩)
                have HC := hid (fun V => l07Cost_any (enAt es i) (enAt fs k) V)
                have hcr := bothC_range (enAt es i) (enAt fs k)
                generalize bothC (enAt es i) (enAt fs k) = cc2 at *
                generalize enAt es i = x at *
                generalize enAt fs k = y at *
                unfold enV at HC
                obtain ⟨x0', x1', x2'⟩ := x
                obtain ⟨y0, y1', y2'⟩ := y
                simp only at HRG0 HRG1 HC
                have hi2 : (i : Int) < n := by omega
                have hk2 : (k : Int) < m := by omega
                clear p0 p1 p2 q0 q1 q2' HNO HB HD HE HQ1 HQ2
                go_wp2_with fail
                refine wp_region_still_tail 8 (by kernel_rfl) (by kernel_rfl) ?_
                simp only [List.take_succ_cons, List.take_zero, List.drop_succ_cons, List.drop_zero]
                repeat still_step
                refine wpStill_load_mid rfl 70 (.tmp 61) rfl bb0 (o0 + i * 3) rfl _ _ HRG0.out Tryd.underlying70 rfl sizeEn ?_
                simp only [Act.put, List.setIfInBounds_toArray, List.set_cons_zero, List.set_cons_succ]
                repeat still_step
                refine wpStill_load_mid rfl 70 (.tmp 65) rfl bb1 (o1 + k * 3) rfl _ _ HRG1.out Tryd.underlying70 rfl sizeEn ?_
                simp only [Act.put, List.setIfInBounds_toArray, List.set_cons_zero, List.set_cons_succ]
                refine wpStill_nil ?_
                go_wp2_with fail
                refine (HC.out _).mono ?_
                rintro e w5 ⟨rfl, g5⟩
                have G5 := hid (show Gr w w5 from G3.out.trans (((Gr.refl _).drew).trans g5))
                clear g5
                by_cases hcn : cc2 < 0
                · have HZ := hid (HV0.out (HFAIL.out (by rw [HF.out, if_pos hcn])))
                  clear HF HFAIL HGO HV0 HV1
                  go_wp2_with fail
                  go_ret2
                  exact ⟨by rw [HZ.out.1, HZ.out.2]; rfl, G5.out⟩
                · have HT2 : Hid (ckTo es fs ss (j + 1) = some ⟨i + 1, k + 1, cf + cc2⟩) := by
                    apply hid
                    by_cases hc0 : cc2 = 0
                    · have h := HGO.out (.right i k) (by rw [HF.out, if_neg hcn, if_pos hc0])
                      rw [ni_right, nk_right] at h
                      rw [h, hc0]; rfl
                    · have h := HGO.out (.mis i k) (by rw [HF.out, if_neg hcn, if_neg hc0])
                      rw [ni_mis, nk_mis] at h
                      rw [h, show cc2 = 1 by omega]; rfl
                  clear HF HFAIL HGO HV0 HV1
                  go_wp2_with fail
                  go_roundw
                  case rel => exact ⟨j + 1, _, by omega, by go_num, rfl, by go_num, by go_num, HT2, G5⟩
                  case measure => simp [intOf]; omega
      · obtain rfl : j = l := by omega
        have HEND := hid (show ckEnd es fs ss = if ck.i < n ∨ ck.k < m then none else some ck.f by unfold ckEnd; rw [← HL.out, hT.out, HN.out, HM.out]; rfl)
        obtain ⟨i, k, cf⟩ := ck
        simp only at hr HEND ⊢
        by_cases hi : i < n
        · have HZ := hid (HV0.out (by rw [HEND.out, if_pos (.inl hi)]))
          have hib : ((i : Int) != (n : Int)) = true := by simp; omega
          clear HEND hT HV0 HV1
          go_wp2_with fail
          go_ret2
          exact ⟨by rw [HZ.out.1, HZ.out.2]; rfl, hg.out⟩
        · have hib : ((i : Int) != (n : Int)) = false := by simp; omega
          by_cases hk : k < m
          · have HZ := hid (HV0.out (by rw [HEND.out, if_pos (.inr hk)]))
            have hkb : ((k : Int) != (m : Int)) = true := by simp; omega
            clear HEND hT HV0 HV1
            go_wp2_with fail
            go_ret2
            exact ⟨by rw [HZ.out.1, HZ.out.2]; rfl, hg.out⟩
          · have hkb : ((k : Int) != (m : Int)) = false := by simp; omega
            have HZ := hid (HV1.out cf (by rw [HEND.out, if_neg (fun h => h.elim hi hk)]))
            clear HEND hT HV0 HV1
            go_wp2_with fail
            go_ret2
            exact ⟨by rw [HZ.out.1, HZ.out.2]; rfl, hg.out⟩
end Go.Proofs.YtlgfibiggiknjaaDoor
