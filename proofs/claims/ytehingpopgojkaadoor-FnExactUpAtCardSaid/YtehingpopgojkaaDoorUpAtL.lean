/- UpAt: both functions. -/
import Derived.Test.YtehingpopgojkaaDoorUpAtI
namespace Go.Proofs.YtehingpopgojkaaDoor
set_option linter.unusedVariables false
open Go.RowKit
theorem upAt_length (es : List En) (time : Int) : (upAtV es time).length ≤ 1048576 := by
  unfold upAtV
  split
  · rename_i hv
    split
    · have h1 := (up_inv es (cntT es time)).len
      have h2 := cntT_le es time
      have h3 := (valid_good hv).1
      simp; omega
    · simp
  · simp
set_option maxRecDepth 100000 in
set_option maxHeartbeats 1000000 in
theorem impl_UpAt_law (a : Option Addr) (n cap : Nat) (es : List En) (hl : n = es.length) (hn : n ≤ 1048576) (hf : EnFits es) (time : Int) (_vt : (Lit.int .i64 time).wf = true) (w : World) (ha : CellsOf w a (enCells es)) :
    Calls Tryd.prog 21 #[.slice a n cap, .int .i64 time] w (RetOwn .i64 2 (withCode (upAtC es time)) (upAtV es time) w) := by
  have hmf : ∀ (fn : Fn) (first cap : Array Value) (w : World), (Instr.makeFunc fn first cap).run Tryd.prog w = .ok (.func fn first cap) w := fun _ _ _ _ => rfl
  obtain ⟨W0, hW0⟩ : ∃ W0, W0 = (w.alloc (.cells #[.slice a n cap] 26)).alloc (.cells #[.int .i64 time] 2) := ⟨_, rfl⟩
  have g0 : Gr w W0 := by rw [hW0]; exact ((Gr.refl w).alloc _).alloc _
  have G0 := hid g0
  have hsz : W0.heap.size = w.heap.size + 2 := by rw [hW0]; simp
  have c0 : W0.cell? ⟨w.heap.size, 0, none⟩ = some (.slice a n cap) := by
    rw [hW0]
    exact Gr.cell ((Gr.refl (w.alloc (.cells #[.slice a n cap] 26))).alloc _) (by rw [cell_of_row _ _ _ _ _ _ (heap_new (w := w) (o := .cells #[.slice a n cap] 26) (by simp))]; rfl)
  have c1 : W0.cell? ⟨w.heap.size + 1, 0, none⟩ = some (.int .i64 time) := by
    rw [hW0, cell_of_row _ _ _ _ _ _ (heap_new (w := (w.alloc (.cells #[.slice a n cap] 26))) (o := .cells #[.int .i64 time] 2) (by simp))]; rfl
  have HA : Hid (Calls Tryd.prog 66 #[.func (.func 67) #[] #[.pointer (some ⟨w.heap.size, 0, none⟩), .pointer (some ⟨w.heap.size + 1, 0, none⟩)]] W0 (fun e w' => ∃ v, e = .returned (.tuple #[v, .int .i64 (upAtC es time)]) ∧ Own .i64 2 w' w.heap.size w'.heap.size v (upAtV es time) ∧ Gr W0 w')) := by
    apply hid
    have ge : Gr W0 (W0.alloc (.cells #[.nilIface] 74)) := (Gr.refl _).alloc _
    have hK : ∀ (args : Array Value) (w : World), (callFunc 67 args).run Tryd.prog w = .ok (.enter 67 args) w := fun args w => callFunc_enter Tryd.func67 (by kernel_rfl) (by kernel_rfl) args w
    cases hv : validE es with
    | false =>
      rw [show upAtV es time = [] by unfold upAtV; rw [hv]; rfl, show upAtC es time = 1 by unfold upAtC; rw [hv]; rfl]
      exact (rep_Ints_pan_cannotBe (badX es) 67 #[.pointer (some ⟨w.heap.size, 0, none⟩), .pointer (some ⟨w.heap.size + 1, 0, none⟩)] W0 hK
        (upTell_pan a n cap es hl hn hf hv _ _ _ (ge.cell c0) ((ha.gr g0).gr ge))).mono (by rintro e w' ⟨rfl, g⟩; exact ⟨_, rfl, Own.nil _ _ _, g⟩)
    | true =>
      cases hr : rgV time 0 100000 with
      | false =>
        rw [show upAtV es time = [] by unfold upAtV; rw [hv, hr]; rfl, show upAtC es time = 2 by unfold upAtC; rw [hv, hr]; rfl]
        exact (rep_Ints_err_outOfRange timeTxt 67 #[.pointer (some ⟨w.heap.size, 0, none⟩), .pointer (some ⟨w.heap.size + 1, 0, none⟩)] W0 hK
          (upTell_no a n cap es hl hn hf hv time hr _ _ _ (ge.cell c0) (ge.cell c1) ((ha.gr g0).gr ge))).mono (by rintro e w' ⟨rfl, g⟩; exact ⟨_, rfl, Own.nil _ _ _, g⟩)
      | true =>
        rw [show upAtV es time = (upS es (cntT es time)).map (sigE es) by unfold upAtV; rw [hv, hr]; rfl, show upAtC es time = 0 by unfold upAtC; rw [hv, hr]; rfl]
        exact (rep_Ints_ok 67 #[.pointer (some ⟨w.heap.size, 0, none⟩), .pointer (some ⟨w.heap.size + 1, 0, none⟩)] (RI (W0.heap.size + 1) .i64 2 ((upS es (cntT es time)).map (sigE es))) W0 hK (ri_stays (Nat.lt_succ_self _))
          ((upTell_ok a n cap es hl hn hf hv time hr _ _ _ (ge.cell c0) (ge.cell c1) ((ha.gr g0).gr ge)).mono (by rintro e w' ⟨v, rfl, o, g⟩; exact ⟨v, rfl, ⟨_, Nat.le_refl _, o.widen (by simp) (Nat.le_refl _)⟩, g⟩))).mono (by rintro e w' ⟨v, rfl, ⟨hi, h1, o⟩, g⟩; exact ⟨v, rfl, o.widen (by omega) h1, g⟩)
  generalize upAtV es time = ys at *
  generalize upAtC es time = cd at *
  rw [hW0] at HA
  clear ha hl hf c0 c1 g0 hsz
  go_enter Tryd.func21, Tryd.ntmps21
  go_wp2_with fail
  refine HA.out.mono ?_
  rintro e w1 ⟨v, rfl, o1, g1⟩
  rw [← hW0] at g1
  have G1 := hid (G0.out.trans g1)
  have O1 := hid o1
  clear g1 o1
  go_wp2_with fail
  go_ret2
  exact ⟨_, rfl, O1.out, G1.out⟩
theorem cntT_end {es : List En} {time : Int} {k : Nat} (h : allTo (fun j => decide ((enAt es j).t ≤ time)) k = true) (he : k = es.length ∨ (k < es.length ∧ decide ((enAt es k).t ≤ time) = false)) : cntT es time = k := by
  unfold cntT
  rcases he with rfl | ⟨h1, h2⟩
  · rw [firstNo, if_pos h]
  · rw [firstNo, if_neg (by rw [allTo_no (p := fun j => decide ((enAt es j).t ≤ time)) h1 h2]; simp)]
    exact firstNo_eq h h2 _ h1
set_option maxRecDepth 100000 in
theorem l07Time_any (x : Int) (w : World) : Calls Tryd.prog 64 #[.int .i64 x] w fun e w' => e = .returned (.bool (rgV x 0 100000)) ∧ w = w' := by
  have HR := hid (fun V => l00In_v (n := x) (a := 0) (b := 100000) rfl V)
  go_enter Tryd.func64, Tryd.ntmps64
  go_wp2_with fail
  refine (HR.out _).mono ?_
  rintro e w1 ⟨rfl, rfl⟩
  go_wp2_with fail
  go_ret
  exact ⟨rfl, rfl⟩
set_option maxRecDepth 100000 in
set_option maxHeartbeats 2000000 in
theorem spec_UpAt_law (a : Option Addr) (n cap : Nat) (es : List En) (hl : n = es.length) (hn : n ≤ 1048576) (_hf : EnFits es) (time : Int) (_vt : (Lit.int .i64 time).wf = true) (w : World) (ha : CellsOf w a (enCells es)) :
    Calls Tryd.prog 20 #[.slice a n cap, .int .i64 time] w (RetOwn .i64 2 (withCode (upAtC es time)) (upAtV es time) w) := by
  obtain ⟨i0, hi, hz0, hz1, hz2⟩ := info_parts info64u
  have HO := hid (l07Ok_any a n cap es hl hn w ha)
  have HA := hid ha
  have HL := hid hl
  cases hv : validE es with
  | false =>
    rw [hv] at HO
    rw [show upAtV es time = [] by unfold upAtV; rw [hv]; rfl, show upAtC es time = 1 by unfold upAtC; rw [hv]; rfl]
    clear ha hl hv
    go_enter Tryd.func20, Tryd.ntmps20
    go_wp2_with fail
    refine HO.out.mono ?_
    rintro e w1 ⟨rfl, g1⟩
    have G1 := hid g1
    clear g1
    go_wp2_with fail
    go_ret2
    exact ⟨_, rfl, (Own.ofBlock (k := .i64) (e := 2) (xs := []) (heap_new (w := w1) (o := .cells #[] 2) rfl) (by unfold maxLen; simp)).widen G1.out.size (by simp), G1.out.alloc _⟩
  | true =>
    have HT := hid (fun V => l07Time_any time V)
    cases hr : rgV time 0 100000 with
    | false =>
      rw [hv] at HO
      rw [hr] at HT
      rw [show upAtV es time = [] by unfold upAtV; rw [hv, hr]; rfl, show upAtC es time = 2 by unfold upAtC; rw [hv, hr]; rfl]
      clear ha hl hv hr
      go_enter Tryd.func20, Tryd.ntmps20
      go_wp2_with fail
      refine HO.out.mono ?_
      rintro e w1 ⟨rfl, g1⟩
      have G1 := hid g1
      clear g1
      go_wp2_with fail
      refine (HT.out _).mono ?_
      rintro e w2 ⟨rfl, rfl⟩
      go_wp2_with fail
      go_ret2
      exact ⟨_, rfl, (Own.ofBlock (k := .i64) (e := 2) (xs := []) (heap_new (w := w1) (o := .cells #[] 2) rfl) (by unfold maxLen; simp)).widen G1.out.size (by simp), G1.out.alloc _⟩
    | true =>
      have HU := hid (fun V (g : Gr w V) m (hm : m ≤ n) => l07Up_any a n cap es hl hn m hm V (ha.gr g))
      have HK := hid (fun m (hm : m ≤ n) => show upBack es m = upS es m by
        unfold upBack
        rw [if_pos]
        have h1 := (validE_split es).symm.trans hv
        rw [Bool.and_eq_true, Bool.and_eq_true] at h1
        exact allTo_upto h1.2.2 (by rw [← hl]; exact hm))
      have HE := hid (fun k => cntT_end (es := es) (time := time) (k := k))
      rw [hv] at HO
      rw [hr] at HT
      rw [show upAtV es time = (upS es (cntT es time)).map (sigE es) by unfold upAtV; rw [hv, hr]; rfl, show upAtC es time = 0 by unfold upAtC; rw [hv, hr]; rfl]
      clear ha hl hv hr
      go_enter Tryd.func20, Tryd.ntmps20
      go_wp2_with fail
      refine HO.out.mono ?_
      rintro e w1 ⟨rfl, g1⟩
      have G1 := hid g1
      clear g1
      go_wp2_with fail
      refine (HT.out _).mono ?_
      rintro e w2 ⟨rfl, rfl⟩
      go_wp2_with fail
      go_loopw [6] (fun i wr => ∃ k : Nat, k ≤ n ∧ i = .int .i64 k ∧ Hid (allTo (fun j => decide ((enAt es j).t ≤ time)) k = true) ∧ Hid (Gr w wr)) (fun i _ => n - (intOf i).toNat)
      case atStart => exact ⟨0, Nat.zero_le _, rfl, hid rfl, G1⟩
      case round =>
        obtain ⟨k, hk, rfl, hok, hg⟩ := hrel
        by_cases hlt : k < n
        · obtain ⟨b0, o0, rfl, p0, -, -⟩ := en_at (HA.out.gr hg.out) (i := k) (by rw [← HL.out]; exact hlt)
          have hb0 : (0 : Int) ≤ k := by omega
          have hb1 : (k : Int) < n := by omega
          have HQ := hid (fun (h : decide ((enAt es k).t ≤ time) = true) => allTo_step (p := fun j => decide ((enAt es j).t ≤ time)) hok.out h)
          have HZ := hid (fun (h : decide ((enAt es k).t ≤ time) = false) => HE.out k hok.out (.inr ⟨by rw [← HL.out]; exact hlt, h⟩))
          generalize (enAt es k).t = x0 at *
          by_cases hx : x0 ≤ time
          · have HY := hid (HQ.out (decide_eq_true hx))
            go_wp2_with fail
            go_roundw
            case rel => exact ⟨k + 1, by omega, by go_num, HY, hg⟩
            case measure => simp [intOf]; omega
          · have HC := hid (HZ.out (decide_eq_false hx))
            clear HQ HZ
            go_wp2_with fail
            refine (HU.out _ hg.out k hk).mono ?_
            rintro e w2 ⟨v, rfl, o2, g2⟩
            rw [HK.out k hk] at o2
            obtain ⟨av, cv, rfl⟩ := o2.shape
            have GG := hid (hg.out.trans g2)
            have HRD := hid (fun V (g : Gr w2 V) => o2.reads.gr g)
            have HLOW := hid (up_inv es k).low
            have hlen := (up_inv es k).len
            obtain ⟨up, hup⟩ : ∃ up, up = upS es k := ⟨_, rfl⟩
            rw [← hup] at HRD HLOW hlen ⊢
            have HUPE := hid hup
            clear hup o2 g2
            go_wp2_with fail
            go_loopw [9, 10] (fun v i wr => ∃ j : Nat, j ≤ up.length ∧ i = .int .i64 j ∧ Hid (Own .i64 2 wr w2.heap.size wr.heap.size v ((up.take j).map (sigE es))) ∧ Hid (Gr w2 wr)) (fun _ i _ => up.length - (intOf i).toNat)
            case atStart => exact ⟨0, Nat.zero_le _, rfl, hid ((Own.ofBlock (k := .i64) (e := 2) (xs := []) (heap_new (w := w2) (o := .cells #[] 2) rfl) (by unfold maxLen; simp)).widen (Nat.le_refl _) (by simp)), hid ((Gr.refl _).alloc _)⟩
            case round =>
              obtain ⟨j, hj, rfl, O, G⟩ := hrel
              obtain ⟨vv, vc, rfl⟩ := O.out.shape
              by_cases hlj : j < up.length
              · obtain ⟨bu, ou, rfl, cu⟩ := HRD.out wr G.out j hlj
                have hlo := HLOW.out j hlj
                obtain ⟨hN, hhN⟩ : ∃ hN : Nat, up.getD j 0 = (hN : Int) := ⟨(up.getD j 0).toNat, by omega⟩
                rw [hhN] at cu hlo
                obtain ⟨b2, o2, ea, -, cs, -⟩ := en_at (HA.out.gr (GG.out.trans G.out)) (i := hN) (by rw [← HL.out]; omega)
                cases ea
                have HTK := hid (show (up.take (j + 1)).map (sigE es) = (up.take j).map (sigE es) ++ [(enAt es hN).s] by
                  rw [List.take_add_one, List.getElem?_eq_getElem hlj]
                  have : up[j] = (hN : Int) := by rw [← hhN]; simp [List.getD, hlj]
                  simp [this, sigE])
                have hxl : ((up.take j).map (sigE es)).length = j := by simp; omega
                generalize (enAt es hN).s = sg at *
                generalize (up.take j).map (sigE es) = xs at *
                have hb0 : (0 : Int) ≤ j := by omega
                have hb1 : (j : Int) < up.length := by omega
                have hc0 : (0 : Int) ≤ hN := by omega
                have hc1 : (hN : Int) < n := by omega
                clear hhN
                go_wp2_with (at_builtin; refine wpList_append_own _ rfl _ _ 30 rfl w2.heap.size 2 i0 (.int .i64 0) 1 8 Tryd.underlying30 hi hz0 hz1 hz2 rfl (by decide) _ _ _ rfl (O.out.row.alloc _) ⟨wr.heap.size, 0, none⟩ 1 1 [.int .i64 sg] rfl rfl (news_int1 (heap_new rfl)) (by simp [Value.oneCell']) (by unfold maxLen; omega) (by omega) (by have := G.out.size; simp; omega) ?_; intro v5 w5 hown5 hgrow5 _)
                have G6 := hid ((G.out.alloc (.cells #[.int .i64 sg] 2)).by_ hgrow5 (fun b e => (O.out.row.lt b e).1))
                have O5 := hid (show Own .i64 2 w5 w2.heap.size w5.heap.size v5 (xs ++ [sg]) from Own.ofRow hown5 (by simp) (by simp))
                clear hown5 hgrow5
                go_wp2_with fail
                go_roundw
                case rel => exact ⟨j + 1, by omega, by go_num, by rw [HTK.out]; exact O5, G6⟩
                case measure => simp [intOf]; omega
              · obtain rfl : j = up.length := by omega
                have OE := hid (show Own .i64 2 wr w2.heap.size wr.heap.size (.slice vv ((up.take up.length).map (sigE es)).length vc) (up.map (sigE es)) by have h := O.out; rw [List.take_length] at h ⊢; exact h)
                go_wp2_with fail
                go_ret2
                exact ⟨_, rfl, by rw [HC.out, ← HUPE.out]; exact OE.out.widen GG.out.size (Nat.le_refl _), GG.out.trans G.out⟩
        · have HC := hid (HE.out k hok.out (.inl (by rw [← HL.out]; omega)))
          go_wp2_with fail
          refine (HU.out _ hg.out k hk).mono ?_
          rintro e w2 ⟨v, rfl, o2, g2⟩
          rw [HK.out k hk] at o2
          obtain ⟨av, cv, rfl⟩ := o2.shape
          have GG := hid (hg.out.trans g2)
          have HRD := hid (fun V (g : Gr w2 V) => o2.reads.gr g)
          have HLOW := hid (up_inv es k).low
          have hlen := (up_inv es k).len
          obtain ⟨up, hup⟩ : ∃ up, up = upS es k := ⟨_, rfl⟩
          rw [← hup] at HRD HLOW hlen ⊢
          have HUPE := hid hup
          clear hup o2 g2
          go_wp2_with fail
          go_loopw [9, 10] (fun v i wr => ∃ j : Nat, j ≤ up.length ∧ i = .int .i64 j ∧ Hid (Own .i64 2 wr w2.heap.size wr.heap.size v ((up.take j).map (sigE es))) ∧ Hid (Gr w2 wr)) (fun _ i _ => up.length - (intOf i).toNat)
          case atStart => exact ⟨0, Nat.zero_le _, rfl, hid ((Own.ofBlock (k := .i64) (e := 2) (xs := []) (heap_new (w := w2) (o := .cells #[] 2) rfl) (by unfold maxLen; simp)).widen (Nat.le_refl _) (by simp)), hid ((Gr.refl _).alloc _)⟩
          case round =>
            obtain ⟨j, hj, rfl, O, G⟩ := hrel
            obtain ⟨vv, vc, rfl⟩ := O.out.shape
            by_cases hlj : j < up.length
            · obtain ⟨bu, ou, rfl, cu⟩ := HRD.out wr G.out j hlj
              have hlo := HLOW.out j hlj
              obtain ⟨hN, hhN⟩ : ∃ hN : Nat, up.getD j 0 = (hN : Int) := ⟨(up.getD j 0).toNat, by omega⟩
              rw [hhN] at cu hlo
              obtain ⟨b2, o2, ea, -, cs, -⟩ := en_at (HA.out.gr (GG.out.trans G.out)) (i := hN) (by rw [← HL.out]; omega)
              cases ea
              have HTK := hid (show (up.take (j + 1)).map (sigE es) = (up.take j).map (sigE es) ++ [(enAt es hN).s] by
                rw [List.take_add_one, List.getElem?_eq_getElem hlj]
                have : up[j] = (hN : Int) := by rw [← hhN]; simp [List.getD, hlj]
                simp [this, sigE])
              have hxl : ((up.take j).map (sigE es)).length = j := by simp; omega
              generalize (enAt es hN).s = sg at *
              generalize (up.take j).map (sigE es) = xs at *
              have hb0 : (0 : Int) ≤ j := by omega
              have hb1 : (j : Int) < up.length := by omega
              have hc0 : (0 : Int) ≤ hN := by omega
              have hc1 : (hN : Int) < n := by omega
              clear hhN
              go_wp2_with (at_builtin; refine wpList_append_own _ rfl _ _ 30 rfl w2.heap.size 2 i0 (.int .i64 0) 1 8 Tryd.underlying30 hi hz0 hz1 hz2 rfl (by decide) _ _ _ rfl (O.out.row.alloc _) ⟨wr.heap.size, 0, none⟩ 1 1 [.int .i64 sg] rfl rfl (news_int1 (heap_new rfl)) (by simp [Value.oneCell']) (by unfold maxLen; omega) (by omega) (by have := G.out.size; simp; omega) ?_; intro v5 w5 hown5 hgrow5 _)
              have G6 := hid ((G.out.alloc (.cells #[.int .i64 sg] 2)).by_ hgrow5 (fun b e => (O.out.row.lt b e).1))
              have O5 := hid (show Own .i64 2 w5 w2.heap.size w5.heap.size v5 (xs ++ [sg]) from Own.ofRow hown5 (by simp) (by simp))
              clear hown5 hgrow5
              go_wp2_with fail
              go_roundw
              case rel => exact ⟨j + 1, by omega, by go_num, by rw [HTK.out]; exact O5, G6⟩
              case measure => simp [intOf]; omega
            · obtain rfl : j = up.length := by omega
              have OE := hid (show Own .i64 2 wr w2.heap.size wr.heap.size (.slice vv ((up.take up.length).map (sigE es)).length vc) (up.map (sigE es)) by have h := O.out; rw [List.take_length] at h ⊢; exact h)
              go_wp2_with fail
              go_ret2
              exact ⟨_, rfl, by rw [HC.out, ← HUPE.out]; exact OE.out.widen GG.out.size (Nat.le_refl _), GG.out.trans G.out⟩
end Go.Proofs.YtehingpopgojkaaDoor
