/- FnHoisted: the law's walk. -/
import Derived.Test.YtbbkjhnihoohpaaAsk2
import Derived.Test.YtbbkjhnihoohpaaHoistedN
import Derived.Test.YtbbkjhnihoohpaaHForW
import Derived.Test.YtbbkjhnihoohpaaHoistE
namespace Go.Proofs.Ytbbkjhnihoohpaa
open Go.RowKit
theorem valid_fits {x : List Int} (h : validH x = true) : Fits .i8 x := by
  intro y hy
  obtain ⟨i, hi, rfl⟩ := List.mem_iff_getElem.1 hy
  have h1 := validH_num h hi
  rw [List.getD_eq_getElem?_getD, List.getElem?_eq_getElem hi] at h1
  simp only [Option.getD_some] at h1
  generalize x[i] = z at h1 ⊢
  simp [Lit.wf, IntKind.min, IntKind.max, IntKind.signed, IntKind.bits]
  omega
theorem wf_small {n : Int} (h0 : 0 ≤ n) (h9 : n ≤ 100) : (Lit.int .i64 n).wf = true := by
  have := wrap64_wf n
  rwa [IntWalk.wrap64_in n (by omega)] at this
set_option maxRecDepth 100000 in
set_option maxHeartbeats 1000000 in
theorem A2Alike_any (a : Option Addr) (n ca : Nat) (xs : List Int) (hn : n = xs.length) (hm : n ≤ 1048576) (b : Option Addr) (cb : Nat) (w : World) (hs : SliceOf .i8 w a xs) (ht : SliceOf .i8 w b xs) :
    Calls Try.prog 12 #[.slice a n ca, .slice b n cb] w fun e w' => e = .returned (.bool true) ∧ Gr w w' := by
  have H := hid (l02Same_any a n ca xs hn hm b n cb xs hn hm w hs ht)
  have E : eqLB xs xs = true := by unfold eqLB; exact decide_eq_true_iff.2 rfl
  rw [E] at H
  clear hs ht hn hm E
  go_enter Try.func12, Try.ntmps12
  go_wp2_with fail
  refine H.out.mono ?_
  rintro e w1 ⟨rfl, g1⟩
  go_wp2_with fail
  go_ret
  exact ⟨rfl, g1⟩
set_option maxRecDepth 100000 in
set_option maxHeartbeats 4000000 in
theorem FnHoisted_walk (a0 : Option Addr) (c0 : Nat) (bs : List Int) (hf : Fits .u8 bs) (a1 : Option Addr) (c1 : Nat) (ds : List Int) (hf1 : Fits .u8 ds) (w : World) (hs : SliceOf .u8 w a0 bs) (ht : SliceOf .u8 w a1 ds) :
    Calls Try.prog 3 #[.slice a0 bs.length c0, .slice a1 ds.length c1] w fun e w' => e = .returned (.bool true) ∧ Gr w w' := by
  obtain ⟨n0, hn0⟩ : ∃ n, n = bs.length := ⟨_, rfl⟩
  obtain ⟨n1, hn1⟩ : ∃ n, n = ds.length := ⟨_, rfl⟩
  rw [← hn0, ← hn1]
  by_cases hl : n0 ≤ 3000 ∧ n1 ≤ 3000
  · have HL := hid (a2Long_no a0 n0 c0 a1 n1 c1 hl.1 hl.2 w)
    have HM := hid (A2Meaning_any a0 n0 c0 bs hn0 (by omega) hf w hs)
    have HA := hid (fun W (g : Gr w W) => (show Calls Try.prog 6 #[.slice a1 n1 c1, .int .i64 0, .int .i64 3] W (fun e w' => (∃ v : Int, 0 ≤ v ∧ v < 3 ∧ e = .returned (.int .i64 v)) ∧ W = w') from a2At_any a1 n1 c1 ds hn1 hf1 0 3 (by decide) (by decide) (by decide) W (ht.gr g)))
    have HB := hid (fun W (g : Gr w W) => (show Calls Try.prog 6 #[.slice a1 n1 c1, .int .i64 1, .int .i64 5] W (fun e w' => (∃ v : Int, 0 ≤ v ∧ v < 5 ∧ e = .returned (.int .i64 v)) ∧ W = w') from a2At_any a1 n1 c1 ds hn1 hf1 1 5 (by decide) (by decide) (by decide) W (ht.gr g)))
    clear hl hn0 hn1 hf hf1 hs ht
    go_enter Try.func3, Try.ntmps3
    go_wp2_with fail
    refine HL.out.mono ?_
    rintro e _ ⟨rfl, rfl⟩
    go_wp2_with fail
    refine HM.out.mono ?_
    rintro e W1 ⟨⟨m, am, cm, rfl, hp, hcm, hsm⟩, g1⟩
    have G := hid g1
    have S := hid hsm
    have HP := hid hp
    clear g1 hsm hp
    go_wp2_with fail
    refine (HA.out _ G.out).mono ?_
    rintro e _ ⟨⟨v, hv0, hv1, rfl⟩, rfl⟩
    obtain ⟨s, hsv⟩ : ∃ s : Int, s = 1 + v := ⟨_, rfl⟩
    have es : IntKind.i64.wrap (1 + v) = s := by rw [hsv]; exact IntWalk.i64_in _ (by omega)
    have hs1 : 1 ≤ s := by omega
    have hs3 : s ≤ 3 := by omega
    clear hsv hv0 hv1
    go_wp2_with fail
    refine (HB.out _ G.out).mono ?_
    rintro e _ ⟨⟨b, hb0, hb1, rfl⟩, rfl⟩
    clear es HA HB HL HM
    obtain ⟨ask, ask8, ask0, lc0, code, ways, least, all, none, valid, read, need, known, subs⟩ := asked m HP.out s b hs1 hs3 hb0 (by omega)
    have hml := (validH_len (plainH_valid HP.out)).2
    have hfm : Fits .i8 m := valid_fits (plainH_valid HP.out)
    have ws : (Lit.int .i64 s).wf = true := wf_small (by omega) (by omega)
    have wb : (Lit.int .i64 b).wf = true := wf_small (by omega) (by omega)
    have hrl := hforL_length m s b
    have hIF := fun W (g : Gr W1 W) => impl_HoistFor_cap am cm m (by omega) hcm hfm s b W (S.out.gr g)
    have hSF := fun W (g : Gr W1 W) => spec_HoistFor_cap am cm m (by omega) hcm hfm s ws b wb W (S.out.gr g)
    have hIW := fun W (g : Gr W1 W) => impl_WaysToHoist_cap am cm m (by omega) hcm hfm s ws b wb W (S.out.gr g)
    have hIW8 := fun W (g : Gr W1 W) => impl_WaysToHoist_cap am cm m (by omega) hcm hfm 8 (wf_small (by omega) (by omega)) b wb W (S.out.gr g)
    have hIW0 := fun W (g : Gr W1 W) => impl_WaysToHoist_cap am cm m (by omega) hcm hfm 8 (wf_small (by omega) (by omega)) 0 (wf_small (by omega) (by omega)) W (S.out.gr g)
    have hIL := fun W (g : Gr W1 W) => impl_LeastSets_cap am cm m (by omega) hcm hfm b wb W (S.out.gr g)
    have hSL := fun W (g : Gr W1 W) => spec_LeastSets_cap am cm m (by omega) hcm hfm b wb W (S.out.gr g)
    rw [ask] at hIW
    rw [ask8] at hIW8
    rw [ask0, none] at hIW0
    rw [lc0] at hIL hSL
    generalize hforL m s b = r at *
    generalize hforC m s b = c at *
    generalize waysV m s b = u at *
    generalize leastV m b = l at *
    generalize waysV m 8 b = u8 at *
    have HIF := hid hIF
    have HSF := hid hSF
    have HIW := hid hIW
    have HIW8 := hid hIW8
    have HIW0 := hid hIW0
    have HIL := hid hIL
    have HSL := hid hSL
    obtain ⟨nm, hnm⟩ : ∃ n, n = m.length := ⟨_, rfl⟩
    obtain ⟨nr, hnr⟩ : ∃ n, n = r.length := ⟨_, rfl⟩
    rw [← hnm] at hml hcm HIF HSF HIW HIW8 HIW0 HIL HSL ⊢
    rw [← hnr] at hrl
    have HNM := hid hnm
    have HNR := hid hnr
    have HALL := hid all
    have HFM := hid hfm
    clear hIF hSF hIW hIW8 hIW0 hIL hSL ask ask8 ask0 lc0 none ws wb hnm hnr all hfm
    rcases code with hc | hc
    · have TU := hid (ways.2 hc)
      have TL := hid (least.1 hc)
      have HV := hid (valid hc)
      have HRD := hid (read hc)
      have HND := hid (need hc)
      have HKN := hid (known hc)
      have HSB := hid (subs hc)
      clear ways least valid read need known subs
      subst hc
      have tu : 0 < u := TU.out
      have tl : l ≤ s := TL.out
      clear TU TL
      go_wp2_with fail
      refine (HIF.out _ (Gr.refl _)).mono ?_
      rintro e W2 ⟨u2, rfl, o2, g2⟩
      obtain ⟨p2, q2, rfl⟩ := o2.shape
      rw [← HNR.out]
      have O2 := hid o2
      have G2 := hid g2
      clear o2 g2
      unfold withCode
      go_wp2_with fail
      refine (HSF.out _ G2.out).mono ?_
      rintro e W3 ⟨u3, rfl, o3, g3⟩
      obtain ⟨p3, q3, rfl⟩ := o3.shape
      rw [← HNR.out]
      replace O2 := hid (O2.out.gr g3)
      have O3 := hid o3
      have G3 := hid (G2.out.trans g3)
      clear o3 g3
      unfold withCode
      go_wp2_with fail
      refine (HIW.out _ G3.out).mono ?_
      rintro e W4 ⟨rfl, g4⟩
      replace O2 := hid (O2.out.gr g4)
      replace O3 := hid (O3.out.gr g4)
      have G4 := hid (G3.out.trans g4)
      clear g4
      go_wp2_with fail
      refine (HIL.out _ G4.out).mono ?_
      rintro e W5 ⟨rfl, g5⟩
      replace O2 := hid (O2.out.gr g5)
      replace O3 := hid (O3.out.gr g5)
      have G5 := hid (G4.out.trans g5)
      clear g5
      go_wp2_with fail
      refine (HSL.out _ G5.out).mono ?_
      rintro e W6 ⟨rfl, g6⟩
      replace O2 := hid (O2.out.gr g6)
      replace O3 := hid (O3.out.gr g6)
      have G6 := hid (G5.out.trans g6)
      clear g6
      go_wp2_with fail
      refine (A2Alike_any p2 nr q2 r HNR.out (by omega) p3 q3 _ O2.out.reads O3.out.reads).mono ?_
      rintro e W7 ⟨rfl, g7⟩
      have G7 := hid (G6.out.trans g7)
      have G7x := hid g7
      clear g7
      go_wp2_with fail
      have hcap3 := O3.out.capLe
      rw [← HNR.out] at hcap3
      have HFR := hid (valid_fits HV.out)
      have hmo := impl_MeaningOf_cap p3 nr q3 r HNR.out (by omega) hcap3 HFR.out W7 (O3.out.gr G7x.out).reads
      rw [codeH_yes HV.out, HRD.out] at hmo
      refine hmo.mono ?_
      rintro e W8 ⟨u8', rfl, o8, g8⟩
      obtain ⟨p8, q8, rfl⟩ := o8.shape
      rw [← HNM.out]
      have O8 := hid o8
      replace O3 := hid ((O3.out.gr G7x.out).gr g8)
      have G8 := hid (G7.out.trans g8)
      clear o8 g8 hmo G7x
      unfold withCode
      go_wp2_with fail
      have hse := impl_SetsFor_cap p3 q3 r (by rw [← HNR.out]; omega) (by rw [← HNR.out]; exact hcap3) HFR.out W8 O3.out.reads
      rw [codeH_yes HV.out, ← HNR.out] at hse
      generalize setsF r = nd at *
      refine hse.mono ?_
      rintro e W9 ⟨rfl, g9⟩
      replace O3 := hid (O3.out.gr g9)
      replace O8 := hid (O8.out.gr g9)
      have G9 := hid (G8.out.trans g9)
      clear g9 hse
      go_wp2_with fail
      have hsu := impl_SubsIn_cap p3 q3 r (by rw [← HNR.out]; omega) (by rw [← HNR.out]; exact hcap3) HFR.out W9 O3.out.reads
      rw [codeH_yes HV.out, ← HNR.out] at hsu
      have HOL := hid (subsF_length r)
      generalize subsF r = ow at *
      refine hsu.mono ?_
      rintro e W10 ⟨rfl, g10⟩
      replace O8 := hid (O8.out.gr g10)
      have G10 := hid (G9.out.trans g10)
      clear g10 hsu
      have nOw := hid (heap_new (w := W10) (o := .cells (kCells .i64 zeros4) 38) rfl)
      have Ow := hid (heap_row_set (cs := kCells .i64 ow) nOw.out)
      have gl := ((Gr.refl W10).alloc (.cells (kCells .i64 zeros4) 38)).setRow (Nat.le_refl _) (kCells .i64 ow)
      replace O8 := hid (O8.out.gr gl)
      have G11 := hid (G10.out.trans gl)
      have S11 := hid (S.out.gr G11.out)
      clear gl
      have tn1 : ¬ s < nd := by have := HND.out; omega
      have tn2 : ¬ nd < l := by have := HKN.out; omega
      go_wp2_with (first | (refine wpList_store_cells rfl 38 _ _ rfl _ (kCells .i64 ow) (kCells .i64 zeros4) rfl rfl _ 4 nOw.out (by kernel_rfl) (by rw [kCells_size]; exact HOL.out) (by rw [kCells_size]; rfl) (kCells_one _ ow) ?_) | fail)
      refine (A2Alike_any p8 nm q8 m HNM.out (by omega) am cm _ O8.out.reads S11.out).mono ?_
      rintro e W12 ⟨rfl, g12⟩
      have G12 := hid (G11.out.trans g12)
      replace Ow := hid (g12.heap Ow.out)
      clear g12
      go_wp2_with fail
      go_loopw [24] (fun i wr => ∃ k : Nat, k ≤ 4 ∧ i = .int .i64 k ∧ Hid (Gr W1 wr) ∧ Hid (wr.heap[W10.heap.size]? = some (.cells (kCells .i64 ow) 38 (0, 0)))) (fun i _ => 4 - (intOf i).toNat)
      case atStart => exact ⟨0, Nat.zero_le _, rfl, G12, Ow⟩
      case round =>
        obtain ⟨k, hk, rfl, GW, OW⟩ := hrel
        by_cases hk4 : k < 4
        · have t0 : (k : Int) < 4 := by omega
          have t00 : (0 : Int) ≤ (k : Int) := by omega
          have hc := cell_ints OW.out (i := k) (by rw [HOL.out]; exact hk4)
          by_cases hbk : b ≤ (k : Int)
          · rw [HSB.out k hbk hk4] at hc
            go_wp2_with fail
            go_roundw
            case rel => exact ⟨k + 1, by omega, by go_num, GW, OW⟩
            case measure => simp [intOf]; omega
          · have hbk' : (k : Int) < b := by omega
            clear hc
            go_wp2_with fail
            go_roundw
            case rel => exact ⟨k + 1, by omega, by go_num, GW, OW⟩
            case measure => simp [intOf]; omega
        · have t0 : ¬ (k : Int) < 4 := by omega
          have tall : u ≤ u8 := HALL.out
          go_wp2_with fail
          refine (HIW8.out _ GW.out).mono ?_
          rintro e W13 ⟨rfl, g13⟩
          have G13 := hid (GW.out.trans g13)
          clear g13
          go_wp2_with fail
          refine (HIW0.out _ G13.out).mono ?_
          rintro e W14 ⟨rfl, g14⟩
          have G14 := hid (G13.out.trans g14)
          clear g14
          go_wp2_with fail
          go_ret
          exact ⟨rfl, G.out.trans G14.out⟩
    · have hc0 : ¬ c = 0 := by omega
      have tu : ¬ 0 < u := fun h => hc0 (ways.1 h)
      have tl : ¬ l ≤ s := fun h => hc0 (least.2 h)
      clear ways least valid read need known subs hc0
      subst hc
      go_wp2_with fail
      refine (HIF.out _ (Gr.refl _)).mono ?_
      rintro e W2 ⟨u2, rfl, o2, g2⟩
      obtain ⟨p2, q2, rfl⟩ := o2.shape
      rw [← HNR.out]
      have O2 := hid o2
      have G2 := hid g2
      clear o2 g2
      unfold withCode
      go_wp2_with fail
      refine (HSF.out _ G2.out).mono ?_
      rintro e W3 ⟨u3, rfl, o3, g3⟩
      obtain ⟨p3, q3, rfl⟩ := o3.shape
      rw [← HNR.out]
      replace O2 := hid (O2.out.gr g3)
      have O3 := hid o3
      have G3 := hid (G2.out.trans g3)
      clear o3 g3
      unfold withCode
      go_wp2_with fail
      refine (HIW.out _ G3.out).mono ?_
      rintro e W4 ⟨rfl, g4⟩
      replace O2 := hid (O2.out.gr g4)
      replace O3 := hid (O3.out.gr g4)
      have G4 := hid (G3.out.trans g4)
      clear g4
      go_wp2_with fail
      refine (HIL.out _ G4.out).mono ?_
      rintro e W5 ⟨rfl, g5⟩
      replace O2 := hid (O2.out.gr g5)
      replace O3 := hid (O3.out.gr g5)
      have G5 := hid (G4.out.trans g5)
      clear g5
      go_wp2_with fail
      refine (HSL.out _ G5.out).mono ?_
      rintro e W6 ⟨rfl, g6⟩
      replace O2 := hid (O2.out.gr g6)
      replace O3 := hid (O3.out.gr g6)
      have G6 := hid (G5.out.trans g6)
      clear g6
      go_wp2_with fail
      refine (A2Alike_any p2 nr q2 r HNR.out (by omega) p3 q3 _ O2.out.reads O3.out.reads).mono ?_
      rintro e W7 ⟨rfl, g7⟩
      have G7 := hid (G6.out.trans g7)
      clear g7
      go_wp2_with fail
      go_ret
      exact ⟨rfl, G.out.trans G7.out⟩
  · have HL := hid (a2Long_yes a0 n0 c0 a1 n1 c1 hl w)
    clear hl hn0 hn1 hf hf1 hs ht
    go_enter Try.func3, Try.ntmps3
    go_wp2_with fail
    refine HL.out.mono ?_
    rintro e _ ⟨rfl, rfl⟩
    go_wp2_with fail
    go_ret
    exact ⟨rfl, Gr.refl _⟩
end Go.Proofs.Ytbbkjhnihoohpaa
