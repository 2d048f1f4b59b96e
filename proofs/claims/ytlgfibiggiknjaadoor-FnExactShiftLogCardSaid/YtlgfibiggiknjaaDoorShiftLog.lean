/- ShiftLog: both functions. -/
import Derived.Test.YtlgfibiggiknjaaDoorShiftLogT
import Derived.Test.YtlgfibiggiknjaaDoorUpAtTime
import Derived.Test.YtlgfibiggiknjaaDoorLogOk
import Derived.Test.YtlgfibiggiknjaaDoorStay
namespace Go.Proofs.YtlgfibiggiknjaaDoor
set_option linter.unusedVariables false
open Go.RowKit
set_option maxRecDepth 100000 in
set_option maxHeartbeats 1000000 in
theorem impl_ShiftLog_law (a : Option Addr) (n cap : Nat) (es : List En) (hl : n = es.length) (hn : n ≤ 1048576) (hf : EnFits es) (d : Int) (_vt : (Lit.int .i64 d).wf = true) (w : World) (ha : CellsOf w a (enCells es)) :
    Calls Tryd.prog 27 #[.slice a n cap, .int .i64 d] w (RetV 70 3 (withCode (shiftC es d)) (shiftV es d).length (enCells (shiftV es d)) w) := by
  have hmf : ∀ (fn : Fn) (first cap : Array Value) (w : World), (Instr.makeFunc fn first cap).run Tryd.prog w = .ok (.func fn first cap) w := fun _ _ _ _ => rfl
  obtain ⟨Wa, hWa⟩ : ∃ Wa, Wa = w.alloc (.cells #[.slice a n cap] 27) := ⟨_, rfl⟩
  obtain ⟨W0, hW0⟩ : ∃ W0, W0 = Wa.alloc (.cells #[.int .i64 d] 2) := ⟨_, rfl⟩
  have ga : Gr w Wa := by rw [hWa]; exact (Gr.refl w).alloc _
  have gb : Gr Wa W0 := by rw [hW0]; exact (Gr.refl Wa).alloc _
  have g0 : Gr w W0 := ga.trans gb
  have G0 := hid g0
  have sa : Wa.heap.size = w.heap.size + 1 := by rw [hWa]; simp
  have hsz : W0.heap.size = w.heap.size + 2 := by rw [hW0]; simp [sa]
  have c0 : W0.cell? ⟨w.heap.size, 0, none⟩ = some (.slice a n cap) := by
    apply gb.cell
    rw [hWa, cell_of_row _ _ _ _ _ _ (heap_new (w := w) (o := .cells #[.slice a n cap] 27) rfl)]; rfl
  have c1 : W0.cell? ⟨w.heap.size + 1, 0, none⟩ = some (.int .i64 d) := by
    rw [hW0, cell_of_row _ _ _ _ _ _ (heap_new (w := Wa) (o := .cells #[.int .i64 d] 2) sa.symm)]; rfl
  have HA : Hid (Calls Tryd.prog 83 #[.func (.func 84) #[] #[.pointer (some ⟨w.heap.size, 0, none⟩), .pointer (some ⟨w.heap.size + 1, 0, none⟩)]] W0 (fun e w' => ∃ v, e = .returned (.tuple #[v, .int .i64 (shiftC es d)]) ∧ OwnV 70 3 w' w.heap.size w'.heap.size v (shiftV es d).length (enCells (shiftV es d)) ∧ Gr W0 w')) := by
    apply hid
    have ge : Gr W0 (W0.alloc (.cells #[.nilIface] 75)) := (Gr.refl _).alloc _
    have hK : ∀ (args : Array Value) (w : World), (callFunc 84 args).run Tryd.prog w = .ok (.enter 84 args) w := fun args w => callFunc_enter Tryd.func84 (by kernel_rfl) (by kernel_rfl) args w
    cases hv : validE es with
    | false =>
      rw [show shiftV es d = [] by unfold shiftV; rw [hv]; rfl, show shiftC es d = 1 by unfold shiftC; rw [hv]; rfl]
      exact (rep_Log_pan_cannotBe (badX es) 84 #[.pointer (some ⟨w.heap.size, 0, none⟩), .pointer (some ⟨w.heap.size + 1, 0, none⟩)] W0 hK
        (shTell_pan a n cap es hl hn hf hv d _ _ _ (ge.cell c0) (ge.cell c1) ((ha.gr g0).gr ge))).mono (by rintro e w' ⟨rfl, g⟩; exact ⟨_, rfl, OwnV.nil _ _ _, g⟩)
    | true =>
      have hT := shTell_any a n cap es hl hn hf hv d _ _ _ (ge.cell c0) (ge.cell c1) ((ha.gr g0).gr ge)
      cases hr : shiftB es d with
      | false =>
        rw [show shiftV es d = [] by unfold shiftV; rw [hv, hr]; rfl, show shiftC es d = 2 by unfold shiftC; rw [hv, hr]; rfl]
        exact (rep_Log_err_outOfRange (if rgV d (-100000) 100000 = true then timeTxt7 else shiftTxt) 84 #[.pointer (some ⟨w.heap.size, 0, none⟩), .pointer (some ⟨w.heap.size + 1, 0, none⟩)] W0 hK
          (hT.mono (by rintro e w' ⟨g, (⟨h, _⟩ | ⟨_, rfl⟩)⟩; (rw [hr] at h; cases h); exact ⟨_, rfl, g⟩))).mono (by rintro e w' ⟨rfl, g⟩; exact ⟨_, rfl, OwnV.nil _ _ _, g⟩)
      | true =>
        rw [show shiftV es d = es.map (shE d) by unfold shiftV; rw [hv, hr]; rfl, show shiftC es d = 0 by unfold shiftC; rw [hv, hr]; rfl]
        exact (rep_Log_ok 84 #[.pointer (some ⟨w.heap.size, 0, none⟩), .pointer (some ⟨w.heap.size + 1, 0, none⟩)] (RV (W0.heap.size + 1) 70 3 es.length (enCells (es.map (shE d)))) W0 hK (rv_stays (Nat.lt_succ_self _))
          (hT.mono (by rintro e w' ⟨g, (⟨_, v, rfl, o⟩ | ⟨h, _⟩)⟩; exact ⟨v, rfl, ⟨_, Nat.le_refl _, o.widen (by simp) (Nat.le_refl _)⟩, g⟩; (rw [hr] at h; cases h)))).mono (by rintro e w' ⟨v, rfl, ⟨hi, h1, o⟩, g⟩; exact ⟨v, rfl, by rw [List.length_map]; exact o.widen (by omega) h1, g⟩)
  generalize shiftV es d = ys at *
  generalize shiftC es d = cd at *
  rw [hW0, hWa] at HA
  clear ha hl hf c0 c1 g0 hsz ga gb sa
  go_enter Tryd.func27, Tryd.ntmps27
  go_wp2_with fail
  refine HA.out.mono ?_
  rintro e w1 ⟨v, rfl, o1, g1⟩
  rw [← hWa, ← hW0] at g1
  have G1 := hid (G0.out.trans g1)
  have O1 := hid o1
  clear g1 o1
  go_wp2_with fail
  go_ret2
  exact ⟨_, rfl, O1.out, G1.out⟩
theorem news_vals {w : World} {b : Nat} {vs : List Value} {t : TypeId} {fr : Nat × Nat} (h : w.heap[b]? = some (.cells vs.toArray t fr)) : ∀ j u, vs[j]? = some u → w.cell? ((⟨b, 0, none⟩ : Addr).add j) = some u := by
  intro j u hu
  rw [Addr.add_mid, Nat.zero_add, cell_of_row w b j _ t fr h]
  simpa using hu
theorem timesB_succ (es : List En) (d : Int) (k : Nat) : timesB es d (k + 1) = (timesB es d k && rgV ((enAt es k).t + d) 0 100000) := rfl
theorem enCells_snoc {es : List En} {d : Int} {k : Nat} (h : k < es.length) : enCells ((es.take (k + 1)).map (shE d)) = enCells ((es.take k).map (shE d)) ++ [.int .i64 ((enAt es k).t + d), .int .i64 (enAt es k).s, .bool (enAt es k).d] := by
  rw [List.take_add_one, List.getElem?_eq_getElem h, List.map_append, enCells_append]
  congr 1
  simp [enCells, En.cells, shE, enAt, List.getD, h]
set_option maxRecDepth 100000 in
set_option maxHeartbeats 4000000 in
theorem spec_ShiftLog_law (a : Option Addr) (n cap : Nat) (es : List En) (hl : n = es.length) (hn : n ≤ 1048576) (_hf : EnFits es) (d : Int) (_vt : (Lit.int .i64 d).wf = true) (w : World) (ha : CellsOf w a (enCells es)) :
    Calls Tryd.prog 26 #[.slice a n cap, .int .i64 d] w (RetV 70 3 (withCode (shiftC es d)) (shiftV es d).length (enCells (shiftV es d)) w) := by
  obtain ⟨i0, hi0, hz0, hz1, hz2⟩ := info_parts infoEn
  have HO := hid (l07Ok_any a n cap es hl hn w ha)
  have HA := hid ha
  have HL := hid hl
  cases hv : validE es with
  | false =>
    rw [hv] at HO
    rw [show shiftV es d = [] by unfold shiftV; rw [hv]; rfl, show shiftC es d = 1 by unfold shiftC; rw [hv]; rfl]
    clear ha hl hv
    go_enter Tryd.func26, Tryd.ntmps26
    go_wp2_with fail
    refine HO.out.mono ?_
    rintro e w1 ⟨rfl, g1⟩
    have G1 := hid g1
    clear g1
    go_wp2_with fail
    go_ret2
    exact ⟨_, rfl, (OwnV.ofBlock (e := 70) (sz := 3) (n := 0) (us := #[]) (heap_new (o := .cells #[] 70) rfl) (by simp) (by unfold maxLen; simp)).widen G1.out.size (by simp), G1.out.alloc _⟩
  | true =>
    rw [hv] at HO
    have HRG := hid (fun V => l00In_v (n := d) (a := -100000) (b := 100000) rfl V)
    have HTM := hid (fun i (h : i < n) => times_ok hv (i := i) (by rw [← hl]; exact h))
    have h60 : n ≤ 60 := by rw [hl]; exact (valid_good hv).1
    have HSB := hid (show shiftB es d = (rgV d (-100000) 100000 && timesB es d n) by rw [hl]; rfl)
    have HV0 := hid (fun (h : shiftB es d = false) => show shiftV es d = [] ∧ shiftC es d = 2 by unfold shiftV shiftC; rw [hv, h]; exact ⟨rfl, rfl⟩)
    have HV1 := hid (fun (h : shiftB es d = true) => show shiftV es d = es.map (shE d) ∧ shiftC es d = 0 by unfold shiftV shiftC; rw [hv, h]; exact ⟨rfl, rfl⟩)
    have HD0 := hid (fun (h : rgV d (-100000) 100000 = true) => rgV_iff.1 h)
    generalize shiftV es d = ys at *
    generalize shiftC es d = cd at *
    generalize shiftB es d = sb at *
    generalize rgV d (-100000) 100000 = q at *
    clear ha hl hv
    go_enter Tryd.func26, Tryd.ntmps26
    go_wp2_with fail
    refine HO.out.mono ?_
    rintro e w1 ⟨rfl, g1⟩
    have G1 := hid g1
    clear g1
    go_wp2_with fail
    refine (HRG.out _).mono ?_
    rintro e w2 ⟨rfl, rfl⟩
    go_wp2_with fail
    go_loopw [6, 7] (fun ov iv wr => ∃ k : Nat, k ≤ n ∧ iv = .int .i64 k ∧ ov = .bool (q && timesB es d k) ∧ Hid (Gr w wr)) (fun _ iv _ => n - (intOf iv).toNat)
    case atStart => exact ⟨0, Nat.zero_le _, rfl, by simp [timesB, allTo], G1⟩
    case round =>
      obtain ⟨k, hk, rfl, rfl, hg⟩ := hrel
      cases hq : (q && timesB es d k)
      · have HZ := hid (HV0.out (by
          rw [HSB.out]
          rw [Bool.and_eq_false_iff] at hq ⊢
          rcases hq with h | h
          · exact .inl h
          · right
            cases ht : timesB es d n
            · rfl
            · unfold timesB at ht h
              rw [allTo_iff.2 fun i hi => allTo_iff.1 ht i (by omega)] at h; cases h))
        clear hq HSB HV0 HV1
        have hkn : (k : Int) < n ∨ ¬ (k : Int) < n := by omega
        rcases hkn with hkn | hkn
        all_goals
          go_wp2_with fail
          go_ret2
          exact ⟨_, by rw [HZ.out.2]; rfl, by rw [HZ.out.1]; exact (OwnV.ofBlock (e := 70) (sz := 3) (n := 0) (us := #[]) (heap_new (o := .cells #[] 70) rfl) (by simp) (by unfold maxLen; simp)).widen hg.out.size (by simp), hg.out.alloc _⟩
      · by_cases hlt : k < n
        · have hd := HD0.out (by rw [Bool.and_eq_true] at hq; exact hq.1)
          have hte := HTM.out k hlt
          obtain ⟨b0, o0, rfl, p0, -, -⟩ := en_at (HA.out.gr hg.out) (i := k) (by rw [← HL.out]; exact hlt)
          have HTS := hid (timesB_succ es d k)
          have HT := hid (fun V => l07Time_any7 ((enAt es k).t + d) V)
          generalize (enAt es k).t = t at *
          have HQ := hid (show (q && timesB es d (k + 1)) = rgV (t + d) 0 100000 by rw [HTS.out, ← Bool.and_assoc, hq, Bool.true_and])
          have hb0 : (0 : Int) ≤ k := by omega
          have hb1 : (k : Int) < n := by omega
          generalize rgV (t + d) 0 100000 = r at *
          clear hq
          go_wp2_with fail
          refine (HT.out _).mono ?_
          rintro e w3 ⟨rfl, rfl⟩
          go_wp2_with fail
          go_roundw
          case rel => exact ⟨k + 1, by omega, by go_num, by rw [HQ.out], hg⟩
          case measure => simp [intOf]; omega
        · obtain rfl : k = n := by omega
          have HZ := hid (HV1.out (by rw [HSB.out, hq]))
          have hd := HD0.out (by rw [Bool.and_eq_true] at hq; exact hq.1)
          clear hq HSB HV0 HV1
          go_wp2_with fail
          go_loopw [8, 9] (fun v iv wr => ∃ j : Nat, j ≤ k ∧ iv = .int .i64 j ∧ Hid (OwnV 70 3 wr w.heap.size wr.heap.size v j (enCells ((es.take j).map (shE d)))) ∧ Hid (Gr w wr)) (fun _ iv _ => k - (intOf iv).toNat)
          case atStart => exact ⟨0, Nat.zero_le _, rfl, hid ((OwnV.ofBlock (e := 70) (sz := 3) (n := 0) (us := #[]) (heap_new (o := .cells #[] 70) rfl) (by simp) (by unfold maxLen; simp)).widen hg.out.size (by simp)), hid (hg.out.alloc _)⟩
          case round =>
            clear hg
            obtain ⟨j, hj, rfl, O, hg⟩ := hrel
            obtain ⟨vv, vc, rfl⟩ := O.out.shape
            by_cases hlj : j < k
            · have hte := HTM.out j hlj
              obtain ⟨b0, o0, rfl, p0, p1, p2⟩ := en_at (HA.out.gr hg.out) (i := j) (by rw [← HL.out]; exact hlj)
              have HSN := hid (enCells_snoc (es := es) (d := d) (k := j) (by rw [← HL.out]; exact hlj))
              have HCE := hid (fun V (g : Gr w V) => en_at' (HA.out.gr g) (i := j) (by rw [← HL.out]; exact hlj))
              generalize (enAt es j).t = t at *
              generalize (enAt es j).s = s at *
              generalize (enAt es j).d = b at *
              have hb0 : (0 : Int) ≤ j := by omega
              have hb1 : (j : Int) < k := by omega
              have HWR := hid (show IntKind.i64.wrap (t + d) = t + d from IntWalk.i64_in _ (by omega))
              have O3 := hid (O.out.gr ((Gr.refl wr).drew)).row
              have SZ := hid hg.out.size
              go_wp2_with fail
              refine wp_region_held_drew (S := fun V => Gr w V) (by kernel_rfl) hg.out.drew (fun hH => ?_)
              have HH := hid hH
              clear hH
              refine wpAnyH_take (i := 0) (v := .slice vv j vc) rfl (by kernel_rfl) (by kernel_rfl) (by kernel_rfl) (fun _ _ _ h => h) (Or.inl ⟨by rfl, fun _ _ => by first | rfl | (go_simp; done) | (go_simp; rfl) | (go_simp; intro h; exfalso; omega)⟩) HH.out ?_
              simp only [Act.put, List.getElem_toArray, List.getElem_cons_zero, List.setIfInBounds_toArray, List.set_cons_zero, List.set_cons_succ]
              refine wpAnyH_take (i := 1) (v := .slice (some ⟨b0, o0, none⟩) k cap) rfl (by kernel_rfl) (by kernel_rfl) (by kernel_rfl) (fun _ _ _ h => h) (Or.inl ⟨by rfl, fun _ _ => by first | rfl | (go_simp; done) | (go_simp; rfl) | (go_simp; intro h; exfalso; omega)⟩) HH.out ?_
              simp only [Act.put, List.getElem_toArray, List.getElem_cons_zero, List.getElem_cons_succ, List.setIfInBounds_toArray, List.set_cons_zero, List.set_cons_succ]
              refine wpAnyH_take (i := 2) (v := .int .i64 j) rfl (by kernel_rfl) (by kernel_rfl) (by kernel_rfl) (fun _ _ _ h => h) (Or.inl ⟨by rfl, fun _ _ => by first | rfl | (go_simp; done) | (go_simp; rfl) | (go_simp; intro h; exfalso; omega)⟩) HH.out ?_
              simp only [Act.put, List.getElem_toArray, List.getElem_cons_zero, List.getElem_cons_succ, List.setIfInBounds_toArray, List.set_cons_zero, List.set_cons_succ]
              refine wpAnyH_take (i := 3) (v := .pointer (some ⟨b0, o0 + j * 3, none⟩)) rfl (by kernel_rfl) (by kernel_rfl) (by kernel_rfl) (fun _ _ _ h => h) (Or.inl ⟨by rfl, fun _ _ => by first | rfl | (go_simp; done) | (go_simp; rfl) | (go_simp; intro h; exfalso; omega)⟩) HH.out ?_
              simp only [Act.put, List.getElem_toArray, List.getElem_cons_zero, List.getElem_cons_succ, List.setIfInBounds_toArray, List.set_cons_zero, List.set_cons_succ]
              refine wpAnyH_take (i := 4) (v := .pointer (some ⟨b0, o0 + j * 3, none⟩)) rfl (by kernel_rfl) (by kernel_rfl) (by kernel_rfl) (fun _ _ _ h => h) (Or.inl ⟨by rfl, fun _ _ => by first | rfl | (go_simp; done) | (go_simp; rfl) | (go_simp; intro h; exfalso; omega)⟩) HH.out ?_
              simp only [Act.put, List.getElem_toArray, List.getElem_cons_zero, List.getElem_cons_succ, List.setIfInBounds_toArray, List.set_cons_zero, List.set_cons_succ]
              refine wpAnyH_take (i := 5) (v := .int .i64 t) rfl (by kernel_rfl) (by kernel_rfl) (by kernel_rfl) (fun _ _ _ h => h) (Or.inl ⟨by rfl, fun V hV => by (have hc := (HCE.out V hV).1; first | (go_simp; done) | (go_simp; rfl))⟩) HH.out ?_
              simp only [Act.put, List.getElem_toArray, List.getElem_cons_zero, List.getElem_cons_succ, List.setIfInBounds_toArray, List.set_cons_zero, List.set_cons_succ]
              refine wpAnyH_take (i := 6) (v := .int .i64 d) rfl (by kernel_rfl) (by kernel_rfl) (by kernel_rfl) (fun _ _ _ h => h) (Or.inl ⟨by rfl, fun _ _ => by first | rfl | (go_simp; done) | (go_simp; rfl) | (go_simp; intro h; exfalso; omega)⟩) HH.out ?_
              simp only [Act.put, List.getElem_toArray, List.getElem_cons_zero, List.getElem_cons_succ, List.setIfInBounds_toArray, List.set_cons_zero, List.set_cons_succ]
              refine wpAnyH_take (i := 7) (v := .int .i64 (IntKind.i64.wrap (t + d))) rfl (by kernel_rfl) (by kernel_rfl) (by kernel_rfl) (fun _ _ _ h => h) (Or.inl ⟨by rfl, fun _ _ => by first | rfl | (go_simp; done) | (go_simp; rfl) | (go_simp; intro h; exfalso; omega)⟩) HH.out ?_
              simp only [Act.put, List.getElem_toArray, List.getElem_cons_zero, List.getElem_cons_succ, List.setIfInBounds_toArray, List.set_cons_zero, List.set_cons_succ]
              refine wpAnyH_take (i := 8) (v := .slice (some ⟨b0, o0, none⟩) k cap) rfl (by kernel_rfl) (by kernel_rfl) (by kernel_rfl) (fun _ _ _ h => h) (Or.inl ⟨by rfl, fun _ _ => by first | rfl | (go_simp; done) | (go_simp; rfl) | (go_simp; intro h; exfalso; omega)⟩) HH.out ?_
              simp only [Act.put, List.getElem_toArray, List.getElem_cons_zero, List.getElem_cons_succ, List.setIfInBounds_toArray, List.set_cons_zero, List.set_cons_succ]
              refine wpAnyH_take (i := 9) (v := .int .i64 j) rfl (by kernel_rfl) (by kernel_rfl) (by kernel_rfl) (fun _ _ _ h => h) (Or.inl ⟨by rfl, fun _ _ => by first | rfl | (go_simp; done) | (go_simp; rfl) | (go_simp; intro h; exfalso; omega)⟩) HH.out ?_
              simp only [Act.put, List.getElem_toArray, List.getElem_cons_zero, List.getElem_cons_succ, List.setIfInBounds_toArray, List.set_cons_zero, List.set_cons_succ]
              refine wpAnyH_take (i := 10) (v := .pointer (some ⟨b0, o0 + j * 3, none⟩)) rfl (by kernel_rfl) (by kernel_rfl) (by kernel_rfl) (fun _ _ _ h => h) (Or.inl ⟨by rfl, fun _ _ => by first | rfl | (go_simp; done) | (go_simp; rfl) | (go_simp; intro h; exfalso; omega)⟩) HH.out ?_
              simp only [Act.put, List.getElem_toArray, List.getElem_cons_zero, List.getElem_cons_succ, List.setIfInBounds_toArray, List.set_cons_zero, List.set_cons_succ]
              refine wpAnyH_take (i := 11) (v := .pointer (some ⟨b0, o0 + j * 3 + 1, none⟩)) rfl (by kernel_rfl) (by kernel_rfl) (by kernel_rfl) (fun _ _ _ h => h) (Or.inl ⟨by rfl, fun _ _ => by first | rfl | (go_simp; done) | (go_simp; rfl) | (go_simp; intro h; exfalso; omega)⟩) HH.out ?_
              simp only [Act.put, List.getElem_toArray, List.getElem_cons_zero, List.getElem_cons_succ, List.setIfInBounds_toArray, List.set_cons_zero, List.set_cons_succ]
              refine wpAnyH_take (i := 12) (v := .int .i64 s) rfl (by kernel_rfl) (by kernel_rfl) (by kernel_rfl) (fun _ _ _ h => h) (Or.inl ⟨by rfl, fun V hV => by (have hc := (HCE.out V hV).2.1; first | (go_simp; done) | (go_simp; rfl))⟩) HH.out ?_
              simp only [Act.put, List.getElem_toArray, List.getElem_cons_zero, List.getElem_cons_succ, List.setIfInBounds_toArray, List.set_cons_zero, List.set_cons_succ]
              refine wpAnyH_take (i := 13) (v := .slice (some ⟨b0, o0, none⟩) k cap) rfl (by kernel_rfl) (by kernel_rfl) (by kernel_rfl) (fun _ _ _ h => h) (Or.inl ⟨by rfl, fun _ _ => by first | rfl | (go_simp; done) | (go_simp; rfl) | (go_simp; intro h; exfalso; omega)⟩) HH.out ?_
              simp only [Act.put, List.getElem_toArray, List.getElem_cons_zero, List.getElem_cons_succ, List.setIfInBounds_toArray, List.set_cons_zero, List.set_cons_succ]
              refine wpAnyH_take (i := 14) (v := .int .i64 j) rfl (by kernel_rfl) (by kernel_rfl) (by kernel_rfl) (fun _ _ _ h => h) (Or.inl ⟨by rfl, fun _ _ => by first | rfl | (go_simp; done) | (go_simp; rfl) | (go_simp; intro h; exfalso; omega)⟩) HH.out ?_
              simp only [Act.put, List.getElem_toArray, List.getElem_cons_zero, List.getElem_cons_succ, List.setIfInBounds_toArray, List.set_cons_zero, List.set_cons_succ]
              refine wpAnyH_take (i := 15) (v := .pointer (some ⟨b0, o0 + j * 3, none⟩)) rfl (by kernel_rfl) (by kernel_rfl) (by kernel_rfl) (fun _ _ _ h => h) (Or.inl ⟨by rfl, fun _ _ => by first | rfl | (go_simp; done) | (go_simp; rfl) | (go_simp; intro h; exfalso; omega)⟩) HH.out ?_
              simp only [Act.put, List.getElem_toArray, List.getElem_cons_zero, List.getElem_cons_succ, List.setIfInBounds_toArray, List.set_cons_zero, List.set_cons_succ]
              refine wpAnyH_take (i := 16) (v := .pointer (some ⟨b0, o0 + j * 3 + 2, none⟩)) rfl (by kernel_rfl) (by kernel_rfl) (by kernel_rfl) (fun _ _ _ h => h) (Or.inl ⟨by rfl, fun _ _ => by first | rfl | (go_simp; done) | (go_simp; rfl) | (go_simp; intro h; exfalso; omega)⟩) HH.out ?_
              simp only [Act.put, List.getElem_toArray, List.getElem_cons_zero, List.getElem_cons_succ, List.setIfInBounds_toArray, List.set_cons_zero, List.set_cons_succ]
              refine wpAnyH_take (i := 17) (v := .bool b) rfl (by kernel_rfl) (by kernel_rfl) (by kernel_rfl) (fun _ _ _ h => h) (Or.inl ⟨by rfl, fun V hV => by (have hc := (HCE.out V hV).2.2; first | (go_simp; done) | (go_simp; rfl))⟩) HH.out ?_
              simp only [Act.put, List.getElem_toArray, List.getElem_cons_zero, List.getElem_cons_succ, List.setIfInBounds_toArray, List.set_cons_zero, List.set_cons_succ]
              refine wpAnyH_take (i := 18) (v := .agg #[.int .i64 (IntKind.i64.wrap (t + d)), .int .i64 s, .bool b]) rfl (by kernel_rfl) (by kernel_rfl) (by kernel_rfl) (fun _ _ _ h => h) (Or.inl ⟨by rfl, fun _ _ => by first | rfl | (go_simp; done) | (go_simp; rfl) | (go_simp; intro h; exfalso; omega)⟩) HH.out ?_
              simp only [Act.put, List.getElem_toArray, List.getElem_cons_zero, List.getElem_cons_succ, List.setIfInBounds_toArray, List.set_cons_zero, List.set_cons_succ]
              refine wpAnyH_ready (rs := [19]) (by kernel_rfl) (by simp) (AllReadyH.cons rfl (fun KK hKK => ?_) AllReadyH.nil)
              rw [if_pos (by rfl)]
              go_simp
              have g9 := (Gr.refl wr.drew).alloc (.cells #[.int .i64 (IntKind.i64.wrap (t + d)), .int .i64 s, .bool b] 70)
              refine hKK.out _ _ (HH.out.trans g9) (fun hH => ?_)
              clear HH hKK KK g9
              have HH := hid hH
              clear hH
              refine wpAnyH_ready (rs := [20]) (by kernel_rfl) (by simp) (AllReadyH.cons rfl (fun KK hKK => ?_) AllReadyH.nil)
              rw [if_pos (by rfl)]
              refine wp_append_own _ _ _ 27 rfl w.heap.size 70 i0 (.agg #[.int .i64 0, .int .i64 0, .bool false]) 3 24 Tryd.underlying27 hi0 hz0 hz1 hz2 rfl (by decide) _ _ _ rfl (O3.out.alloc _) ⟨wr.heap.size, 0, none⟩ 1 1 [.int .i64 (IntKind.i64.wrap (t + d)), .int .i64 s, .bool b] rfl rfl (news_vals (heap_new rfl)) (by simp [Value.oneCell']) (by unfold maxLen; omega) (by omega) (by have := SZ.out; simp <;> omega) ?_
              intro v5 w5 hown5 hgrow5 _
              have G6 := hid (HH.out.by_ hgrow5 (fun b e => (O3.out.lt b e).1))
              refine hKK.out _ _ G6.out (fun hH => ?_)
              clear HH hKK KK hH
              have HH := hid G6.out
              refine wpAnyH_take (i := 21) (v := v5) rfl (by kernel_rfl) (by kernel_rfl) (by kernel_rfl) (fun _ _ _ h => h) (Or.inl ⟨by rfl, fun _ _ => by first | rfl | (go_simp; done) | (go_simp; rfl)⟩) HH.out ?_
              simp only [Act.put, List.getElem_toArray, List.getElem_cons_zero, List.getElem_cons_succ, List.setIfInBounds_toArray, List.set_cons_zero, List.set_cons_succ]
              refine wpAnyH_done (by kernel_rfl) ?_ _
              rw [HWR.out] at hown5
              have O5 := hid (show OwnV 70 3 w5 w.heap.size w5.heap.size v5 (j + 1) (enCells ((es.take (j + 1)).map (shE d))) from by rw [HSN.out]; exact OwnV.ofRow hown5)
              clear hown5 hgrow5
              go_wp2_with fail
              go_roundw
              case rel => exact ⟨j + 1, by omega, by go_num, O5, G6⟩
              case measure => simp [intOf]; omega
            · obtain rfl : j = k := by omega
              have OE := hid (show OwnV 70 3 wr w.heap.size wr.heap.size (.slice vv j vc) (es.map (shE d)).length (enCells (es.map (shE d))) by have h := O.out; rw [HL.out, List.take_length] at h; rw [List.length_map, HL.out]; exact h)
              go_wp2_with fail
              go_ret2
              exact ⟨_, by rw [HZ.out.2]; rfl, by rw [HZ.out.1]; exact OE.out, hg.out⟩
end Go.Proofs.YtlgfibiggiknjaaDoor
