/- ExecutedIn: what is told; the two functions. -/
import Derived.Test.YtlgfibiggiknjaaDoorDelF
import Derived.Test.YtlgfibiggiknjaaDoorReplyEnts
import Derived.Test.YtlgfibiggiknjaaDoorStay
import Derived.Test.YtlgfibiggiknjaaDoorUpAt
namespace Go.Proofs.YtlgfibiggiknjaaDoor
set_option linter.unusedVariables false
open Go.RowKit
def execV (es : List En) : List En := if validE es = true then dnL es else []
def validC (es : List En) : Int := if validE es = true then 0 else 1
theorem execV_length (es : List En) : (execV es).length ≤ 1048576 := by
  unfold execV
  split
  · rename_i h
    have h1 := (valid_good h).1
    have h2 : (dnL es).length ≤ es.length := List.length_filter_le _ _
    omega
  · simp
set_option maxRecDepth 100000 in
set_option maxHeartbeats 1000000 in
theorem exTell_pan (al : Option Addr) (n cal : Nat) (es : List En) (hl : n = es.length) (hn : n ≤ 1048576) (hf : EnFits es) (hv : validE es = false) (lp : Addr) (w : World) (hlp : w.cell? lp = some (.slice al n cal)) (ha : CellsOf w al (enCells es)) :
    Calls Tryd.prog 62 #[.pointer (some lp)] w fun e w' => e = .panicked [{ v := .iface 177 (.int .i64 (badX es)), recovered := false }] ∧ Gr w w' := by
  obtain ⟨W1, hW1⟩ : ∃ W1, W1 = w.alloc (.cells #[.slice al n cal] 27) := ⟨_, rfl⟩
  have GW := hid (show Gr w W1 by rw [hW1]; exact (Gr.refl w).alloc _)
  have HM := hid (mustOne al n cal es hl hn hf w.heap.size W1 (by rw [hW1, cell_of_row _ _ _ _ _ _ (heap_new (w := w) (o := .cells #[.slice al n cal] 27) rfl)]; rfl) (ha.gr GW.out))
  have HW1 := hid hW1
  rw [hv] at HM
  clear ha hl hf hv hW1
  go_enter Tryd.func62, Tryd.ntmps62
  go_wp2_with fail
  rw [← HW1.out]
  refine HM.out.mono ?_
  rintro e w1 (⟨h, -⟩ | ⟨-, rfl, g1⟩)
  · cases h
  · have G1 := hid (GW.out.trans g1)
    clear g1
    go_wp2_with fail
    exact ⟨rfl, rfl, G1.out⟩
set_option maxRecDepth 100000 in
set_option maxHeartbeats 2000000 in
theorem exTell_any (al : Option Addr) (n cal : Nat) (es : List En) (hl : n = es.length) (hn : n ≤ 1048576) (hf : EnFits es) (hv : validE es = true) (lp : Addr) (w : World) (hlp : w.cell? lp = some (.slice al n cal)) (ha : CellsOf w al (enCells es)) :
    Calls Tryd.prog 62 #[.pointer (some lp)] w fun e w' => ∃ v, e = .returned (.tuple #[v, .nilIface]) ∧ OwnV 70 3 w' w.heap.size w'.heap.size v (dnL es).length (enCells (dnL es)) ∧ Gr w w' := by
  obtain ⟨W1, hW1⟩ : ∃ W1, W1 = w.alloc (.cells #[.slice al n cal] 27) := ⟨_, rfl⟩
  have GW := hid (show Gr w W1 by rw [hW1]; exact (Gr.refl w).alloc _)
  have HM := hid (mustOne al n cal es hl hn hf w.heap.size W1 (by rw [hW1, cell_of_row _ _ _ _ _ _ (heap_new (w := w) (o := .cells #[.slice al n cal] 27) rfl)]; rfl) (ha.gr GW.out))
  have HW1 := hid hW1
  rw [hv] at HM
  have HLP := hid hlp
  have HCL := hid (fun V (g : Gr w V) => cloneE_any al n cal es hl hn V (ha.gr g))
  have HLL := hid hl
  clear ha hl hf hv hW1
  go_enter Tryd.func62, Tryd.ntmps62
  go_wp2_with fail
  rw [← HW1.out]
  refine HM.out.mono ?_
  rintro e w1 (⟨-, rfl, g1⟩ | ⟨h, -⟩)
  · have G1 := hid (GW.out.trans g1)
    have c0 := G1.out.cell HLP.out
    clear g1 HM
    go_wp2_with fail
    refine (HCL.out _ G1.out).mono ?_
    rintro e w2 ⟨v, rfl, o2, g2⟩
    have G2 := hid (G1.out.trans g2)
    obtain ⟨av, cv, rfl⟩ := o2.shape
    have HDE := hid (delE_any av n cv w1.heap.size w2.heap.size es HLL.out hn w2 o2 (Nat.le_refl _) w1 g2 (Nat.le_refl _))
    unfold id
    clear g2 o2 c0
    go_wp2_with fail
    refine HDE.out.mono ?_
    rintro e w3 ⟨v, rfl, o3, g3, z3⟩
    have G3 := hid (G1.out.trans g3)
    have O3 := hid o3
    have HZ := hid z3
    clear g3 o3 z3
    go_wp2_with fail
    go_ret2
    exact ⟨_, rfl, O3.out.widen G1.out.size HZ.out, G3.out⟩
  · cases h
set_option maxRecDepth 100000 in
set_option maxHeartbeats 1000000 in
theorem impl_ExecutedIn_law (a : Option Addr) (n cap : Nat) (es : List En) (hl : n = es.length) (hn : n ≤ 1048576) (hf : EnFits es) (w : World) (ha : CellsOf w a (enCells es)) :
    Calls Tryd.prog 18 #[.slice a n cap] w (RetV 70 3 (withCode (validC es)) (execV es).length (enCells (execV es)) w) := by
  have hmf : ∀ (fn : Fn) (first cap : Array Value) (w : World), (Instr.makeFunc fn first cap).run Tryd.prog w = .ok (.func fn first cap) w := fun _ _ _ _ => rfl
  obtain ⟨W0, hW0⟩ : ∃ W0, W0 = w.alloc (.cells #[.slice a n cap] 27) := ⟨_, rfl⟩
  have g0 : Gr w W0 := by rw [hW0]; exact (Gr.refl w).alloc _
  have G0 := hid g0
  have hsz : W0.heap.size = w.heap.size + 1 := by rw [hW0]; simp
  have c0 : W0.cell? ⟨w.heap.size, 0, none⟩ = some (.slice a n cap) := by
    rw [hW0, cell_of_row _ _ _ _ _ _ (heap_new (w := w) (o := .cells #[.slice a n cap] 27) rfl)]; rfl
  have HA : Hid (Calls Tryd.prog 61 #[.func (.func 62) #[] #[.pointer (some ⟨w.heap.size, 0, none⟩)]] W0 (fun e w' => ∃ v, e = .returned (.tuple #[v, .int .i64 (validC es)]) ∧ OwnV 70 3 w' w.heap.size w'.heap.size v (execV es).length (enCells (execV es)) ∧ Gr W0 w')) := by
    apply hid
    have ge : Gr W0 (W0.alloc (.cells #[.nilIface] 75)) := (Gr.refl _).alloc _
    have hK : ∀ (args : Array Value) (w : World), (callFunc 62 args).run Tryd.prog w = .ok (.enter 62 args) w := fun args w => callFunc_enter Tryd.func62 (by kernel_rfl) (by kernel_rfl) args w
    cases hv : validE es with
    | false =>
      rw [show execV es = [] by unfold execV; rw [hv]; rfl, show validC es = 1 by unfold validC; rw [hv]; rfl]
      exact (rep_Ents_pan_cannotBe (badX es) 62 #[.pointer (some ⟨w.heap.size, 0, none⟩)] W0 hK
        (exTell_pan a n cap es hl hn hf hv _ _ (ge.cell c0) ((ha.gr g0).gr ge))).mono (by rintro e w' ⟨rfl, g⟩; exact ⟨_, rfl, OwnV.nil _ _ _, g⟩)
    | true =>
      have hT := exTell_any a n cap es hl hn hf hv _ _ (ge.cell c0) ((ha.gr g0).gr ge)
      rw [show execV es = dnL es by unfold execV; rw [hv]; rfl, show validC es = 0 by unfold validC; rw [hv]; rfl]
      exact (rep_Ents_ok 62 #[.pointer (some ⟨w.heap.size, 0, none⟩)] (RV (W0.heap.size + 1) 70 3 (dnL es).length (enCells (dnL es))) W0 hK (rv_stays (Nat.lt_succ_self _))
        (hT.mono (by rintro e w' ⟨v, rfl, o, g⟩; exact ⟨v, rfl, ⟨_, Nat.le_refl _, o.widen (by simp) (Nat.le_refl _)⟩, g⟩))).mono (by rintro e w' ⟨v, rfl, ⟨hi, h1, o⟩, g⟩; exact ⟨v, rfl, o.widen (by omega) h1, g⟩)
  generalize execV es = ys at *
  generalize validC es = cd at *
  rw [hW0] at HA
  clear ha hl hf c0 g0 hsz
  go_enter Tryd.func18, Tryd.ntmps18
  go_wp2_with fail
  refine HA.out.mono ?_
  rintro e w1 ⟨v, rfl, o1, g1⟩
  rw [← hW0] at g1
  have G1 := hid (G0.out.trans g1)
  have O1 := hid o1
  clear g1 o1
  go_wp2_with fail
  go_ret2
  exact ⟨_, rfl, O1.out, G1.out⟩
theorem news_valsX {w : World} {b : Nat} {vs : List Value} {t : TypeId} {fr : Nat × Nat} (h : w.heap[b]? = some (.cells vs.toArray t fr)) : ∀ j u, vs[j]? = some u → w.cell? ((⟨b, 0, none⟩ : Addr).add j) = some u := by
  intro j u hu
  rw [Addr.add_mid, Nat.zero_add, cell_of_row w b j _ t fr h]
  simpa using hu
theorem dnL_snoc {es : List En} {k : Nat} (h : k < es.length) : dnL (es.take (k + 1)) = if (enAt es k).d = true then dnL (es.take k) ++ [enAt es k] else dnL (es.take k) := by
  unfold dnL
  rw [take_snoc h, List.filter_append]
  split
  · rename_i hd; simp [hd]
  · rename_i hd; simp [hd]
set_option maxRecDepth 100000 in
set_option maxHeartbeats 2000000 in
theorem spec_ExecutedIn_law (a : Option Addr) (n cap : Nat) (es : List En) (hl : n = es.length) (hn : n ≤ 1048576) (_hf : EnFits es) (w : World) (ha : CellsOf w a (enCells es)) :
    Calls Tryd.prog 16 #[.slice a n cap] w (RetV 70 3 (withCode (validC es)) (execV es).length (enCells (execV es)) w) := by
  obtain ⟨i0, hi0, hz0, hz1, hz2⟩ := info_parts infoEn
  have HO := hid (l07Ok_any a n cap es hl hn w ha)
  have HA := hid ha
  have HL := hid hl
  cases hv : validE es with
  | false =>
    rw [hv] at HO
    rw [show execV es = [] by unfold execV; rw [hv]; rfl, show validC es = 1 by unfold validC; rw [hv]; rfl]
    clear ha hl hv
    go_enter Tryd.func16, Tryd.ntmps16
    go_wp2_with fail
    refine HO.out.mono ?_
    rintro e w1 ⟨rfl, g1⟩
    have G1 := hid g1
    clear g1
    go_wp2_with fail
    go_ret2
    exact ⟨_, rfl, (OwnV.ofBlock (e := 70) (sz := 3) (n := 0) (us := #[]) (heap_new (o := .cells #[] 70) rfl) (by simp) (by unfold maxLen; simp)).widen G1.out.size (by simp), G1.out.alloc _⟩
  | true =>
    rw [hv] at HO
    have HV1 := hid (show execV es = dnL es ∧ validC es = 0 by unfold execV validC; rw [hv]; exact ⟨rfl, rfl⟩)
    generalize execV es = ys at *
    generalize validC es = cd at *
    clear ha hl hv
    go_enter Tryd.func16, Tryd.ntmps16
    go_wp2_with fail
    refine HO.out.mono ?_
    rintro e w1 ⟨rfl, g1⟩
    have G1 := hid g1
    clear g1
    go_wp2_with fail
    go_loopw [4, 5] (fun v iv wr => ∃ j : Nat, j ≤ n ∧ iv = .int .i64 j ∧ Hid (OwnV 70 3 wr w.heap.size wr.heap.size v (dnL (es.take j)).length (enCells (dnL (es.take j)))) ∧ Hid (Gr w wr)) (fun _ iv _ => n - (intOf iv).toNat)
    case atStart => exact ⟨0, Nat.zero_le _, rfl, hid ((OwnV.ofBlock (e := 70) (sz := 3) (n := 0) (us := #[]) (heap_new (o := .cells #[] 70) rfl) (by simp) (by unfold maxLen; simp)).widen G1.out.size (by simp)), hid (G1.out.alloc _)⟩
    case round =>
      obtain ⟨j, hj, rfl, O, hg⟩ := hrel
      by_cases hlj : j < n
      · obtain ⟨b0, o0, rfl, p0, p1, p2⟩ := en_at (HA.out.gr hg.out) (i := j) (by rw [← HL.out]; exact hlj)
        have HSN := hid (dnL_snoc (es := es) (k := j) (by rw [← HL.out]; exact hlj))
        have hml : (dnL (es.take j)).length ≤ 1048576 := by
          have h1 : (dnL (es.take j)).length ≤ (es.take j).length := List.length_filter_le _ _
          rw [List.length_take] at h1
          omega
        generalize dnL (es.take j) = qs at *
        obtain ⟨vv, vc, rfl⟩ := O.out.shape
        generalize hx : enAt es j = x at *
        obtain ⟨t, s, d⟩ := x
        have HCE := hid (fun V (g : Gr wr V) => range3 (w := V) ⟨g.cell p0, g.cell p1, g.cell p2⟩)
        have c2 : wr.cell? ⟨b0, o0 + j * 3 + 2, none⟩ = some (.bool d) := p2
        have hb0 : (0 : Int) ≤ j := by omega
        have hb1 : (j : Int) < n := by omega
        clear p0 p1 p2
        cases d
        · have HQ := hid (show dnL (es.take (j + 1)) = qs by rw [HSN.out]; rfl)
          go_wp2_with fail
          go_roundw
          case rel => exact ⟨j + 1, by omega, by go_num, hid (by rw [HQ.out]; exact O.out), hg⟩
          case measure => simp [intOf]; omega
        · have HQ := hid (show dnL (es.take (j + 1)) = qs ++ [⟨t, s, true⟩] by rw [HSN.out]; rfl)
          have O3 := hid O.out.row
          have SZ := hid hg.out.size
          have RG := hid (HCE.out _ (Gr.refl _))
          have GA := hid (hg.out.alloc (.cells #[.int .i64 t, .int .i64 s, .bool true] 70))
          go_wp2_with (first
            | (refine wpList_load_mid rfl 70 _ rfl b0 (o0 + j * 3) rfl _ _ RG.out Tryd.underlying70 rfl sizeEn ?_)
            | (at_builtin; refine wpList_append_own _ rfl _ _ 24 rfl w.heap.size 70 i0 (.agg #[.int .i64 0, .int .i64 0, .bool false]) 3 24 Tryd.underlying24 hi0 hz0 hz1 hz2 rfl (by decide) _ _ _ rfl (O3.out.alloc _) ⟨wr.heap.size, 0, none⟩ 1 1 [.int .i64 t, .int .i64 s, .bool true] rfl rfl (news_valsX (heap_new rfl)) (by simp [Value.oneCell']) (by unfold maxLen; omega) (by omega) (by have := SZ.out; simp <;> omega) ?_; intro v5 w5 hown5 hgrow5 _))
          have G6 := hid (GA.out.by_ hgrow5 (fun b e => (O3.out.lt b e).1))
          have O5 := hid (show OwnV 70 3 w5 w.heap.size w5.heap.size v5 (dnL (es.take (j + 1))).length (enCells (dnL (es.take (j + 1)))) by
            rw [HQ.out, enCells_append, List.length_append]; exact OwnV.ofRow hown5)
          clear hown5 hgrow5
          go_roundw
          case rel => exact ⟨j + 1, by omega, by go_num, O5, G6⟩
          case measure => simp [intOf]; omega
      · obtain rfl : j = n := by omega
        obtain ⟨vv, vc, rfl⟩ := O.out.shape
        have OE := hid (show OwnV 70 3 wr w.heap.size wr.heap.size (.slice vv (dnL (es.take j)).length vc) (dnL es).length (enCells (dnL es)) by have h := O.out; rw [HL.out, List.take_length] at h ⊢; exact h)
        generalize (dnL (es.take j)).length = q at *
        go_wp2_with fail
        go_ret2
        exact ⟨_, by rw [HV1.out.2]; rfl, by rw [HV1.out.1]; exact OE.out, hg.out⟩
end Go.Proofs.YtlgfibiggiknjaaDoor
