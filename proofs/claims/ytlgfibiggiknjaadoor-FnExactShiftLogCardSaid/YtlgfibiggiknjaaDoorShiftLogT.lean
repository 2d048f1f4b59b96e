/- ShiftLog: what is told. -/
import Derived.Test.YtlgfibiggiknjaaDoorShiftM
import Derived.Test.YtlgfibiggiknjaaDoorReplyLog
import Derived.Test.YtlgfibiggiknjaaDoorStillMid
namespace Go.Proofs.YtlgfibiggiknjaaDoor
set_option linter.unusedVariables false
open Go.RowKit
def shiftTxt : ByteArray := ⟨#[115, 104, 105, 102, 116]⟩
def timeTxt7 : ByteArray := ⟨#[116, 105, 109, 101]⟩
set_option maxRecDepth 100000 in
set_option maxHeartbeats 1000000 in
theorem shTell_pan (al : Option Addr) (n cal : Nat) (es : List En) (hl : n = es.length) (hn : n ≤ 1048576) (hf : EnFits es) (hv : validE es = false) (d : Int) (lp tp : Addr) (w : World) (hlp : w.cell? lp = some (.slice al n cal)) (htp : w.cell? tp = some (.int .i64 d)) (ha : CellsOf w al (enCells es)) :
    Calls Tryd.prog 84 #[.pointer (some lp), .pointer (some tp)] w fun e w' => e = .panicked [{ v := .iface 177 (.int .i64 (badX es)), recovered := false }] ∧ Gr w w' := by
  obtain ⟨W1, hW1⟩ : ∃ W1, W1 = w.alloc (.cells #[.slice al n cal] 27) := ⟨_, rfl⟩
  have GW := hid (show Gr w W1 by rw [hW1]; exact (Gr.refl w).alloc _)
  have HM := hid (mustOne al n cal es hl hn hf w.heap.size W1 (by rw [hW1, cell_of_row _ _ _ _ _ _ (heap_new (w := w) (o := .cells #[.slice al n cal] 27) rfl)]; rfl) (ha.gr GW.out))
  have HW1 := hid hW1
  rw [hv] at HM
  clear ha hl hf hv hW1
  go_enter Tryd.func84, Tryd.ntmps84
  go_wp2_with fail
  rw [← HW1.out]
  refine HM.out.mono ?_
  rintro e w1 (⟨h, -⟩ | ⟨-, rfl, g1⟩)
  · cases h
  · have G1 := hid (GW.out.trans g1)
    clear g1
    go_wp2_with fail
    exact ⟨rfl, rfl, G1.out⟩
/-- What is told of a log that is valid. -/
def ShRet (es : List En) (d : Int) (w : World) (e : Ending) (w' : World) : Prop :=
  Gr w w' ∧ ((shiftB es d = true ∧ ∃ v, e = .returned (.tuple #[v, .nilIface]) ∧ OwnV 70 3 w' w.heap.size w'.heap.size v es.length (enCells (es.map (shE d)))) ∨ (shiftB es d = false ∧ e = .returned (.tuple #[.slice none 0 0, .iface 104 (.string (if rgV d (-100000) 100000 = true then timeTxt7 else shiftTxt))])))
set_option maxRecDepth 100000 in
set_option maxHeartbeats 4000000 in
theorem shTell_any (al : Option Addr) (n cal : Nat) (es : List En) (hl : n = es.length) (hn : n ≤ 1048576) (hf : EnFits es) (hv : validE es = true) (d : Int) (lp tp : Addr) (w : World) (hlp : w.cell? lp = some (.slice al n cal)) (htp : w.cell? tp = some (.int .i64 d)) (ha : CellsOf w al (enCells es)) :
    Calls Tryd.prog 84 #[.pointer (some lp), .pointer (some tp)] w (ShRet es d w) := by
  obtain ⟨W1, hW1⟩ : ∃ W1, W1 = w.alloc (.cells #[.slice al n cal] 27) := ⟨_, rfl⟩
  have GW := hid (show Gr w W1 by rw [hW1]; exact (Gr.refl w).alloc _)
  have HM := hid (mustOne al n cal es hl hn hf w.heap.size W1 (by rw [hW1, cell_of_row _ _ _ _ _ _ (heap_new (w := w) (o := .cells #[.slice al n cal] 27) rfl)]; rfl) (ha.gr GW.out))
  have HW1 := hid hW1
  have hmi : ∀ (s : ByteArray) (V : World), (Instr.makeInterface 104 (.string s)).run Tryd.prog V = .ok (.iface 104 (.string s)) V := fun _ _ => rfl
  rw [hv] at HM
  have HLP := hid hlp
  have HTP := hid htp
  have HR := hid (fun V => isBetween_r (n := d) (a := -100000) (b := 100000) rfl V)
  have HSB := hid (show shiftB es d = (rgV d (-100000) 100000 && timesB es d n) by rw [hl]; rfl)
  have HTM := hid (fun (V : World) i (h : i < n) => times_ok hv (i := i) (by rw [← hl]; exact h))
  have HIB := hid (inB_all hv d)
  have hd0 := fun (h : rgV d (-100000) 100000 = true) => rgV_iff.1 h
  have HD0 := hid hd0
  have HSET := hid (fun k (h : k < n) => shTo_set (es := es) (d := d) (k := k) (by rw [← hl]; exact h))
  have HSA := hid (fun k (h : k < n) => shTo_at (es := es) (d := d) (k := k) (by rw [← hl]; exact h))
  have HCL := hid (fun V (g : Gr w V) => cloneE_any al n cal es hl hn V (ha.gr g))
  have HLL := hid hl
  have h60 : n ≤ 60 := by rw [hl]; exact (valid_good hv).1
  generalize hqv : rgV d (-100000) 100000 = q at *
  have HQV := hid hqv
  clear ha hl hf hv hW1 hd0 hqv
  go_enter Tryd.func84, Tryd.ntmps84
  go_wp2_with fail
  rw [← HW1.out]
  refine HM.out.mono ?_
  rintro e w1 (⟨-, rfl, g1⟩ | ⟨h, -⟩)
  · have G1 := hid (GW.out.trans g1)
    have c0 := G1.out.cell HLP.out
    have c1 := G1.out.cell HTP.out
    clear g1 HM
    go_wp2_with fail
    refine (HR.out _).mono ?_
    rintro e w2 ⟨rfl, rfl⟩
    cases q
    · have HZ := hid (show shiftB es d = false by rw [HSB.out]; rfl)
      clear HSB HD0
      go_wp2_with fail
      go_ret2
      exact ⟨G1.out, Or.inr ⟨HZ.out, by rw [HQV.out]; rfl⟩⟩
    · have hd := HD0.out rfl
      have HSB2 := hid (show shiftB es d = timesB es d n by rw [HSB.out, Bool.true_and])
      clear HSB
      go_wp2_with fail
      refine (HCL.out _ G1.out).mono ?_
      rintro e w2 ⟨v, rfl, o2, g2⟩
      have G2 := hid (G1.out.trans g2)
      obtain ⟨av, cv, rfl⟩ := o2.shape
      have O2 := hid o2
      have G12 := hid g2
      have HSZ := hid g2.size
      unfold id
      clear g2 o2 c0 c1
      go_wp2_with fail
      go_loopw [17] (fun iv wr => ∃ k : Nat, k ≤ n ∧ iv = .int .i64 k ∧ Hid (OwnV 70 3 wr w1.heap.size w2.heap.size (.slice av n cv) n (enCells (shTo es d k))) ∧ Hid (Gr w1 wr) ∧ Hid (w2.heap.size ≤ wr.heap.size)) (fun iv _ => n - (intOf iv).toNat)
      case atStart => exact ⟨0, Nat.zero_le _, rfl, hid (by rw [shTo_zero]; exact O2.out), G12, hid (Nat.le_refl _)⟩
      case round =>
        obtain ⟨k, hk, rfl, O, G, HZ2⟩ := hrel
        by_cases hlt : k < n
        · have hte := HTM.out w k hlt
          have hlt3 : k < (shTo es d k).length := by rw [shTo_length, ← HLL.out]; exact hlt
          have hq0 : (enCells (shTo es d k))[k * 3]? = some (.int .i64 (enAt es k).t) := by
            have h := enCells_get (shTo es d k) k 0 hlt3 (by omega)
            rw [Nat.add_zero] at h
            rw [h, HSA.out k hlt]; rfl
          obtain ⟨gb, ea, hgb, hc0, hf0⟩ := O.out.at_ hq0
          subst ea
          have pp := (O.out.gr ((Gr.refl wr).drew)).put (k * 3) (.int .i64 ((enAt es k).t + d))
          have he : (enCells (shTo es d k)).set (k * 3) (.int .i64 ((enAt es k).t + d)) = enCells (shTo es d (k + 1)) := by
            rw [enCells_setT _ _ _ hlt3, HSA.out k hlt]
            congr 1
            exact HSET.out k hlt
          rw [he] at pp
          have PP2 := hid pp.1
          have HZ3 := hid (Nat.le_trans HZ2.out pp.2.size)
          have GP := hid (G.out.drew.by_ pp.2 (fun b e => by cases e; exact hgb.1))
          have ct := (G1.out.trans G.out).cell HTP.out
          generalize (enAt es k).t = t at *
          have hb0 : (0 : Int) ≤ k := by omega
          have hb1 : (k : Int) < n := by omega
          have HWR := hid (show IntKind.i64.wrap (t + d) = t + d from IntWalk.i64_in _ (by omega))
          clear pp he hq0 hlt3 hgb
          go_wp2_with fail
          refine wp_region_still_tail 9 (by kernel_rfl) (by kernel_rfl) ?_
          simp only [List.take_succ_cons, List.take_zero, List.drop_succ_cons, List.drop_zero]
          repeat still_step
          refine wpStill_nil ?_
          rw [HWR.out]
          change wpList _ _ _ _ _ wr.drew
          have hc1 : wr.drew.cell? ⟨gb, k * 3, none⟩ = some (.int .i64 t) := hc0
          have hf1 : wr.drew.frozen? ⟨gb, k * 3, none⟩ = false := hf0
          go_wp2_with fail
          go_roundw
          case rel => exact ⟨k + 1, by omega, by go_num, PP2, GP, HZ3⟩
          case measure => simp [intOf]; omega
        · obtain rfl : k = n := by omega
          have HSH := hid (show shTo es d k = es.map (shE d) by rw [HLL.out, shTo_all])
          have OE := hid (show OwnV 70 3 wr w1.heap.size w2.heap.size (.slice av k cv) k (enCells (es.map (shE d))) by rw [← HSH.out]; exact O.out)
          have HAL := hid (allE_any av k cv (es.map (shE d)) (by rw [List.length_map]; exact HLL.out) (by omega) wr OE.out.reads)
          rw [show allTo (fun i => inB (enAt (es.map (shE d)) i).t (enAt (es.map (shE d)) i).s) k = timesB es d k from by have h := HIB.out; rw [List.length_map, ← HLL.out] at h; exact h] at HAL
          generalize hqt : timesB es d k = qt at *
          have GA := hid (G1.out.trans G.out)
          clear hqt
          go_wp2_with fail
          refine HAL.out.mono ?_
          rintro e w3 ⟨rfl, g3⟩
          have G3 := hid (GA.out.trans g3)
          have O3 := hid (OE.out.gr g3)
          have HS4 := hid (show w2.heap.size ≤ w3.heap.size from Nat.le_trans HZ2.out g3.size)
          clear g3
          cases qt
          · go_wp2_with fail
            go_ret2
            exact ⟨G3.out, Or.inr ⟨HSB2.out, by rw [HQV.out]; rfl⟩⟩
          · go_wp2_with fail
            go_ret2
            exact ⟨G3.out, Or.inl ⟨HSB2.out, _, rfl, by rw [← HLL.out]; exact O3.out.widen G1.out.size HS4.out⟩⟩
  · cases h
end Go.Proofs.YtlgfibiggiknjaaDoor
