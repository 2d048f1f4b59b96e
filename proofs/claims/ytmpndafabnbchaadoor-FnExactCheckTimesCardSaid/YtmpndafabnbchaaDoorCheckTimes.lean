/- CheckTimes: the functions. -/
import Derived.Test.YtmpndafabnbchaaDoorTimesOf
import Derived.Test.YtmpndafabnbchaaDoorLineE
namespace Go.Proofs.YtmpndafabnbchaaDoor
open Go.RowKit
theorem catch_B (p : Addr) (w : World) :
    CallsD Tryd.prog 106 #[.pointer (some p)] .returning w fun e u' w' => e = .returned (.tuple #[]) ∧ u' = .returning ∧ w' = w := by
  refine callsD_of_wpS Tryd.func106 rfl fun c₀ cs hu => ?_
  apply wpS_seq
  apply wpS_region
  simp [wpOpsS, go_sem, recoverD, hu, Tryd.ntmps106, Exit.thenS]
  have ht : (#[Value.pointer (some p)] ++ ((Array.replicate 14 undef).setIfInBounds 3 Value.nilIface).setIfInBounds 0 Value.nilIface) = #[Value.pointer (some p), .nilIface, undef, undef, .nilIface, undef, undef, undef, undef, undef, undef, undef, undef, undef, undef] := rfl
  rw [ht]
  have hn : ∀ w : World, (binOp BinOp.neq 20 .nilIface .nilIface).run Tryd.prog w = .ok (.bool false) w := fun _ => by kernel_rfl
  have hta : ∀ w : World, (Instr.typeAssert .nilIface 20 110 true).run Tryd.prog w = .ok (.tuple #[.nilIface, .bool false]) w := fun _ => by kernel_rfl
  refine wpS_of_wp ?_
  go_wp2
  cases c₀
  simp_all [bodyPostS, results, Tryd.results106, Exit.thenS]
set_option maxRecDepth 100000 in
set_option maxHeartbeats 1000000 in
theorem attB_no (al : Option Addr) (n cal : Nat) (xs : List Int) (hl : xs.length = n * 3) (hn : n ≤ 1048576) (hf : Fits .i8 xs) (hv : lineB n xs = false) (tell : Value) (w : World) (hs : SliceOf .i8 w al xs) :
    Calls Tryd.prog 91 #[.slice al n cal, tell] w fun e w' => e = .returned (.tuple #[.bool false, .iface 130 (.string lineTxt)]) ∧ Gr w w' := by
  have hmf : ∀ (fn : Fn) (first cap : Array Value) (w : World), (Instr.makeFunc fn first cap).run Tryd.prog w = .ok (.func fn first cap) w := fun _ _ _ _ => rfl
  have HV := hid (impl_ValidLine_any al n cal xs hl hn hf (w.alloc (.cells #[.nilIface] 65)) (hs.gr ((Gr.refl w).alloc _)))
  rw [hv] at HV
  have G0 := hid ((Gr.refl w).alloc (.cells #[.nilIface] 65))
  have B0 := hid (heap_new (w := w) (o := .cells #[.nilIface] 65) rfl)
  clear hs hl hf hv
  go_enter_defers Tryd.func91, Tryd.ntmps91
  go_wp2_with fail
  refine HV.out.mono ?_
  rintro e w1 ⟨rfl, g1⟩
  have G1 := hid (G0.out.trans g1)
  have hb1 := g1.heap B0.out
  have hc1 : w1.cell? ⟨w.heap.size, 0, none⟩ = some .nilIface := by rw [cell_of_row _ _ _ _ _ _ hb1]; rfl
  have hf1 : w1.frozen? ⟨w.heap.size, 0, none⟩ = false := frozen_of_row _ _ _ _ _ hb1
  clear g1 hb1
  go_wp2_with fail
  refine leaves_cons (f := 106) (args := #[.pointer (some ⟨w.heap.size, 0, none⟩)]) (by simp) (by simp [go_sem]) ?_
  refine (catch_B ⟨w.heap.size, 0, none⟩ _).mono ?_
  rintro e u' w'' ⟨rfl, rfl, rfl⟩
  have hc2 := World.cell?_setCell_same w1 ⟨w.heap.size, 0, none⟩ (.iface 130 (.string lineTxt)) hc1
  refine ⟨.tuple #[.bool false, .iface 130 (.string lineTxt)], ?_, rfl, G1.out.setCell (Nat.le_refl _) _⟩
  unfold lineTxt at hc2 ⊢
  simp [results, Tryd.results91, go_sem, hc2]
set_option maxRecDepth 100000 in
set_option maxHeartbeats 1000000 in
theorem ansB_no (al : Option Addr) (n cal : Nat) (xs : List Int) (hl : xs.length = n * 3) (hn : n ≤ 1048576) (hf : Fits .i8 xs) (hv : lineB n xs = false) (tell : Value) (w : World) (hs : SliceOf .i8 w al xs) :
    Calls Tryd.prog 55 #[.slice al n cal, tell] w fun e w' => e = .returned (.tuple #[.bool false, .int .i64 1]) ∧ Gr w w' := by
  have HA := hid (attB_no al n cal xs hl hn hf hv tell w hs)
  have HC := hid (fun s V (G : Gr w V) => as_valid s V.heap.size (V.alloc (.cells #[.nilIface] 110)) (heap_new rfl) w (G.alloc _) G.size)
  clear hs hl hf hv
  go_enter Tryd.func55, Tryd.ntmps55
  go_wp2_with fail
  refine HA.out.mono ?_
  rintro e w1 ⟨rfl, g1⟩
  have G1 := hid g1
  clear g1
  go_wp2_with fail
  refine (HC.out _ _ G1.out).mono ?_
  rintro e w2 ⟨rfl, g2, hb2⟩
  have G2 := hid g2
  have hc2 : w2.cell? ⟨w1.heap.size, 0, none⟩ = some (.iface 130 (.string lineTxt)) := by rw [cell_of_row _ _ _ _ _ _ hb2]; rfl
  unfold lineTxt at hc2
  clear g2 hb2
  go_wp2
  go_ret2
  exact ⟨rfl, G2.out⟩
set_option maxRecDepth 100000 in
set_option maxHeartbeats 1000000 in
theorem att_CheckTimes (al : Option Addr) (n cal : Nat) (xs : List Int) (hl : xs.length = n * 3) (hn : n ≤ 1048576) (hf : Fits .i8 xs) (hv : lineB n xs = true) (lp : Addr) (q : Bool) (w : World) (hnv : NeverAt w) (hs : SliceOf .i8 w al xs)
    (htell : ∀ V a c, Gr w V → CellsOf V a (tmCells (timesL n xs)) → Calls Tryd.prog 56 #[.slice a n c, .pointer (some lp)] V fun e w' => e = .returned (.tuple #[.bool q, .nilIface]) ∧ Gr V w') :
    Calls Tryd.prog 91 #[.slice al n cal, .func (.func 56) #[] #[.pointer (some lp)]] w fun e w' => e = .returned (.tuple #[.bool q, .nilIface]) ∧ Gr w w' := by
  have hmf : ∀ (fn : Fn) (first cap : Array Value) (w : World), (Instr.makeFunc fn first cap).run Tryd.prog w = .ok (.func fn first cap) w := fun _ _ _ _ => rfl
  have HV := hid (impl_ValidLine_any al n cal xs hl hn hf (w.alloc (.cells #[.nilIface] 65)) (hs.gr ((Gr.refl w).alloc _)))
  have h0 := (lineOk_of hv).1.1
  have HT := hid (fun V (g : Gr w V) => timesOf_any al n cal xs hl (by omega) (lineOk_line hv) V (hnv.gr g) (hs.gr g))
  have HTL := hid htell
  rw [hv] at HV
  have G0 := hid ((Gr.refl w).alloc (.cells #[.nilIface] 65))
  have B0 := hid (heap_new (w := w) (o := .cells #[.nilIface] 65) rfl)
  clear hs hl hf hv hnv htell
  go_enter_defers Tryd.func91, Tryd.ntmps91
  go_wp2_with fail
  refine HV.out.mono ?_
  rintro e w1 ⟨rfl, g1⟩
  have G1 := hid (G0.out.trans g1)
  have B1 := hid (g1.heap B0.out)
  clear g1
  go_wp2_with fail
  refine (HT.out _ G1.out).mono ?_
  rintro e w2 ⟨v, rfl, o2, g2⟩
  obtain ⟨av, cv, rfl⟩ := o2.shape
  have G2 := hid (G1.out.trans g2)
  have HTc := hid (HTL.out w2 av cv G2.out o2.reads)
  have B2 := hid (g2.heap B1.out)
  clear o2 g2
  unfold id
  go_wp2_with fail
  refine HTc.out.mono ?_
  rintro e w3 ⟨rfl, g3⟩
  have G3 := hid (G2.out.trans g3)
  have hb3 := g3.heap B2.out
  have hc3 : w3.cell? ⟨w.heap.size, 0, none⟩ = some .nilIface := by rw [cell_of_row _ _ _ _ _ _ hb3]; rfl
  have hf3 : w3.frozen? ⟨w.heap.size, 0, none⟩ = false := frozen_of_row _ _ _ _ _ hb3
  clear g3 hb3
  go_wp2_with fail
  refine leaves_cons (f := 106) (args := #[.pointer (some ⟨w.heap.size, 0, none⟩)]) (by simp) (by simp [go_sem]) ?_
  refine (catch_B ⟨w.heap.size, 0, none⟩ _).mono ?_
  rintro e u' w'' ⟨rfl, rfl, rfl⟩
  have hc4 := World.cell?_setCell_same w3 ⟨w.heap.size, 0, none⟩ .nilIface hc3
  refine ⟨.tuple #[.bool q, .nilIface], ?_, rfl, G3.out.setCell (Nat.le_refl _) _⟩
  simp [results, Tryd.results91, go_sem, hc4]
set_option maxRecDepth 100000 in
set_option maxHeartbeats 1000000 in
theorem ans_CheckTimes (al : Option Addr) (n cal : Nat) (xs : List Int) (hl : xs.length = n * 3) (hn : n ≤ 1048576) (hf : Fits .i8 xs) (hv : lineB n xs = true) (lp : Addr) (q : Bool) (w : World) (hnv : NeverAt w) (hs : SliceOf .i8 w al xs)
    (htell : ∀ V a c, Gr w V → CellsOf V a (tmCells (timesL n xs)) → Calls Tryd.prog 56 #[.slice a n c, .pointer (some lp)] V fun e w' => e = .returned (.tuple #[.bool q, .nilIface]) ∧ Gr V w') :
    Calls Tryd.prog 55 #[.slice al n cal, .func (.func 56) #[] #[.pointer (some lp)]] w fun e w' => e = .returned (.tuple #[.bool q, .int .i64 0]) ∧ Gr w w' := by
  have HA := hid (att_CheckTimes al n cal xs hl hn hf hv lp q w hnv hs htell)
  have HC := hid as_nil
  clear hs hl hf hv hnv htell
  go_enter Tryd.func55, Tryd.ntmps55
  go_wp2_with fail
  refine HA.out.mono ?_
  rintro e w1 ⟨rfl, g1⟩
  have G1 := hid g1
  clear g1
  go_wp2_with fail
  refine (HC.out _ _).mono ?_
  rintro e w2 ⟨rfl, rfl⟩
  go_wp2
  go_ret2
  exact ⟨rfl, G1.out.alloc _⟩
theorem eqT_comm (t u : Tm) : eqT t u = eqT u t := by
  unfold eqT
  rw [BEq.comm (a := t.f), BEq.comm (a := t.s), BEq.comm (a := t.c), BEq.comm (a := t.l)]
theorem sameT_comm (ts us : List Tm) : sameT ts us = sameT us ts := by
  unfold sameT
  by_cases h : ts.length = us.length
  · rw [h]
    congr 2
    funext i
    exact eqT_comm _ _
  · rw [decide_eq_false h, decide_eq_false (fun e => h e.symm)]
    rfl
theorem timesL_fits {n : Nat} {xs : List Int} (hv : lineB n xs = true) : TmFits (timesL n xs) := by
  intro t ht
  obtain ⟨i, hi, rfl⟩ := List.mem_iff_getElem.1 ht
  have hok := timesTo_ok (lineOk_line hv) n (Nat.le_refl _) i hi
  have h20 := (lineOk_of hv).1.2
  have hin : i < n := by have := hi; unfold timesL at this; rwa [timesTo_length] at this
  have e : tmAt (timesTo (shS xs) (shR xs) (shD xs) n) i = (timesL n xs)[i] := by simp [tmAt, timesL, List.getD, List.getElem?_eq_getElem (show i < (timesTo (shS xs) (shR xs) (shD xs) n).length from hi)]
  rw [e] at hok
  generalize (timesL n xs)[i] = t at *
  rcases hok with h | ⟨h1, h2, h3, h4, h5, h6, h7⟩
  · subst h
    refine ⟨?_, ?_, ?_, ?_⟩ <;> decide
  · refine ⟨?_, ?_, ?_, ?_⟩ <;> simp [Lit.wf, IntKind.min, IntKind.max, IntKind.signed, IntKind.bits] <;> omega
def checkV (n : Nat) (xs : List Int) (ts : List Tm) : Bool := if lineB n xs = true then sameT ts (timesL n xs) else false
set_option maxRecDepth 100000 in
theorem checkTell_any (b : Option Addr) (m cb : Nat) (ts : List Tm) (hl2 : m = ts.length) (hm : m ≤ 1048576) (hf2 : TmFits ts) (n : Nat) (us : List Tm) (hl : n = us.length) (hn : n ≤ 1048576) (hf : TmFits us) (lp : Addr) (w : World) (hc : w.cell? lp = some (.slice b m cb)) (hb : CellsOf w b (tmCells ts)) (a : Option Addr) (c : Nat) (ha : CellsOf w a (tmCells us)) :
    Calls Tryd.prog 56 #[.slice a n c, .pointer (some lp)] w fun e w' => e = .returned (.tuple #[.bool (sameT ts us), .nilIface]) ∧ Gr w w' := by
  have HA := hid (impl_SameTimes_law b m cb ts hl2 hm hf2 a n c us hl hn hf w hb ha)
  generalize sameT ts us = q at *
  clear hb ha hl hl2 hf hf2
  go_enter Tryd.func56, Tryd.ntmps56
  go_wp2_with fail
  refine HA.out.mono ?_
  rintro e w1 ⟨rfl, g1⟩
  have G1 := hid g1
  clear g1
  go_wp2_with fail
  go_ret2
  exact ⟨rfl, G1.out⟩
set_option maxRecDepth 100000 in
theorem impl_CheckTimes_law (a : Option Addr) (n cap : Nat) (xs : List Int) (hl : xs.length = n * 3) (hn : n ≤ 1048576) (hf : Fits .i8 xs) (b : Option Addr) (m cb : Nat) (ts : List Tm) (hl2 : m = ts.length) (hm : m ≤ 1048576) (hf2 : TmFits ts) (w : World) (hnv : NeverAt w) (hs : CellsOf w a (xs.map (Value.int .i8))) (hb : CellsOf w b (tmCells ts)) :
    Calls Tryd.prog 25 #[.slice a n cap, .slice b m cb] w fun e w' => e = .returned (.tuple #[.bool (checkV n xs ts), .int .i64 (lineC n xs)]) ∧ Gr w w' := by
  have hmf : ∀ (fn : Fn) (first cap : Array Value) (w : World), (Instr.makeFunc fn first cap).run Tryd.prog w = .ok (.func fn first cap) w := fun _ _ _ _ => rfl
  have g0 := (Gr.refl w).alloc (.cells #[.slice b m cb] 24)
  have G0 := hid g0
  have hc0 : (w.alloc (.cells #[.slice b m cb] 24)).cell? ⟨w.heap.size, 0, none⟩ = some (.slice b m cb) := by
    rw [cell_of_row _ _ _ _ _ _ (heap_new (w := w) (o := .cells #[.slice b m cb] 24) rfl)]; rfl
  cases hv : lineB n xs with
  | false =>
    have HA := hid (ansB_no a n cap xs hl hn hf hv (.func (.func 56) #[] #[.pointer (some ⟨w.heap.size, 0, none⟩)]) (w.alloc (.cells #[.slice b m cb] 24)) ((sliceOf_cells hs).gr g0))
    rw [show checkV n xs ts = false by unfold checkV; rw [hv]; rfl, show lineC n xs = 1 by unfold lineC; rw [hv]; rfl]
    clear hs hl hf hnv hb hl2 hf2 g0 hc0
    go_enter Tryd.func25, Tryd.ntmps25
    go_wp2_with fail
    refine HA.out.mono ?_
    rintro e w1 ⟨rfl, g1⟩
    have G1 := hid (G0.out.trans g1)
    clear g1
    go_wp2_with fail
    go_ret2
    exact ⟨rfl, G1.out⟩
  | true =>
    have hlen : (timesL n xs).length = n := timesTo_length _ _ _ _
    have HA := hid (ans_CheckTimes a n cap xs hl hn hf hv ⟨w.heap.size, 0, none⟩ (sameT ts (timesL n xs)) (w.alloc (.cells #[.slice b m cb] 24)) (hnv.gr g0) ((sliceOf_cells hs).gr g0)
      (fun V av cv g hav => checkTell_any b m cb ts hl2 hm hf2 n (timesL n xs) hlen.symm hn (timesL_fits hv) _ V (g.cell hc0) (hb.gr (g0.trans g)) av cv hav))
    rw [show checkV n xs ts = sameT ts (timesL n xs) by unfold checkV; rw [hv]; rfl, show lineC n xs = 0 by unfold lineC; rw [hv]; rfl]
    generalize sameT ts (timesL n xs) = q at *
    clear hs hl hf hnv hb hl2 hf2 g0 hc0 hlen
    go_enter Tryd.func25, Tryd.ntmps25
    go_wp2_with fail
    refine HA.out.mono ?_
    rintro e w1 ⟨rfl, g1⟩
    have G1 := hid (G0.out.trans g1)
    clear g1
    go_wp2_with fail
    go_ret2
    exact ⟨rfl, G1.out⟩
set_option maxRecDepth 100000 in
theorem spec_CheckTimes_law (a : Option Addr) (n cap : Nat) (xs : List Int) (hl : xs.length = n * 3) (hn : n ≤ 1048576) (hf : Fits .i8 xs) (b : Option Addr) (m cb : Nat) (ts : List Tm) (hl2 : m = ts.length) (hm : m ≤ 1048576) (hf2 : TmFits ts) (w : World) (hs : CellsOf w a (xs.map (Value.int .i8))) (hb : CellsOf w b (tmCells ts)) :
    Calls Tryd.prog 23 #[.slice a n cap, .slice b m cb] w fun e w' => e = .returned (.tuple #[.bool (checkV n xs ts), .int .i64 (lineC n xs)]) ∧ Gr w w' := by
  have HO := hid (l06Ok_any a n cap xs hl hn hf w (sliceOf_cells hs))
  cases hv : lineB n xs with
  | false =>
    rw [hv] at HO
    rw [show checkV n xs ts = false by unfold checkV; rw [hv]; rfl, show lineC n xs = 1 by unfold lineC; rw [hv]; rfl]
    clear hs hl hf hb hl2 hf2
    go_enter Tryd.func23, Tryd.ntmps23
    go_wp2_with fail
    refine HO.out.mono ?_
    rintro e w1 ⟨rfl, g1⟩
    have G1 := hid g1
    clear g1
    go_wp2_with fail
    go_ret2
    exact ⟨rfl, G1.out⟩
  | true =>
    have HT := hid (fun V (g : Gr w V) => l06Times_any a n cap xs hl hv (-1) 0 (by omega) V ((sliceOf_cells hs).gr g))
    rw [hv] at HO
    rw [moreR_none] at HT
    have hlen : (timesL n xs).length = n := timesTo_length _ _ _ _
    change Hid (∀ V, Gr w V → Calls _ _ _ V (RetV _ _ _ _ (tmCells (timesL n xs)) V)) at HT
    have HS := hid (fun V av cv (h1 : CellsOf V av (tmCells (timesL n xs))) (g : Gr w V) => spec_SameTimes_law av n cv (timesL n xs) hlen.symm hn (timesL_fits hv) b m cb ts hl2 hm hf2 V h1 (hb.gr g))
    rw [show checkV n xs ts = sameT (timesL n xs) ts by unfold checkV; rw [hv, sameT_comm]; rfl, show lineC n xs = 0 by unfold lineC; rw [hv]; rfl]
    generalize sameT (timesL n xs) ts = q at *
    generalize tmCells (timesL n xs) = cs at *
    clear hs hl hf hlen hb hl2 hf2
    go_enter Tryd.func23, Tryd.ntmps23
    go_wp2_with fail
    refine HO.out.mono ?_
    rintro e w1 ⟨rfl, g1⟩
    have G1 := hid g1
    clear g1
    go_wp2_with fail
    refine (HT.out _ G1.out).mono ?_
    rintro e w2 ⟨v, rfl, o2, g2⟩
    obtain ⟨av, cv, rfl⟩ := o2.shape
    have G2 := hid (G1.out.trans g2)
    have HSc := hid (HS.out w2 av cv o2.reads G2.out)
    clear o2 g2
    unfold id
    go_wp2_with fail
    refine HSc.out.mono ?_
    rintro e w3 ⟨rfl, g3⟩
    have G3 := hid (G2.out.trans g3)
    clear g3
    go_wp2_with fail
    go_ret2
    exact ⟨rfl, G3.out⟩
end Go.Proofs.YtmpndafabnbchaaDoor
