/- attempt and reply, where two numbers are told. -/
import Derived.Test.YtflbjjcpkhldkaaDoorErrV
import Derived.Test.YtflbjjcpkhldkaaDoorErrF
import Derived.Test.YtflbjjcpkhldkaaDoorErrN
import Derived.Test.YtflbjjcpkhldkaaDoorLineH
import Derived.Test.YtflbjjcpkhldkaaDoorLineA
import Derived.Test.YtflbjjcpkhldkaaDoorRowRes
import Derived.StillTailTactics
import Derived.Deep.RegionHeld3
import Derived.Defers
import Derived.Recover
namespace Go.Proofs.YtflbjjcpkhldkaaDoor
set_option linter.unusedVariables false
open Go.RowKit
theorem catch_Clos (p : Addr) (w : World) :
    CallsD Tryd.prog 129 #[.pointer (some p)] .returning w fun e u' w' => e = .returned (.tuple #[]) ∧ u' = .returning ∧ w' = w := by
  refine callsD_of_wpS Tryd.func129 rfl fun c₀ cs hu => ?_
  apply wpS_seq
  apply wpS_region
  simp [wpOpsS, go_sem, recoverD, hu, Tryd.ntmps129, Exit.thenS]
  have ht : (#[Value.pointer (some p)] ++ ((Array.replicate 14 undef).setIfInBounds 3 Value.nilIface).setIfInBounds 0 Value.nilIface) = #[Value.pointer (some p), .nilIface, undef, undef, .nilIface, undef, undef, undef, undef, undef, undef, undef, undef, undef, undef] := rfl
  rw [ht]
  have hn : ∀ w : World, (binOp BinOp.neq 20 .nilIface .nilIface).run Tryd.prog w = .ok (.bool false) w := fun _ => by kernel_rfl
  have hta : ∀ w : World, (Instr.typeAssert .nilIface 20 135 true).run Tryd.prog w = .ok (.tuple #[.nilIface, .bool false]) w := fun _ => by kernel_rfl
  refine wpS_of_wp ?_
  go_wp2
  cases c₀
  simp_all [bodyPostS, results, Tryd.results129]
set_option maxRecDepth 100000 in
set_option maxHeartbeats 1000000 in
theorem att_Clos_nil (x y : Int) (K : FuncId) (caps : Array Value) (w : World) (hK : ∀ (args : Array Value) (w : World), (callFunc K args).run Tryd.prog w = .ok (.enter K args) w)
    (HC : Calls Tryd.prog K caps ((w.alloc (.cells #[.int .i64 0, .int .i64 0] 82)).alloc (.cells #[.nilIface] 65)) fun e w' => e = .returned (.tuple #[.agg #[.int .i64 x, .int .i64 y], .nilIface]) ∧ Gr ((w.alloc (.cells #[.int .i64 0, .int .i64 0] 82)).alloc (.cells #[.nilIface] 65)) w') :
    Calls Tryd.prog 119 #[.func (.func K) #[] caps] w fun e w' => e = .returned (.tuple #[.agg #[.int .i64 x, .int .i64 y], .nilIface]) ∧ Gr w w' := by
  have hmf : ∀ (fn : Fn) (first cap : Array Value) (w : World), (Instr.makeFunc fn first cap).run Tryd.prog w = .ok (.func fn first cap) w := fun _ _ _ _ => rfl
  have hc := hid HC
  have B0 := hid (heap_new (w := w.alloc (.cells #[.int .i64 0, .int .i64 0] 82)) (o := .cells #[.nilIface] 65) (n := w.heap.size + 1) (by simp))
  have B1 := hid (heap_kept (o := .cells #[.nilIface] 65) (heap_new (w := w) (o := .cells #[.int .i64 0, .int .i64 0] 82) rfl))
  have G0 := hid (((Gr.refl w).alloc (.cells #[.int .i64 0, .int .i64 0] 82)).alloc (.cells #[.nilIface] 65))
  clear HC
  go_enter_defers Tryd.func119, Tryd.ntmps119
  go_wp2_with fail
  refine hc.out.mono ?_
  rintro e w1 ⟨rfl, g1⟩
  have G1 := hid (G0.out.trans g1)
  have B2 := hid (g1.heap B0.out)
  have B3 := hid (g1.heap B1.out)
  obtain ⟨hc1, hf1⟩ := row1_facts B2.out
  obtain ⟨hd0, hd1, hg0, hg1⟩ := row2_facts B3.out
  clear g1
  go_wp2_with fail
  refine leaves_cons (f := 129) (args := #[.pointer (some ⟨w.heap.size + 1, 0, none⟩)]) (by simp) (by simp [go_sem]) ?_
  refine (catch_Clos ⟨w.heap.size + 1, 0, none⟩ _).mono ?_
  rintro e u' w'' ⟨rfl, rfl, rfl⟩
  have hrow := heap_stored (a := ⟨w.heap.size + 1, 0, none⟩) (v := .nilIface) (by simp) (row2_set (x := .int .i64 x) (y := .int .i64 y) B3.out)
  have hcell : ((w1.setCell ⟨w.heap.size, 0, none⟩ (.int .i64 x)).setCell ⟨w.heap.size, 1, none⟩ (.int .i64 y)).heap[w.heap.size + 1]? = some (.cells #[.nilIface] 65 (0, 0)) := heap_stored (by simp) (heap_stored (by simp) B2.out)
  have hc2 := World.cell?_setCell_same _ ⟨w.heap.size + 1, 0, none⟩ (.nilIface) (row1_facts hcell).1
  refine ⟨_, results_row_cell (by rfl) _ _ _ _ _ _ _ _ (.nilIface) rfl rfl (by simp [loadVar, isAgg, run_underlying Tryd.underlying65, Sem.run_bind, go_sem, hc2]) hrow Tryd.underlying82 rfl (by kernel_rfl), rfl, ((G1.out.setCell (p := ⟨w.heap.size, 0, none⟩) (Nat.le_refl _) _).setCell (p := ⟨w.heap.size, 1, none⟩) (Nat.le_refl _) _).setCell (p := ⟨w.heap.size + 1, 0, none⟩) (by show _ ≤ _ + 1; omega) _⟩
set_option maxRecDepth 100000 in
set_option maxHeartbeats 1000000 in
theorem att_Clos_iface (x y : Int) (t : TypeId) (z : Value) (K : FuncId) (caps : Array Value) (w : World) (hK : ∀ (args : Array Value) (w : World), (callFunc K args).run Tryd.prog w = .ok (.enter K args) w)
    (HC : Calls Tryd.prog K caps ((w.alloc (.cells #[.int .i64 0, .int .i64 0] 82)).alloc (.cells #[.nilIface] 65)) fun e w' => e = .returned (.tuple #[.agg #[.int .i64 x, .int .i64 y], .iface t z]) ∧ Gr ((w.alloc (.cells #[.int .i64 0, .int .i64 0] 82)).alloc (.cells #[.nilIface] 65)) w') :
    Calls Tryd.prog 119 #[.func (.func K) #[] caps] w fun e w' => e = .returned (.tuple #[.agg #[.int .i64 x, .int .i64 y], .iface t z]) ∧ Gr w w' := by
  have hmf : ∀ (fn : Fn) (first cap : Array Value) (w : World), (Instr.makeFunc fn first cap).run Tryd.prog w = .ok (.func fn first cap) w := fun _ _ _ _ => rfl
  have hc := hid HC
  have B0 := hid (heap_new (w := w.alloc (.cells #[.int .i64 0, .int .i64 0] 82)) (o := .cells #[.nilIface] 65) (n := w.heap.size + 1) (by simp))
  have B1 := hid (heap_kept (o := .cells #[.nilIface] 65) (heap_new (w := w) (o := .cells #[.int .i64 0, .int .i64 0] 82) rfl))
  have G0 := hid (((Gr.refl w).alloc (.cells #[.int .i64 0, .int .i64 0] 82)).alloc (.cells #[.nilIface] 65))
  clear HC
  go_enter_defers Tryd.func119, Tryd.ntmps119
  go_wp2_with fail
  refine hc.out.mono ?_
  rintro e w1 ⟨rfl, g1⟩
  have G1 := hid (G0.out.trans g1)
  have B2 := hid (g1.heap B0.out)
  have B3 := hid (g1.heap B1.out)
  obtain ⟨hc1, hf1⟩ := row1_facts B2.out
  obtain ⟨hd0, hd1, hg0, hg1⟩ := row2_facts B3.out
  clear g1
  go_wp2_with fail
  refine leaves_cons (f := 129) (args := #[.pointer (some ⟨w.heap.size + 1, 0, none⟩)]) (by simp) (by simp [go_sem]) ?_
  refine (catch_Clos ⟨w.heap.size + 1, 0, none⟩ _).mono ?_
  rintro e u' w'' ⟨rfl, rfl, rfl⟩
  have hrow := heap_stored (a := ⟨w.heap.size + 1, 0, none⟩) (v := .iface t z) (by simp) (row2_set (x := .int .i64 x) (y := .int .i64 y) B3.out)
  have hcell : ((w1.setCell ⟨w.heap.size, 0, none⟩ (.int .i64 x)).setCell ⟨w.heap.size, 1, none⟩ (.int .i64 y)).heap[w.heap.size + 1]? = some (.cells #[.nilIface] 65 (0, 0)) := heap_stored (by simp) (heap_stored (by simp) B2.out)
  have hc2 := World.cell?_setCell_same _ ⟨w.heap.size + 1, 0, none⟩ (.iface t z) (row1_facts hcell).1
  refine ⟨_, results_row_cell (by rfl) _ _ _ _ _ _ _ _ (.iface t z) rfl rfl (by simp [loadVar, isAgg, run_underlying Tryd.underlying65, Sem.run_bind, go_sem, hc2]) hrow Tryd.underlying82 rfl (by kernel_rfl), rfl, ((G1.out.setCell (p := ⟨w.heap.size, 0, none⟩) (Nat.le_refl _) _).setCell (p := ⟨w.heap.size, 1, none⟩) (Nat.le_refl _) _).setCell (p := ⟨w.heap.size + 1, 0, none⟩) (by show _ ≤ _ + 1; omega) _⟩
set_option maxRecDepth 100000 in
set_option maxHeartbeats 1000000 in
theorem rep_Clos_ok (x y : Int) (K : FuncId) (caps : Array Value) (w : World) (hK : ∀ (args : Array Value) (w : World), (callFunc K args).run Tryd.prog w = .ok (.enter K args) w)
    (HC : Calls Tryd.prog K caps (((w.alloc (.cells #[.int .i64 0, .int .i64 0] 82)).alloc (.cells #[.int .i64 0, .int .i64 0] 82)).alloc (.cells #[.nilIface] 65)) fun e w' => e = .returned (.tuple #[.agg #[.int .i64 x, .int .i64 y], .nilIface]) ∧ Gr (((w.alloc (.cells #[.int .i64 0, .int .i64 0] 82)).alloc (.cells #[.int .i64 0, .int .i64 0] 82)).alloc (.cells #[.nilIface] 65)) w') :
    Calls Tryd.prog 104 #[.func (.func K) #[] caps] w fun e w' => e = .returned (.tuple #[.agg #[.int .i64 x, .int .i64 y], .int .i64 0]) ∧ Gr w w' := by
  have HA := hid (att_Clos_nil x y K caps (w.alloc (.cells #[.int .i64 0, .int .i64 0] 82)) hK HC)
  have HN := hid as_nil
  have B0 := hid (heap_new (w := w) (o := .cells #[.int .i64 0, .int .i64 0] 82) rfl)
  have G0 := hid ((Gr.refl w).alloc (.cells #[.int .i64 0, .int .i64 0] 82))
  clear HC hK
  go_enter Tryd.func104, Tryd.ntmps104
  go_wp2_with fail
  refine HA.out.mono ?_
  rintro e w1 ⟨rfl, g1⟩
  have G1 := hid (G0.out.trans g1)
  have B1 := hid (g1.heap B0.out)
  obtain ⟨hd0, hd1, hg0, hg1⟩ := row2_facts B1.out
  have hlt := lt_of_heap B1.out
  clear g1
  go_wp2_with fail
  refine (HN.out _ _).mono ?_
  rintro e w2 ⟨rfl, rfl⟩
  go_wp2
  refine bodyPost_ret (v := .tuple #[.agg #[.int .i64 x, .int .i64 y], .int .i64 0]) (results_row_tmp (by rfl) _ _ _ _ _ _ _ _ rfl rfl (heap_kept (heap_kept (row2_set (x := .int .i64 x) (y := .int .i64 y) B1.out))) Tryd.underlying82 rfl (by kernel_rfl)) rfl ⟨rfl, (((G1.out.setCell (p := ⟨w.heap.size, 0, none⟩) (Nat.le_refl _) _).setCell (p := ⟨w.heap.size, 1, none⟩) (Nat.le_refl _) _).alloc _).alloc _⟩
set_option maxRecDepth 100000 in
set_option maxHeartbeats 1000000 in
theorem rep_Clos_err_notValid (s : ByteArray) (x y : Int) (K : FuncId) (caps : Array Value) (w : World) (hK : ∀ (args : Array Value) (w : World), (callFunc K args).run Tryd.prog w = .ok (.enter K args) w)
    (HC : Calls Tryd.prog K caps ((((w.alloc (.cells #[.int .i64 0, .int .i64 0] 82))).alloc (.cells #[.int .i64 0, .int .i64 0] 82)).alloc (.cells #[.nilIface] 65)) fun e w' => e = .returned (.tuple #[.agg #[.int .i64 x, .int .i64 y], .iface 109 (.string s)]) ∧ Gr ((((w.alloc (.cells #[.int .i64 0, .int .i64 0] 82))).alloc (.cells #[.int .i64 0, .int .i64 0] 82)).alloc (.cells #[.nilIface] 65)) w') :
    Calls Tryd.prog 104 #[.func (.func K) #[] caps] w fun e w' => e = .returned (.tuple #[.agg #[.int .i64 0, .int .i64 0], .int .i64 1]) ∧ Gr w w' := by
  have HA := hid (att_Clos_iface x y 109 (.string s) K caps (w.alloc (.cells #[.int .i64 0, .int .i64 0] 82)) hK HC)
  have HN := hid (fun V (G : Gr (w.alloc (.cells #[.int .i64 0, .int .i64 0] 82)) V) => as_notValid s V.heap.size (V.alloc (.cells #[.nilIface] 135)) (heap_new rfl) (w.alloc (.cells #[.int .i64 0, .int .i64 0] 82)) (G.alloc _) G.size)
  have B0 := hid (heap_new (w := w) (o := .cells #[.int .i64 0, .int .i64 0] 82) rfl)
  have G0 := hid ((Gr.refl w).alloc (.cells #[.int .i64 0, .int .i64 0] 82))
  clear HC hK
  go_enter Tryd.func104, Tryd.ntmps104
  go_wp2_with fail
  refine HA.out.mono ?_
  rintro e w1 ⟨rfl, g1⟩
  have HNc := hid (HN.out (w1.alloc (.cells #[.int .i64 x, .int .i64 y] 82)) (g1.alloc _))
  rw [World.size_alloc] at HNc
  clear g1
  go_wp2_with fail
  refine HNc.out.mono ?_
  rintro e w2 ⟨rfl, g2, hb2⟩
  have G2 := hid (G0.out.trans g2)
  have B2 := hid (g2.heap B0.out)
  have hlt2 := lt_of_heap hb2
  have hlt0 := lt_of_heap B2.out
  have hc2 : w2.cell? ⟨w1.heap.size + 1, 0, none⟩ = some (.iface 109 (.string s)) := by rw [cell_of_row _ _ _ _ _ _ hb2]; rfl
  obtain ⟨hd0, hd1, hg0, hg1⟩ := row2_facts B2.out
  clear g2 hb2
  go_wp2_with fail
  go_region_calls
  all_goals
    go_wp2
    refine bodyPost_ret (v := .tuple #[.agg #[.int .i64 0, .int .i64 0], .int .i64 1]) (results_row_tmp (by rfl) _ _ _ _ _ _ _ _ rfl rfl (heap_drawn (heap_kept (row2_set (x := .int .i64 0) (y := .int .i64 0) B2.out))) Tryd.underlying82 rfl (by kernel_rfl)) rfl ⟨rfl, (((G2.out.setCell (p := ⟨w.heap.size, 0, none⟩) (Nat.le_refl _) _).setCell (p := ⟨w.heap.size, 1, none⟩) (Nat.le_refl _) _).alloc _).drew⟩
set_option maxRecDepth 100000 in
set_option maxHeartbeats 1000000 in
theorem ans1_Clos_no (lp tp al : Option Addr) (n cal : Nat) (xs : List Int) (hl : xs.length = n * 3) (hn : n ≤ 1048576) (hf : Fits .i8 xs) (hv : lineB n xs = false) (w : World) (hlp : ∀ p, lp = some p → w.cell? p = some (.slice al n cal)) (hl0 : lp ≠ none) (hs : SliceOf .i8 w al xs) :
    Calls Tryd.prog 105 #[.pointer lp, .pointer tp] w fun e w' => e = .returned (.tuple #[.agg #[.int .i64 0, .int .i64 0], .iface 109 (.string lineTxt)]) ∧ Gr w w' := by
  obtain ⟨p, rfl⟩ := Option.ne_none_iff_exists'.1 hl0
  have hc := ((Gr.refl w).alloc (.cells #[.int .i64 0, .int .i64 0] 82)).cell (hlp p rfl)
  have G0 := hid ((Gr.refl w).alloc (.cells #[.int .i64 0, .int .i64 0] 82))
  have B0 := hid (heap_new (w := w) (o := (.cells #[.int .i64 0, .int .i64 0] 82)) rfl)
  have HV := hid (impl_ValidLine_any al n cal xs hl hn hf (w.alloc (.cells #[.int .i64 0, .int .i64 0] 82)) (hs.gr G0.out))
  rw [hv] at HV
  clear hs hl hf hv hlp hl0
  go_enter Tryd.func105, Tryd.ntmps105
  go_wp2_with fail
  refine HV.out.mono ?_
  rintro e w1 ⟨rfl, g1⟩
  have G1 := hid (G0.out.trans g1)
  have B1 := hid (g1.heap B0.out)
  obtain ⟨hd0, hd1, hg0, hg1⟩ := row2_facts B1.out
  have hlt1 := lt_of_heap B1.out
  clear g1
  go_wp2
  refine bodyPost_ret (v := .tuple #[.agg #[.int .i64 0, .int .i64 0], .iface 109 (.string lineTxt)]) (results_row_tmp (by rfl) _ _ _ _ _ _ _ _ rfl rfl (heap_kept (row2_set (x := .int .i64 0) (y := .int .i64 0) B1.out)) Tryd.underlying82 rfl (by kernel_rfl)) rfl ⟨rfl, (((G1.out.setCell (p := ⟨w.heap.size, 0, none⟩) (Nat.le_refl _) _).setCell (p := ⟨w.heap.size, 1, none⟩) (Nat.le_refl _) _).alloc _)⟩
set_option maxRecDepth 100000 in
set_option maxHeartbeats 1000000 in
theorem ans1_Clos_ret (x y : Int) (lp tp : Addr) (al : Option Addr) (n cal : Nat) (xs : List Int) (hl : xs.length = n * 3) (hn : n ≤ 1048576) (hf : Fits .i8 xs) (hv : lineB n xs = true) (K : FuncId) (caps : Array Value) (w : World) (hnv : NeverAt w) (hlp : w.cell? lp = some (.slice al n cal)) (htp : w.cell? tp = some (.func (.func K) #[] caps)) (hs : SliceOf .i8 w al xs)
    (hK : ∀ (args : Array Value) (w : World), (callFunc K args).run Tryd.prog w = .ok (.enter K args) w)
    (HT : ∀ V a c, Gr w V → OwnV 69 4 V w.heap.size V.heap.size (.slice a n c) n (tmCells (timesL n xs)) → Calls Tryd.prog K (#[.slice a n c] ++ caps) V fun e w' => e = .returned (.tuple #[.agg #[.int .i64 x, .int .i64 y], .nilIface]) ∧ Gr V w') :
    Calls Tryd.prog 105 #[.pointer (some lp), .pointer (some tp)] w fun e w' => e = .returned (.tuple #[.agg #[.int .i64 x, .int .i64 y], .nilIface]) ∧ Gr w w' := by
  have g00 := (Gr.refl w).alloc (.cells #[.int .i64 0, .int .i64 0] 82)
  have G0 := hid g00
  have B0 := hid (heap_new (w := w) (o := (.cells #[.int .i64 0, .int .i64 0] 82)) rfl)
  have HV := hid (impl_ValidLine_any al n cal xs hl hn hf (w.alloc (.cells #[.int .i64 0, .int .i64 0] 82)) (hs.gr g00))
  have h0 := (lineOk_of hv).1.1
  have HO := hid (fun V (g : Gr w V) => timesOf_any al n cal xs hl (by omega) (lineOk_line hv) V (hnv.gr g) (hs.gr g))
  have HTL := hid (fun V a c (g : Gr (w.alloc (.cells #[.int .i64 0, .int .i64 0] 82)) V) (o : OwnV 69 4 V w.heap.size V.heap.size (.slice a n c) n (tmCells (timesL n xs))) => HT V a c (g00.trans g) o)
  replace HO := hid (fun V (g : Gr (w.alloc (.cells #[.int .i64 0, .int .i64 0] 82)) V) => HO.out V (g00.trans g))
  replace hlp := g00.cell hlp
  replace htp := g00.cell htp
  rw [hv] at HV
  have HCL := hid hlp
  have HCT := hid htp
  have HSZ := hid (show w.heap.size ≤ (w.alloc (.cells #[.int .i64 0, .int .i64 0] 82)).heap.size by simp)
  clear hs hl hf hv hnv HT htp g00
  go_enter Tryd.func105, Tryd.ntmps105
  go_wp2_with fail
  refine HV.out.mono ?_
  rintro e w1 ⟨rfl, g1⟩
  have hgg := g1
  have hcl := g1.cell HCL.out
  have hct := g1.cell HCT.out
  clear g1 hlp
  go_wp2_with fail
  have hcl' : w1.drew.cell? lp = some (.slice al n cal) := hcl
  have hct' : w1.drew.cell? tp = some (.func (.func K) #[] caps) := hct
  have hgd := hgg.drew
  first
  | (go_region_with (first | (go_at_call 98; (with_reducible refine (HO.out _ (by first | exact hgd | exact hgg | exact hgg.drewN _)).mono ?_); rintro e V ⟨v, rfl, oV, gV0⟩; have gV : Gr (w.alloc (.cells #[.int .i64 0, .int .i64 0] 82)) V := Gr.trans (by first | exact hgd | exact hgg | exact hgg.drewN _) gV0; have c1 := gV.cell HCL.out; have c2 := gV.cell HCT.out; obtain ⟨av, cv, rfl⟩ := oV.shape; have OV := oV.widen (lo' := w.heap.size) (Nat.le_trans HSZ.out (by first | exact hgd.size | exact hgg.size)) (Nat.le_refl _); clear oV gV0; unfold id) | ((with_reducible refine (HTL.out _ _ _ (by assumption) (by assumption)).mono ?_); rintro e V ⟨rfl, gV0⟩; have gV2 : Gr (w.alloc (.cells #[.int .i64 0, .int .i64 0] 82)) V := Gr.trans (by assumption) gV0; have B2 := gV2.heap B0.out; obtain ⟨hd0, hd1, hg0, hg1⟩ := row2_facts B2; clear gV0)))
  | fail "with"
  all_goals
    go_wp2
    refine bodyPost_ret (v := .tuple #[.agg #[.int .i64 x, .int .i64 y], .nilIface]) (results_row_tmp (by rfl) _ _ _ _ _ _ _ _ rfl rfl (row2_set (x := .int .i64 x) (y := .int .i64 y) B2) Tryd.underlying82 rfl (by kernel_rfl)) rfl ⟨rfl, (((G0.out.trans gV2).setCell (p := ⟨w.heap.size, 0, none⟩) (Nat.le_refl _) _).setCell (p := ⟨w.heap.size, 1, none⟩) (Nat.le_refl _) _)⟩
set_option maxRecDepth 100000 in
set_option maxHeartbeats 1000000 in
theorem ans_Clos_no (al : Option Addr) (n cal : Nat) (xs : List Int) (hl : xs.length = n * 3) (hn : n ≤ 1048576) (hf : Fits .i8 xs) (hv : lineB n xs = false) (K : FuncId) (caps : Array Value) (w : World) (hs : SliceOf .i8 w al xs) :
    Calls Tryd.prog 67 #[.slice al n cal, .func (.func K) #[] caps] w fun e w' => e = .returned (.tuple #[.agg #[.int .i64 0, .int .i64 0], .int .i64 1]) ∧ Gr w w' := by
  have hmf : ∀ (fn : Fn) (first cap : Array Value) (w : World), (Instr.makeFunc fn first cap).run Tryd.prog w = .ok (.func fn first cap) w := fun _ _ _ _ => rfl
  obtain ⟨w1, hw1⟩ : ∃ w1, w1 = w.alloc (.cells #[.slice al n cal] 27) := ⟨_, rfl⟩
  obtain ⟨w2, hw2⟩ : ∃ w2, w2 = w1.alloc (.cells #[.func (.func K) #[] caps] 86) := ⟨_, rfl⟩
  have s1 : w1.heap.size = w.heap.size + 1 := by rw [hw1]; simp
  have s2 : w2.heap.size = w.heap.size + 2 := by rw [hw2]; simp [s1]
  have g1 : Gr w w1 := by rw [hw1]; exact (Gr.refl _).alloc _
  have g12 : Gr w1 w2 := by rw [hw2]; exact (Gr.refl _).alloc _
  have g2 : Gr w w2 := g1.trans g12
  have g3 : Gr w2 ((((w2.alloc (.cells #[.int .i64 0, .int .i64 0] 82)).alloc (.cells #[.int .i64 0, .int .i64 0] 82)).alloc (.cells #[.int .i64 0, .int .i64 0] 82)).alloc (.cells #[.nilIface] 65)) := ((((Gr.refl _).alloc _).alloc _).alloc _).alloc _
  have c1 : ((((w2.alloc (.cells #[.int .i64 0, .int .i64 0] 82)).alloc (.cells #[.int .i64 0, .int .i64 0] 82)).alloc (.cells #[.int .i64 0, .int .i64 0] 82)).alloc (.cells #[.nilIface] 65)).cell? ⟨w.heap.size, 0, none⟩ = some (.slice al n cal) :=
    g3.cell (g12.cell (by rw [hw1, cell_of_row _ _ _ _ _ _ (heap_new rfl)]; rfl))
  have c2 : ((((w2.alloc (.cells #[.int .i64 0, .int .i64 0] 82)).alloc (.cells #[.int .i64 0, .int .i64 0] 82)).alloc (.cells #[.int .i64 0, .int .i64 0] 82)).alloc (.cells #[.nilIface] 65)).cell? ⟨w.heap.size + 1, 0, none⟩ = some (.func (.func K) #[] caps) :=
    g3.cell (by rw [hw2, cell_of_row _ _ _ _ _ _ (heap_new (w := w1) s1.symm)]; rfl)
  have g03 := g2.trans g3
  have HA := hid (rep_Clos_err_notValid lineTxt 0 0 105 #[.pointer (some ⟨w.heap.size, 0, none⟩), .pointer (some ⟨w.heap.size + 1, 0, none⟩)] (w2.alloc (.cells #[.int .i64 0, .int .i64 0] 82)) (fun args w => callFunc_enter Tryd.func105 (by kernel_rfl) (by kernel_rfl) args w) (ans1_Clos_no (some ⟨w.heap.size, 0, none⟩) (some ⟨w.heap.size + 1, 0, none⟩) al n cal xs hl hn hf hv _ (fun p e => by cases e; exact c1) (by simp) (hs.gr g03)))
  have G2 := hid (g2.trans ((Gr.refl w2).alloc (.cells #[.int .i64 0, .int .i64 0] 82)))
  have B2 := hid (show (w2.alloc (.cells #[.int .i64 0, .int .i64 0] 82)).heap[w.heap.size + 2]? = some (.cells #[.int .i64 0, .int .i64 0] 82) from heap_new s2.symm)
  clear c1 c2 g1 g12 g3 g03 g2 s1 s2 hs hl hf hv
  rw [hw1] at hw2
  subst hw2
  clear hw1
  go_enter Tryd.func67, Tryd.ntmps67
  go_wp2_with fail
  refine HA.out.mono ?_
  rintro e w3 ⟨rfl, g3⟩
  have G3 := hid (G2.out.trans g3)
  have B3 := hid (g3.heap B2.out)
  obtain ⟨hd0, hd1, hg0, hg1⟩ := row2_facts B3.out
  clear g3
  go_wp2
  refine bodyPost_ret (v := .tuple #[.agg #[.int .i64 0, .int .i64 0], .int .i64 1]) (results_row_tmp (by rfl) _ _ _ _ _ _ _ _ rfl rfl (row2_set (x := .int .i64 0) (y := .int .i64 0) B3.out) Tryd.underlying82 rfl (by kernel_rfl)) rfl ⟨rfl, ((G3.out.setCell (p := ⟨w.heap.size + 2, 0, none⟩) (by show _ ≤ _ + 2; omega) _).setCell (p := ⟨w.heap.size + 2, 1, none⟩) (by show _ ≤ _ + 2; omega) _)⟩
set_option maxRecDepth 100000 in
set_option maxHeartbeats 1000000 in
theorem ans_Clos_ok (al : Option Addr) (n cal : Nat) (xs : List Int) (hl : xs.length = n * 3) (hn : n ≤ 1048576) (hf : Fits .i8 xs) (hv : lineB n xs = true) (K : FuncId) (caps : Array Value) (x y : Int) (w : World) (hnv : NeverAt w) (hs : SliceOf .i8 w al xs)
    (hK : ∀ (args : Array Value) (w : World), (callFunc K args).run Tryd.prog w = .ok (.enter K args) w)
    (HT : ∀ W V a c, Gr w W → Gr W V → OwnV 69 4 V W.heap.size V.heap.size (.slice a n c) n (tmCells (timesL n xs)) → Calls Tryd.prog K (#[.slice a n c] ++ caps) V fun e w' => e = .returned (.tuple #[.agg #[.int .i64 x, .int .i64 y], .nilIface]) ∧ Gr V w') :
    Calls Tryd.prog 67 #[.slice al n cal, .func (.func K) #[] caps] w fun e w' => e = .returned (.tuple #[.agg #[.int .i64 x, .int .i64 y], .int .i64 0]) ∧ Gr w w' := by
  have hmf : ∀ (fn : Fn) (first cap : Array Value) (w : World), (Instr.makeFunc fn first cap).run Tryd.prog w = .ok (.func fn first cap) w := fun _ _ _ _ => rfl
  obtain ⟨w1, hw1⟩ : ∃ w1, w1 = w.alloc (.cells #[.slice al n cal] 27) := ⟨_, rfl⟩
  obtain ⟨w2, hw2⟩ : ∃ w2, w2 = w1.alloc (.cells #[.func (.func K) #[] caps] 86) := ⟨_, rfl⟩
  have s1 : w1.heap.size = w.heap.size + 1 := by rw [hw1]; simp
  have s2 : w2.heap.size = w.heap.size + 2 := by rw [hw2]; simp [s1]
  have g1 : Gr w w1 := by rw [hw1]; exact (Gr.refl _).alloc _
  have g12 : Gr w1 w2 := by rw [hw2]; exact (Gr.refl _).alloc _
  have g2 : Gr w w2 := g1.trans g12
  have g3 : Gr w2 ((((w2.alloc (.cells #[.int .i64 0, .int .i64 0] 82)).alloc (.cells #[.int .i64 0, .int .i64 0] 82)).alloc (.cells #[.int .i64 0, .int .i64 0] 82)).alloc (.cells #[.nilIface] 65)) := ((((Gr.refl _).alloc _).alloc _).alloc _).alloc _
  have c1 : ((((w2.alloc (.cells #[.int .i64 0, .int .i64 0] 82)).alloc (.cells #[.int .i64 0, .int .i64 0] 82)).alloc (.cells #[.int .i64 0, .int .i64 0] 82)).alloc (.cells #[.nilIface] 65)).cell? ⟨w.heap.size, 0, none⟩ = some (.slice al n cal) :=
    g3.cell (g12.cell (by rw [hw1, cell_of_row _ _ _ _ _ _ (heap_new rfl)]; rfl))
  have c2 : ((((w2.alloc (.cells #[.int .i64 0, .int .i64 0] 82)).alloc (.cells #[.int .i64 0, .int .i64 0] 82)).alloc (.cells #[.int .i64 0, .int .i64 0] 82)).alloc (.cells #[.nilIface] 65)).cell? ⟨w.heap.size + 1, 0, none⟩ = some (.func (.func K) #[] caps) :=
    g3.cell (by rw [hw2, cell_of_row _ _ _ _ _ _ (heap_new (w := w1) s1.symm)]; rfl)
  have g03 := g2.trans g3
  have HA := hid (rep_Clos_ok x y 105 #[.pointer (some ⟨w.heap.size, 0, none⟩), .pointer (some ⟨w.heap.size + 1, 0, none⟩)] (w2.alloc (.cells #[.int .i64 0, .int .i64 0] 82)) (fun args w => callFunc_enter Tryd.func105 (by kernel_rfl) (by kernel_rfl) args w) (ans1_Clos_ret x y ⟨w.heap.size, 0, none⟩ ⟨w.heap.size + 1, 0, none⟩ al n cal xs hl hn hf hv K caps _ (hnv.gr g03) c1 c2 (hs.gr g03) hK (fun V a c gV ha => HT _ V a c g03 gV ha)))
  have G03 := hid g03
  have G2 := hid (g2.trans ((Gr.refl w2).alloc (.cells #[.int .i64 0, .int .i64 0] 82)))
  have B2 := hid (show (w2.alloc (.cells #[.int .i64 0, .int .i64 0] 82)).heap[w.heap.size + 2]? = some (.cells #[.int .i64 0, .int .i64 0] 82) from heap_new s2.symm)
  clear c1 c2 g1 g12 g3 g03 g2 s1 s2 hs hl hf hv hnv HT
  rw [hw1] at hw2
  subst hw2
  clear hw1
  go_enter Tryd.func67, Tryd.ntmps67
  go_wp2_with fail
  refine HA.out.mono ?_
  rintro e w3 ⟨rfl, g3⟩
  have G3 := hid (G2.out.trans g3)
  have B3 := hid (g3.heap B2.out)
  obtain ⟨hd0, hd1, hg0, hg1⟩ := row2_facts B3.out
  clear g3
  go_wp2
  refine bodyPost_ret (v := .tuple #[.agg #[.int .i64 x, .int .i64 y], .int .i64 0]) (results_row_tmp (by rfl) _ _ _ _ _ _ _ _ rfl rfl (row2_set (x := .int .i64 x) (y := .int .i64 y) B3.out) Tryd.underlying82 rfl (by kernel_rfl)) rfl ⟨rfl, ((G3.out.setCell (p := ⟨w.heap.size + 2, 0, none⟩) (by show _ ≤ _ + 2; omega) _).setCell (p := ⟨w.heap.size + 2, 1, none⟩) (by show _ ≤ _ + 2; omega) _)⟩
end Go.Proofs.YtflbjjcpkhldkaaDoor
