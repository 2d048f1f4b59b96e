/- attempt and reply, where two numbers are told. -/
import Derived.Test.YtnkoakneffjkbaaDoorErrF
import Derived.Test.YtnkoakneffjkbaaDoorErrN
import Derived.Test.YtnkoakneffjkbaaDoorErrM
import Derived.Test.YtnkoakneffjkbaaDoorRowRes
import Derived.StillTailTactics
import Derived.Deep.RegionHeld3
import Derived.Defers
import Derived.Recover
namespace Go.Proofs.YtnkoakneffjkbaaDoor
set_option linter.unusedVariables false
open Go.RowKit
theorem catch_Two (p : Addr) (w : World) :
    CallsD Tryd.prog 98 #[.pointer (some p)] .returning w fun e u' w' => e = .returned (.tuple #[]) ∧ u' = .returning ∧ w' = w := by
  refine callsD_of_wpS Tryd.func98 rfl fun c₀ cs hu => ?_
  apply wpS_seq
  apply wpS_region
  simp [wpOpsS, go_sem, recoverD, hu, Tryd.ntmps98, Exit.thenS]
  have ht : (#[Value.pointer (some p)] ++ ((Array.replicate 14 undef).setIfInBounds 3 Value.nilIface).setIfInBounds 0 Value.nilIface) = #[Value.pointer (some p), .nilIface, undef, undef, .nilIface, undef, undef, undef, undef, undef, undef, undef, undef, undef, undef] := rfl
  rw [ht]
  have hn : ∀ w : World, (binOp BinOp.neq 20 .nilIface .nilIface).run Tryd.prog w = .ok (.bool false) w := fun _ => by kernel_rfl
  have hta : ∀ w : World, (Instr.typeAssert .nilIface 20 110 true).run Tryd.prog w = .ok (.tuple #[.nilIface, .bool false]) w := fun _ => by kernel_rfl
  refine wpS_of_wp ?_
  go_wp2
  cases c₀
  simp_all [bodyPostS, results, Tryd.results98]
set_option maxRecDepth 100000 in
set_option maxHeartbeats 1000000 in
theorem att_Two_nil (x y : Int) (K : FuncId) (caps : Array Value) (w : World) (hK : ∀ (args : Array Value) (w : World), (callFunc K args).run Tryd.prog w = .ok (.enter K args) w)
    (HC : Calls Tryd.prog K caps ((w.alloc (.cells #[.int .i64 0, .int .i64 0] 116)).alloc (.cells #[.nilIface] 65)) fun e w' => e = .returned (.tuple #[.agg #[.int .i64 x, .int .i64 y], .nilIface]) ∧ Gr ((w.alloc (.cells #[.int .i64 0, .int .i64 0] 116)).alloc (.cells #[.nilIface] 65)) w') :
    Calls Tryd.prog 89 #[.func (.func K) #[] caps] w fun e w' => e = .returned (.tuple #[.agg #[.int .i64 x, .int .i64 y], .nilIface]) ∧ Gr w w' := by
  have hmf : ∀ (fn : Fn) (first cap : Array Value) (w : World), (Instr.makeFunc fn first cap).run Tryd.prog w = .ok (.func fn first cap) w := fun _ _ _ _ => rfl
  have hc := hid HC
  have B0 := hid (heap_new (w := w.alloc (.cells #[.int .i64 0, .int .i64 0] 116)) (o := .cells #[.nilIface] 65) (n := w.heap.size + 1) (by simp))
  have B1 := hid (heap_kept (o := .cells #[.nilIface] 65) (heap_new (w := w) (o := .cells #[.int .i64 0, .int .i64 0] 116) rfl))
  have G0 := hid (((Gr.refl w).alloc (.cells #[.int .i64 0, .int .i64 0] 116)).alloc (.cells #[.nilIface] 65))
  clear HC
  go_enter_defers Tryd.func89, Tryd.ntmps89
  go_wp2_with fail
  refine hc.out.mono ?_
  rintro e w1 ⟨rfl, g1⟩
  have G1 := hid (G0.out.trans g1)
  have B2 := hid (g1.heap B0.out)
  have B3 := hid (g1.heap B1.out)
  obtain ⟨hc1, hf1⟩ := row1_facts B2.out
  obtain ⟨hd0, hd1, hg0, hg1⟩ := row2_facts B3.out
  clear g1
  go_wp2_with fail
  refine leaves_cons (f := 98) (args := #[.pointer (some ⟨w.heap.size + 1, 0, none⟩)]) (by simp) (by simp [go_sem]) ?_
  refine (catch_Two ⟨w.heap.size + 1, 0, none⟩ _).mono ?_
  rintro e u' w'' ⟨rfl, rfl, rfl⟩
  have hrow := heap_stored (a := ⟨w.heap.size + 1, 0, none⟩) (v := .nilIface) (by simp) (row2_set (x := .int .i64 x) (y := .int .i64 y) B3.out)
  have hcell : ((w1.setCell ⟨w.heap.size, 0, none⟩ (.int .i64 x)).setCell ⟨w.heap.size, 1, none⟩ (.int .i64 y)).heap[w.heap.size + 1]? = some (.cells #[.nilIface] 65 (0, 0)) := heap_stored (by simp) (heap_stored (by simp) B2.out)
  have hc2 := World.cell?_setCell_same _ ⟨w.heap.size + 1, 0, none⟩ (.nilIface) (row1_facts hcell).1
  refine ⟨_, results_row_cell (by rfl) _ _ _ _ _ _ _ _ (.nilIface) rfl rfl (by simp [loadVar, isAgg, run_underlying Tryd.underlying65, Sem.run_bind, go_sem, hc2]) hrow Tryd.underlying116 rfl (by kernel_rfl), rfl, ((G1.out.setCell (p := ⟨w.heap.size, 0, none⟩) (Nat.le_refl _) _).setCell (p := ⟨w.heap.size, 1, none⟩) (Nat.le_refl _) _).setCell (p := ⟨w.heap.size + 1, 0, none⟩) (by show _ ≤ _ + 1; omega) _⟩
set_option maxRecDepth 100000 in
set_option maxHeartbeats 1000000 in
theorem att_Two_iface (x y : Int) (t : TypeId) (z : Value) (K : FuncId) (caps : Array Value) (w : World) (hK : ∀ (args : Array Value) (w : World), (callFunc K args).run Tryd.prog w = .ok (.enter K args) w)
    (HC : Calls Tryd.prog K caps ((w.alloc (.cells #[.int .i64 0, .int .i64 0] 116)).alloc (.cells #[.nilIface] 65)) fun e w' => e = .returned (.tuple #[.agg #[.int .i64 x, .int .i64 y], .iface t z]) ∧ Gr ((w.alloc (.cells #[.int .i64 0, .int .i64 0] 116)).alloc (.cells #[.nilIface] 65)) w') :
    Calls Tryd.prog 89 #[.func (.func K) #[] caps] w fun e w' => e = .returned (.tuple #[.agg #[.int .i64 x, .int .i64 y], .iface t z]) ∧ Gr w w' := by
  have hmf : ∀ (fn : Fn) (first cap : Array Value) (w : World), (Instr.makeFunc fn first cap).run Tryd.prog w = .ok (.func fn first cap) w := fun _ _ _ _ => rfl
  have hc := hid HC
  have B0 := hid (heap_new (w := w.alloc (.cells #[.int .i64 0, .int .i64 0] 116)) (o := .cells #[.nilIface] 65) (n := w.heap.size + 1) (by simp))
  have B1 := hid (heap_kept (o := .cells #[.nilIface] 65) (heap_new (w := w) (o := .cells #[.int .i64 0, .int .i64 0] 116) rfl))
  have G0 := hid (((Gr.refl w).alloc (.cells #[.int .i64 0, .int .i64 0] 116)).alloc (.cells #[.nilIface] 65))
  clear HC
  go_enter_defers Tryd.func89, Tryd.ntmps89
  go_wp2_with fail
  refine hc.out.mono ?_
  rintro e w1 ⟨rfl, g1⟩
  have G1 := hid (G0.out.trans g1)
  have B2 := hid (g1.heap B0.out)
  have B3 := hid (g1.heap B1.out)
  obtain ⟨hc1, hf1⟩ := row1_facts B2.out
  obtain ⟨hd0, hd1, hg0, hg1⟩ := row2_facts B3.out
  clear g1
  go_wp2_with fail
  refine leaves_cons (f := 98) (args := #[.pointer (some ⟨w.heap.size + 1, 0, none⟩)]) (by simp) (by simp [go_sem]) ?_
  refine (catch_Two ⟨w.heap.size + 1, 0, none⟩ _).mono ?_
  rintro e u' w'' ⟨rfl, rfl, rfl⟩
  have hrow := heap_stored (a := ⟨w.heap.size + 1, 0, none⟩) (v := .iface t z) (by simp) (row2_set (x := .int .i64 x) (y := .int .i64 y) B3.out)
  have hcell : ((w1.setCell ⟨w.heap.size, 0, none⟩ (.int .i64 x)).setCell ⟨w.heap.size, 1, none⟩ (.int .i64 y)).heap[w.heap.size + 1]? = some (.cells #[.nilIface] 65 (0, 0)) := heap_stored (by simp) (heap_stored (by simp) B2.out)
  have hc2 := World.cell?_setCell_same _ ⟨w.heap.size + 1, 0, none⟩ (.iface t z) (row1_facts hcell).1
  refine ⟨_, results_row_cell (by rfl) _ _ _ _ _ _ _ _ (.iface t z) rfl rfl (by simp [loadVar, isAgg, run_underlying Tryd.underlying65, Sem.run_bind, go_sem, hc2]) hrow Tryd.underlying116 rfl (by kernel_rfl), rfl, ((G1.out.setCell (p := ⟨w.heap.size, 0, none⟩) (Nat.le_refl _) _).setCell (p := ⟨w.heap.size, 1, none⟩) (Nat.le_refl _) _).setCell (p := ⟨w.heap.size + 1, 0, none⟩) (by show _ ≤ _ + 1; omega) _⟩
set_option maxRecDepth 100000 in
set_option maxHeartbeats 1000000 in
theorem rep_Two_ok (x y : Int) (K : FuncId) (caps : Array Value) (w : World) (hK : ∀ (args : Array Value) (w : World), (callFunc K args).run Tryd.prog w = .ok (.enter K args) w)
    (HC : Calls Tryd.prog K caps (((w.alloc (.cells #[.int .i64 0, .int .i64 0] 116)).alloc (.cells #[.int .i64 0, .int .i64 0] 116)).alloc (.cells #[.nilIface] 65)) fun e w' => e = .returned (.tuple #[.agg #[.int .i64 x, .int .i64 y], .nilIface]) ∧ Gr (((w.alloc (.cells #[.int .i64 0, .int .i64 0] 116)).alloc (.cells #[.int .i64 0, .int .i64 0] 116)).alloc (.cells #[.nilIface] 65)) w') :
    Calls Tryd.prog 72 #[.func (.func K) #[] caps] w fun e w' => e = .returned (.tuple #[.agg #[.int .i64 x, .int .i64 y], .int .i64 0]) ∧ Gr w w' := by
  have HA := hid (att_Two_nil x y K caps (w.alloc (.cells #[.int .i64 0, .int .i64 0] 116)) hK HC)
  have HN := hid as_nil
  have B0 := hid (heap_new (w := w) (o := .cells #[.int .i64 0, .int .i64 0] 116) rfl)
  have G0 := hid ((Gr.refl w).alloc (.cells #[.int .i64 0, .int .i64 0] 116))
  clear HC hK
  go_enter Tryd.func72, Tryd.ntmps72
  go_wp2_with fail
  refine HA.out.mono ?_
  rintro e w1 ⟨rfl, g1⟩
  have G1 := hid (G0.out.trans g1)
  have B1 := hid (g1.heap B0.out)
  obtain ⟨hd0, hd1, hg0, hg1⟩ := row2_facts B1.out
  have hlt := lt_of_heap B1.out
  clear g1
  go_wp2_with fail
  refine (HN.out _ _).mono ?_
  rintro e w2 ⟨rfl, rfl⟩
  go_wp2
  refine bodyPost_ret (v := .tuple #[.agg #[.int .i64 x, .int .i64 y], .int .i64 0]) (results_row_tmp (by rfl) _ _ _ _ _ _ _ _ rfl rfl (heap_kept (heap_kept (row2_set (x := .int .i64 x) (y := .int .i64 y) B1.out))) Tryd.underlying116 rfl (by kernel_rfl)) rfl ⟨rfl, (((G1.out.setCell (p := ⟨w.heap.size, 0, none⟩) (Nat.le_refl _) _).setCell (p := ⟨w.heap.size, 1, none⟩) (Nat.le_refl _) _).alloc _).alloc _⟩
set_option maxRecDepth 100000 in
set_option maxHeartbeats 1000000 in
theorem rep_Two_err_notFound (s : ByteArray) (x y : Int) (K : FuncId) (caps : Array Value) (w : World) (hK : ∀ (args : Array Value) (w : World), (callFunc K args).run Tryd.prog w = .ok (.enter K args) w)
    (HC : Calls Tryd.prog K caps ((((w.alloc (.cells #[.int .i64 0, .int .i64 0] 116))).alloc (.cells #[.int .i64 0, .int .i64 0] 116)).alloc (.cells #[.nilIface] 65)) fun e w' => e = .returned (.tuple #[.agg #[.int .i64 x, .int .i64 y], .iface 80 (.string s)]) ∧ Gr ((((w.alloc (.cells #[.int .i64 0, .int .i64 0] 116))).alloc (.cells #[.int .i64 0, .int .i64 0] 116)).alloc (.cells #[.nilIface] 65)) w') :
    Calls Tryd.prog 72 #[.func (.func K) #[] caps] w fun e w' => e = .returned (.tuple #[.agg #[.int .i64 0, .int .i64 0], .int .i64 6]) ∧ Gr w w' := by
  have HA := hid (att_Two_iface x y 80 (.string s) K caps (w.alloc (.cells #[.int .i64 0, .int .i64 0] 116)) hK HC)
  have HN := hid (fun V (G : Gr (w.alloc (.cells #[.int .i64 0, .int .i64 0] 116)) V) => as_notFound s V.heap.size (V.alloc (.cells #[.nilIface] 110)) (heap_new rfl) (w.alloc (.cells #[.int .i64 0, .int .i64 0] 116)) (G.alloc _) G.size)
  have B0 := hid (heap_new (w := w) (o := .cells #[.int .i64 0, .int .i64 0] 116) rfl)
  have G0 := hid ((Gr.refl w).alloc (.cells #[.int .i64 0, .int .i64 0] 116))
  clear HC hK
  go_enter Tryd.func72, Tryd.ntmps72
  go_wp2_with fail
  refine HA.out.mono ?_
  rintro e w1 ⟨rfl, g1⟩
  have HNc := hid (HN.out (w1.alloc (.cells #[.int .i64 x, .int .i64 y] 116)) (g1.alloc _))
  rw [World.size_alloc] at HNc
  clear g1
  go_wp2_with fail
  refine HNc.out.mono ?_
  rintro e w2 ⟨rfl, g2, hb2⟩
  have G2 := hid (G0.out.trans g2)
  have B2 := hid (g2.heap B0.out)
  have hlt2 := lt_of_heap hb2
  have hlt0 := lt_of_heap B2.out
  have hc2 : w2.cell? ⟨w1.heap.size + 1, 0, none⟩ = some (.iface 80 (.string s)) := by rw [cell_of_row _ _ _ _ _ _ hb2]; rfl
  obtain ⟨hd0, hd1, hg0, hg1⟩ := row2_facts B2.out
  clear g2 hb2
  go_wp2_with fail
  go_region_calls
  all_goals
    go_wp2
    refine bodyPost_ret (v := .tuple #[.agg #[.int .i64 0, .int .i64 0], .int .i64 6]) (results_row_tmp (by rfl) _ _ _ _ _ _ _ _ rfl rfl (heap_drawn (heap_kept (row2_set (x := .int .i64 0) (y := .int .i64 0) B2.out))) Tryd.underlying116 rfl (by kernel_rfl)) rfl ⟨rfl, (((G2.out.setCell (p := ⟨w.heap.size, 0, none⟩) (Nat.le_refl _) _).setCell (p := ⟨w.heap.size, 1, none⟩) (Nat.le_refl _) _).alloc _).drew⟩
set_option maxRecDepth 100000 in
set_option maxHeartbeats 1000000 in
theorem rep_Two_err_outOfRange (s : ByteArray) (x y : Int) (K : FuncId) (caps : Array Value) (w : World) (hK : ∀ (args : Array Value) (w : World), (callFunc K args).run Tryd.prog w = .ok (.enter K args) w)
    (HC : Calls Tryd.prog K caps ((((w.alloc (.cells #[.int .i64 0, .int .i64 0] 116))).alloc (.cells #[.int .i64 0, .int .i64 0] 116)).alloc (.cells #[.nilIface] 65)) fun e w' => e = .returned (.tuple #[.agg #[.int .i64 x, .int .i64 y], .iface 98 (.string s)]) ∧ Gr ((((w.alloc (.cells #[.int .i64 0, .int .i64 0] 116))).alloc (.cells #[.int .i64 0, .int .i64 0] 116)).alloc (.cells #[.nilIface] 65)) w') :
    Calls Tryd.prog 72 #[.func (.func K) #[] caps] w fun e w' => e = .returned (.tuple #[.agg #[.int .i64 0, .int .i64 0], .int .i64 2]) ∧ Gr w w' := by
  have HA := hid (att_Two_iface x y 98 (.string s) K caps (w.alloc (.cells #[.int .i64 0, .int .i64 0] 116)) hK HC)
  have HN := hid (fun V (G : Gr (w.alloc (.cells #[.int .i64 0, .int .i64 0] 116)) V) => as_outOfRange s V.heap.size (V.alloc (.cells #[.nilIface] 110)) (heap_new rfl) (w.alloc (.cells #[.int .i64 0, .int .i64 0] 116)) (G.alloc _) G.size)
  have B0 := hid (heap_new (w := w) (o := .cells #[.int .i64 0, .int .i64 0] 116) rfl)
  have G0 := hid ((Gr.refl w).alloc (.cells #[.int .i64 0, .int .i64 0] 116))
  clear HC hK
  go_enter Tryd.func72, Tryd.ntmps72
  go_wp2_with fail
  refine HA.out.mono ?_
  rintro e w1 ⟨rfl, g1⟩
  have HNc := hid (HN.out (w1.alloc (.cells #[.int .i64 x, .int .i64 y] 116)) (g1.alloc _))
  rw [World.size_alloc] at HNc
  clear g1
  go_wp2_with fail
  refine HNc.out.mono ?_
  rintro e w2 ⟨rfl, g2, hb2⟩
  have G2 := hid (G0.out.trans g2)
  have B2 := hid (g2.heap B0.out)
  have hlt2 := lt_of_heap hb2
  have hlt0 := lt_of_heap B2.out
  have hc2 : w2.cell? ⟨w1.heap.size + 1, 0, none⟩ = some (.iface 98 (.string s)) := by rw [cell_of_row _ _ _ _ _ _ hb2]; rfl
  obtain ⟨hd0, hd1, hg0, hg1⟩ := row2_facts B2.out
  clear g2 hb2
  go_wp2_with fail
  go_region_calls
  all_goals
    go_wp2
    refine bodyPost_ret (v := .tuple #[.agg #[.int .i64 0, .int .i64 0], .int .i64 2]) (results_row_tmp (by rfl) _ _ _ _ _ _ _ _ rfl rfl (heap_drawn (heap_kept (row2_set (x := .int .i64 0) (y := .int .i64 0) B2.out))) Tryd.underlying116 rfl (by kernel_rfl)) rfl ⟨rfl, (((G2.out.setCell (p := ⟨w.heap.size, 0, none⟩) (Nat.le_refl _) _).setCell (p := ⟨w.heap.size, 1, none⟩) (Nat.le_refl _) _).alloc _).drew⟩
set_option maxHeartbeats 1000000 in
theorem catchp_Two_cannotBe (s : Int) (p : Addr) (older : List PanicEntry) (w : World) (hc : w.cell? p = some .nilIface) (hz : w.frozen? p = false) :
    CallsD Tryd.prog 98 #[.pointer (some p)] (.panicking ({ v := .iface 144 (.int .i64 s), recovered := false } :: older)) w fun e u' w' => e = .returned (.tuple #[]) ∧ u' = .panicking ({ v := .iface 144 (.int .i64 s), recovered := true } :: older) ∧ w' = w.setCell p (.iface 144 (.int .i64 s)) := by
  refine callsD_of_wpS Tryd.func98 rfl fun c₀ cs hu => ?_
  apply wpS_seq
  apply wpS_region
  simp [wpOpsS, go_sem, recoverD, hu, Tryd.ntmps98, Exit.thenS]
  have ht : (#[Value.pointer (some p)] ++ ((Array.replicate 14 undef).setIfInBounds 3 (Value.iface 144 (.int .i64 s))).setIfInBounds 0 (Value.iface 144 (.int .i64 s))) = #[Value.pointer (some p), .iface 144 (.int .i64 s), undef, undef, .iface 144 (.int .i64 s), undef, undef, undef, undef, undef, undef, undef, undef, undef, undef] := rfl
  rw [ht]
  have hta : ∀ w : World, (Instr.typeAssert (.iface 144 (.int .i64 s)) 20 110 true).run Tryd.prog w = .ok (.tuple #[.iface 144 (.int .i64 s), .bool true]) w := fun _ => by kernel_rfl
  refine wpS_of_wp ?_
  go_wp2
  cases c₀
  simp_all [bodyPostS, results, Tryd.results98]
set_option maxRecDepth 100000 in
set_option maxHeartbeats 1000000 in
theorem attp_Two_cannotBe (s : Int) (K : FuncId) (caps : Array Value) (w : World) (hK : ∀ (args : Array Value) (w : World), (callFunc K args).run Tryd.prog w = .ok (.enter K args) w)
    (HC : Calls Tryd.prog K caps ((w.alloc (.cells #[.int .i64 0, .int .i64 0] 116)).alloc (.cells #[.nilIface] 65)) fun e w' => e = .panicked [{ v := .iface 144 (.int .i64 s), recovered := false }] ∧ Gr ((w.alloc (.cells #[.int .i64 0, .int .i64 0] 116)).alloc (.cells #[.nilIface] 65)) w') :
    Calls Tryd.prog 89 #[.func (.func K) #[] caps] w fun e w' => e = .returned (.tuple #[.agg #[.int .i64 0, .int .i64 0], .iface 144 (.int .i64 s)]) ∧ Gr w w' := by
  have hmf : ∀ (fn : Fn) (first cap : Array Value) (w : World), (Instr.makeFunc fn first cap).run Tryd.prog w = .ok (.func fn first cap) w := fun _ _ _ _ => rfl
  have hc := hid HC
  have B0 := hid (heap_new (w := w.alloc (.cells #[.int .i64 0, .int .i64 0] 116)) (o := .cells #[.nilIface] 65) (n := w.heap.size + 1) (by simp))
  have B1 := hid (heap_kept (o := .cells #[.nilIface] 65) (heap_new (w := w) (o := (.cells #[.int .i64 0, .int .i64 0] 116)) rfl))
  have G0 := hid (((Gr.refl w).alloc (.cells #[.int .i64 0, .int .i64 0] 116)).alloc (.cells #[.nilIface] 65))
  clear HC
  go_enter_defers Tryd.func89, Tryd.ntmps89
  go_wp2_with fail
  refine hc.out.mono ?_
  rintro e w1 ⟨rfl, g1⟩
  have G1 := hid (G0.out.trans g1)
  have B2 := hid (g1.heap B0.out)
  have B3 := hid (g1.heap B1.out)
  obtain ⟨hc1, hf1⟩ := row1_facts B2.out
  clear g1
  go_wp2_with fail
  refine leaves_cons (f := 98) (args := #[.pointer (some ⟨w.heap.size + 1, 0, none⟩)]) (by simp) (by simp [go_sem]) ?_
  refine (catchp_Two_cannotBe s ⟨w.heap.size + 1, 0, none⟩ _ _ ?_ ?_).mono ?_
  · simp [go_sem, hc1]
  · simp [go_sem, hf1]
  rintro e u' w'' ⟨rfl, rfl, rfl⟩
  have hrow := heap_stored (a := ⟨w.heap.size + 1, 0, none⟩) (v := .iface 144 (.int .i64 s)) (by simp) B3.out
  have hc2 := World.cell?_setCell_same w1 ⟨w.heap.size + 1, 0, none⟩ (.iface 144 (.int .i64 s)) hc1
  have HG := G1.out.setCell (p := ⟨w.heap.size + 1, 0, none⟩) (by show _ ≤ _ + 1; omega) (.iface 144 (.int .i64 s))
  simp only [settle, List.dropWhile_nil]
  exact ⟨_, results_row_cell (by rfl) _ _ _ _ _ _ _ _ (.iface 144 (.int .i64 s)) rfl rfl (by simp [loadVar, isAgg, run_underlying Tryd.underlying65, Sem.run_bind, go_sem, hc2]) hrow Tryd.underlying116 rfl (by kernel_rfl), rfl, HG⟩
set_option maxRecDepth 100000 in
set_option maxHeartbeats 1000000 in
theorem rep_Two_pan_cannotBe (s : Int) (K : FuncId) (caps : Array Value) (w : World) (hK : ∀ (args : Array Value) (w : World), (callFunc K args).run Tryd.prog w = .ok (.enter K args) w)
    (HC : Calls Tryd.prog K caps (((w.alloc (.cells #[.int .i64 0, .int .i64 0] 116)).alloc (.cells #[.int .i64 0, .int .i64 0] 116)).alloc (.cells #[.nilIface] 65)) fun e w' => e = .panicked [{ v := .iface 144 (.int .i64 s), recovered := false }] ∧ Gr (((w.alloc (.cells #[.int .i64 0, .int .i64 0] 116)).alloc (.cells #[.int .i64 0, .int .i64 0] 116)).alloc (.cells #[.nilIface] 65)) w') :
    Calls Tryd.prog 72 #[.func (.func K) #[] caps] w fun e w' => e = .returned (.tuple #[.agg #[.int .i64 0, .int .i64 0], .int .i64 1]) ∧ Gr w w' := by
  have HA := hid (attp_Two_cannotBe s K caps (w.alloc (.cells #[.int .i64 0, .int .i64 0] 116)) hK HC)
  have HN := hid (fun V (G : Gr (w.alloc (.cells #[.int .i64 0, .int .i64 0] 116)) V) => as_cannotBe s V.heap.size (V.alloc (.cells #[.nilIface] 110)) (heap_new rfl) (w.alloc (.cells #[.int .i64 0, .int .i64 0] 116)) (G.alloc _) G.size)
  have B0 := hid (heap_new (w := w) (o := .cells #[.int .i64 0, .int .i64 0] 116) rfl)
  have G0 := hid ((Gr.refl w).alloc (.cells #[.int .i64 0, .int .i64 0] 116))
  clear HC hK
  go_enter Tryd.func72, Tryd.ntmps72
  go_wp2_with fail
  refine HA.out.mono ?_
  rintro e w1 ⟨rfl, g1⟩
  have HNc := hid (HN.out (w1.alloc (.cells #[.int .i64 0, .int .i64 0] 116)) (g1.alloc _))
  rw [World.size_alloc] at HNc
  clear g1
  go_wp2_with fail
  refine HNc.out.mono ?_
  rintro e w2 ⟨rfl, g2, hb2⟩
  have G2 := hid (G0.out.trans g2)
  have B2 := hid (g2.heap B0.out)
  have hlt2 := lt_of_heap hb2
  have hlt0 := lt_of_heap B2.out
  have hc2 : w2.cell? ⟨w1.heap.size + 1, 0, none⟩ = some (.iface 144 (.int .i64 s)) := by rw [cell_of_row _ _ _ _ _ _ hb2]; rfl
  obtain ⟨hd0, hd1, hg0, hg1⟩ := row2_facts B2.out
  clear g2 hb2
  go_wp2_with fail
  go_region_calls
  all_goals
    go_wp2
    refine bodyPost_ret (v := .tuple #[.agg #[.int .i64 0, .int .i64 0], .int .i64 1]) (results_row_tmp (by rfl) _ _ _ _ _ _ _ _ rfl rfl (heap_drawn (heap_kept (row2_set (x := .int .i64 0) (y := .int .i64 0) B2.out))) Tryd.underlying116 rfl (by kernel_rfl)) rfl ⟨rfl, (((G2.out.setCell (p := ⟨w.heap.size, 0, none⟩) (Nat.le_refl _) _).setCell (p := ⟨w.heap.size, 1, none⟩) (Nat.le_refl _) _).alloc _).drew⟩
end Go.Proofs.YtnkoakneffjkbaaDoor
