/- attempt and reply, for one kind of what is told. -/
import Derived.Test.YtnkoakneffjkbaaDoorErrF
import Derived.Test.YtnkoakneffjkbaaDoorErrN
import Derived.Test.YtnkoakneffjkbaaDoorErrM
import Derived.Deep.RegionHeld3
import Derived.Defers
import Derived.Recover
namespace Go.Proofs.YtnkoakneffjkbaaDoor
set_option linter.unusedVariables false
open Go.RowKit
theorem catch_Ints (p : Addr) (w : World) :
    CallsD Tryd.prog 94 #[.pointer (some p)] .returning w fun e u' w' => e = .returned (.tuple #[]) ∧ u' = .returning ∧ w' = w := by
  refine callsD_of_wpS Tryd.func94 rfl fun c₀ cs hu => ?_
  apply wpS_seq
  apply wpS_region
  simp [wpOpsS, go_sem, recoverD, hu, Tryd.ntmps94, Exit.thenS]
  have ht : (#[Value.pointer (some p)] ++ ((Array.replicate 14 undef).setIfInBounds 3 Value.nilIface).setIfInBounds 0 Value.nilIface) = #[Value.pointer (some p), .nilIface, undef, undef, .nilIface, undef, undef, undef, undef, undef, undef, undef, undef, undef, undef] := rfl
  rw [ht]
  have hn : ∀ w : World, (binOp BinOp.neq 20 .nilIface .nilIface).run Tryd.prog w = .ok (.bool false) w := fun _ => by kernel_rfl
  have hta : ∀ w : World, (Instr.typeAssert .nilIface 20 110 true).run Tryd.prog w = .ok (.tuple #[.nilIface, .bool false]) w := fun _ => by kernel_rfl
  refine wpS_of_wp ?_
  go_wp2
  cases c₀
  simp_all [bodyPostS, results, Tryd.results94]
set_option maxRecDepth 100000 in
set_option maxHeartbeats 1000000 in
theorem att_Ints_nil (K : FuncId) (caps : Array Value) (R : Value → World → Prop) (w : World) (hK : ∀ (args : Array Value) (w : World), (callFunc K args).run Tryd.prog w = .ok (.enter K args) w)
    (hR : ∀ v w1 w2, w1.grownBy w2 (some w.heap.size) → R v w1 → R v w2)
    (HC : Calls Tryd.prog K caps (w.alloc (.cells #[.nilIface] 65)) fun e w' => ∃ v, e = .returned (.tuple #[v, .nilIface]) ∧ R v w' ∧ Gr (w.alloc (.cells #[.nilIface] 65)) w') :
    Calls Tryd.prog 82 #[.func (.func K) #[] caps] w fun e w' => ∃ v, e = .returned (.tuple #[v, .nilIface]) ∧ R v w' ∧ Gr w w' := by
  have hmf : ∀ (fn : Fn) (first cap : Array Value) (w : World), (Instr.makeFunc fn first cap).run Tryd.prog w = .ok (.func fn first cap) w := fun _ _ _ _ => rfl
  have hc := hid HC
  have hr := hid hR
  have B0 := hid (heap_new (w := w) (o := .cells #[.nilIface] 65) rfl)
  have G0 := hid ((Gr.refl w).alloc (.cells #[.nilIface] 65))
  clear HC hR
  go_enter_defers Tryd.func82, Tryd.ntmps82
  go_wp2_with fail
  refine hc.out.mono ?_
  rintro e w1 ⟨v, rfl, r1, g1⟩
  have R1 := hid r1
  have G1 := hid (G0.out.trans g1)
  have hb1 := g1.heap B0.out
  have hc1 : w1.cell? ⟨w.heap.size, 0, none⟩ = some .nilIface := by rw [cell_of_row _ _ _ _ _ _ hb1]; rfl
  have hf1 : w1.frozen? ⟨w.heap.size, 0, none⟩ = false := frozen_of_row _ _ _ _ _ hb1
  clear g1 hb1 r1
  go_wp2_with fail
  refine leaves_cons (f := 94) (args := #[.pointer (some ⟨w.heap.size, 0, none⟩)]) (by simp) (by simp [go_sem]) ?_
  refine (catch_Ints ⟨w.heap.size, 0, none⟩ _).mono ?_
  rintro e u' w'' ⟨rfl, rfl, rfl⟩
  have hc2 := World.cell?_setCell_same w1 ⟨w.heap.size, 0, none⟩ (.nilIface) hc1
  have gh : w1.grownBy (w1.setCell ⟨w.heap.size, 0, none⟩ (.nilIface)) (some w.heap.size) := ⟨rfl, rfl, rfl, by rw [World.size_setCell]; exact Nat.le_refl _, fun k _ hk => heap_setCell_other w1 _ k _ (fun e => hk (by rw [e]))⟩
  refine ⟨.tuple #[v, .nilIface], ?_, v, rfl, hr.out _ _ _ gh R1.out, G1.out.setCell (Nat.le_refl _) _⟩
  simp [results, Tryd.results82, go_sem, hc2]
set_option maxRecDepth 100000 in
set_option maxHeartbeats 1000000 in
theorem att_Ints_iface (t : TypeId) (x : Value) (K : FuncId) (caps : Array Value) (R : Value → World → Prop) (w : World) (hK : ∀ (args : Array Value) (w : World), (callFunc K args).run Tryd.prog w = .ok (.enter K args) w)
    (hR : ∀ v w1 w2, w1.grownBy w2 (some w.heap.size) → R v w1 → R v w2)
    (HC : Calls Tryd.prog K caps (w.alloc (.cells #[.nilIface] 65)) fun e w' => ∃ v, e = .returned (.tuple #[v, .iface t x]) ∧ R v w' ∧ Gr (w.alloc (.cells #[.nilIface] 65)) w') :
    Calls Tryd.prog 82 #[.func (.func K) #[] caps] w fun e w' => ∃ v, e = .returned (.tuple #[v, .iface t x]) ∧ R v w' ∧ Gr w w' := by
  have hmf : ∀ (fn : Fn) (first cap : Array Value) (w : World), (Instr.makeFunc fn first cap).run Tryd.prog w = .ok (.func fn first cap) w := fun _ _ _ _ => rfl
  have hc := hid HC
  have hr := hid hR
  have B0 := hid (heap_new (w := w) (o := .cells #[.nilIface] 65) rfl)
  have G0 := hid ((Gr.refl w).alloc (.cells #[.nilIface] 65))
  clear HC hR
  go_enter_defers Tryd.func82, Tryd.ntmps82
  go_wp2_with fail
  refine hc.out.mono ?_
  rintro e w1 ⟨v, rfl, r1, g1⟩
  have R1 := hid r1
  have G1 := hid (G0.out.trans g1)
  have hb1 := g1.heap B0.out
  have hc1 : w1.cell? ⟨w.heap.size, 0, none⟩ = some .nilIface := by rw [cell_of_row _ _ _ _ _ _ hb1]; rfl
  have hf1 : w1.frozen? ⟨w.heap.size, 0, none⟩ = false := frozen_of_row _ _ _ _ _ hb1
  clear g1 hb1 r1
  go_wp2_with fail
  refine leaves_cons (f := 94) (args := #[.pointer (some ⟨w.heap.size, 0, none⟩)]) (by simp) (by simp [go_sem]) ?_
  refine (catch_Ints ⟨w.heap.size, 0, none⟩ _).mono ?_
  rintro e u' w'' ⟨rfl, rfl, rfl⟩
  have hc2 := World.cell?_setCell_same w1 ⟨w.heap.size, 0, none⟩ (.iface t x) hc1
  have gh : w1.grownBy (w1.setCell ⟨w.heap.size, 0, none⟩ (.iface t x)) (some w.heap.size) := ⟨rfl, rfl, rfl, by rw [World.size_setCell]; exact Nat.le_refl _, fun k _ hk => heap_setCell_other w1 _ k _ (fun e => hk (by rw [e]))⟩
  refine ⟨.tuple #[v, .iface t x], ?_, v, rfl, hr.out _ _ _ gh R1.out, G1.out.setCell (Nat.le_refl _) _⟩
  simp [results, Tryd.results82, go_sem, hc2]
set_option maxRecDepth 100000 in
set_option maxHeartbeats 1000000 in
theorem rep_Ints_ok (K : FuncId) (caps : Array Value) (R : Value → World → Prop) (w : World) (hK : ∀ (args : Array Value) (w : World), (callFunc K args).run Tryd.prog w = .ok (.enter K args) w)
    (hR : ∀ v w1 w2, w1.grownBy w2 (some w.heap.size) → R v w1 → R v w2)
    (HC : Calls Tryd.prog K caps (w.alloc (.cells #[.nilIface] 65)) fun e w' => ∃ v, e = .returned (.tuple #[v, .nilIface]) ∧ R v w' ∧ Gr (w.alloc (.cells #[.nilIface] 65)) w') :
    Calls Tryd.prog 61 #[.func (.func K) #[] caps] w fun e w' => ∃ v, e = .returned (.tuple #[v, .int .i64 0]) ∧ R v w' ∧ Gr w w' := by
  have HA := hid (att_Ints_nil K caps R w hK hR HC)
  have HN := hid as_nil
  have hr := hid hR
  clear HC hR hK
  go_enter Tryd.func61, Tryd.ntmps61
  go_wp2_with fail
  refine HA.out.mono ?_
  rintro e w1 ⟨v, rfl, r1, g1⟩
  have G1 := hid g1
  have R1 := hid r1
  clear g1 r1
  go_wp2_with fail
  refine (HN.out _ _).mono ?_
  rintro e w2 ⟨rfl, rfl⟩
  go_wp2
  go_ret2
  exact ⟨v, rfl, hr.out _ _ _ (World.grownBy_alloc _ _ _) R1.out, G1.out.alloc _⟩
set_option maxRecDepth 100000 in
set_option maxHeartbeats 1000000 in
theorem rep_Ints_err_outOfRange (s : ByteArray) (K : FuncId) (caps : Array Value) (w : World) (hK : ∀ (args : Array Value) (w : World), (callFunc K args).run Tryd.prog w = .ok (.enter K args) w)
    (HC : Calls Tryd.prog K caps (w.alloc (.cells #[.nilIface] 65)) fun e w' => ∃ v, e = .returned (.tuple #[v, .iface 98 (.string s)]) ∧ Gr (w.alloc (.cells #[.nilIface] 65)) w') :
    Calls Tryd.prog 61 #[.func (.func K) #[] caps] w fun e w' => e = .returned (.tuple #[.slice none 0 0, .int .i64 2]) ∧ Gr w w' := by
  have HA := hid (att_Ints_iface 98 (.string s) K caps (fun _ _ => True) w hK (fun _ _ _ _ r => r) (HC.mono (by rintro e w' ⟨v, rfl, g⟩; exact ⟨v, rfl, trivial, g⟩)))
  have HN := hid (fun V (G : Gr w V) => as_outOfRange s V.heap.size (V.alloc (.cells #[.nilIface] 110)) (heap_new rfl) w (G.alloc _) G.size)
  clear HC hK
  go_enter Tryd.func61, Tryd.ntmps61
  go_wp2_with fail
  refine HA.out.mono ?_
  rintro e w1 ⟨v, rfl, -, g1⟩
  have G1 := hid g1
  clear g1
  go_wp2_with fail
  refine (HN.out _ G1.out).mono ?_
  rintro e w2 ⟨rfl, g2, hb2⟩
  have G2 := hid g2
  have hc2 : w2.cell? ⟨w1.heap.size, 0, none⟩ = some (.iface 98 (.string s)) := by rw [cell_of_row _ _ _ _ _ _ hb2]; rfl
  clear g2 hb2
  go_wp2
  go_ret2
  exact ⟨rfl, G2.out⟩
set_option maxRecDepth 100000 in
set_option maxHeartbeats 1000000 in
theorem rep_Ints_err_notFound (s : ByteArray) (K : FuncId) (caps : Array Value) (w : World) (hK : ∀ (args : Array Value) (w : World), (callFunc K args).run Tryd.prog w = .ok (.enter K args) w)
    (HC : Calls Tryd.prog K caps (w.alloc (.cells #[.nilIface] 65)) fun e w' => ∃ v, e = .returned (.tuple #[v, .iface 80 (.string s)]) ∧ Gr (w.alloc (.cells #[.nilIface] 65)) w') :
    Calls Tryd.prog 61 #[.func (.func K) #[] caps] w fun e w' => e = .returned (.tuple #[.slice none 0 0, .int .i64 6]) ∧ Gr w w' := by
  have HA := hid (att_Ints_iface 80 (.string s) K caps (fun _ _ => True) w hK (fun _ _ _ _ r => r) (HC.mono (by rintro e w' ⟨v, rfl, g⟩; exact ⟨v, rfl, trivial, g⟩)))
  have HN := hid (fun V (G : Gr w V) => as_notFound s V.heap.size (V.alloc (.cells #[.nilIface] 110)) (heap_new rfl) w (G.alloc _) G.size)
  clear HC hK
  go_enter Tryd.func61, Tryd.ntmps61
  go_wp2_with fail
  refine HA.out.mono ?_
  rintro e w1 ⟨v, rfl, -, g1⟩
  have G1 := hid g1
  clear g1
  go_wp2_with fail
  refine (HN.out _ G1.out).mono ?_
  rintro e w2 ⟨rfl, g2, hb2⟩
  have G2 := hid g2
  have hc2 : w2.cell? ⟨w1.heap.size, 0, none⟩ = some (.iface 80 (.string s)) := by rw [cell_of_row _ _ _ _ _ _ hb2]; rfl
  clear g2 hb2
  go_wp2
  go_ret2
  exact ⟨rfl, G2.out⟩
set_option maxHeartbeats 1000000 in
theorem catchp_Ints_cannotBe (s : Int) (p : Addr) (older : List PanicEntry) (w : World) (hc : w.cell? p = some .nilIface) (hz : w.frozen? p = false) :
    CallsD Tryd.prog 94 #[.pointer (some p)] (.panicking ({ v := .iface 144 (.int .i64 s), recovered := false } :: older)) w fun e u' w' => e = .returned (.tuple #[]) ∧ u' = .panicking ({ v := .iface 144 (.int .i64 s), recovered := true } :: older) ∧ w' = w.setCell p (.iface 144 (.int .i64 s)) := by
  refine callsD_of_wpS Tryd.func94 rfl fun c₀ cs hu => ?_
  apply wpS_seq
  apply wpS_region
  simp [wpOpsS, go_sem, recoverD, hu, Tryd.ntmps94, Exit.thenS]
  have ht : (#[Value.pointer (some p)] ++ ((Array.replicate 14 undef).setIfInBounds 3 (Value.iface 144 (.int .i64 s))).setIfInBounds 0 (Value.iface 144 (.int .i64 s))) = #[Value.pointer (some p), .iface 144 (.int .i64 s), undef, undef, .iface 144 (.int .i64 s), undef, undef, undef, undef, undef, undef, undef, undef, undef, undef] := rfl
  rw [ht]
  have hta : ∀ w : World, (Instr.typeAssert (.iface 144 (.int .i64 s)) 20 110 true).run Tryd.prog w = .ok (.tuple #[.iface 144 (.int .i64 s), .bool true]) w := fun _ => by kernel_rfl
  refine wpS_of_wp ?_
  go_wp2
  cases c₀
  simp_all [bodyPostS, results, Tryd.results94]
set_option maxRecDepth 100000 in
set_option maxHeartbeats 1000000 in
theorem rep_Ints_pan_cannotBe (s : Int) (K : FuncId) (caps : Array Value) (w : World) (hK : ∀ (args : Array Value) (w : World), (callFunc K args).run Tryd.prog w = .ok (.enter K args) w)
    (HC : Calls Tryd.prog K caps (w.alloc (.cells #[.nilIface] 65)) fun e w' => e = .panicked [{ v := .iface 144 (.int .i64 s), recovered := false }] ∧ Gr (w.alloc (.cells #[.nilIface] 65)) w') :
    Calls Tryd.prog 61 #[.func (.func K) #[] caps] w fun e w' => e = .returned (.tuple #[.slice none 0 0, .int .i64 1]) ∧ Gr w w' := by
  have HA : Hid (Calls Tryd.prog 82 #[.func (.func K) #[] caps] w fun e w' => ∃ v, e = .returned (.tuple #[v, .iface 144 (.int .i64 s)]) ∧ Gr w w') := by
    have hmf : ∀ (fn : Fn) (first cap : Array Value) (w : World), (Instr.makeFunc fn first cap).run Tryd.prog w = .ok (.func fn first cap) w := fun _ _ _ _ => rfl
    have hc := hid HC
    have B0 := hid (heap_new (w := w) (o := .cells #[.nilIface] 65) rfl)
    have G0 := hid ((Gr.refl w).alloc (.cells #[.nilIface] 65))
    clear HC
    apply hid
    go_enter_defers Tryd.func82, Tryd.ntmps82
    go_wp2_with fail
    refine hc.out.mono ?_
    rintro e w1 ⟨rfl, g1⟩
    have G1 := hid (G0.out.trans g1)
    have hb1 := g1.heap B0.out
    have hc1 : w1.cell? ⟨w.heap.size, 0, none⟩ = some .nilIface := by rw [cell_of_row _ _ _ _ _ _ hb1]; rfl
    have hf1 : w1.frozen? ⟨w.heap.size, 0, none⟩ = false := frozen_of_row _ _ _ _ _ hb1
    clear g1 hb1
    go_wp2_with fail
    refine leaves_cons (f := 94) (args := #[.pointer (some ⟨w.heap.size, 0, none⟩)]) (by simp) (by simp [go_sem]) ?_
    refine (catchp_Ints_cannotBe s ⟨w.heap.size, 0, none⟩ _ _ ?_ ?_).mono ?_
    · simp [go_sem, hc1]
    · simp [go_sem, hf1]
    rintro e u' w'' ⟨rfl, rfl, rfl⟩
    have hc2 := World.cell?_setCell_same w1 ⟨w.heap.size, 0, none⟩ (.iface 144 (.int .i64 s)) hc1
    have HG := G1.out.setCell (p := ⟨w.heap.size, 0, none⟩) (Nat.le_refl _) (.iface 144 (.int .i64 s))
    simp [Leaves, settle, results, Tryd.results82, go_sem, hc2, HG]
  have HN := hid (fun V (G : Gr w V) => as_cannotBe s V.heap.size (V.alloc (.cells #[.nilIface] 110)) (heap_new rfl) w (G.alloc _) G.size)
  clear HC hK
  go_enter Tryd.func61, Tryd.ntmps61
  go_wp2_with fail
  refine HA.out.mono ?_
  rintro e w1 ⟨v, rfl, g1⟩
  have G1 := hid g1
  clear g1
  go_wp2_with fail
  refine (HN.out _ G1.out).mono ?_
  rintro e w2 ⟨rfl, g2, hb2⟩
  have G2 := hid g2
  have hc2 : w2.cell? ⟨w1.heap.size, 0, none⟩ = some (.iface 144 (.int .i64 s)) := by rw [cell_of_row _ _ _ _ _ _ hb2]; rfl
  clear g2 hb2
  go_wp2
  go_ret2
  exact ⟨rfl, G2.out⟩
end Go.Proofs.YtnkoakneffjkbaaDoor
