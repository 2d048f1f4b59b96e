/- replyTwo. -/
import Derived.Test.YtnkoakneffjkbaaDoorReplyTwo
import Derived.StillTailTactics
namespace Go.Proofs.YtnkoakneffjkbaaDoor
set_option linter.unusedVariables false
open Go.RowKit
set_option maxRecDepth 100000 in
set_option maxHeartbeats 1000000 in
theorem two_nil (x y : Int) (K : FuncId) (caps : Array Value) (bp : Addr) (w : World) (hbp : w.cell? bp = some (.func (.func K) #[] caps)) (hK : ∀ (args : Array Value) (w : World), (callFunc K args).run Tryd.prog w = .ok (.enter K args) w) (HC : ∀ V, Gr w V → Calls Tryd.prog K caps V fun e w' => e = .returned (.tuple #[.int .i64 x, .int .i64 y, .nilIface]) ∧ Gr V w') :
    Calls Tryd.prog 73 #[.pointer (some bp)] w fun e w' => e = .returned (.tuple #[.agg #[.int .i64 x, .int .i64 y], .nilIface]) ∧ Gr w w' := by
  have G0 := hid ((Gr.refl w).alloc (.cells #[.int .i64 0, .int .i64 0] 116))
  have hc := G0.out.cell hbp
  have B0 := hid (heap_new (w := w) (o := .cells #[.int .i64 0, .int .i64 0] 116) rfl)
  have HCC := hid (HC _ G0.out)
  clear HC hbp
  go_enter Tryd.func73, Tryd.ntmps73
  go_wp2_with fail
  refine HCC.out.mono ?_
  rintro e w1 ⟨rfl, g1⟩
  have G1 := hid (G0.out.trans g1)
  have B1 := hid (g1.heap B0.out)
  obtain ⟨c0, c1, f0, f1⟩ := row2_facts B1.out
  clear g1 hc
  go_wp2_with fail
  refine bodyPost_ret (v := .tuple #[.agg #[.int .i64 x, .int .i64 y], .nilIface]) (results_row_tmp (by rfl) _ _ _ _ _ _ _ _ rfl rfl (row2_set (x := .int .i64 x) (y := .int .i64 y) B1.out) Tryd.underlying116 rfl (by kernel_rfl)) rfl ⟨rfl, (G1.out.setCell (p := ⟨w.heap.size, 0, none⟩) (Nat.le_refl _) _).setCell (p := ⟨w.heap.size, 1, none⟩) (Nat.le_refl _) _⟩
set_option maxRecDepth 100000 in
set_option maxHeartbeats 1000000 in
theorem two_iface (t : TypeId) (z : Value) (x y : Int) (K : FuncId) (caps : Array Value) (bp : Addr) (w : World) (hbp : w.cell? bp = some (.func (.func K) #[] caps)) (hK : ∀ (args : Array Value) (w : World), (callFunc K args).run Tryd.prog w = .ok (.enter K args) w) (HC : ∀ V, Gr w V → Calls Tryd.prog K caps V fun e w' => e = .returned (.tuple #[.int .i64 x, .int .i64 y, .iface t z]) ∧ Gr V w') :
    Calls Tryd.prog 73 #[.pointer (some bp)] w fun e w' => e = .returned (.tuple #[.agg #[.int .i64 x, .int .i64 y], .iface t z]) ∧ Gr w w' := by
  have G0 := hid ((Gr.refl w).alloc (.cells #[.int .i64 0, .int .i64 0] 116))
  have hc := G0.out.cell hbp
  have B0 := hid (heap_new (w := w) (o := .cells #[.int .i64 0, .int .i64 0] 116) rfl)
  have HCC := hid (HC _ G0.out)
  clear HC hbp
  go_enter Tryd.func73, Tryd.ntmps73
  go_wp2_with fail
  refine HCC.out.mono ?_
  rintro e w1 ⟨rfl, g1⟩
  have G1 := hid (G0.out.trans g1)
  have B1 := hid (g1.heap B0.out)
  obtain ⟨c0, c1, f0, f1⟩ := row2_facts B1.out
  clear g1 hc
  go_wp2_with fail
  refine bodyPost_ret (v := .tuple #[.agg #[.int .i64 x, .int .i64 y], .iface t z]) (results_row_tmp (by rfl) _ _ _ _ _ _ _ _ rfl rfl (row2_set (x := .int .i64 x) (y := .int .i64 y) B1.out) Tryd.underlying116 rfl (by kernel_rfl)) rfl ⟨rfl, (G1.out.setCell (p := ⟨w.heap.size, 0, none⟩) (Nat.le_refl _) _).setCell (p := ⟨w.heap.size, 1, none⟩) (Nat.le_refl _) _⟩
set_option maxRecDepth 100000 in
set_option maxHeartbeats 1000000 in
theorem two_pan (u : List PanicEntry) (K : FuncId) (caps : Array Value) (bp : Addr) (w : World) (hbp : w.cell? bp = some (.func (.func K) #[] caps)) (hK : ∀ (args : Array Value) (w : World), (callFunc K args).run Tryd.prog w = .ok (.enter K args) w) (HC : ∀ V, Gr w V → Calls Tryd.prog K caps V fun e w' => e = .panicked u ∧ Gr V w') :
    Calls Tryd.prog 73 #[.pointer (some bp)] w fun e w' => e = .panicked u ∧ Gr w w' := by
  have G0 := hid ((Gr.refl w).alloc (.cells #[.int .i64 0, .int .i64 0] 116))
  have hc := G0.out.cell hbp
  have HCC := hid (HC _ G0.out)
  clear HC hbp
  go_enter Tryd.func73, Tryd.ntmps73
  go_wp2_with fail
  refine HCC.out.mono ?_
  rintro e w1 ⟨rfl, g1⟩
  have G1 := hid (G0.out.trans g1)
  clear g1 hc
  go_wp2_with fail
  exact ⟨rfl, rfl, G1.out⟩
set_option maxRecDepth 100000 in
set_option maxHeartbeats 1000000 in
theorem replyTwo_any (x y c : Int) (K : FuncId) (caps : Array Value) (w : World) (HR : Calls Tryd.prog 72 #[.func (.func 73) #[] #[.pointer (some ⟨w.heap.size, 0, none⟩)]] (w.alloc (.cells #[.func (.func K) #[] caps] 87)) fun e w' => e = .returned (.tuple #[.agg #[.int .i64 x, .int .i64 y], .int .i64 c]) ∧ Gr (w.alloc (.cells #[.func (.func K) #[] caps] 87)) w') :
    Calls Tryd.prog 45 #[.func (.func K) #[] caps] w fun e w' => e = .returned (.tuple #[.int .i64 x, .int .i64 y, .int .i64 c]) ∧ Gr w w' := by
  have hmf : ∀ (fn : Fn) (first cap : Array Value) (w : World), (Instr.makeFunc fn first cap).run Tryd.prog w = .ok (.func fn first cap) w := fun _ _ _ _ => rfl
  have HA := hid HR
  have G0 := hid ((Gr.refl w).alloc (.cells #[.func (.func K) #[] caps] 87))
  clear HR
  go_enter Tryd.func45, Tryd.ntmps45
  go_wp2_with fail
  refine HA.out.mono ?_
  rintro e w1 ⟨rfl, g1⟩
  have G1 := hid (G0.out.trans g1)
  have G2 := hid (G1.out.alloc (.cells #[.int .i64 x, .int .i64 y] 116))
  clear g1
  go_wp2_with fail
  go_quiet (fail)
  go_wp2_with fail
  go_ret3
  exact ⟨rfl, G2.out.drewN _⟩
end Go.Proofs.YtnkoakneffjkbaaDoor
