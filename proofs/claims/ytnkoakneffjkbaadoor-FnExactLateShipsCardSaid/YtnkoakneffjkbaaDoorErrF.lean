/- errors.As at notFound outOfRange. -/
import Derived.Test.YtnkoakneffjkbaaDoorErrK
namespace Go.Proofs.YtnkoakneffjkbaaDoor
set_option linter.unusedVariables false
open Go.RowKit
theorem xTypeOf_notFound (s : ByteArray) (w : World) : (callFunc 95 #[.iface 80 (.string s)]).run Tryd.prog w = .ok (.value (rty 80)) w := by kernel_rfl
theorem xAssignable_notFound (w : World) : (callFunc 145 #[.agg #[.pointer (some ⟨1, 80, none⟩)], rty 110]).run Tryd.prog w = .ok (.value (.bool true)) w := by kernel_rfl
theorem xValueOfS_notFound (s : ByteArray) (w : World) : (callFunc 85 #[.iface 80 (.string s)]).run Tryd.prog w = .ok (.value (errV 80 ⟨w.heap.size, 0, none⟩ 152)) (w.alloc (.cells #[.string s] 80)) := by kernel_rfl
open Go.Extern in
set_option maxRecDepth 100000 in
set_option maxHeartbeats 400000 in
theorem xSetS_notFound (s : ByteArray) (g : Nat) (b : Addr) (w : World) (hb : w.cell? b = some (.string s)) (hg : w.heap[g]? = some (.cells #[.nilIface] 110 (0, 0))) :
    (callFunc 97 #[refPtrE ⟨g, 0, none⟩, errV 80 b 152]).run Tryd.prog w = .ok (.value (.tuple #[])) (w.setCell ⟨g, 0, none⟩ (.iface 80 (.string s))) := by
  have hl : (loadVar 80 b).run Tryd.prog w = .ok (.string s) w := by
    simp [loadVar, isAgg, run_underlying Tryd.underlying80, Sem.run_bind, Sem.run_pure, go_sem, hb]
  have h1 : (ReflectliteValue.parts (refPtrE ⟨g, 0, none⟩)).run Tryd.prog w = .ok (some (110, ⟨g, 0, none⟩, 404)) w := by kernel_rfl
  have h2 : (ReflectliteValue.parts (errV 80 b 152)).run Tryd.prog w = .ok (some (80, b, 152)) w := by kernel_rfl
  have h3 : (Rtype.directlyAssignable 110 80).run Tryd.prog w = .ok false w := by kernel_rfl
  have h4 : (Rtype.implements 110 80).run Tryd.prog w = .ok true w := by kernel_rfl
  have h5 : (Rtype.kind 80).run Tryd.prog w = .ok 24 w := by kernel_rfl
  have hc : w.cell? ⟨g, 0, none⟩ = some .nilIface := by rw [cell_of_row _ _ _ _ _ _ hg]; rfl
  have hf : w.frozen? ⟨g, 0, none⟩ = false := frozen_of_row _ _ _ _ _ hg
  have h6 : (storeVar 110 ⟨g, 0, none⟩ (.iface 80 (.string s))).run Tryd.prog w = .ok () (w.setCell ⟨g, 0, none⟩ (.iface 80 (.string s))) := by
    simp [storeVar, Sem.run_bind, go_sem, hc, hf]
  rw [run_callFunc_extern (e := ReflectliteValue.set) Tryd.func97 (by kernel_rfl) (by kernel_rfl) (by kernel_rfl) (by kernel_rfl)]
  have hm : (ReflectliteValue.set #[refPtrE ⟨g, 0, none⟩, errV 80 b 152]).run Tryd.prog w = .ok (.tuple #[]) (w.setCell ⟨g, 0, none⟩ (.iface 80 (.string s))) := by
    refine (Sem.run_bind _ _ (ReflectliteValue.parts (refPtrE ⟨g, 0, none⟩)) _).trans ?_
    rw [h1, Result.andThen_ok]
    refine (Sem.run_bind _ _ (ReflectliteValue.parts (errV 80 b 152)) _).trans ?_
    rw [h2, Result.andThen_ok]
    simp [Sem.run_bind, h3, h4, h5, h6, hl, ReflectliteValue.flagAddr, Result.andThen]
  rw [hm]
  rfl
set_option maxRecDepth 100000 in
set_option maxHeartbeats 1000000 in
theorem as_inner_notFound (s : ByteArray) (a : Addr) (g : Nat) (w : World) (hc : w.cell? a = some (.pointer (some ⟨g, 0, none⟩))) (hg : w.heap[g]? = some (.cells #[.nilIface] 110 (0, 0))) (W : World) (G : Gr W w) (hW : W.heap.size ≤ g) :
    Calls Tryd.prog 88 #[.iface 80 (.string s), .iface 112 (.pointer (some ⟨g, 0, none⟩)), refPtr a, rty 110] w fun e w' => e = .returned (.bool true) ∧ Gr W w' ∧ w'.heap[g]? = some (.cells #[.iface 80 (.string s)] 110 (0, 0)) := by
  have hgl := lt_of_heap hg
  have G2 := hid (((G.setCell (p := ⟨g, 0, none⟩) hW (.iface 80 (.string s))).alloc (refBox a)).alloc (.cells #[.string s] 80))
  have hb : ((w.alloc (refBox a)).alloc (.cells #[.string s] 80)).cell? ⟨w.heap.size + 1, 0, none⟩ = some (.string s) := by
    rw [cell_of_row _ _ _ _ _ _ (heap_new (w := w.alloc (refBox a)) (o := .cells #[.string s] 80) (n := w.heap.size + 1) (by simp))]; rfl
  have hg2 : ((w.alloc (refBox a)).alloc (.cells #[.string s] 80)).heap[g]? = some (.cells #[.nilIface] 110 (0, 0)) := heap_kept (heap_kept hg)
  have HG3 := hid (heap_kept (o := .cells #[.string s] 80) (heap_kept (o := refBox a) (heap_setCell_same w g 0 _ 110 (.iface 80 (.string s)) hg)))
  have h1 := xTypeOf_notFound s
  have h2 := mAssignable
  have h3 := xAssignable_notFound
  have h4 := xElemV a ⟨g, 0, none⟩ (w.alloc (refBox a)) (((Gr.refl w).alloc _).cell hc)
  have h5 := xValueOfS_notFound s (w.alloc (refBox a))
  have h6 := xSetS_notFound s g ⟨w.heap.size + 1, 0, none⟩ _ hb hg2
  rw [World.size_alloc] at h5
  unfold refBox at G2 h4 h5 h6 HG3
  unfold refPtr at h4
  unfold rty at h1 h3
  unfold refPtrE at h4 h6
  unfold errV at h5 h6
  unfold refPtr rty
  clear hb hg2 hg hc G
  go_enter Tryd.func88, Tryd.ntmps88
  go_wp2
  go_loopw [0] (fun v wr => v = .iface 80 (.string s) ∧ wr = w.alloc (.cells #[.pointer (some ⟨1, 112, none⟩), .pointer (some a), .int .u64 150] 132)) (fun _ _ => 0)
  case atStart => exact ⟨rfl, rfl⟩
  case round =>
    obtain ⟨rfl, rfl⟩ := hrel
    go_wp2
    go_ret
    exact ⟨rfl, G2.out, HG3.out⟩
set_option maxRecDepth 100000 in
set_option maxHeartbeats 1000000 in
theorem as_notFound (s : ByteArray) (g : Nat) (w : World) (hg : w.heap[g]? = some (.cells #[.nilIface] 110 (0, 0))) (W : World) (G : Gr W w) (hW : W.heap.size ≤ g) :
    Calls Tryd.prog 69 #[.iface 80 (.string s), .iface 112 (.pointer (some ⟨g, 0, none⟩))] w fun e w' => e = .returned (.bool true) ∧ Gr W w' ∧ w'.heap[g]? = some (.cells #[.iface 80 (.string s)] 110 (0, 0)) := by
  have hgl := lt_of_heap hg
  obtain ⟨w1, hw1⟩ : ∃ w1, w1 = w.alloc (.cells #[.pointer (some ⟨g, 0, none⟩)] 112) := ⟨_, rfl⟩
  have hs1 : w1.heap.size = w.heap.size + 1 := by rw [hw1]; simp
  have hc1 : w1.cell? ⟨w.heap.size, 0, none⟩ = some (.pointer (some ⟨g, 0, none⟩)) := by
    rw [hw1, cell_of_row _ _ _ _ _ _ (heap_new (w := w) (o := .cells #[.pointer (some ⟨g, 0, none⟩)] 112) rfl)]; rfl
  have hg1 : w1.heap[g]? = some (.cells #[.nilIface] 110 (0, 0)) := by rw [hw1]; exact heap_kept hg
  have G1 : Gr W w1 := by rw [hw1]; exact G.alloc _
  have HI := hid (as_inner_notFound s ⟨w.heap.size, 0, none⟩ g (w1.alloc (refBox ⟨w.heap.size, 0, none⟩)) (((Gr.refl w1).alloc _).cell hc1) (heap_kept hg1) W (G1.alloc _) hW)
  have h1 := xValueOf ⟨g, 0, none⟩ w
  have h2 := xType ⟨w.heap.size, 0, none⟩
  have h3 := mKind
  have h4 := xKindP
  have h5 := xKindI
  have h6 := xIsNil ⟨w.heap.size, 0, none⟩ ⟨g, 0, none⟩ (w1.alloc (refBox ⟨w.heap.size, 0, none⟩)) (((Gr.refl w1).alloc _).cell hc1)
  have h7 := mElem
  have h8 := xElem
  rw [← hw1] at h1
  unfold refBox at HI h6
  unfold refPtr at h1 h2 h6 HI
  unfold rty at h2 h8 HI
  clear hg hg1 G G1 hc1 hw1
  go_enter Tryd.func69, Tryd.ntmps69
  go_wp2_with fail
  refine HI.out.mono ?_
  rintro e w2 ⟨rfl, G2, hg2⟩
  have G2 := hid G2
  have HG2 := hid hg2
  clear hg2
  go_wp2_with fail
  go_ret
  exact ⟨rfl, G2.out, HG2.out⟩
theorem xTypeOf_outOfRange (s : ByteArray) (w : World) : (callFunc 95 #[.iface 98 (.string s)]).run Tryd.prog w = .ok (.value (rty 98)) w := by kernel_rfl
theorem xAssignable_outOfRange (w : World) : (callFunc 145 #[.agg #[.pointer (some ⟨1, 98, none⟩)], rty 110]).run Tryd.prog w = .ok (.value (.bool true)) w := by kernel_rfl
theorem xValueOfS_outOfRange (s : ByteArray) (w : World) : (callFunc 85 #[.iface 98 (.string s)]).run Tryd.prog w = .ok (.value (errV 98 ⟨w.heap.size, 0, none⟩ 152)) (w.alloc (.cells #[.string s] 98)) := by kernel_rfl
open Go.Extern in
set_option maxRecDepth 100000 in
set_option maxHeartbeats 400000 in
theorem xSetS_outOfRange (s : ByteArray) (g : Nat) (b : Addr) (w : World) (hb : w.cell? b = some (.string s)) (hg : w.heap[g]? = some (.cells #[.nilIface] 110 (0, 0))) :
    (callFunc 97 #[refPtrE ⟨g, 0, none⟩, errV 98 b 152]).run Tryd.prog w = .ok (.value (.tuple #[])) (w.setCell ⟨g, 0, none⟩ (.iface 98 (.string s))) := by
  have hl : (loadVar 98 b).run Tryd.prog w = .ok (.string s) w := by
    simp [loadVar, isAgg, run_underlying Tryd.underlying98, Sem.run_bind, Sem.run_pure, go_sem, hb]
  have h1 : (ReflectliteValue.parts (refPtrE ⟨g, 0, none⟩)).run Tryd.prog w = .ok (some (110, ⟨g, 0, none⟩, 404)) w := by kernel_rfl
  have h2 : (ReflectliteValue.parts (errV 98 b 152)).run Tryd.prog w = .ok (some (98, b, 152)) w := by kernel_rfl
  have h3 : (Rtype.directlyAssignable 110 98).run Tryd.prog w = .ok false w := by kernel_rfl
  have h4 : (Rtype.implements 110 98).run Tryd.prog w = .ok true w := by kernel_rfl
  have h5 : (Rtype.kind 98).run Tryd.prog w = .ok 24 w := by kernel_rfl
  have hc : w.cell? ⟨g, 0, none⟩ = some .nilIface := by rw [cell_of_row _ _ _ _ _ _ hg]; rfl
  have hf : w.frozen? ⟨g, 0, none⟩ = false := frozen_of_row _ _ _ _ _ hg
  have h6 : (storeVar 110 ⟨g, 0, none⟩ (.iface 98 (.string s))).run Tryd.prog w = .ok () (w.setCell ⟨g, 0, none⟩ (.iface 98 (.string s))) := by
    simp [storeVar, Sem.run_bind, go_sem, hc, hf]
  rw [run_callFunc_extern (e := ReflectliteValue.set) Tryd.func97 (by kernel_rfl) (by kernel_rfl) (by kernel_rfl) (by kernel_rfl)]
  have hm : (ReflectliteValue.set #[refPtrE ⟨g, 0, none⟩, errV 98 b 152]).run Tryd.prog w = .ok (.tuple #[]) (w.setCell ⟨g, 0, none⟩ (.iface 98 (.string s))) := by
    refine (Sem.run_bind _ _ (ReflectliteValue.parts (refPtrE ⟨g, 0, none⟩)) _).trans ?_
    rw [h1, Result.andThen_ok]
    refine (Sem.run_bind _ _ (ReflectliteValue.parts (errV 98 b 152)) _).trans ?_
    rw [h2, Result.andThen_ok]
    simp [Sem.run_bind, h3, h4, h5, h6, hl, ReflectliteValue.flagAddr, Result.andThen]
  rw [hm]
  rfl
set_option maxRecDepth 100000 in
set_option maxHeartbeats 1000000 in
theorem as_inner_outOfRange (s : ByteArray) (a : Addr) (g : Nat) (w : World) (hc : w.cell? a = some (.pointer (some ⟨g, 0, none⟩))) (hg : w.heap[g]? = some (.cells #[.nilIface] 110 (0, 0))) (W : World) (G : Gr W w) (hW : W.heap.size ≤ g) :
    Calls Tryd.prog 88 #[.iface 98 (.string s), .iface 112 (.pointer (some ⟨g, 0, none⟩)), refPtr a, rty 110] w fun e w' => e = .returned (.bool true) ∧ Gr W w' ∧ w'.heap[g]? = some (.cells #[.iface 98 (.string s)] 110 (0, 0)) := by
  have hgl := lt_of_heap hg
  have G2 := hid (((G.setCell (p := ⟨g, 0, none⟩) hW (.iface 98 (.string s))).alloc (refBox a)).alloc (.cells #[.string s] 98))
  have hb : ((w.alloc (refBox a)).alloc (.cells #[.string s] 98)).cell? ⟨w.heap.size + 1, 0, none⟩ = some (.string s) := by
    rw [cell_of_row _ _ _ _ _ _ (heap_new (w := w.alloc (refBox a)) (o := .cells #[.string s] 98) (n := w.heap.size + 1) (by simp))]; rfl
  have hg2 : ((w.alloc (refBox a)).alloc (.cells #[.string s] 98)).heap[g]? = some (.cells #[.nilIface] 110 (0, 0)) := heap_kept (heap_kept hg)
  have HG3 := hid (heap_kept (o := .cells #[.string s] 98) (heap_kept (o := refBox a) (heap_setCell_same w g 0 _ 110 (.iface 98 (.string s)) hg)))
  have h1 := xTypeOf_outOfRange s
  have h2 := mAssignable
  have h3 := xAssignable_outOfRange
  have h4 := xElemV a ⟨g, 0, none⟩ (w.alloc (refBox a)) (((Gr.refl w).alloc _).cell hc)
  have h5 := xValueOfS_outOfRange s (w.alloc (refBox a))
  have h6 := xSetS_outOfRange s g ⟨w.heap.size + 1, 0, none⟩ _ hb hg2
  rw [World.size_alloc] at h5
  unfold refBox at G2 h4 h5 h6 HG3
  unfold refPtr at h4
  unfold rty at h1 h3
  unfold refPtrE at h4 h6
  unfold errV at h5 h6
  unfold refPtr rty
  clear hb hg2 hg hc G
  go_enter Tryd.func88, Tryd.ntmps88
  go_wp2
  go_loopw [0] (fun v wr => v = .iface 98 (.string s) ∧ wr = w.alloc (.cells #[.pointer (some ⟨1, 112, none⟩), .pointer (some a), .int .u64 150] 132)) (fun _ _ => 0)
  case atStart => exact ⟨rfl, rfl⟩
  case round =>
    obtain ⟨rfl, rfl⟩ := hrel
    go_wp2
    go_ret
    exact ⟨rfl, G2.out, HG3.out⟩
set_option maxRecDepth 100000 in
set_option maxHeartbeats 1000000 in
theorem as_outOfRange (s : ByteArray) (g : Nat) (w : World) (hg : w.heap[g]? = some (.cells #[.nilIface] 110 (0, 0))) (W : World) (G : Gr W w) (hW : W.heap.size ≤ g) :
    Calls Tryd.prog 69 #[.iface 98 (.string s), .iface 112 (.pointer (some ⟨g, 0, none⟩))] w fun e w' => e = .returned (.bool true) ∧ Gr W w' ∧ w'.heap[g]? = some (.cells #[.iface 98 (.string s)] 110 (0, 0)) := by
  have hgl := lt_of_heap hg
  obtain ⟨w1, hw1⟩ : ∃ w1, w1 = w.alloc (.cells #[.pointer (some ⟨g, 0, none⟩)] 112) := ⟨_, rfl⟩
  have hs1 : w1.heap.size = w.heap.size + 1 := by rw [hw1]; simp
  have hc1 : w1.cell? ⟨w.heap.size, 0, none⟩ = some (.pointer (some ⟨g, 0, none⟩)) := by
    rw [hw1, cell_of_row _ _ _ _ _ _ (heap_new (w := w) (o := .cells #[.pointer (some ⟨g, 0, none⟩)] 112) rfl)]; rfl
  have hg1 : w1.heap[g]? = some (.cells #[.nilIface] 110 (0, 0)) := by rw [hw1]; exact heap_kept hg
  have G1 : Gr W w1 := by rw [hw1]; exact G.alloc _
  have HI := hid (as_inner_outOfRange s ⟨w.heap.size, 0, none⟩ g (w1.alloc (refBox ⟨w.heap.size, 0, none⟩)) (((Gr.refl w1).alloc _).cell hc1) (heap_kept hg1) W (G1.alloc _) hW)
  have h1 := xValueOf ⟨g, 0, none⟩ w
  have h2 := xType ⟨w.heap.size, 0, none⟩
  have h3 := mKind
  have h4 := xKindP
  have h5 := xKindI
  have h6 := xIsNil ⟨w.heap.size, 0, none⟩ ⟨g, 0, none⟩ (w1.alloc (refBox ⟨w.heap.size, 0, none⟩)) (((Gr.refl w1).alloc _).cell hc1)
  have h7 := mElem
  have h8 := xElem
  rw [← hw1] at h1
  unfold refBox at HI h6
  unfold refPtr at h1 h2 h6 HI
  unfold rty at h2 h8 HI
  clear hg hg1 G G1 hc1 hw1
  go_enter Tryd.func69, Tryd.ntmps69
  go_wp2_with fail
  refine HI.out.mono ?_
  rintro e w2 ⟨rfl, G2, hg2⟩
  have G2 := hid G2
  have HG2 := hid hg2
  clear hg2
  go_wp2_with fail
  go_ret
  exact ⟨rfl, G2.out, HG2.out⟩
end Go.Proofs.YtnkoakneffjkbaaDoor
