/- errors.As at an error that is not valid. -/
import Derived.Test.YtmpndafabnbchaaDoorErrAs
namespace Go.Proofs.YtmpndafabnbchaaDoor
open Go.RowKit
def refBox (a : Addr) : Obj := .cells #[.pointer (some ⟨2, 112, none⟩), .pointer (some a), .int .u64 150] 134
set_option maxRecDepth 100000 in
theorem as_nil (p : Addr) (w : World) : Calls Tryd.prog 90 #[.nilIface, .iface 112 (.pointer (some p))] w fun e w' => e = .returned (.bool false) ∧ w = w' := by
  have hnil : ∀ w : World, (binOp BinOp.eql 65 .nilIface .nilIface).run Tryd.prog w = .ok (.bool true) w := fun _ => by kernel_rfl
  go_enter Tryd.func90, Tryd.ntmps90
  go_wp2
  go_ret
  exact ⟨rfl, rfl⟩
set_option maxRecDepth 100000 in
set_option maxHeartbeats 1000000 in
theorem as_inner (s : ByteArray) (a : Addr) (g : Nat) (w : World) (hc : w.cell? a = some (.pointer (some ⟨g, 0, none⟩))) (hg : w.heap[g]? = some (.cells #[.nilIface] 110 (0, 0))) (W : World) (G : Gr W w) (hW : W.heap.size ≤ g) :
    Calls Tryd.prog 105 #[.iface 130 (.string s), .iface 112 (.pointer (some ⟨g, 0, none⟩)), refPtr a, rty 110] w fun e w' => e = .returned (.bool true) ∧ Gr W w' ∧ w'.heap[g]? = some (.cells #[.iface 130 (.string s)] 110 (0, 0)) := by
  have hgl := lt_of_heap hg
  have G1 := hid (G.alloc (refBox a))
  have G2 := hid (((G.setCell (p := ⟨g, 0, none⟩) hW (.iface 130 (.string s))).alloc (refBox a)).alloc (.cells #[.string s] 130))
  have hb : ((w.alloc (refBox a)).alloc (.cells #[.string s] 130)).cell? ⟨w.heap.size + 1, 0, none⟩ = some (.string s) := by
    rw [cell_of_row _ _ _ _ _ _ (heap_new (w := w.alloc (refBox a)) (o := .cells #[.string s] 130) (n := w.heap.size + 1) (by simp))]; rfl
  have hg2 : ((w.alloc (refBox a)).alloc (.cells #[.string s] 130)).heap[g]? = some (.cells #[.nilIface] 110 (0, 0)) := heap_kept (heap_kept hg)
  have HG3 := hid (heap_kept (o := .cells #[.string s] 130) (heap_kept (o := refBox a) (heap_setCell_same w g 0 _ 110 (.iface 130 (.string s)) hg)))
  have h1 := xTypeOf s
  have h2 := mAssignable
  have h3 := xAssignable
  have h4 := xElemV a ⟨g, 0, none⟩ (w.alloc (refBox a)) (((Gr.refl w).alloc _).cell hc)
  have h5 := xValueOfS s (w.alloc (refBox a))
  have h6 := xSetS s g ⟨w.heap.size + 1, 0, none⟩ _ hb hg2
  rw [World.size_alloc] at h5
  unfold refBox at G1 G2 h4 h5 h6 HG3
  unfold refPtr at h4
  unfold rty at h1 h3
  unfold refPtrE at h4 h6
  unfold errV at h5 h6
  unfold refPtr rty
  clear hb hg2 hg hc G
  go_enter Tryd.func105, Tryd.ntmps105
  go_wp2
  go_loopw [0] (fun v wr => v = .iface 130 (.string s) ∧ wr = w.alloc (.cells #[.pointer (some ⟨2, 112, none⟩), .pointer (some a), .int .u64 150] 134)) (fun _ _ => 0)
  case atStart => exact ⟨rfl, rfl⟩
  case round =>
    obtain ⟨rfl, rfl⟩ := hrel
    go_wp2
    go_ret
    exact ⟨rfl, G2.out, HG3.out⟩
set_option maxRecDepth 100000 in
set_option maxHeartbeats 1000000 in
theorem as_valid (s : ByteArray) (g : Nat) (w : World) (hg : w.heap[g]? = some (.cells #[.nilIface] 110 (0, 0))) (W : World) (G : Gr W w) (hW : W.heap.size ≤ g) :
    Calls Tryd.prog 90 #[.iface 130 (.string s), .iface 112 (.pointer (some ⟨g, 0, none⟩))] w fun e w' => e = .returned (.bool true) ∧ Gr W w' ∧ w'.heap[g]? = some (.cells #[.iface 130 (.string s)] 110 (0, 0)) := by
  have hgl := lt_of_heap hg
  obtain ⟨w1, hw1⟩ : ∃ w1, w1 = w.alloc (.cells #[.pointer (some ⟨g, 0, none⟩)] 112) := ⟨_, rfl⟩
  have hs1 : w1.heap.size = w.heap.size + 1 := by rw [hw1]; simp
  have hc1 : w1.cell? ⟨w.heap.size, 0, none⟩ = some (.pointer (some ⟨g, 0, none⟩)) := by
    rw [hw1, cell_of_row _ _ _ _ _ _ (heap_new (w := w) (o := .cells #[.pointer (some ⟨g, 0, none⟩)] 112) rfl)]; rfl
  have hg1 : w1.heap[g]? = some (.cells #[.nilIface] 110 (0, 0)) := by rw [hw1]; exact heap_kept hg
  have G1 : Gr W w1 := by rw [hw1]; exact G.alloc _
  have HI := hid (as_inner s ⟨w.heap.size, 0, none⟩ g (w1.alloc (refBox ⟨w.heap.size, 0, none⟩)) (((Gr.refl w1).alloc _).cell hc1) (heap_kept hg1) W (G1.alloc _) hW)
  have h1 := xValueOf ⟨g, 0, none⟩ w
  have h2 := xType ⟨w.heap.size, 0, none⟩
  have h3 := mKind
  have h4 := xKindP
  have h5 := xKindI
  have h6 := xIsNil ⟨w.heap.size, 0, none⟩ ⟨g, 0, none⟩ (w1.alloc (refBox ⟨w.heap.size, 0, none⟩)) (((Gr.refl w1).alloc _).cell hc1)
  have h7 := mElem
  have h8 := xElem
  rw [← hw1] at h1
  unfold refBox at HI h6
  unfold refPtr at h1 h2 h6 HI
  unfold rty at h2 h8 HI
  clear hg hg1 G G1 hc1 hw1
  go_enter Tryd.func90, Tryd.ntmps90
  go_wp2_with fail
  refine HI.out.mono ?_
  rintro e w2 ⟨rfl, G2, hg2⟩
  have G2 := hid G2
  have HG2 := hid hg2
  clear hg2
  go_wp2_with fail
  go_ret
  exact ⟨rfl, G2.out, HG2.out⟩
end Go.Proofs.YtmpndafabnbchaaDoor
