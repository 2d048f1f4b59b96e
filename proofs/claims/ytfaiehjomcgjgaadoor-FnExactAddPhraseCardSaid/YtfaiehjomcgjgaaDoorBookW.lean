/- Books that are written anew. -/
import Derived.Test.YtfaiehjomcgjgaaDoorStrsA
import Derived.Test.YtfaiehjomcgjgaaDoorRowRes
namespace Go.Proofs.YtfaiehjomcgjgaaDoor
set_option linter.unusedVariables false
open Go.RowKit
set_option maxRecDepth 100000 in
set_option maxHeartbeats 2000000 in
/-- A book with other phrases. -/
theorem l03With_any (bb : Nat) (k l s : Int) (a : Option Addr) (n cap : Nat) (ss : List ByteArray) (g m c : Nat) (ps : List ByteArray) (hm : m = ps.length) (hmm : m ≤ 1048576) (w : World) (hb : BookAt w bb k l s a n cap ss) (hr : ∀ j u, (ps.map Value.string)[j]? = some u → w.cell? ((⟨g, 0, none⟩ : Addr).add j) = some u) :
    Calls Tryd.prog 51 #[.pointer (some ⟨bb, 0, none⟩), .slice (some ⟨g, 0, none⟩) m c] w fun e w' => ∃ g' c', e = .returned (bookV k l s (.slice (some ⟨g', 0, none⟩) m c')) ∧ OwnT w' w.heap.size w'.heap.size (.slice (some ⟨g', 0, none⟩) m c') ps ∧ Gr w w' := by
  obtain ⟨i0, hi, hz0, hz1, hz2⟩ := info_parts infoStr
  have C0 := hid hb.c0
  have C1 := hid hb.c1
  have C2 := hid hb.c2
  have HM := hid hm
  have NW := hid (fun V (gv : Gr w V) j u (h : (ps.map Value.string)[j]? = some u) => gv.cell (hr j u h))
  obtain ⟨W0, hW⟩ : ∃ W, W = w.alloc (.cells (bookC 0 0 0 (.slice none 0 0)) 31) := ⟨_, rfl⟩
  have G0 : Hid (Gr w W0) := hid (by rw [hW]; exact (Gr.refl w).alloc _)
  have HZ : Hid (W0.heap[w.heap.size]? = some (.cells (bookC 0 0 0 (.slice none 0 0)) 31 (0, 0))) := hid (by rw [hW]; exact heap_new rfl)
  have SZ : Hid (w.heap.size ≤ W0.heap.size) := hid G0.out.size
  have SZ' : w.heap.size < W0.heap.size := lt_of_heap HZ.out
  have O0 : Hid ((W0.drew.alloc (.cells #[] 9)).ownsRow W0.heap.size 9 1 (.slice (some ⟨W0.heap.size, 0, none⟩) 0 0) 0 []) := hid (emptyT W0.drew)
  have HW := hid hW
  clear hW hb hr hm
  go_enter Tryd.func51, Tryd.ntmps51
  go_wp2_with fail
  rw [← HW.out]
  refine wp_region_held_drew (S := fun V => Gr w V) (by kernel_rfl) G0.out.drew (fun hH => ?_)
  have HH := hid hH
  clear hH
  refine wpAnyH_take (i := 0) (v := .pointer (some ⟨bb, 0, none⟩)) rfl (by kernel_rfl) (by kernel_rfl) (by kernel_rfl) (fun _ _ _ h => h) (Or.inl ⟨by rfl, fun _ _ => by first | rfl | (go_simp; done) | (go_simp; rfl) | (go_simp; intro h; exfalso; omega)⟩) HH.out ?_
  simp only [Act.put, List.getElem_toArray, List.getElem_cons_zero, List.setIfInBounds_toArray, List.set_cons_zero, List.set_cons_succ]
  refine wpAnyH_take (i := 1) (v := .pointer (some ⟨bb, 0, none⟩)) rfl (by kernel_rfl) (by kernel_rfl) (by kernel_rfl) (fun _ _ _ h => h) (Or.inl ⟨by rfl, fun _ _ => by first | rfl | (go_simp; done) | (go_simp; rfl) | (go_simp; intro h; exfalso; omega)⟩) HH.out ?_
  simp only [Act.put, List.getElem_toArray, List.getElem_cons_zero, List.getElem_cons_succ, List.setIfInBounds_toArray, List.set_cons_zero, List.set_cons_succ]
  refine wpAnyH_take (i := 2) (v := .pointer (some ⟨bb, 0, none⟩)) rfl (by kernel_rfl) (by kernel_rfl) (by kernel_rfl) (fun _ _ _ h => h) (Or.inl ⟨by rfl, fun _ _ => by first | rfl | (go_simp; done) | (go_simp; rfl) | (go_simp; intro h; exfalso; omega)⟩) HH.out ?_
  simp only [Act.put, List.getElem_toArray, List.getElem_cons_zero, List.getElem_cons_succ, List.setIfInBounds_toArray, List.set_cons_zero, List.set_cons_succ]
  refine wpAnyH_take (i := 3) (v := .int .i8 k) rfl (by kernel_rfl) (by kernel_rfl) (by kernel_rfl) (fun _ _ _ h => h) (Or.inl ⟨by rfl, fun V hV => by have hc := hV.cell C0.out; first | (go_simp; done) | (go_simp; rfl)⟩) HH.out ?_
  simp only [Act.put, List.getElem_toArray, List.getElem_cons_zero, List.getElem_cons_succ, List.setIfInBounds_toArray, List.set_cons_zero, List.set_cons_succ]
  refine wpAnyH_take (i := 4) (v := .pointer (some ⟨bb, 0, none⟩)) rfl (by kernel_rfl) (by kernel_rfl) (by kernel_rfl) (fun _ _ _ h => h) (Or.inl ⟨by rfl, fun _ _ => by first | rfl | (go_simp; done) | (go_simp; rfl) | (go_simp; intro h; exfalso; omega)⟩) HH.out ?_
  simp only [Act.put, List.getElem_toArray, List.getElem_cons_zero, List.getElem_cons_succ, List.setIfInBounds_toArray, List.set_cons_zero, List.set_cons_succ]
  refine wpAnyH_take (i := 5) (v := .pointer (some ⟨bb, 0, none⟩)) rfl (by kernel_rfl) (by kernel_rfl) (by kernel_rfl) (fun _ _ _ h => h) (Or.inl ⟨by rfl, fun _ _ => by first | rfl | (go_simp; done) | (go_simp; rfl) | (go_simp; intro h; exfalso; omega)⟩) HH.out ?_
  simp only [Act.put, List.getElem_toArray, List.getElem_cons_zero, List.getElem_cons_succ, List.setIfInBounds_toArray, List.set_cons_zero, List.set_cons_succ]
  refine wpAnyH_take (i := 6) (v := .pointer (some ⟨bb, 1, none⟩)) rfl (by kernel_rfl) (by kernel_rfl) (by kernel_rfl) (fun _ _ _ h => h) (Or.inl ⟨by rfl, fun _ _ => by first | rfl | (go_simp; done) | (go_simp; rfl) | (go_simp; intro h; exfalso; omega)⟩) HH.out ?_
  simp only [Act.put, List.getElem_toArray, List.getElem_cons_zero, List.getElem_cons_succ, List.setIfInBounds_toArray, List.set_cons_zero, List.set_cons_succ]
  refine wpAnyH_take (i := 7) (v := .int .i8 l) rfl (by kernel_rfl) (by kernel_rfl) (by kernel_rfl) (fun _ _ _ h => h) (Or.inl ⟨by rfl, fun V hV => by have hc := hV.cell C1.out; first | (go_simp; done) | (go_simp; rfl)⟩) HH.out ?_
  simp only [Act.put, List.getElem_toArray, List.getElem_cons_zero, List.getElem_cons_succ, List.setIfInBounds_toArray, List.set_cons_zero, List.set_cons_succ]
  refine wpAnyH_take (i := 8) (v := .pointer (some ⟨bb, 0, none⟩)) rfl (by kernel_rfl) (by kernel_rfl) (by kernel_rfl) (fun _ _ _ h => h) (Or.inl ⟨by rfl, fun _ _ => by first | rfl | (go_simp; done) | (go_simp; rfl) | (go_simp; intro h; exfalso; omega)⟩) HH.out ?_
  simp only [Act.put, List.getElem_toArray, List.getElem_cons_zero, List.getElem_cons_succ, List.setIfInBounds_toArray, List.set_cons_zero, List.set_cons_succ]
  refine wpAnyH_take (i := 9) (v := .pointer (some ⟨bb, 0, none⟩)) rfl (by kernel_rfl) (by kernel_rfl) (by kernel_rfl) (fun _ _ _ h => h) (Or.inl ⟨by rfl, fun _ _ => by first | rfl | (go_simp; done) | (go_simp; rfl) | (go_simp; intro h; exfalso; omega)⟩) HH.out ?_
  simp only [Act.put, List.getElem_toArray, List.getElem_cons_zero, List.getElem_cons_succ, List.setIfInBounds_toArray, List.set_cons_zero, List.set_cons_succ]
  refine wpAnyH_take (i := 10) (v := .pointer (some ⟨bb, 2, none⟩)) rfl (by kernel_rfl) (by kernel_rfl) (by kernel_rfl) (fun _ _ _ h => h) (Or.inl ⟨by rfl, fun _ _ => by first | rfl | (go_simp; done) | (go_simp; rfl) | (go_simp; intro h; exfalso; omega)⟩) HH.out ?_
  simp only [Act.put, List.getElem_toArray, List.getElem_cons_zero, List.getElem_cons_succ, List.setIfInBounds_toArray, List.set_cons_zero, List.set_cons_succ]
  refine wpAnyH_take (i := 11) (v := .int .i8 s) rfl (by kernel_rfl) (by kernel_rfl) (by kernel_rfl) (fun _ _ _ h => h) (Or.inl ⟨by rfl, fun V hV => by have hc := hV.cell C2.out; first | (go_simp; done) | (go_simp; rfl)⟩) HH.out ?_
  simp only [Act.put, List.getElem_toArray, List.getElem_cons_zero, List.getElem_cons_succ, List.setIfInBounds_toArray, List.set_cons_zero, List.set_cons_succ]
  refine wpAnyH_take (i := 13) (v := .slice (some ⟨g, 0, none⟩) m c) rfl (by kernel_rfl) (by kernel_rfl) (by kernel_rfl) (fun _ _ _ h => h) (Or.inl ⟨by rfl, fun _ _ => by first | rfl | (go_simp; done) | (go_simp; rfl) | (go_simp; intro h; exfalso; omega)⟩) HH.out ?_
  simp only [Act.put, List.getElem_toArray, List.getElem_cons_zero, List.getElem_cons_succ, List.setIfInBounds_toArray, List.set_cons_zero, List.set_cons_succ]
  refine wpAnyH_ready (rs := [12]) (by kernel_rfl) (by simp) (AllReadyH.cons rfl (fun KK hKK => ?_) AllReadyH.nil)
  rw [if_pos (by rfl)]
  go_simp
  have g9 := HH.out.alloc (.cells #[] 9)
  refine hKK.out _ _ g9 (fun hH => ?_)
  clear HH hKK KK g9
  have HH := hid hH
  clear hH
  refine wpAnyH_ready (rs := [14]) (by kernel_rfl) (by simp) (AllReadyH.cons rfl (fun KK hKK => ?_) AllReadyH.nil)
  rw [if_pos (by rfl)]
  refine wp_append_own _ _ _ 23 rfl W0.heap.size 9 i0 (.string ⟨#[]⟩) 1 16 Tryd.underlying23 hi hz0 hz1 hz2 rfl (by decide) _ _ _ rfl O0.out ⟨g, 0, none⟩ m c (ps.map Value.string) rfl (by rw [List.length_map, ← HM.out, Nat.mul_one]) (NW.out _ HH.out) (one_strs ps) (by unfold maxLen; omega) (by omega) (by simp) ?_
  intro v5 w5 hown5 hgrow5 hnil5
  have G6 := hid (HH.out.by_ hgrow5 (fun b e => by cases e; exact SZ.out))
  have hv : ¬ v5 = .slice none 0 0 := fun e => by have h := (hnil5.1 e).1; injection h with h1; cases h1
  obtain ⟨g', c', rfl, h1, h2⟩ := row_some hown5 hv
  simp only [Nat.zero_add] at hown5 ⊢
  have HB5 := hid ((hgrow5.block w.heap.size (by simp; omega) (fun e => by have h2 := Option.some.inj (show some w.heap.size = some W0.heap.size from e); omega)).trans (heap_kept (heap_drawn HZ.out)))
  refine hKK.out _ _ G6.out (fun hH => ?_)
  clear HH hKK KK hnil5 hv
  have HH := hid hH
  clear hH
  refine wpAnyH_take (i := 15) (v := bookV k l s (.slice (some ⟨g', 0, none⟩) m c')) rfl (by kernel_rfl) (by kernel_rfl) (by kernel_rfl) (fun _ _ _ h => h) (Or.inl ⟨by rfl, fun _ _ => by first | rfl | (go_simp; done) | (go_simp; rfl) | (go_simp; intro h; exfalso; omega)⟩) HH.out ?_
  simp only [Act.put, List.getElem_toArray, List.getElem_cons_zero, List.getElem_cons_succ, List.setIfInBounds_toArray, List.set_cons_zero, List.set_cons_succ]
  refine wpAnyH_ready (rs := [16]) (by kernel_rfl) (by simp) (AllReadyH.cons rfl (fun KK hKK => ?_) AllReadyH.nil)
  rw [if_pos (by rfl)]
  refine wp_store_row 31 _ _ rfl w.heap.size (bookC k l s (.slice (some ⟨g', 0, none⟩) m c')) rfl rfl 31 (bookC 0 0 0 (.slice none 0 0)) HB5.out (by kernel_rfl) rfl (by simp [Value.oneCell']) ?_
  have G7 := hid (HH.out.setRow (Nat.le_refl _) (bookC k l s (.slice (some ⟨g', 0, none⟩) m c')))
  have HB7 := hid (heap_row_set (cs := bookC k l s (.slice (some ⟨g', 0, none⟩) m c')) HB5.out)
  refine hKK.out _ _ G7.out (fun hH => ?_)
  clear HH hKK KK hH
  refine wpAnyH_done (by kernel_rfl) ?_ _
  go_wp2_with fail
  refine bodyPost_ret (results_cell_row (by rfl) _ _ _ _ _ _ _ rfl HB7.out Tryd.underlying31 rfl (by kernel_rfl)) rfl ⟨g', c', rfl, ?_, G7.out⟩
  have h7 : w5.grownBy (w5.setRow w.heap.size (bookC k l s (.slice (some ⟨g', 0, none⟩) m c'))) (some w.heap.size) := ⟨rfl, rfl, rfl, by rw [size_setRow]; exact Nat.le_refl _, fun q _ hq => setRow_other w5 w.heap.size q _ (fun e => hq (by rw [e]))⟩
  exact ((OwnT.ofRow hown5 rfl HM.out).by_ h7 (fun b e => by cases e; left; omega)).widen SZ.out (by rw [size_setRow]; exact Nat.le_refl _)
end Go.Proofs.YtfaiehjomcgjgaaDoor
