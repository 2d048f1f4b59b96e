/- The comparison of two flights; the least of them. -/
import Derived.Test.YtlgfibiggiknjaaDoorLongP
import Derived.Deep.RegionHeld3
namespace Go.Proofs.YtlgfibiggiknjaaDoor
set_option linter.unusedVariables false
open Go.RowKit
theorem better_iff (es : List En) (e f : Int × Int) : (orV (cmpV (lastF es f) (lastF es e)) (cmpV e.2 f.2) < 0) ↔ betterF es e f = true := by
  unfold orV cmpV betterF
  rw [Bool.or_eq_true, Bool.and_eq_true]
  simp only [decide_eq_true_eq]
  repeat' split
  all_goals omega
set_option maxRecDepth 100000 in
set_option maxHeartbeats 4000000 in
theorem cmpFl_any (es : List En) (al : Option Addr) (n cal : Nat) (hl : n = es.length) (hn : n ≤ 1048576) (eh ed fh fd : Nat) (h0 : eh < n) (h1 : ed < n) (h2 : fh < n) (h3 : fd < n) (ht : ∀ i, i < n → 0 ≤ (enAt es i).t ∧ (enAt es i).t ≤ 100000) (lp : Addr) (w : World) (hlp : w.cell? lp = some (.slice al n cal)) (ha : CellsOf w al (enCells es)) :
    Calls Tryd.prog 76 #[.agg #[.int .i64 (eh : Int), .int .i64 (ed : Int)], .agg #[.int .i64 (fh : Int), .int .i64 (fd : Int)], .pointer (some lp)] w fun e w' => e = .returned (.int .i64 (orV (cmpV (lastF es ((fh : Int), (fd : Int))) (lastF es ((eh : Int), (ed : Int)))) (cmpV (ed : Int) (fd : Int)))) ∧ Gr w w' := by
  obtain ⟨W1, hW1⟩ : ∃ W1, W1 = w.alloc (.cells #[.int .i64 (eh : Int), .int .i64 (ed : Int)] 89) := ⟨_, rfl⟩
  obtain ⟨W2, hW2⟩ : ∃ W2, W2 = W1.alloc (.cells #[.int .i64 (fh : Int), .int .i64 (fd : Int)] 89) := ⟨_, rfl⟩
  have g1 : Gr w W1 := by rw [hW1]; exact (Gr.refl w).alloc _
  have g2 : Gr W1 W2 := by rw [hW2]; exact (Gr.refl W1).alloc _
  have GW := hid (g1.trans g2)
  have s1 : W1.heap.size = w.heap.size + 1 := by rw [hW1]; simp
  have B0 := hid (show W2.heap[w.heap.size]? = some (.cells #[.int .i64 (eh : Int), .int .i64 (ed : Int)] 89 (0, 0)) from g2.heap (by rw [hW1]; exact heap_new rfl))
  have B1 := hid (show W2.heap[w.heap.size + 1]? = some (.cells #[.int .i64 (fh : Int), .int .i64 (fd : Int)] 89 (0, 0)) from by rw [hW2, ← s1]; exact heap_new rfl)
  have HLP := hid hlp
  have HE := hid (fun V (g : Gr w V) => lasting_any es al n cal hl hn eh ed h0 h1 ht V (ha.gr g))
  have HF := hid (fun V (g : Gr w V) => lasting_any es al n cal hl hn fh fd h2 h3 ht V (ha.gr g))
  generalize lastF es ((eh : Int), (ed : Int)) = le at *
  generalize lastF es ((fh : Int), (fd : Int)) = lf at *
  have HC0 := hid (fun V => cmp64_any lf le V)
  have HC1 := hid (fun V => cmpi_any (ed : Int) (fd : Int) V)
  generalize cmpV lf le = x at *
  generalize cmpV (ed : Int) (fd : Int) = y at *
  have HW1 := hid hW1
  have HW2 := hid hW2
  clear ha hl hlp ht hW1 hW2 g1 g2 s1 h0 h1 h2 h3
  go_enter Tryd.func76, Tryd.ntmps76
  go_wp2_with fail
  rw [← HW1.out, ← HW2.out]
  refine wp_region_held_drew (S := fun V => Gr W2 V) (by kernel_rfl) (Gr.refl W2).drew (fun hH => ?_)
  have HH := hid hH
  clear hH
  refine wpAnyH_take (i := 0) (v := .agg #[.int .i64 (fh : Int), .int .i64 (fd : Int)]) rfl (by kernel_rfl) (by kernel_rfl) (by kernel_rfl) (fun _ _ _ h => h) (yieldsIf_load_mid rfl 89 (.tmp 4) rfl (w.heap.size + 1) (0) rfl [.int .i64 (fh : Int), .int .i64 (fd : Int)] _ (fun V hV => range2 ⟨by rw [cell_of_row _ _ _ _ _ _ (hV.heap B1.out)]; rfl, by rw [cell_of_row _ _ _ _ _ _ (hV.heap B1.out)]; rfl⟩) Tryd.underlying89 rfl sizeFl) HH.out ?_
  simp only [Act.put, List.getElem_toArray, List.getElem_cons_zero, List.setIfInBounds_toArray, List.set_cons_zero, List.set_cons_succ]
  refine wpAnyH_take (i := 1) (v := .slice al n cal) rfl (by kernel_rfl) (by kernel_rfl) (by kernel_rfl) (fun _ _ _ h => h) (Or.inl ⟨by rfl, fun V hV => by (have hc := (GW.out.trans hV).cell HLP.out; first | (go_simp; done) | (go_simp; rfl))⟩) HH.out ?_
  simp only [Act.put, List.getElem_toArray, List.getElem_cons_zero, List.getElem_cons_succ, List.setIfInBounds_toArray, List.set_cons_zero, List.set_cons_succ]
  refine wpAnyH_take (i := 3) (v := .agg #[.int .i64 (eh : Int), .int .i64 (ed : Int)]) rfl (by kernel_rfl) (by kernel_rfl) (by kernel_rfl) (fun _ _ _ h => h) (yieldsIf_load_mid rfl 89 (.tmp 3) rfl w.heap.size (0) rfl [.int .i64 (eh : Int), .int .i64 (ed : Int)] _ (fun V hV => range2 ⟨by rw [cell_of_row _ _ _ _ _ _ (hV.heap B0.out)]; rfl, by rw [cell_of_row _ _ _ _ _ _ (hV.heap B0.out)]; rfl⟩) Tryd.underlying89 rfl sizeFl) HH.out ?_
  simp only [Act.put, List.getElem_toArray, List.getElem_cons_zero, List.getElem_cons_succ, List.setIfInBounds_toArray, List.set_cons_zero, List.set_cons_succ]
  refine wpAnyH_take (i := 4) (v := .slice al n cal) rfl (by kernel_rfl) (by kernel_rfl) (by kernel_rfl) (fun _ _ _ h => h) (Or.inl ⟨by rfl, fun V hV => by (have hc := (GW.out.trans hV).cell HLP.out; first | (go_simp; done) | (go_simp; rfl))⟩) HH.out ?_
  simp only [Act.put, List.getElem_toArray, List.getElem_cons_zero, List.getElem_cons_succ, List.setIfInBounds_toArray, List.set_cons_zero, List.set_cons_succ]
  refine wpAnyH_take (i := 7) (v := .pointer (some ⟨w.heap.size, 1, none⟩)) rfl (by kernel_rfl) (by kernel_rfl) (by kernel_rfl) (fun _ _ _ h => h) (Or.inl ⟨by rfl, fun _ _ => by first | rfl | (go_simp; done) | (go_simp; rfl) | (go_simp; intro h; exfalso; omega)⟩) HH.out ?_
  simp only [Act.put, List.getElem_toArray, List.getElem_cons_zero, List.getElem_cons_succ, List.setIfInBounds_toArray, List.set_cons_zero, List.set_cons_succ]
  refine wpAnyH_take (i := 8) (v := .int .i64 (ed : Int)) rfl (by kernel_rfl) (by kernel_rfl) (by kernel_rfl) (fun _ _ _ h => h) (Or.inl ⟨by rfl, fun V hV => by (have hc : V.cell? ⟨w.heap.size, 1, none⟩ = some (.int .i64 (ed : Int)) := by (rw [cell_of_row _ _ _ _ _ _ (hV.heap B0.out)]; rfl)); (first | (go_simp; done) | (go_simp; rfl))⟩) HH.out ?_
  simp only [Act.put, List.getElem_toArray, List.getElem_cons_zero, List.getElem_cons_succ, List.setIfInBounds_toArray, List.set_cons_zero, List.set_cons_succ]
  refine wpAnyH_take (i := 9) (v := .pointer (some ⟨w.heap.size + 1, 1, none⟩)) rfl (by kernel_rfl) (by kernel_rfl) (by kernel_rfl) (fun _ _ _ h => h) (Or.inl ⟨by rfl, fun _ _ => by first | rfl | (go_simp; done) | (go_simp; rfl) | (go_simp; intro h; exfalso; omega)⟩) HH.out ?_
  simp only [Act.put, List.getElem_toArray, List.getElem_cons_zero, List.getElem_cons_succ, List.setIfInBounds_toArray, List.set_cons_zero, List.set_cons_succ]
  refine wpAnyH_take (i := 10) (v := .int .i64 (fd : Int)) rfl (by kernel_rfl) (by kernel_rfl) (by kernel_rfl) (fun _ _ _ h => h) (Or.inl ⟨by rfl, fun V hV => by (have hc : V.cell? ⟨w.heap.size + 1, 1, none⟩ = some (.int .i64 (fd : Int)) := by (rw [cell_of_row _ _ _ _ _ _ (hV.heap B1.out)]; rfl)); (first | (go_simp; done) | (go_simp; rfl))⟩) HH.out ?_
  simp only [Act.put, List.getElem_toArray, List.getElem_cons_zero, List.getElem_cons_succ, List.setIfInBounds_toArray, List.set_cons_zero, List.set_cons_succ]
  refine wpAnyH_ready (rs := [2]) (by kernel_rfl) (by simp) (AllReadyH.cons rfl (fun KK hKK => ?_) AllReadyH.nil)
  rw [if_pos (by rfl)]
  go_simp
  refine (HF.out _ (GW.out.trans HH.out)).mono ?_
  rintro e V1 ⟨rfl, gV⟩
  dsimp only
  refine hKK.out _ _ (HH.out.trans gV) (fun hH => ?_)
  clear HH hKK KK
  have HH := hid hH
  clear hH
  refine wpAnyH_ready (rs := [5]) (by kernel_rfl) (by simp) (AllReadyH.cons rfl (fun KK hKK => ?_) AllReadyH.nil)
  rw [if_pos (by rfl)]
  go_simp
  refine (HE.out _ (GW.out.trans HH.out)).mono ?_
  rintro e V2 ⟨rfl, gV⟩
  dsimp only
  refine hKK.out _ _ (HH.out.trans gV) (fun hH => ?_)
  clear HH hKK KK
  have HH := hid hH
  clear hH
  refine wpAnyH_ready (rs := [6]) (by kernel_rfl) (by simp) (AllReadyH.cons rfl (fun KK hKK => ?_) AllReadyH.nil)
  rw [if_pos (by rfl)]
  go_simp
  refine (HC0.out _).mono ?_
  rintro e V ⟨rfl, rfl⟩
  dsimp only
  refine hKK.out _ _ HH.out (fun hH => ?_)
  clear HH hKK KK
  have HH := hid hH
  clear hH
  refine wpAnyH_ready (rs := [11]) (by kernel_rfl) (by simp) (AllReadyH.cons rfl (fun KK hKK => ?_) AllReadyH.nil)
  rw [if_pos (by rfl)]
  go_simp
  refine (HC1.out _).mono ?_
  rintro e V ⟨rfl, rfl⟩
  dsimp only
  refine hKK.out _ _ HH.out (fun hH => ?_)
  clear HH hKK KK
  have HH := hid hH
  clear hH
  refine wpAnyH_ready (rs := [12]) (by kernel_rfl) (by simp) (AllReadyH.cons rfl (fun KK hKK => ?_) AllReadyH.nil)
  rw [if_pos (by rfl)]
  go_simp
  have g9 := HH.out.alloc (.cells #[.int .i64 x, .int .i64 y] 3)
  have HOR := hid (cmpOr_any V2.heap.size 2 x y _ (by rw [cell_of_row _ _ _ _ _ _ (heap_new (w := V2) (o := .cells #[.int .i64 x, .int .i64 y] 3) rfl)]; rfl) (by rw [cell_of_row _ _ _ _ _ _ (heap_new (w := V2) (o := .cells #[.int .i64 x, .int .i64 y] 3) rfl)]; rfl))
  refine hKK.out _ _ g9 (fun hH => ?_)
  clear HH hKK KK g9
  have HH := hid hH
  clear hH
  refine wpAnyH_ready (rs := [13]) (by kernel_rfl) (by simp) (AllReadyH.cons rfl (fun KK hKK => ?_) AllReadyH.nil)
  rw [if_pos (by rfl)]
  go_simp
  refine (HOR.out).mono ?_
  rintro e V3 ⟨rfl, gV⟩
  dsimp only
  refine hKK.out _ _ (HH.out.trans gV) (fun hH => ?_)
  clear HH hKK KK
  have HH := hid hH
  clear hH
  refine wpAnyH_take (i := 14) (v := .int .i64 (orV x y)) rfl (by kernel_rfl) (by kernel_rfl) (by kernel_rfl) (fun _ _ _ h => h) (Or.inl ⟨by rfl, fun _ _ => by first | rfl | (go_simp; done) | (go_simp; rfl) | (go_simp; intro h; exfalso; omega)⟩) HH.out ?_
  simp only [Act.put, List.getElem_toArray, List.getElem_cons_zero, List.getElem_cons_succ, List.setIfInBounds_toArray, List.set_cons_zero, List.set_cons_succ]
  refine wpAnyH_done (by kernel_rfl) ?_ _
  go_wp2_with fail
  go_ret
  exact ⟨rfl, GW.out.trans HH.out⟩
end Go.Proofs.YtlgfibiggiknjaaDoor
