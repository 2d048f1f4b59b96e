/- slices.MinFunc over flights. -/
import Derived.Test.YtlgfibiggiknjaaDoorLongC
namespace Go.Proofs.YtlgfibiggiknjaaDoor
set_option linter.unusedVariables false
open Go.RowKit
theorem zeroFl (w : World) : (zeroValue 89).run Tryd.prog w = .ok (.agg #[.int .i64 0, .int .i64 0]) w := by kernel_rfl
set_option maxRecDepth 100000 in
set_option maxHeartbeats 4000000 in
theorem minFl_any (es : List En) (al : Option Addr) (n cal : Nat) (hl : n = es.length) (hn : n ≤ 1048576) (ht : ∀ i, i < n → 0 ≤ (enAt es i).t ∧ (enAt es i).t ≤ 100000) (E : List (Int × Int)) (m cap : Nat) (hm : m = E.length) (hm0 : 0 < m) (hm1 : m ≤ 1048576)
    (hE : ∀ j, j < m → ∃ h d : Nat, flAt E j = ((h : Int), (d : Int)) ∧ h < n ∧ d < n) (a : Option Addr) (lp : Addr) (w : World) (hlp : w.cell? lp = some (.slice al n cal)) (ha : CellsOf w al (enCells es)) (hb : CellsOf w a (flCells E)) :
    Calls Tryd.prog 75 #[.slice a m cap, .func (.func 76) #[] #[.pointer (some lp)]] w fun e w' => e = .returned (.agg #[.int .i64 (bestFl es E (m - 1)).1, .int .i64 (bestFl es E (m - 1)).2]) ∧ Gr w w' := by
  have HL := hid hlp
  have HB := hid hb
  have HM := hid hm
  have HE := hid hE
  have HBI := hid (fun k (h : k < m) => (best_inv es E k (by rw [← hm]; exact h)).1)
  have HCM := hid (fun eh ed fh fd h0 h1 h2 h3 V (g : Gr w V) => cmpFl_any es al n cal hl hn eh ed fh fd h0 h1 h2 h3 ht lp V (g.cell hlp) (ha.gr g))
  obtain ⟨b, off, rfl, q0, q1⟩ := fl_at hb (i := 0) (by omega)
  obtain ⟨h0, d0, e0, -, -⟩ := hE 0 hm0
  rw [e0] at q0 q1
  have HE0 := hid (show bestFl es E 0 = ((h0 : Int), (d0 : Int)) from e0)
  simp only [Nat.zero_mul, Nat.add_zero] at q0 q1
  have R0 := hid (fun V (g : Gr w V) => range2 (w := V) ⟨g.cell q0, g.cell q1⟩)
  have G1 := hid ((Gr.refl w).alloc (.cells #[.int .i64 0, .int .i64 0] 89))
  have hb0 : (1 : Int) ≤ m := by omega
  have HZ := hid zeroFl
  clear ha hlp hb hm hE e0 q0 q1 ht hl
  go_enter Tryd.func75, Tryd.ntmps75
  have RA := R0.out _ G1.out
  go_wp2_with (refine wpList_load_mid rfl 89 _ rfl b off (by first | rfl | simp) _ _ RA Tryd.underlying89 rfl sizeFl ?_)
  clear RA
  go_loopw [6] (fun iv wr => ∃ k : Nat, 1 ≤ k ∧ k ≤ m ∧ iv = .int .i64 k ∧ Hid (wr.heap[w.heap.size]? = some (.cells #[.int .i64 0, .int .i64 0] 89 (0, 0))) ∧ Hid (wr.heap[w.heap.size + 1]? = some (.cells #[.int .i64 (bestFl es E (k - 1)).1, .int .i64 (bestFl es E (k - 1)).2] 89 (0, 0))) ∧ Hid (Gr w wr)) (fun iv _ => m - (intOf iv).toNat)
  case atStart => exact ⟨1, Nat.le_refl _, by omega, rfl, hid (((Gr.refl _).alloc _).heap (heap_new rfl)), hid (by rw [show (1 : Nat) - 1 = 0 from rfl, HE0.out]; exact heap_new (by simp)), hid (G1.out.alloc _)⟩
  case round =>
    obtain ⟨k, hk1, hkm, rfl, B4, B5, hg⟩ := hrel
    obtain ⟨jj, hjj, hbe⟩ := HBI.out (k - 1) (by omega)
    obtain ⟨fh, fd, ef, hf1, hf2⟩ := HE.out jj (by omega)
    rw [ef] at hbe
    have HBE := hid hbe
    rw [hbe] at B5
    clear hbe ef hjj
    by_cases hlt : k < m
    · obtain ⟨eh, ed, ee, he1, he2⟩ := HE.out k hlt
      have PE := hid (fl_at' (HB.out.gr hg.out) (i := k) (by rw [← HM.out]; exact hlt))
      rw [ee] at PE
      have HC := hid (fun V g => HCM.out eh ed fh fd he1 he2 hf1 hf2 V g)
      have HBS := hid (show bestFl es E k = if betterF es ((eh : Int), (ed : Int)) ((fh : Int), (fd : Int)) = true then ((eh : Int), (ed : Int)) else ((fh : Int), (fd : Int)) by
        obtain ⟨q, rfl⟩ : ∃ q, k = q + 1 := ⟨k - 1, by omega⟩
        have h := HBE.out
        rw [Nat.add_sub_cancel] at h
        rw [bestFl, ee, h])
      have HV := hid (better_iff es ((eh : Int), (ed : Int)) ((fh : Int), (fd : Int)))
      dsimp only at HV
      generalize orV (cmpV (lastF es ((fh : Int), (fd : Int))) (lastF es ((eh : Int), (ed : Int)))) (cmpV (ed : Int) (fd : Int)) = v at *
      have HK1 := hid hk1
      have hk2 : (0 : Int) ≤ k := by omega
      have hk3 : (k : Int) < m := by omega
      clear ee he1 he2 hf1 hf2 hk1
      by_cases hv : v < 0
      · have HN := hid (show bestFl es E k = ((eh : Int), (ed : Int)) by rw [HBS.out, if_pos (HV.out.1 hv)])
        go_wp2_with fail
        refine wp_region_held_drew (S := fun V => Gr wr V) (by kernel_rfl) (Gr.refl wr).drew (fun hH => ?_)
        have HH := hid hH
        clear hH
        refine wpAnyH_take (i := 0) (v := .func (.func 76) #[] #[.pointer (some lp)]) rfl (by kernel_rfl) (by kernel_rfl) (by kernel_rfl) (fun _ _ _ h => h) (Or.inl ⟨by rfl, fun _ _ => by first | rfl | (go_simp; done) | (go_simp; rfl) | (go_simp; intro h; exfalso; omega)⟩) HH.out ?_
        simp only [Act.put, List.getElem_toArray, List.getElem_cons_zero, List.setIfInBounds_toArray, List.set_cons_zero, List.set_cons_succ]
        refine wpAnyH_take (i := 1) (v := .slice (some ⟨b, off, none⟩) m cap) rfl (by kernel_rfl) (by kernel_rfl) (by kernel_rfl) (fun _ _ _ h => h) (Or.inl ⟨by rfl, fun _ _ => by first | rfl | (go_simp; done) | (go_simp; rfl) | (go_simp; intro h; exfalso; omega)⟩) HH.out ?_
        simp only [Act.put, List.getElem_toArray, List.getElem_cons_zero, List.getElem_cons_succ, List.setIfInBounds_toArray, List.set_cons_zero, List.set_cons_succ]
        refine wpAnyH_take (i := 2) (v := .int .i64 (k : Int)) rfl (by kernel_rfl) (by kernel_rfl) (by kernel_rfl) (fun _ _ _ h => h) (Or.inl ⟨by rfl, fun _ _ => by first | rfl | (go_simp; done) | (go_simp; rfl) | (go_simp; intro h; exfalso; omega)⟩) HH.out ?_
        simp only [Act.put, List.getElem_toArray, List.getElem_cons_zero, List.getElem_cons_succ, List.setIfInBounds_toArray, List.set_cons_zero, List.set_cons_succ]
        refine wpAnyH_take (i := 3) (v := .pointer (some ⟨b, off + k * 2, none⟩)) rfl (by kernel_rfl) (by kernel_rfl) (by kernel_rfl) (fun _ _ _ h => h) (Or.inl ⟨by rfl, fun _ _ => by first | rfl | (go_simp; done) | (go_simp; rfl) | (go_simp; intro h; exfalso; omega)⟩) HH.out ?_
        simp only [Act.put, List.getElem_toArray, List.getElem_cons_zero, List.getElem_cons_succ, List.setIfInBounds_toArray, List.set_cons_zero, List.set_cons_succ]
        refine wpAnyH_take (i := 4) (v := .agg #[.int .i64 (eh : Int), .int .i64 (ed : Int)]) rfl (by kernel_rfl) (by kernel_rfl) (by kernel_rfl) (fun _ _ _ h => h) (yieldsIf_load_mid rfl 89 (.tmp 23) rfl b ((off + k * 2)) rfl [.int .i64 (eh : Int), .int .i64 (ed : Int)] _ (fun V hV => range2 ⟨hV.cell PE.out.1, hV.cell PE.out.2⟩) Tryd.underlying89 rfl sizeFl) HH.out ?_
        simp only [Act.put, List.getElem_toArray, List.getElem_cons_zero, List.getElem_cons_succ, List.setIfInBounds_toArray, List.set_cons_zero, List.set_cons_succ]
        refine wpAnyH_take (i := 5) (v := .agg #[.int .i64 (fh : Int), .int .i64 (fd : Int)]) rfl (by kernel_rfl) (by kernel_rfl) (by kernel_rfl) (fun _ _ _ h => h) (yieldsIf_load_mid rfl 89 (.tmp 5) rfl (w.heap.size + 1) (0) rfl [.int .i64 (fh : Int), .int .i64 (fd : Int)] _ (fun V hV => range2 ⟨by rw [cell_of_row _ _ _ _ _ _ (hV.heap B5.out)]; rfl, by rw [cell_of_row _ _ _ _ _ _ (hV.heap B5.out)]; rfl⟩) Tryd.underlying89 rfl sizeFl) HH.out ?_
        simp only [Act.put, List.getElem_toArray, List.getElem_cons_zero, List.getElem_cons_succ, List.setIfInBounds_toArray, List.set_cons_zero, List.set_cons_succ]
        refine wpAnyH_ready (rs := [6]) (by kernel_rfl) (by simp) (AllReadyH.cons rfl (fun KK hKK => ?_) AllReadyH.nil)
        rw [if_pos (by rfl)]
        go_simp
        refine (HC.out _ (hg.out.trans HH.out)).mono ?_
        rintro e V ⟨rfl, gV⟩
        dsimp only
        refine hKK.out _ _ (HH.out.trans gV) (fun hH => ?_)
        clear HH hKK KK
        have HH := hid hH
        clear hH
        refine wpAnyH_take (i := 7) (v := .bool (decide (v < 0))) rfl (by kernel_rfl) (by kernel_rfl) (by kernel_rfl) (fun _ _ _ h => h) (Or.inl ⟨by rfl, fun _ _ => by first | rfl | (go_simp; done) | (go_simp; rfl) | (go_simp; intro h; exfalso; omega)⟩) HH.out ?_
        simp only [Act.put, List.getElem_toArray, List.getElem_cons_zero, List.getElem_cons_succ, List.setIfInBounds_toArray, List.set_cons_zero, List.set_cons_succ]
        refine wpAnyH_done (by kernel_rfl) ?_ _
        have RG2 := hid (range2 ⟨HH.out.cell PE.out.1, HH.out.cell PE.out.2⟩)
        have B4' := hid (HH.out.heap B4.out)
        have B5' := HH.out.heap B5.out
        have HS := hid (heap_setCells_at (w.heap.size + 1) 89 [.int .i64 (eh : Int), .int .i64 (ed : Int)] 0 V [.int .i64 (fh : Int), .int .i64 (fd : Int)] B5' (by simp))
        have HSZ := hid hg.out.size
        have c50 : V.cell? ⟨w.heap.size + 1, 0, none⟩ = some (.int .i64 (fh : Int)) := by rw [cell_of_row _ _ _ _ _ _ B5']; rfl
        have c51 : V.cell? ⟨w.heap.size + 1, 1, none⟩ = some (.int .i64 (fd : Int)) := by rw [cell_of_row _ _ _ _ _ _ B5']; rfl
        have f50 : V.frozen? ⟨w.heap.size + 1, 0, none⟩ = false := frozen_of_row _ _ _ _ _ B5'
        have f51 : V.frozen? ⟨w.heap.size + 1, 1, none⟩ = false := frozen_of_row _ _ _ _ _ B5'
        have GV := hid (hg.out.trans HH.out)
        clear B5'
        go_wp2_with (refine wpList_load_mid rfl 89 _ rfl b (off + k * 2) rfl _ _ RG2.out Tryd.underlying89 rfl sizeFl ?_)
        go_roundw
        case rel => exact ⟨k + 1, by omega, by omega, by go_num, hid (by rw [heap_setCell_other _ ⟨w.heap.size + 1, 1, none⟩ _ _ (by simp), heap_setCell_other _ ⟨w.heap.size + 1, 0, none⟩ _ _ (by simp)]; exact B4'.out), hid (by rw [Nat.add_sub_cancel, HN.out]; have h := HS.out; simpa [World.setCells] using h), hid ((GV.out.setCell (by simp) _).setCell (by simp) _)⟩
        case measure => simp [intOf] <;> omega
      · have HN := hid (show bestFl es E k = ((fh : Int), (fd : Int)) by rw [HBS.out, if_neg (fun h => hv (HV.out.2 h))])
        go_wp2_with fail
        refine wp_region_held_drew (S := fun V => Gr wr V) (by kernel_rfl) (Gr.refl wr).drew (fun hH => ?_)
        have HH := hid hH
        clear hH
        refine wpAnyH_take (i := 0) (v := .func (.func 76) #[] #[.pointer (some lp)]) rfl (by kernel_rfl) (by kernel_rfl) (by kernel_rfl) (fun _ _ _ h => h) (Or.inl ⟨by rfl, fun _ _ => by first | rfl | (go_simp; done) | (go_simp; rfl) | (go_simp; intro h; exfalso; omega)⟩) HH.out ?_
        simp only [Act.put, List.getElem_toArray, List.getElem_cons_zero, List.setIfInBounds_toArray, List.set_cons_zero, List.set_cons_succ]
        refine wpAnyH_take (i := 1) (v := .slice (some ⟨b, off, none⟩) m cap) rfl (by kernel_rfl) (by kernel_rfl) (by kernel_rfl) (fun _ _ _ h => h) (Or.inl ⟨by rfl, fun _ _ => by first | rfl | (go_simp; done) | (go_simp; rfl) | (go_simp; intro h; exfalso; omega)⟩) HH.out ?_
        simp only [Act.put, List.getElem_toArray, List.getElem_cons_zero, List.getElem_cons_succ, List.setIfInBounds_toArray, List.set_cons_zero, List.set_cons_succ]
        refine wpAnyH_take (i := 2) (v := .int .i64 (k : Int)) rfl (by kernel_rfl) (by kernel_rfl) (by kernel_rfl) (fun _ _ _ h => h) (Or.inl ⟨by rfl, fun _ _ => by first | rfl | (go_simp; done) | (go_simp; rfl) | (go_simp; intro h; exfalso; omega)⟩) HH.out ?_
        simp only [Act.put, List.getElem_toArray, List.getElem_cons_zero, List.getElem_cons_succ, List.setIfInBounds_toArray, List.set_cons_zero, List.set_cons_succ]
        refine wpAnyH_take (i := 3) (v := .pointer (some ⟨b, off + k * 2, none⟩)) rfl (by kernel_rfl) (by kernel_rfl) (by kernel_rfl) (fun _ _ _ h => h) (Or.inl ⟨by rfl, fun _ _ => by first | rfl | (go_simp; done) | (go_simp; rfl) | (go_simp; intro h; exfalso; omega)⟩) HH.out ?_
        simp only [Act.put, List.getElem_toArray, List.getElem_cons_zero, List.getElem_cons_succ, List.setIfInBounds_toArray, List.set_cons_zero, List.set_cons_succ]
        refine wpAnyH_take (i := 4) (v := .agg #[.int .i64 (eh : Int), .int .i64 (ed : Int)]) rfl (by kernel_rfl) (by kernel_rfl) (by kernel_rfl) (fun _ _ _ h => h) (yieldsIf_load_mid rfl 89 (.tmp 23) rfl b ((off + k * 2)) rfl [.int .i64 (eh : Int), .int .i64 (ed : Int)] _ (fun V hV => range2 ⟨hV.cell PE.out.1, hV.cell PE.out.2⟩) Tryd.underlying89 rfl sizeFl) HH.out ?_
        simp only [Act.put, List.getElem_toArray, List.getElem_cons_zero, List.getElem_cons_succ, List.setIfInBounds_toArray, List.set_cons_zero, List.set_cons_succ]
        refine wpAnyH_take (i := 5) (v := .agg #[.int .i64 (fh : Int), .int .i64 (fd : Int)]) rfl (by kernel_rfl) (by kernel_rfl) (by kernel_rfl) (fun _ _ _ h => h) (yieldsIf_load_mid rfl 89 (.tmp 5) rfl (w.heap.size + 1) (0) rfl [.int .i64 (fh : Int), .int .i64 (fd : Int)] _ (fun V hV => range2 ⟨by rw [cell_of_row _ _ _ _ _ _ (hV.heap B5.out)]; rfl, by rw [cell_of_row _ _ _ _ _ _ (hV.heap B5.out)]; rfl⟩) Tryd.underlying89 rfl sizeFl) HH.out ?_
        simp only [Act.put, List.getElem_toArray, List.getElem_cons_zero, List.getElem_cons_succ, List.setIfInBounds_toArray, List.set_cons_zero, List.set_cons_succ]
        refine wpAnyH_ready (rs := [6]) (by kernel_rfl) (by simp) (AllReadyH.cons rfl (fun KK hKK => ?_) AllReadyH.nil)
        rw [if_pos (by rfl)]
        go_simp
        refine (HC.out _ (hg.out.trans HH.out)).mono ?_
        rintro e V ⟨rfl, gV⟩
        dsimp only
        refine hKK.out _ _ (HH.out.trans gV) (fun hH => ?_)
        clear HH hKK KK
        have HH := hid hH
        clear hH
        refine wpAnyH_take (i := 7) (v := .bool (decide (v < 0))) rfl (by kernel_rfl) (by kernel_rfl) (by kernel_rfl) (fun _ _ _ h => h) (Or.inl ⟨by rfl, fun _ _ => by first | rfl | (go_simp; done) | (go_simp; rfl) | (go_simp; intro h; exfalso; omega)⟩) HH.out ?_
        simp only [Act.put, List.getElem_toArray, List.getElem_cons_zero, List.getElem_cons_succ, List.setIfInBounds_toArray, List.set_cons_zero, List.set_cons_succ]
        refine wpAnyH_done (by kernel_rfl) ?_ _
        have B4' := hid (HH.out.heap B4.out)
        have B5' := hid (HH.out.heap B5.out)
        have GV := hid (hg.out.trans HH.out)
        go_wp2_with fail
        go_roundw
        case rel => exact ⟨k + 1, by omega, by omega, by go_num, B4', hid (by rw [Nat.add_sub_cancel, HN.out]; exact B5'.out), GV⟩
        case measure => simp [intOf] <;> omega
    · obtain rfl : k = m := by omega
      have c50 : wr.cell? ⟨w.heap.size + 1, 0, none⟩ = some (.int .i64 (fh : Int)) := by rw [cell_of_row _ _ _ _ _ _ B5.out]; rfl
      have c51 : wr.cell? ⟨w.heap.size + 1, 1, none⟩ = some (.int .i64 (fd : Int)) := by rw [cell_of_row _ _ _ _ _ _ B5.out]; rfl
      have RB := hid (range2 ⟨c50, c51⟩)
      have c40 : wr.cell? ⟨w.heap.size, 0, none⟩ = some (.int .i64 0) := by rw [cell_of_row _ _ _ _ _ _ B4.out]; rfl
      have c41 : wr.cell? ⟨w.heap.size, 1, none⟩ = some (.int .i64 0) := by rw [cell_of_row _ _ _ _ _ _ B4.out]; rfl
      have f40 : wr.frozen? ⟨w.heap.size, 0, none⟩ = false := frozen_of_row _ _ _ _ _ B4.out
      have f41 : wr.frozen? ⟨w.heap.size, 1, none⟩ = false := frozen_of_row _ _ _ _ _ B4.out
      have HS := hid (heap_setCells_at w.heap.size 89 [.int .i64 (fh : Int), .int .i64 (fd : Int)] 0 wr [.int .i64 0, .int .i64 0] B4.out (by simp))
      have HS2 := hid (show ((wr.setCell ⟨w.heap.size, 0, none⟩ (.int .i64 (fh : Int))).setCell ⟨w.heap.size, 1, none⟩ (.int .i64 (fd : Int))).heap[w.heap.size]? = some (.cells #[.int .i64 (fh : Int), .int .i64 (fd : Int)] 89 (0, 0)) by have h := HS.out; simpa [World.setCells] using h)
      go_wp2_with fail
      refine bodyPost_ret (v := .agg #[.int .i64 (fh : Int), .int .i64 (fd : Int)]) (results_cell_row (by rfl) _ _ _ _ _ _ _ rfl HS2.out Tryd.underlying89 rfl (by kernel_rfl)) rfl ⟨?_, ?_⟩
      · rw [HBE.out]
      · exact (hg.out.setCell (Nat.le_refl _) _).setCell (Nat.le_refl _) _
end Go.Proofs.YtlgfibiggiknjaaDoor
