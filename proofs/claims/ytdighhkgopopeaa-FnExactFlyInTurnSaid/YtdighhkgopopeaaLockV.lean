/- ValidLocker of the program. -/
import Derived.Test.YtdighhkgopopeaaLockI
namespace Go.Proofs.Ytdighhkgopopeaa
set_option linter.unusedVariables false
open Go.RowKit
attribute [local go_sem] Oper.semAt_some
set_option maxHeartbeats 2000000 in
set_option maxRecDepth 100000 in
theorem impl_ValidLocker_any (xs : List Int) (hl : xs.length = 44) (hf : Fits .i16 xs) (w : World) :
    Calls Try.prog 68 #[.agg (kCells .i16 xs)] w fun e w' => e = .returned (.bool (lockB xs)) ∧ Gr w w' := by
  have L := hid hl
  have LS := hid (stk_length hl)
  have HF := hid hf
  have HST := hid (stockOf_any xs hl)
  clear hl hf
  have b0 : Hid (((w.alloc (.cells (kCells .i16 xs) 31)).alloc (.cells #[.bool false] 4)).heap[w.heap.size]? = some (.cells (kCells .i16 xs) 31 (0, 0))) := hid (heap_kept (heap_new rfl))
  have b1 : Hid (((w.alloc (.cells (kCells .i16 xs) 31)).alloc (.cells #[.bool false] 4)).heap[w.heap.size + 1]? = some (.cells #[.bool false] 4 (0, 0))) := hid (heap_new (by simp))
  have gr : Hid (Gr w ((w.alloc (.cells (kCells .i16 xs) 31)).alloc (.cells #[.bool false] 4))) := hid (((Gr.refl _).alloc _).alloc _)
  refine (callsIn_wide (n := 9)).1 (callsIn_of_wp_marks Try.func68 rfl trivial (wpIn_wide.2 ?_) rfl)
  simp only [Try.ntmps68, List.size_toArray, List.length_cons, List.length_nil, Nat.reduceAdd, Nat.reduceSub, Array.replicate_succ, Array.replicate_zero, List.push_toArray, List.append_toArray, List.nil_append, List.cons_append]
  go_wp2_with (refine wpList_load_struct rfl 31 _ rfl _ rfl _ (kCells .i16 xs) _ b0.out Try.underlying31 rfl (by rw [kCells_size, L.out]; kernel_rfl) ?_)
  refine (HST.out _).mono ?_
  rintro e W1 ⟨rfl, g1⟩
  replace b1 := hid (g1.heap b1.out)
  replace gr := hid (gr.out.trans g1)
  clear g1 b0
  have b2 : Hid ((W1.alloc (.cells (kCells .i16 zeros44) 64)).heap[W1.heap.size]? = some (.cells (kCells .i16 zeros44) 64 (0, 0))) := hid (heap_new rfl)
  go_wp2_with (refine wpList_store_cells rfl 64 _ _ rfl _ (kCells .i16 (stk xs)) (kCells .i16 zeros44) rfl rfl _ 44 b2.out (by kernel_rfl) (by rw [kCells_size, LS.out]) rfl (kCells_one _ _) ?_; generalize hW2 : World.setRow _ _ (kCells .i16 (stk xs)) = W2)
  have hz2 : W2.heap.size = W1.heap.size + 1 := by rw [← hW2, size_setRow]; simp
  have c2 : Hid (W2.heap[W1.heap.size]? = some (.cells (kCells .i16 (stk xs)) 64 (0, 0))) := hid (by rw [← hW2]; exact heap_row_set b2.out)
  have hw1 := gr.out.size
  have c1 : Hid (W2.heap[w.heap.size + 1]? = some (.cells #[.bool false] 4 (0, 0))) := hid (by rw [← hW2]; exact heap_row_kept (by have := lt_of_heap b1.out; omega) (heap_kept b1.out))
  have gr2 : Hid (Gr w W2) := hid (by rw [← hW2]; exact (gr.out.alloc _).setRow (by omega) _)
  have hlt1 := lt_of_heap b1.out
  clear hW2 b1 b2 gr
  have HZ := hid hz2
  have HL1 := hid hlt1
  clear hz2 hw1 hlt1
  refine wp_rangeFunc_V (lb := #[]) (gf := 69) rfl (callFunc_enter Try.func69 (by kernel_rfl) (by kernel_rfl)) (fun W _ _ => everyPiece_iter W) (fun _ _ _ _ _ _ _ => trivial) (fun _ => rfl)
    (fun n pre B => (B.heap[W1.heap.size]? = some (.cells (kCells .i16 (stk xs)) 64 (0, 0)) ∧ B.heap[w.heap.size + 1]? = some (.cells #[.bool false] 4 (0, 0))) ∧ Gr w B ∧ lockB (xs.take pre.length) = true ∧ pre.length ≤ 44)
    (fun c pre B => c = .ret ∧ lockB xs = false ∧ B.heap[w.heap.size + 1]? = some (.cells #[.bool false] 4 (0, 0)) ∧ Gr w B)
    ?init ?a1 ?assign ?body ?done ?stop
  case assign =>
    intro l x W K hK
    gi_wp2
    exact hK
  case init =>
    intro n B hb hn1 hn2
    exact ⟨⟨(hb.block _ (lt_of_heap c2.out)).trans c2.out, (hb.block _ (lt_of_heap c1.out)).trans c1.out⟩, gr2.out.trans hb, lockB_zero xs, Nat.zero_le _⟩
  case body =>
    rintro l n pre k A B hn1 hn2 ⟨⟨hs, hr⟩, hg, hok, hpl⟩ ho - ⟨rfl, hk⟩
    have hsB := ho.heap hs (.inl (by rw [HZ.out]; omega))
    have hrB := ho.heap hr (.inl (by rw [HZ.out]; have := HL1.out; omega))
    have hgB := hid (Gr_out hg ho gr2.out.size)
    have hc : B.cell? ⟨W1.heap.size, sOff pre.length, none⟩ = some (.int .i16 (xs.getD pre.length 0)) := by
      rw [← stk_get L.out hk]; exact cell_ints hsB (by rw [LS.out]; exact sOff_lt hk)
    have HT := hid (fun x hx (hc : B.cell? ⟨W1.heap.size, sOff pre.length, none⟩ = some (.int .i16 x)) => CallsIn.inRound l ((callsIn_wide (n := 6)).2 (there_p W1.heap.size hk x hx B hc)))
    have hx := HF.out.get16 pre.length
    have HS := hid (lockB_succ (xs := xs) (k := pre.length) (by rw [L.out]; omega) hok)
    have HNO := hid (lockB_no (xs := xs) (k := pre.length) (by rw [L.out]; omega))
    have HR := hid hrB
    have HSB := hid hsB
    have hcr : B.cell? ⟨w.heap.size + 1, 0, none⟩ = some (.bool false) := by rw [cell_of_row _ _ _ _ _ _ hrB]; rfl
    have hfr : B.frozen? ⟨w.heap.size + 1, 0, none⟩ = false := frozen_of_row _ _ _ _ _ hrB
    have HPL := hid (show (pre ++ [pre.length]).length = pre.length + 1 by rw [List.length_append]; rfl)
    clear hs hr hg hok ho hsB hrB hpl hn2
    generalize pre ++ [pre.length] = pre' at *
    have HK := hid hk
    clear hk
    generalize pre.length = k at *
    generalize xs.getD k 0 = x at *
    generalize pNum k = y at *
    have HC := hid hc
    have HX := hid hx
    clear hc hx
    cases hv : lkB x with
    | true =>
      have HB := hid (fun w => CallsIn.inRound l ((callsIn_wide (n := 6)).2 (isBetween_r (n := x) (a := 0) (b := 20) (r := true) hv w)))
      gi_wp2_with (first | (refine ⟨trivial, ?_⟩; gi_at_call 31; refine (HT.out x HX.out HC.out).mono ?_; rintro e w' ⟨rfl, rfl⟩) | (refine ⟨trivial, ?_⟩; gi_at_call 49; refine (HB.out _).mono ?_; rintro e w' ⟨rfl, rfl⟩))
      exact ⟨Ins.refl _ _ _, ⟨HSB.out, HR.out⟩, hgB.out, by rw [HPL.out]; exact HS.out hv, by rw [HPL.out]; exact HK.out⟩
    | false =>
      have HB := hid (fun w => CallsIn.inRound l ((callsIn_wide (n := 6)).2 (isBetween_r (n := x) (a := 0) (b := 20) (r := false) hv w)))
      have HNV := hid (HNO.out hv)
      clear HNO
      gi_wp2_with (first | (refine ⟨trivial, ?_⟩; gi_at_call 31; refine (HT.out x HX.out HC.out).mono ?_; rintro e w' ⟨rfl, rfl⟩) | (refine ⟨trivial, ?_⟩; gi_at_call 49; refine (HB.out _).mono ?_; rintro e w' ⟨rfl, rfl⟩))
      refine ⟨(Ins.refl _ _ _).setCell (.inl (by dsimp only; have := HL1.out; have := HZ.out; omega)) _, rfl, HNV.out, ?_, hgB.out.setCell (p := ⟨w.heap.size + 1, 0, none⟩) (by dsimp only; omega) _⟩
      rw [heap_setCell_same B _ 0 _ _ _ HR.out]
      rfl
  case done =>
    intro n xs' A W hn1 hn2 hS hI ho hd
    obtain ⟨⟨-, hr⟩, hg, hok, -⟩ := hI
    have hrW := ho.heap hr (.inl (by rw [HZ.out]; have := HL1.out; omega))
    have hgW := Gr_out hg ho gr2.out.size
    have HV := hid (lockB_all (by rw [L.out]; exact Nat.le_of_eq hS.symm) hok)
    have hcr : W.cell? ⟨w.heap.size + 1, 0, none⟩ = some (.bool false) := by rw [cell_of_row _ _ _ _ _ _ hrW]; rfl
    have hfr : W.frozen? ⟨w.heap.size + 1, 0, none⟩ = false := frozen_of_row _ _ _ _ _ hrW
    have HD := hid hd
    have HG := hid hgW
    have HR := hid hrW
    clear hd hgW hr hg hok ho hrW hS hn2
    go_wp2
    refine leaves_mark (v := .bool true) (heap_stored (by dsimp only; have := HL1.out; have := HZ.out; omega) HD.out) (results_cell_val rfl _ _ rfl ?_ Try.underlying4 rfl) ⟨ret_bool HV.out.symm, ?_⟩
    · exact cell_putObj (cell_stored_same hcr) (by dsimp only; have := HL1.out; have := HZ.out; omega)
    · exact Gr_putObj (HG.out.setCell (p := ⟨w.heap.size + 1, 0, none⟩) (by dsimp only; omega) _) (by have := gr2.out.size; omega) _
  case stop =>
    rintro c pre A W - ⟨rfl, hv, hr, hg⟩ ho hd
    have hrW := ho.heap hr (.inl (by rw [HZ.out]; have := HL1.out; omega))
    have hgW := Gr_out hg ho gr2.out.size
    have hcr : W.cell? ⟨w.heap.size + 1, 0, none⟩ = some (.bool false) := by rw [cell_of_row _ _ _ _ _ _ hrW]; rfl
    go_wp2
    refine leaves_mark (v := .bool false) hd (results_cell_val rfl _ _ rfl ?_ Try.underlying4 rfl) ⟨ret_bool hv.symm, ?_⟩
    · exact cell_putObj hcr (by dsimp only; have := HL1.out; have := HZ.out; omega)
    · exact Gr_putObj hgW (by have := gr2.out.size; omega) _
end Go.Proofs.Ytdighhkgopopeaa
