/- CountPieces: the functions, the law's walk. -/
import Derived.Test.YtlhijammadadmaaLockV
import Derived.Stop.RegionWithIn
namespace Go.Proofs.Ytlhijammadadmaa
set_option linter.unusedVariables false
open Go.RowKit
attribute [local go_sem] Oper.semAt_some
set_option maxHeartbeats 2000000 in
set_option maxRecDepth 100000 in
theorem count_any (xs : List Int) (hl : xs.length = 44) (hv : lockB xs = true) (w : World) :
    Calls Try.prog 47 #[.agg (kCells .i16 (stk xs))] w fun e w' => e = .returned (.int .i64 (sumTo xs 44)) ∧ Gr w w' := by
  have L := hid hl
  have LS := hid (stk_length hl)
  have HV := hid hv
  clear hl hv
  obtain ⟨W2, hW2⟩ : ∃ W2, W2 = (w.alloc (.cells (kCells .i16 (stk xs)) 55)).alloc (.cells #[.int .i64 0] 2) := ⟨_, rfl⟩
  have c0 : Hid (W2.heap[w.heap.size]? = some (.cells (kCells .i16 (stk xs)) 55 (0, 0))) := hid (by rw [hW2]; exact heap_kept (heap_new rfl))
  have c1 : Hid (W2.heap[w.heap.size + 1]? = some (.cells #[.int .i64 0] 2 (0, 0))) := hid (by rw [hW2]; exact heap_new (by simp))
  have hz2 : Hid (W2.heap.size = w.heap.size + 2) := hid (by rw [hW2]; simp)
  have gr2 : Hid (Gr w W2) := hid (by rw [hW2]; exact ((Gr.refl _).alloc _).alloc _)
  refine (callsIn_wide (n := 9)).1 (callsIn_of_wp_marks Try.func47 rfl trivial (wpIn_wide.2 ?_) rfl)
  simp only [Try.ntmps47, List.size_toArray, List.length_cons, List.length_nil, Nat.reduceAdd, Nat.reduceSub, Array.replicate_succ, Array.replicate_zero, List.push_toArray, List.append_toArray, List.nil_append, List.cons_append]
  go_wp2_with fail
  rw [← hW2]
  clear hW2
  refine wp_rangeFunc_V (lb := #[]) (gf := 39) rfl (callFunc_enter Try.func39 (by kernel_rfl) (by kernel_rfl)) (fun W _ _ => everyPiece_iter W) (fun _ _ _ _ _ _ _ => trivial) (fun _ => rfl)
    (fun n pre B => (B.heap[w.heap.size]? = some (.cells (kCells .i16 (stk xs)) 55 (0, 0)) ∧ B.heap[w.heap.size + 1]? = some (.cells #[.int .i64 (sumTo xs pre.length)] 2 (0, 0))) ∧ Gr w B)
    (fun c pre B => False)
    ?init ?a1 ?assign ?body ?done ?stop
  case assign =>
    intro l x W K hK
    gi_wp2
    exact hK
  case init =>
    intro n B hb hn1 hn2
    exact ⟨⟨(hb.block _ (lt_of_heap c0.out)).trans c0.out, (hb.block _ (lt_of_heap c1.out)).trans c1.out⟩, gr2.out.trans hb⟩
  case body =>
    rintro l n pre k A B hn1 hn2 ⟨⟨hs, hr⟩, hg⟩ ho - ⟨rfl, hk⟩
    have hsB := ho.heap hs (.inl (by rw [hz2.out]; omega))
    have hrB := ho.heap hr (.inl (by rw [hz2.out]; omega))
    have hgB := hid (Gr_out hg ho gr2.out.size)
    have hc : B.cell? ⟨w.heap.size, sOff pre.length, none⟩ = some (.int .i16 (xs.getD pre.length 0)) := by
      rw [← stk_get L.out hk]; exact cell_ints hsB (by rw [LS.out]; exact sOff_lt hk)
    have hx := lockB_get HV.out pre.length
    have HT := hid (fun V hV => CallsIn.inRound l ((callsIn_wide (n := 6)).2 (there_p w.heap.size hk (xs.getD pre.length 0) (by omega) V hV)))
    have HC := hid hc
    have hsum := sumTo_bd HV.out pre.length
    have HSUM := hid (show sumTo xs (pre.length + 1) = sumTo xs pre.length + xs.getD pre.length 0 from rfl)
    have HR := hid hrB
    have HSB := hid hsB
    have hcr : B.cell? ⟨w.heap.size + 1, 0, none⟩ = some (.int .i64 (sumTo xs pre.length)) := by rw [cell_of_row _ _ _ _ _ _ hrB]; rfl
    have hfr : B.frozen? ⟨w.heap.size + 1, 0, none⟩ = false := frozen_of_row _ _ _ _ _ hrB
    have HPL := hid (show (pre ++ [pre.length]).length = pre.length + 1 by rw [List.length_append]; rfl)
    have e1 : IntKind.i64.wrap (sumTo xs pre.length + xs.getD pre.length 0) = sumTo xs pre.length + xs.getD pre.length 0 := IntWalk.i64_in _ (by omega)
    clear hs hr hg ho hsB hrB hn2 hk hc
    generalize pre ++ [pre.length] = pre' at *
    generalize pre.length = k at *
    generalize xs.getD k 0 = x at *
    generalize pNum k = y at *
    generalize sumTo xs k = s at *
    clear hsum hx
    gi_wp2
    gi_region_with (refine ⟨trivial, ?_⟩; gi_at_call 41; refine (HT.out B.drew HC.out).mono ?_; rintro e w' ⟨rfl, rfl⟩)
    all_goals
      gi_wp2
      refine ⟨((Ins.refl _ _ _).setCell (.inl (by dsimp only; have := hz2.out; omega)) _).drew, ⟨heap_stored (w := B) (by dsimp only; omega) HSB.out, ?_⟩, (hgB.out.setCell (p := ⟨w.heap.size + 1, 0, none⟩) (by dsimp only; omega) _).drew⟩
      show (B.setCell _ _).heap[_]? = _
      rw [heap_setCell_same B _ 0 _ _ _ HR.out, HPL.out, HSUM.out]
      rfl
  case done =>
    intro n xs' A W hn1 hn2 hS hI ho hd
    obtain ⟨⟨-, hr⟩, hg⟩ := hI
    have hS' : xs'.length = 44 := hS
    rw [hS'] at hr
    have hrW := ho.heap hr (.inl (by rw [hz2.out]; omega))
    have hgW := Gr_out hg ho gr2.out.size
    have hcr : W.cell? ⟨w.heap.size + 1, 0, none⟩ = some (.int .i64 (sumTo xs 44)) := by rw [cell_of_row _ _ _ _ _ _ hrW]; rfl
    have HD := hid hd
    have HG := hid hgW
    clear hd hgW hr hg ho hrW hS hS' hn2
    obtain ⟨s, hs⟩ : ∃ s, s = sumTo xs 44 := ⟨_, rfl⟩
    rw [← hs] at hcr
    have HS := hid hs
    clear hs
    go_wp2
    exact leaves_mark HD.out (results_tmp rfl _ _ _) ⟨by rw [← HS.out]; rfl, Gr_putObj HG.out (by rw [hz2.out]; omega) _⟩
  case stop =>
    rintro c pre A W - h
    exact h.elim
def cntV (xs : List Int) : Int := if lockB xs then sumTo xs 44 else 0
def lockC (xs : List Int) : Int := if lockB xs then 0 else 1
end Go.Proofs.Ytlhijammadadmaa
