/- Two stocks, piece by piece. -/
import Derived.Test.YtlhijammadadmaaLockI
import Derived.Test.YtlhijammadadmaaStillIn
import Derived.StillTailTactics
namespace Go.Proofs.Ytlhijammadadmaa
set_option linter.unusedVariables false
open Go.RowKit
attribute [local go_sem] Oper.semAt_some
/-- A list that is written over from the left. -/
def ovTo (col : Nat → Int) (xs : List Int) (k : Nat) : List Int := (List.range k).map col ++ xs.drop k
theorem ovTo_length {col : Nat → Int} {xs : List Int} {k : Nat} (h : k ≤ xs.length) : (ovTo col xs k).length = xs.length := by simp [ovTo]; omega
theorem ovTo_zero (col : Nat → Int) (xs : List Int) : ovTo col xs 0 = xs := by simp [ovTo]
theorem ovTo_all (col : Nat → Int) (xs : List Int) : ovTo col xs xs.length = (List.range xs.length).map col := by simp [ovTo]
theorem ovTo_get {col : Nat → Int} {xs : List Int} {k i : Nat} (hi : k ≤ i) : (ovTo col xs k).getD i 0 = xs.getD i 0 := by
  unfold ovTo
  simp only [List.getD_eq_getElem?_getD]
  rw [List.getElem?_append_right (by simpa using hi), List.length_map, List.length_range, List.getElem?_drop]
  congr 2; omega
theorem ovTo_set {col : Nat → Int} {xs : List Int} {k : Nat} (h : k < xs.length) : (ovTo col xs k).set k (col k) = ovTo col xs (k + 1) := by
  unfold ovTo
  rw [List.set_append_right _ _ (by simp), List.length_map, List.length_range, Nat.sub_self, List.range_succ, List.map_append, List.append_assoc]
  congr 1
  rw [List.drop_eq_getElem_cons h]
  rfl
/-- What becomes of two lists, number by number. -/
def cmbL (f : Int → Int → Int) (xs ys : List Int) : List Int := (List.range 44).map fun i => f (xs.getD i 0) (ys.getD i 0)
theorem cmbL_length (f : Int → Int → Int) (xs ys : List Int) : (cmbL f xs ys).length = 44 := by simp [cmbL]
theorem cmbL_get {f : Int → Int → Int} {xs ys : List Int} {k : Nat} (h : k < 44) : (cmbL f xs ys).getD k 0 = f (xs.getD k 0) (ys.getD k 0) := getD_map _ _ _ _ h
/-- Numbers that are not large. -/
def Mid (xs : List Int) : Prop := ∀ k, -10000 ≤ xs.getD k 0 ∧ xs.getD k 0 ≤ 10000
theorem mid_of_lock {xs : List Int} (h : lockB xs = true) : Mid xs := fun k => by have := lockB_get h k; omega
def shrt (x y : Int) : Int := if y - x < 0 then 0 else y - x
def diff (x y : Int) : Int := x - y
set_option maxRecDepth 100000 in
theorem shortage_any (x y : Int) (hx : -10000 ≤ x ∧ x ≤ 10000) (hy : -10000 ≤ y ∧ y ≤ 10000) (w : World) :
    Calls Try.prog 46 #[.int .i16 x, .int .i16 y] w fun e w' => e = .returned (.int .i16 (shrt x y)) ∧ w = w' := by
  have e1 : IntKind.i16.wrap (y - x) = y - x := IntWalk.i16_in _ (by omega)
  by_cases h : y - x < 0
  · have e2 : shrt x y = 0 := by unfold shrt; rw [if_pos h]
    rw [e2]
    clear e2 hx hy
    have h' : ¬ 0 < y - x := by omega
    go_enter Try.func46, Try.ntmps46
    go_wp2_with (rw [e1])
    go_ret
    exact ⟨rfl, rfl⟩
  · have e2 : shrt x y = y - x := by unfold shrt; rw [if_neg h]
    rw [e2]
    clear e2 hx hy
    go_enter Try.func46, Try.ntmps46
    go_wp2_with (rw [e1])
    go_ret
    exact ⟨rfl, rfl⟩
set_option maxHeartbeats 8000000 in
set_option maxRecDepth 100000 in
theorem combined_any (f : Int → Int → Int) (F : FuncId) (hcf : ∀ args w, (callFunc F args).run Try.prog w = .ok (.enter F args) w)
    (hF : ∀ x y : Int, (-10000 ≤ x ∧ x ≤ 10000) → (-10000 ≤ y ∧ y ≤ 10000) → ∀ w, Calls Try.prog F #[.int .i16 x, .int .i16 y] w fun e w' => e = .returned (.int .i16 (f x y)) ∧ w = w')
    (xs ys : List Int) (hx : xs.length = 44) (hy : ys.length = 44) (mx : Mid xs) (my : Mid ys) (w : World) :
    Calls Try.prog 45 #[.agg (kCells .i16 (stk xs)), .agg (kCells .i16 (stk ys)), .func (.func F) #[] #[]] w fun e w' => e = .returned (.agg (kCells .i16 (stk (cmbL f xs ys)))) ∧ Gr w w' := by
  have HF := hid hF
  have LX := hid hx
  have LY := hid hy
  have MX := hid mx
  have MY := hid my
  have HCF := hid hcf
  obtain ⟨col, hcol⟩ : ∃ col : Nat → Int, col = fun i => f (xs.getD i 0) (ys.getD i 0) := ⟨_, rfl⟩
  have HCOL := hid (fun i => show col i = f (xs.getD i 0) (ys.getD i 0) by rw [hcol])
  have HALL := hid (show ovTo col xs 44 = cmbL f xs ys by have := ovTo_all col xs; rw [hx] at this; rw [this, hcol]; rfl)
  clear hcol hF hx hy mx my hcf
  refine (callsIn_wide (n := 9)).1 (callsIn_of_wp_marks Try.func45 rfl trivial (wpIn_wide.2 ?_) rfl)
  simp only [Try.ntmps45, List.size_toArray, List.length_cons, List.length_nil, Nat.reduceAdd, Nat.reduceSub, Array.replicate_succ, Array.replicate_zero, List.push_toArray, List.append_toArray, List.nil_append, List.cons_append]
  go_wp2_with fail
  generalize hW2 : World.alloc _ (.cells _ 55) = W2
  have b0 : Hid (W2.heap[w.heap.size]? = some (.cells (kCells .i16 (stk xs)) 55 (0, 0))) := hid (by rw [← hW2]; exact heap_kept (heap_kept (heap_kept (heap_new rfl))))
  have b1 : Hid (W2.heap[w.heap.size + 1]? = some (.cells (kCells .i16 (stk ys)) 55 (0, 0))) := hid (by rw [← hW2]; exact heap_kept (heap_kept (heap_new (by simp))))
  have b2 : Hid (W2.heap[w.heap.size + 1 + 1]? = some (.cells #[.func (.func F) #[] #[]] 89 (0, 0))) := hid (by rw [← hW2]; exact heap_kept (heap_new (by simp)))
  have b3 : Hid (W2.heap[w.heap.size + 1 + 1 + 1]? = some (.cells (kCells .i16 zeros44) 55 (0, 0))) := hid (by rw [← hW2]; exact heap_new (by simp))
  have gr2 : Hid (Gr w W2) := hid (by rw [← hW2]; exact ((((Gr.refl _).alloc _).alloc _).alloc _).alloc _)
  have hz2 : Hid (W2.heap.size = w.heap.size + 4) := hid (by rw [← hW2]; simp)
  clear hW2
  refine wp_rangeFunc_V (lb := #[]) (gf := 39) rfl (callFunc_enter Try.func39 (by kernel_rfl) (by kernel_rfl)) (fun W _ _ => everyPiece_iter W) (fun _ _ _ _ _ _ _ => trivial) (fun _ => rfl)
    (fun n pre B => (B.heap[w.heap.size]? = some (.cells (kCells .i16 (stk (ovTo col xs pre.length))) 55 (0, 0)) ∧ B.heap[w.heap.size + 1]? = some (.cells (kCells .i16 (stk ys)) 55 (0, 0)) ∧ B.heap[w.heap.size + 1 + 1]? = some (.cells #[.func (.func F) #[] #[]] 89 (0, 0)) ∧ B.heap[w.heap.size + 1 + 1 + 1]? = some (.cells (kCells .i16 zeros44) 55 (0, 0))) ∧ Gr w B)
    (fun c pre B => False)
    ?init ?a1 ?assign ?body ?done ?stop
  case assign =>
    intro l x W K hK
    gi_wp2
    exact hK
  case init =>
    intro n B hb hn1 hn2
    exact ⟨⟨by rw [(hb.block _ (lt_of_heap b0.out)).trans b0.out, List.length_nil, ovTo_zero], (hb.block _ (lt_of_heap b1.out)).trans b1.out, (hb.block _ (lt_of_heap b2.out)).trans b2.out, (hb.block _ (lt_of_heap b3.out)).trans b3.out⟩, gr2.out.trans hb⟩
  case body =>
    rintro l n pre k A B hn1 hn2 ⟨⟨h0, h1, h2, h3⟩, hg⟩ ho - ⟨rfl, hk⟩
    have k0 := ho.heap h0 (.inl (by rw [hz2.out]; omega))
    have k1 := ho.heap h1 (.inl (by rw [hz2.out]; omega))
    have k2 := ho.heap h2 (.inl (by rw [hz2.out]; omega))
    have k3 := ho.heap h3 (.inl (by rw [hz2.out]; omega))
    have HGB := hid (Gr_out hg ho gr2.out.size)
    have HPL := hid (show (pre ++ [pre.length]).length = pre.length + 1 by rw [List.length_append]; rfl)
    have HP := hid (fun b V => (piece_p b hk V).mono fun _ _ h => (⟨h.1, h.2.symm⟩ : _ ∧ _))
    have HFI := hid (fun V => (HF.out _ _ (MX.out pre.length) (MY.out pre.length) V).mono fun _ _ h => (⟨h.1, h.2.symm⟩ : _ ∧ _))
    rw [← HCOL.out] at HFI
    clear h0 h1 h2 h3 hg ho hn2
    have HK0 := hid k0
    have HK1 := hid k1
    have HK2 := hid k2
    have HK3 := hid k3
    have hl44 := ovTo_length (col := col) (xs := xs) (k := pre.length) (by rw [LX.out]; omega)
    rw [LX.out] at hl44
    have c0 := cell_ints k0 (i := sOff pre.length) (by rw [stk_length hl44]; exact sOff_lt hk)
    rw [stk_get hl44 hk, ovTo_get (Nat.le_refl _)] at c0
    have c1 := cell_ints k1 (i := sOff pre.length) (by rw [stk_length LY.out]; exact sOff_lt hk)
    rw [stk_get LY.out hk] at c1
    have c2 : B.cell? ⟨w.heap.size + 1 + 1, 0, none⟩ = some (.func (.func F) #[] #[]) := by rw [cell_of_row _ _ _ _ _ _ k2]; rfl
    have f0 : B.frozen? ⟨w.heap.size, sOff pre.length, none⟩ = false := frozen_of_row _ _ _ _ _ k0
    have HSET := hid ((stk_set hl44 hk (col pre.length)).trans (by rw [ovTo_set (by rw [LX.out]; exact hk)]))
    have hcf := HCF.out
    clear k0 k1 k2 k3 hl44
    have HK := hid hk
    clear hk
    generalize pre ++ [pre.length] = pre' at *
    generalize pre.length = k at *
    generalize pNum k = y at *
    generalize xs.getD k 0 = xk at *
    generalize ys.getD k 0 = yk at *
    generalize col k = z at *
    generalize sOff k = o at *
    gi_wp2
    refine wpIn_region_still_tail 13 rfl (by kernel_rfl) (by kernel_rfl) ?_
    simp only [List.take_succ_cons, List.take_zero, List.drop_succ_cons, List.drop_zero]
    still_step
    still_call (HP.out _ _)
    still_step
    still_step
    still_call (HP.out _ _)
    still_step
    still_step
    still_step
    still_call (HP.out _ _)
    still_step
    still_step
    still_call (HFI.out _)
    still_step
    refine wpStill_nil ?_
    all_goals
      gi_wp2
      refine ⟨((Ins.refl _ _ _).setCell (.inl (by dsimp only; have := hz2.out; omega)) _).drew, ⟨?_, heap_stored (w := B) (by dsimp only; omega) HK1.out, heap_stored (w := B) (by dsimp only; omega) HK2.out, heap_stored (w := B) (by dsimp only; omega) HK3.out⟩, (HGB.out.setCell (p := ⟨w.heap.size, o, none⟩) (by dsimp only; omega) _).drew⟩
      rw [HPL.out, ← HSET.out]
      exact heap_int_set HK0.out
  case done =>
    intro n xs' A W hn1 hn2 hS hI ho hd
    obtain ⟨⟨h0, -, -, h3⟩, hg⟩ := hI
    have hS' : xs'.length = 44 := hS
    rw [hS', HALL.out] at h0
    have k0 := hid (ho.heap h0 (.inl (by rw [hz2.out]; omega)))
    have k3 := hid (ho.heap h3 (.inl (by rw [hz2.out]; omega)))
    have HG := hid (Gr_out hg ho gr2.out.size)
    have HD := hid hd
    have HLS := hid (stk_length (cmbL_length f xs ys))
    clear hd h0 h3 hg ho hS hS' hn2
    go_wp2_with (first | (refine wpList_load_struct rfl 55 _ rfl _ rfl _ (kCells .i16 (stk (cmbL f xs ys))) _ k0.out Try.underlying55 rfl (by rw [kCells_size, HLS.out]; kernel_rfl) ?_) | (refine wpList_store_cells rfl 55 _ _ rfl _ (kCells .i16 (stk (cmbL f xs ys))) (kCells .i16 zeros44) rfl rfl _ 44 k3.out (by kernel_rfl) (by rw [kCells_size, HLS.out]) rfl (kCells_one _ _) ?_))
    refine leaves_mark (heap_row_kept (by rw [hz2.out]; omega) HD.out) (results_cell_row (by rfl) _ _ _ _ _ _ _ rfl (heap_putObj (by rw [hz2.out]; omega) (heap_row_set k3.out)) Try.underlying55 rfl (by rw [kCells_size, HLS.out]; kernel_rfl)) ⟨rfl, Gr_putObj ((show Gr w W from HG.out).setRow (by omega) _) (by rw [hz2.out]; omega) _⟩
  case stop =>
    rintro c pre A W - h
    exact h.elim
end Go.Proofs.Ytlhijammadadmaa
