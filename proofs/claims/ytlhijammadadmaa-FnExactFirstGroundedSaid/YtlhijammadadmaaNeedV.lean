/- What hoists need: the program's functions. -/
import Derived.Test.YtlhijammadadmaaNeedM
import Derived.Test.YtlhijammadadmaaHoistsA
import Derived.Test.YtlhijammadadmaaHoistS
import Derived.Test.YtlhijammadadmaaLockC
import Derived.Test.YtlhijammadadmaaLockG
import Derived.Test.YtlhijammadadmaaLockH
namespace Go.Proofs.Ytlhijammadadmaa
set_option linter.unusedVariables false
open Go.RowKit
section
attribute [local go_sem] Oper.semAt_some
theorem sumTo_mid {xs : List Int} (h : Mid xs) (k : Nat) : -(10000 * (k : Int)) ≤ sumTo xs k ∧ sumTo xs k ≤ 10000 * k := by
  induction k with
  | zero => simp [sumTo]
  | succ k ih => have := h k; simp only [sumTo]; omega
set_option maxHeartbeats 2000000 in
set_option maxRecDepth 100000 in
theorem count_mid (xs : List Int) (hl : xs.length = 44) (hv : Mid xs) (w : World) :
    Calls Try.prog 47 #[.agg (kCells .i16 (stk xs))] w fun e w' => e = .returned (.int .i64 (sumTo xs 44)) ∧ Gr w w' := by
  have L := hid hl
  have LS := hid (stk_length hl)
  have HV := hid hv
  clear hl hv
  obtain ⟨W2, hW2⟩ : ∃ W2, W2 = (w.alloc (.cells (kCells .i16 (stk xs)) 55)).alloc (.cells #[.int .i64 0] 2) := ⟨_, rfl⟩
  have c0 : Hid (W2.heap[w.heap.size]? = some (.cells (kCells .i16 (stk xs)) 55 (0, 0))) := hid (by rw [hW2]; exact heap_kept (heap_new rfl))
  have c1 : Hid (W2.heap[w.heap.size + 1]? = some (.cells #[.int .i64 0] 2 (0, 0))) := hid (by rw [hW2]; exact heap_new (by simp))
  have hz2 : Hid (W2.heap.size = w.heap.size + 2) := hid (by rw [hW2]; simp)
  have gr2 : Hid (Gr w W2) := hid (by rw [hW2]; exact ((Gr.refl _).alloc _).alloc _)
  refine (callsIn_wide (n := 9)).1 (callsIn_of_wp_marks Try.func47 rfl trivial (wpIn_wide.2 ?_) rfl)
  simp only [Try.ntmps47, List.size_toArray, List.length_cons, List.length_nil, Nat.reduceAdd, Nat.reduceSub, Array.replicate_succ, Array.replicate_zero, List.push_toArray, List.append_toArray, List.nil_append, List.cons_append]
  go_wp2_with fail
  rw [← hW2]
  clear hW2
  refine wp_rangeFunc_V (lb := #[]) (gf := 39) rfl (callFunc_enter Try.func39 (by kernel_rfl) (by kernel_rfl)) (fun W _ _ => everyPiece_iter W) (fun _ _ _ _ _ _ _ => trivial) (fun _ => rfl)
    (fun n pre B => (B.heap[w.heap.size]? = some (.cells (kCells .i16 (stk xs)) 55 (0, 0)) ∧ B.heap[w.heap.size + 1]? = some (.cells #[.int .i64 (sumTo xs pre.length)] 2 (0, 0))) ∧ Gr w B)
    (fun c pre B => False)
    ?init ?a1 ?assign ?body ?done ?stop
  case assign =>
    intro l x W K hK
    gi_wp2
    exact hK
  case init =>
    intro n B hb hn1 hn2
    exact ⟨⟨(hb.block _ (lt_of_heap c0.out)).trans c0.out, (hb.block _ (lt_of_heap c1.out)).trans c1.out⟩, gr2.out.trans hb⟩
  case body =>
    rintro l n pre k A B hn1 hn2 ⟨⟨hs, hr⟩, hg⟩ ho - ⟨rfl, hk⟩
    have hsB := ho.heap hs (.inl (by rw [hz2.out]; omega))
    have hrB := ho.heap hr (.inl (by rw [hz2.out]; omega))
    have hgB := hid (Gr_out hg ho gr2.out.size)
    have hc : B.cell? ⟨w.heap.size, sOff pre.length, none⟩ = some (.int .i16 (xs.getD pre.length 0)) := by
      rw [← stk_get L.out hk]; exact cell_ints hsB (by rw [LS.out]; exact sOff_lt hk)
    have hx := HV.out pre.length
    have HT := hid (fun V hV => CallsIn.inRound l ((callsIn_wide (n := 6)).2 (there_p w.heap.size hk (xs.getD pre.length 0) (by omega) V hV)))
    have HC := hid hc
    have hsum := sumTo_mid HV.out pre.length
    have HSUM := hid (show sumTo xs (pre.length + 1) = sumTo xs pre.length + xs.getD pre.length 0 from rfl)
    have HR := hid hrB
    have HSB := hid hsB
    have hcr : B.cell? ⟨w.heap.size + 1, 0, none⟩ = some (.int .i64 (sumTo xs pre.length)) := by rw [cell_of_row _ _ _ _ _ _ hrB]; rfl
    have hfr : B.frozen? ⟨w.heap.size + 1, 0, none⟩ = false := frozen_of_row _ _ _ _ _ hrB
    have HPL := hid (show (pre ++ [pre.length]).length = pre.length + 1 by rw [List.length_append]; rfl)
    have e1 : IntKind.i64.wrap (sumTo xs pre.length + xs.getD pre.length 0) = sumTo xs pre.length + xs.getD pre.length 0 := IntWalk.i64_in _ (by omega)
    clear hs hr hg ho hsB hrB hn2 hk hc
    generalize pre ++ [pre.length] = pre' at *
    generalize pre.length = k at *
    generalize xs.getD k 0 = x at *
    generalize pNum k = y at *
    generalize sumTo xs k = s at *
    clear hsum hx
    gi_wp2
    gi_region_with (refine ⟨trivial, ?_⟩; gi_at_call 41; refine (HT.out B.drew HC.out).mono ?_; rintro e w' ⟨rfl, rfl⟩)
    all_goals
      gi_wp2
      refine ⟨((Ins.refl _ _ _).setCell (.inl (by dsimp only; have := hz2.out; omega)) _).drew, ⟨heap_stored (w := B) (by dsimp only; omega) HSB.out, ?_⟩, (hgB.out.setCell (p := ⟨w.heap.size + 1, 0, none⟩) (by dsimp only; omega) _).drew⟩
      show (B.setCell _ _).heap[_]? = _
      rw [heap_setCell_same B _ 0 _ _ _ HR.out, HPL.out, HSUM.out]
      rfl
  case done =>
    intro n xs' A W hn1 hn2 hS hI ho hd
    obtain ⟨⟨-, hr⟩, hg⟩ := hI
    have hS' : xs'.length = 44 := hS
    rw [hS'] at hr
    have hrW := ho.heap hr (.inl (by rw [hz2.out]; omega))
    have hgW := Gr_out hg ho gr2.out.size
    have hcr : W.cell? ⟨w.heap.size + 1, 0, none⟩ = some (.int .i64 (sumTo xs 44)) := by rw [cell_of_row _ _ _ _ _ _ hrW]; rfl
    have HD := hid hd
    have HG := hid hgW
    clear hd hgW hr hg ho hrW hS hS' hn2
    obtain ⟨s, hs⟩ : ∃ s, s = sumTo xs 44 := ⟨_, rfl⟩
    rw [← hs] at hcr
    have HS := hid hs
    clear hs
    go_wp2
    exact leaves_mark HD.out (results_tmp rfl _ _ _) ⟨by rw [← HS.out]; rfl, Gr_putObj HG.out (by rw [hz2.out]; omega) _⟩
  case stop =>
    rintro c pre A W - h
    exact h.elim
end
set_option maxRecDepth 100000 in
set_option maxHeartbeats 1000000 in
theorem allHoists_any (a : Option Addr) (cap n : Nat) (hss : List (List Int)) (hl : n = hss.length) (hn : n ≤ 1048576) (hz : ∀ i, i < n → (hss.getD i []).length ≤ 1048576) (hf : ∀ i, Fits .i8 (hss.getD i [])) (w : World) (hs : SlicesX w a hss) :
    Calls Try.prog 75 #[.slice a n cap, .func (.func 76) #[] #[]] w fun e w' => e = .returned (.bool (allTo (hvAtN hss) n)) ∧ Gr w w' := by
  have HS := hid hs
  have HL := hid hl
  have HV1 := hid (fun V i (hi : i < n) a' (hr : SliceOf .i8 V a' (hss.getD i [])) => impl_ValidHoist_any a' (hss.getD i []) (hz i hi) (hf i) V hr)
  have hcf := callFunc_enter Try.func76 (by kernel_rfl) (by kernel_rfl)
  have HNO := hid (fun k (hk : k < n) (h : hvAtN hss k = false) => show allTo (hvAtN hss) n = false from allTo_no hk h)
  have HE := hid (fun i => show hvAtN hss i = validH (hss.getD i []) from rfl)
  clear hs hl hz hf
  go_enter Try.func75, Try.ntmps75
  go_wp2_with fail
  go_loopw [6, 9] (fun _ i wr => ∃ k : Nat, k ≤ n ∧ i = .int .i64 k ∧ Hid (allTo (hvAtN hss) k = true) ∧ Hid (Gr w wr)) (fun _ i _ => n - (intOf i).toNat)
  case atStart => exact ⟨0, Nat.zero_le _, rfl, hid rfl, hid (Gr.refl _)⟩
  case round =>
    obtain ⟨k, hk, rfl, hok, gr⟩ := hrel
    by_cases hlt : k < n
    · obtain ⟨b, off, a', rfl, hc, hsl⟩ := (HS.out.gr gr.out) k (by rw [← HL.out]; exact hlt)
      have HVK := hid (HV1.out wr k hlt a' hsl)
      have HEK := hid (HE.out k)
      have HST := hid (fun (h : hvAtN hss k = true) => allTo_step hok.out h)
      have HNK := hid (HNO.out k hlt)
      rw [← HEK.out] at HVK
      clear hsl HV1 HE HEK
      generalize (hss.getD k []).length = m at *
      cases hv : hvAtN hss k with
      | false =>
        rw [hv] at HVK
        have HZ := hid (HNK.out hv)
        clear hv HST HNK
        go_wp2_with fail
        refine HVK.out.mono ?_
        rintro e w1 ⟨rfl, g1⟩
        have G1 := hid (gr.out.trans g1)
        clear g1
        go_wp2_with fail
        go_ret
        exact ⟨ret_bool HZ.out.symm, G1.out⟩
      | true =>
        rw [hv] at HVK
        have HY := hid (HST.out hv)
        clear hv HST HNK
        go_wp2_with fail
        refine HVK.out.mono ?_
        rintro e w1 ⟨rfl, g1⟩
        have G1 := hid (gr.out.trans g1)
        clear g1
        go_wp2_with fail
        go_roundw
        case rel => exact ⟨k + 1, by omega, by go_num, HY, G1⟩
        case measure => simp [intOf]; omega
    · have HZ := hid (show allTo (hvAtN hss) n = true by rw [show n = k by omega]; exact hok.out)
      go_wp2_with fail
      go_ret
      exact ⟨ret_bool HZ.out.symm, gr.out⟩
set_option maxHeartbeats 2000000 in
set_option maxRecDepth 100000 in
theorem plus_any (ys h : List Int) (hy : ys.length = 44) (hyb : ∀ q, 0 ≤ ys.getD q 0 ∧ ys.getD q 0 ≤ 1000) (a : Option Addr) (n cap : Nat) (hn : n = h.length) (h8 : n ≤ 8) (hnum : ∀ i, i < n → h.getD i 0 = -10 ∨ (-4 ≤ h.getD i 0 ∧ h.getD i 0 ≤ 39)) (w : World) (hs : SliceOf .i8 w a h) :
    Calls Try.prog 38 #[.agg (kCells .i16 (stk ys)), .slice a n cap, .int .i16 1] w fun e w' => e = .returned (.agg (kCells .i16 (stk (addTo ys h n)))) ∧ Gr w w' := by
  have HS := hid hs
  have HN := hid hn
  have HYB := hid hyb
  have HX := hid hnum
  have HBD := hid (fun j (hj : j ≤ n) q => addTo_bd hy (fun i hi => hnum i (by omega)) j (by omega) q)
  have HJB := hid (fun j (e : h.getD j 0 = -10) => addTo_brk (xs := ys) e)
  have HJO := hid (fun j (e : ¬ h.getD j 0 = -10) => show addTo ys h (j + 1) = (addTo ys h j).set (pIdx (h.getD j 0)) ((addTo ys h j).getD (pIdx (h.getD j 0)) 0 + 1) from addTo_on e)
  have HLJ := hid (fun j => (addTo_length ys h j).trans hy)
  clear hs hn hy hyb hnum
  go_enter Try.func38, Try.ntmps38
  go_wp2_with fail
  generalize hW : World.alloc _ (.cells _ 55) = W0
  have B0 : Hid (W0.heap[w.heap.size]? = some (.cells (kCells .i16 (stk (addTo ys h 0))) 55 (0, 0))) := hid (by rw [← hW]; exact heap_kept (heap_new rfl))
  have B1 : Hid (W0.heap[w.heap.size + 1]? = some (.cells (kCells .i16 zeros44) 55 (0, 0))) := hid (by rw [← hW]; exact heap_new (by simp))
  have G0 : Hid (Gr w W0) := hid (by rw [← hW]; exact ((Gr.refl w).alloc _).alloc _)
  clear hW
  go_loopw [8, 11] (fun _ i wr => ∃ j : Nat, j ≤ n ∧ i = .int .i64 j ∧ Hid (wr.heap[w.heap.size]? = some (.cells (kCells .i16 (stk (addTo ys h j))) 55 (0, 0)) ∧ wr.heap[w.heap.size + 1]? = some (.cells (kCells .i16 zeros44) 55 (0, 0))) ∧ Hid (Gr w wr)) (fun _ i _ => n - (intOf i).toNat)
  case atStart => exact ⟨0, Nat.zero_le _, rfl, hid ⟨B0.out, B1.out⟩, G0⟩
  case round =>
    obtain ⟨j, hj, rfl, hb, gr⟩ := hrel
    by_cases hlt : j < n
    · obtain ⟨b0, o0, rfl, hcj⟩ := (HS.out.gr gr.out) j (by rw [← HN.out]; exact hlt)
      have hxj := HX.out j hlt
      have HJBj := hid (HJB.out j)
      have HJ0 := hid (HJO.out j)
      clear HJB HJO
      generalize h.getD j 0 = v at *
      by_cases hbr : v = -10
      · have HE := hid (HJBj.out hbr)
        subst hbr
        clear HJBj HJ0 hxj
        go_wp2_with fail
        go_roundw
        case rel => exact ⟨j + 1, by omega, by go_num, hid (by rw [HE.out]; exact hb.out), gr⟩
        case measure => simp [intOf] <;> omega
      · have hv4 := hxj.resolve_left hbr
        have hbr' : (v == -10) = false := by simpa using hbr
        have hk := pIdx_lt hv4
        have HP := hid (fun b V => piece_p b hk V)
        rw [pNum_pIdx hv4] at HP
        have hl44 := HLJ.out j
        have c0 := cell_ints hb.out.1 (i := sOff (pIdx v)) (by rw [stk_length hl44]; exact sOff_lt hk)
        rw [stk_get hl44 hk] at c0
        have f0 : wr.frozen? ⟨w.heap.size, sOff (pIdx v), none⟩ = false := frozen_of_row _ _ _ _ _ hb.out.1
        have hbd := HBD.out j (by omega) (pIdx v)
        have hbY := HYB.out (pIdx v)
        have HSET := hid ((stk_set hl44 hk ((addTo ys h j).getD (pIdx v) 0 + 1)).trans (congrArg stk (HJ0.out hbr).symm))
        clear HJBj HJ0 hl44 HBD HYB HX
        generalize (addTo ys h j).getD (pIdx v) 0 = y at *
        have e5 : IntKind.i16.wrap (y + 1) = y + 1 := IntWalk.i16_in _ (by omega)
        clear hbd hbY hxj hv4 hk
        generalize sOff (pIdx v) = o at *
        go_wp2_with (refine (HP.out _ _).mono ?_; rintro e w' ⟨rfl, rfl⟩)
        have HB9 := hid (heap_int_set (i := o) (x := y + 1) hb.out.1)
        rw [HSET.out] at HB9
        go_roundw
        case rel => exact ⟨j + 1, by omega, by go_num, hid ⟨HB9.out, heap_stored (by dsimp only; omega) hb.out.2⟩, hid (gr.out.setCell (Nat.le_refl _) _)⟩
        case measure => simp [intOf] <;> omega
    · have hkn : j = n := by omega
      have HB0 := hid hb.out.1
      have HB1 := hid hb.out.2
      have LK := hid (stk_length (HLJ.out j))
      clear hb HBD HX HJB HJO
      have HK := hid hkn
      clear hkn
      go_wp2_with (first | (refine wpList_load_struct rfl 55 _ rfl _ rfl _ (kCells .i16 (stk (addTo ys h j))) _ HB0.out Try.underlying55 rfl (by rw [kCells_size, LK.out]; kernel_rfl) ?_) | (refine wpList_store_cells rfl 55 _ _ rfl _ (kCells .i16 (stk (addTo ys h j))) (kCells .i16 zeros44) rfl rfl _ 44 HB1.out (by kernel_rfl) (by rw [kCells_size, LK.out]) rfl (kCells_one _ _) ?_))
      refine bodyPost_ret (results_cell_row (by rfl) _ _ _ _ _ _ _ rfl (heap_row_set HB1.out) Try.underlying55 rfl (by rw [kCells_size, LK.out]; kernel_rfl)) rfl ⟨?_, gr.out.setRow (by omega) _⟩
      rw [HK.out]
theorem stk_zeros : stk zeros44 = zeros44 := by decide
set_option maxHeartbeats 2000000 in
set_option maxRecDepth 100000 in
theorem needed_any (a : Option Addr) (cap n : Nat) (hss : List (List Int)) (hl : n ≤ hss.length) (h6 : n ≤ 6) (hv : ∀ i, i < n → validH (hss.getD i []) = true) (w : World) (hs : SlicesX w a hss) :
    Calls Try.prog 23 #[.slice a n cap] w fun e w' => e = .returned (.agg (kCells .i16 (stk (needTo hss n)))) ∧ Gr w w' := by
  have HS := hid hs
  have HL := hid hl
  have HLN := hid (fun k => stk_length (needTo_length hss k))
  have HAD := hid (fun i (hi : i < n) (a' : Option Addr) (V : World) (hr : SliceOf .i8 V a' (hss.getD i [])) =>
    plus_any (needTo hss i) (hss.getD i []) (needTo_length hss i) (fun q => by have := needTo_bd hv i (by omega) q; omega) a' (hss.getD i []).length (hss.getD i []).length rfl (validH_len (hv i hi)).2 (fun j hj => valid_nums (hv i hi) j hj) V hr)
  have HST := hid (fun i => show needTo hss (i + 1) = addTo (needTo hss i) (hss.getD i []) (hss.getD i []).length from rfl)
  clear hs hl hv
  go_enter Try.func23, Try.ntmps23
  go_wp2_with fail
  generalize hW : World.alloc _ (.cells _ 55) = W0
  have B0 : Hid (W0.heap[w.heap.size]? = some (.cells (kCells .i16 zeros44) 55 (0, 0))) := hid (by rw [← hW]; exact heap_kept (heap_new rfl))
  have B1 : Hid (W0.heap[w.heap.size + 1]? = some (.cells (kCells .i16 (stk (needTo hss 0))) 55 (0, 0))) := hid (by rw [← hW, show stk (needTo hss 0) = zeros44 from stk_zeros]; exact heap_new (by simp))
  have G0 : Hid (Gr w W0) := hid (by rw [← hW]; exact ((Gr.refl w).alloc _).alloc _)
  clear hW
  go_loopw [5, 8] (fun _ i wr => ∃ k : Nat, k ≤ n ∧ i = .int .i64 k ∧ Hid (wr.heap[w.heap.size]? = some (.cells (kCells .i16 zeros44) 55 (0, 0)) ∧ wr.heap[w.heap.size + 1]? = some (.cells (kCells .i16 (stk (needTo hss k))) 55 (0, 0))) ∧ Hid (Gr w wr)) (fun _ i _ => n - (intOf i).toNat)
  case atStart => exact ⟨0, Nat.zero_le _, rfl, hid ⟨B0.out, B1.out⟩, G0⟩
  case round =>
    obtain ⟨k, hk, rfl, hb, gr⟩ := hrel
    have HB0 := hid hb.out.1
    have HB1 := hid hb.out.2
    have LK := hid (HLN.out k)
    have LK1 := hid (HLN.out (k + 1))
    clear hb
    by_cases hlt : k < n
    · obtain ⟨b, off, a', rfl, hc, hsl⟩ := (HS.out.gr gr.out) k (by have := HL.out; omega)
      have HADD := hid (HAD.out k hlt a' wr hsl)
      rw [← HST.out k] at HADD
      clear hsl HAD HST
      generalize (hss.getD k []).length = m at *
      go_wp2_with (refine wpList_load_struct rfl 55 _ rfl _ rfl _ (kCells .i16 (stk (needTo hss k))) _ HB1.out Try.underlying55 rfl (by rw [kCells_size, LK.out]; kernel_rfl) ?_)
      refine HADD.out.mono ?_
      rintro e w1 ⟨rfl, g1⟩
      have H0 := hid (g1.heap HB0.out)
      have H1 := hid (g1.heap HB1.out)
      have G1 := hid (gr.out.trans g1)
      clear g1
      go_wp2_with (refine wpList_store_cells rfl 55 _ _ rfl _ (kCells .i16 (stk (needTo hss (k + 1)))) (kCells .i16 (stk (needTo hss k))) rfl rfl _ 44 H1.out (by kernel_rfl) (by rw [kCells_size, LK1.out]) (by rw [kCells_size, LK.out]) (kCells_one _ _) ?_)
      go_roundw
      case rel => exact ⟨k + 1, by omega, by go_num, hid ⟨heap_row_kept (by omega) H0.out, heap_row_set H1.out⟩, hid (G1.out.setRow (by omega) _)⟩
      case measure => simp [intOf] <;> omega
    · have hkn : k = n := by omega
      have HK := hid hkn
      clear hkn HAD HST
      go_wp2_with (first | (refine wpList_load_struct rfl 55 _ rfl _ rfl _ (kCells .i16 (stk (needTo hss k))) _ HB1.out Try.underlying55 rfl (by rw [kCells_size, LK.out]; kernel_rfl) ?_) | (refine wpList_store_cells rfl 55 _ _ rfl _ (kCells .i16 (stk (needTo hss k))) (kCells .i16 zeros44) rfl rfl _ 44 HB0.out (by kernel_rfl) (by rw [kCells_size, LK.out]) rfl (kCells_one _ _) ?_))
      refine bodyPost_ret (results_cell_row (by rfl) _ _ _ _ _ _ _ rfl (heap_row_set HB0.out) Try.underlying55 rfl (by rw [kCells_size, LK.out]; kernel_rfl)) rfl ⟨?_, gr.out.setRow (Nat.le_refl _) _⟩
      rw [HK.out]
set_option maxRecDepth 100000 in
theorem hoists_isValid (a : Option Addr) (cap n : Nat) (hss : List (List Int)) (hl : n = hss.length) (hn : n ≤ 1048576) (hz : ∀ i, i < n → (hss.getD i []).length ≤ 1048576) (hf : ∀ i, Fits .i8 (hss.getD i [])) (w : World) (hs : SlicesX w a hss) :
    Calls Try.prog 73 #[.slice a n cap] w fun e w' => e = .returned (.bool (allTo (hvAtN hss) n)) ∧ Gr w w' := by
  have HA := hid (allHoists_any a cap n hss hl hn hz hf w hs)
  clear hl hz hf hs
  generalize allTo (hvAtN hss) n = r at *
  go_enter Try.func73, Try.ntmps73
  go_wp2_with fail
  refine HA.out.mono ?_
  rintro e w1 ⟨rfl, g1⟩
  have G1 := hid g1
  clear g1
  go_wp2_with fail
  go_ret
  exact ⟨rfl, G1.out⟩
set_option maxRecDepth 100000 in
theorem hoists_signals (a : Option Addr) (cap n : Nat) (w : World) :
    Calls Try.prog 74 #[.slice a n cap] w fun e w' => e = .returned (.int .i64 n) ∧ Gr w w' := by
  go_enter Try.func74, Try.ntmps74
  go_wp2_with fail
  go_ret
  exact ⟨rfl, Gr.refl _⟩
def oneC (p : Bool) (s : Int) : Int := if p then (if 6 < s then 3 else 0) else 1
set_option maxRecDepth 100000 in
set_option maxHeartbeats 2000000 in
theorem check1H (b : Nat) (v : Value) (p : Bool) (s : Int) (w : World)
    (hv : ∀ V, Gr w V → Calls Try.prog 73 #[v] V fun e w' => e = .returned (.bool p) ∧ Gr V w') (hsg : ∀ V, Gr w V → Calls Try.prog 74 #[v] V fun e w' => e = .returned (.int .i64 s) ∧ Gr V w')
    (hb : w.heap[b]? = some (.cells #[.iface 52 v] 74 (0, 0))) :
    Calls Try.prog 22 #[.slice (some ⟨b, 0, none⟩) 1 1] w fun e w' => e = .returned (.int .i64 (oneC p s)) ∧ Gr w w' := by
  have HV := hid hv
  have HSG := hid hsg
  have h0 : Hid (w.cell? ⟨b, 0, none⟩ = some (.iface 52 v)) := hid (by rw [cell_of_row _ _ _ _ _ _ hb]; rfl)
  clear hb hv hsg
  have HQ : Hid (oneC p s = if p then (if 6 < s then 3 else 0) else 1) := hid rfl
  generalize oneC p s = q at *
  go_enter Try.func22, Try.ntmps22
  go_wp2_with fail
  go_loopw [9] (fun i wr => ∃ k : Nat, k ≤ 1 ∧ i = .int .i64 k ∧ Hid (1 ≤ k → p = true) ∧ Hid (Gr w wr)) (fun i _ => 1 - (intOf i).toNat)
  case atStart => exact ⟨0, Nat.zero_le _, rfl, hid (fun h => by omega), hid (Gr.refl _)⟩
  case round =>
    obtain ⟨k, hk, rfl, q1, gr⟩ := hrel
    rcases (show k = 0 ∨ k = 1 by omega) with rfl | rfl
    · have c0 := gr.out.cell h0.out
      go_wp2_with fail
      refine (HV.out _ gr.out).mono ?_
      rintro e w1 ⟨rfl, g1⟩
      have G1 := hid (gr.out.trans g1)
      clear g1
      cases p with
      | false =>
        go_wp2_with fail
        go_ret
        exact ⟨ret_int (by rw [HQ.out]; rfl), G1.out⟩
      | true =>
        go_wp2_with fail
        go_roundw
        case rel => exact ⟨1, by omega, rfl, hid (by simp), G1⟩
        case measure => simp [intOf]
    · obtain rfl := q1.out (Nat.le_refl _)
      have HQ' : Hid (q = if 6 < s then 3 else 0) := hid HQ.out
      clear HQ
      go_wp2_with fail
      go_loopw [19] (fun i wr => ∃ k : Nat, k ≤ 1 ∧ i = .int .i64 k ∧ Hid (1 ≤ k → ¬ 6 < s) ∧ Hid (Gr w wr)) (fun i _ => 1 - (intOf i).toNat)
      case atStart => exact ⟨0, Nat.zero_le _, rfl, hid (fun h => by omega), gr⟩
      case round =>
        obtain ⟨k, hk, rfl, q3, gr⟩ := hrel
        rcases (show k = 0 ∨ k = 1 by omega) with rfl | rfl
        · have c0 := gr.out.cell h0.out
          go_wp2_with fail
          refine (HSG.out _ gr.out).mono ?_
          rintro e w1 ⟨rfl, g1⟩
          have G1 := hid (gr.out.trans g1)
          clear g1
          by_cases h6 : 6 < s
          · go_wp2_with fail
            go_ret
            exact ⟨ret_int (by rw [HQ'.out, if_pos h6]), G1.out⟩
          · go_wp2_with fail
            go_roundw
            case rel => exact ⟨1, by omega, rfl, hid (fun _ => by omega), G1⟩
            case measure => simp [intOf]
        · have h6 := q3.out (Nat.le_refl _)
          go_wp2_with fail
          go_ret
          exact ⟨ret_int (by rw [HQ'.out, if_neg (by omega)]), gr.out⟩
theorem oneC_ho (hss : List (List Int)) : oneC (allTo (hvAtN hss) hss.length) (hss.length : Int) = hosC hss := by
  unfold oneC hosC
  split
  · by_cases h : 6 < hss.length
    · rw [if_pos h, if_pos (by omega)]
    · rw [if_neg h, if_neg (by omega)]
  · rfl
theorem twoC_fl (xs : List Int) (hss : List (List Int)) : twoC (lockB xs) (allTo (hvAtN hss) hss.length) (hss.length : Int) = flC xs hss := by
  unfold twoC flC hosC
  cases lockB xs <;> cases allTo (hvAtN hss) hss.length <;> simp
  all_goals (by_cases h : 6 < hss.length <;> simp [h] <;> omega)
end Go.Proofs.Ytlhijammadadmaa
