/- EvenLocker of the program. -/
import Derived.Test.YtaedompacmdacaaLockE
namespace Go.Proofs.Ytaedompacmdacaa
open Go.RowKit
attribute [local go_sem] Oper.semAt_some
theorem inE_rg {a c k : Nat} (ha : a ≤ 40) (hc : c ≤ 4) (hk : k < 44) : (decide (-(c : Int) ≤ pNum k) && decide (pNum k ≤ (a : Int) - 1)) = inE a c k := by
  unfold inE pNum
  by_cases h : k < 40
  · rw [if_pos h, if_pos h, decide_eq_true (by omega : -(c : Int) ≤ (k : Int)), Bool.true_and]
    exact decide_eq_decide.2 (by omega)
  · rw [if_neg h, if_neg h, decide_eq_true (by omega : (39 - (k : Int)) ≤ (a : Int) - 1), Bool.and_true]
    exact decide_eq_decide.2 (by omega)
set_option maxHeartbeats 4000000 in
set_option maxRecDepth 100000 in
theorem impl_EvenLocker_yes (s : Int) (a c : Nat) (s0 : 0 ≤ s) (s1 : s ≤ 20) (ha : a ≤ 40) (hc : c ≤ 4) (w : World) :
    Calls Try.prog 19 #[.int .i64 s, .int .i64 a, .int .i64 c] w fun e w' => e = .returned (.tuple #[.agg (kCells .i16 (fillTo 44 (colE s a c) 44)), .int .i64 0]) ∧ Gr w w' := by
  have HS := hid (isBetween_r (n := s) (a := 0) (b := 20) (r := true) (by simp; omega))
  have HK := hid (isBetween_r (n := (a : Int)) (a := 0) (b := 40) (r := true) (by simp; omega))
  have HB := hid (isBetween_r (n := (c : Int)) (a := 0) (b := 4) (r := true) (by simp; omega))
  have HZ0 := hid (show fillTo 44 (colE s a c) 0 = zeros44 from fillTo_zero _ _)
  refine (callsIn_wide (n := 9)).1 (callsIn_of_wp_marks Try.func19 rfl trivial (wpIn_wide.2 ?_) rfl)
  simp only [Try.ntmps19, List.size_toArray, List.length_cons, List.length_nil, Nat.reduceAdd, Nat.reduceSub, Array.replicate_succ, Array.replicate_zero, List.push_toArray, List.append_toArray, List.nil_append, List.cons_append]
  go_wp2_with (first | ((with_reducible refine (HS.out _).mono ?_); rintro e w' ⟨rfl, rfl⟩) | ((with_reducible refine (HK.out _).mono ?_); rintro e w' ⟨rfl, rfl⟩) | ((with_reducible refine (HB.out _).mono ?_); rintro e w' ⟨rfl, rfl⟩))
  clear HS HK HB
  generalize hW2 : World.alloc _ (.cells _ 72) = W2
  have b0 : Hid (W2.heap[w.heap.size]? = some (.cells #[.int .i64 s] 2 (0, 0))) := hid (by rw [← hW2]; exact heap_kept (heap_kept (heap_kept (heap_kept (heap_new rfl)))))
  have b1 : Hid (W2.heap[w.heap.size + 1]? = some (.cells #[.int .i64 a] 2 (0, 0))) := hid (by rw [← hW2]; exact heap_kept (heap_kept (heap_kept (heap_new (by simp)))))
  have b2 : Hid (W2.heap[w.heap.size + 1 + 1]? = some (.cells #[.int .i64 c] 2 (0, 0))) := hid (by rw [← hW2]; exact heap_kept (heap_kept (heap_new (by simp))))
  have b3 : Hid (W2.heap[w.heap.size + 1 + 1 + 1]? = some (.cells (kCells .i16 zeros44) 28 (0, 0))) := hid (by rw [← hW2]; exact heap_kept (heap_new (by simp)))
  have b4 : Hid (W2.heap[w.heap.size + 1 + 1 + 1 + 1]? = some (.cells (kCells .i16 zeros44) 72 (0, 0))) := hid (by rw [← hW2]; exact heap_new (by simp))
  have gr2 : Hid (Gr w W2) := hid (by rw [← hW2]; exact (((((Gr.refl _).alloc _).alloc _).alloc _).alloc _).alloc _)
  have hz2 : Hid (W2.heap.size = w.heap.size + 5) := hid (by rw [← hW2]; simp)
  clear hW2
  refine wp_rangeFunc_V (lb := #[]) (gf := 54) rfl (callFunc_enter Try.func54 (by kernel_rfl) (by kernel_rfl)) (fun W _ _ => everyPiece_iter W) (fun _ _ _ _ _ _ _ => trivial) (fun _ => rfl)
    (fun n pre B => (B.heap[w.heap.size]? = some (.cells #[.int .i64 s] 2 (0, 0)) ∧ B.heap[w.heap.size + 1]? = some (.cells #[.int .i64 a] 2 (0, 0)) ∧ B.heap[w.heap.size + 1 + 1]? = some (.cells #[.int .i64 c] 2 (0, 0)) ∧ B.heap[w.heap.size + 1 + 1 + 1]? = some (.cells (kCells .i16 zeros44) 28 (0, 0)) ∧ B.heap[w.heap.size + 1 + 1 + 1 + 1]? = some (.cells (kCells .i16 (stk (fillTo 44 (colE s a c) pre.length))) 72 (0, 0))) ∧ Gr w B)
    (fun c pre B => False)
    ?init ?a1 ?assign ?body ?done ?stop
  case assign =>
    intro l x W K hK
    gi_wp2
    exact hK
  case init =>
    intro n B hb hn1 hn2
    exact ⟨⟨(hb.block _ (lt_of_heap b0.out)).trans b0.out, (hb.block _ (lt_of_heap b1.out)).trans b1.out, (hb.block _ (lt_of_heap b2.out)).trans b2.out, (hb.block _ (lt_of_heap b3.out)).trans b3.out, by rw [(hb.block _ (lt_of_heap b4.out)).trans b4.out, List.length_nil, HZ0.out]; rfl⟩, gr2.out.trans hb⟩
  case body =>
    rintro l n pre k A B hn1 hn2 ⟨⟨h0, h1, h2, h3, h4⟩, hg⟩ ho - ⟨rfl, hk⟩
    have k0 := ho.heap h0 (.inl (by rw [hz2.out]; omega))
    have k1 := ho.heap h1 (.inl (by rw [hz2.out]; omega))
    have k2 := ho.heap h2 (.inl (by rw [hz2.out]; omega))
    have k3 := ho.heap h3 (.inl (by rw [hz2.out]; omega))
    have k4 := ho.heap h4 (.inl (by rw [hz2.out]; omega))
    have HGB := hid (Gr_out hg ho gr2.out.size)
    have HPL := hid (show (pre ++ [pre.length]).length = pre.length + 1 by rw [List.length_append]; rfl)
    have HP := hid (fun V => CallsIn.inRound l ((callsIn_wide (n := 6)).2 (piece_p (w.heap.size + 1 + 1 + 1 + 1) hk V)))
    have HBI := hid (fun V => CallsIn.inRound l ((callsIn_wide (n := 6)).2 (isBetween_r (inE_rg ha hc hk) V)))
    have hpn := pNum_bd hk
    have hpn0 := hpn.1
    have hpn1 := hpn.2
    clear h0 h1 h2 h3 h4 hg ho hn2 hpn
    have HK0 := hid k0
    have HK1 := hid k1
    have HK2 := hid k2
    have HK3 := hid k3
    have HK4 := hid k4
    have c0 : B.cell? ⟨w.heap.size, 0, none⟩ = some (.int .i64 s) := by rw [cell_of_row _ _ _ _ _ _ k0]; rfl
    have c1 : B.cell? ⟨w.heap.size + 1, 0, none⟩ = some (.int .i64 a) := by rw [cell_of_row _ _ _ _ _ _ k1]; rfl
    have c2 : B.cell? ⟨w.heap.size + 1 + 1, 0, none⟩ = some (.int .i64 c) := by rw [cell_of_row _ _ _ _ _ _ k2]; rfl
    have hl44 := fillTo_length 44 (colE s a c) pre.length (by omega)
    have c4 := cell_ints k4 (i := sOff pre.length) (by rw [stk_length hl44]; exact sOff_lt hk)
    have f4 : B.frozen? ⟨w.heap.size + 1 + 1 + 1 + 1, sOff pre.length, none⟩ = false := frozen_of_row _ _ _ _ _ k4
    have e1 : IntKind.i64.wrap (-(c : Int)) = -(c : Int) := IntWalk.i64_in _ (by omega)
    have e2 : IntKind.i64.wrap ((a : Int) - 1) = (a : Int) - 1 := IntWalk.i64_in _ (by omega)
    have e3 : IntKind.i16.wrap s = s := IntWalk.i16_in _ (by omega)
    have HSET := hid ((stk_set hl44 hk (colE s a c pre.length)).trans (by rw [fillTo_set 44 (colE s a c) pre.length hk]))
    have HSK := hid (fillTo_skip (n := 44) (col := colE s a c) hk)
    clear k0 k1 k2 k3 k4 hl44
    have HK := hid hk
    clear hk
    generalize pre ++ [pre.length] = pre' at *
    generalize pre.length = k at *
    have HCE := hid (show colE s a c k = if inE a c k then s else 0 from rfl)
    generalize pNum k = y at *
    generalize (stk (fillTo 44 (colE s a c) k)).getD (sOff k) 0 = z at *
    generalize sOff k = o at *
    cases hin : inE a c k with
    | true =>
      rw [hin] at HBI HCE
      rw [HCE.out, if_pos rfl] at HSET
      clear hin HSK HCE
      gi_wp2_with (refine ⟨trivial, ?_⟩; refine (HBI.out _).mono ?_; rintro e w' ⟨rfl, rfl⟩)
      gi_region_with (refine ⟨trivial, ?_⟩; gi_at_call 58; refine (HP.out _).mono ?_; rintro e w' ⟨rfl, rfl⟩)
      all_goals
        gi_wp2
        refine ⟨((Ins.refl _ _ _).setCell (.inl (by dsimp only; have := hz2.out; omega)) _).drew, ⟨heap_stored (w := B) (by dsimp only; omega) HK0.out, heap_stored (w := B) (by dsimp only; omega) HK1.out, heap_stored (w := B) (by dsimp only; omega) HK2.out, heap_stored (w := B) (by dsimp only; omega) HK3.out, ?_⟩, (HGB.out.setCell (p := ⟨w.heap.size + 1 + 1 + 1 + 1, o, none⟩) (by dsimp only; omega) _).drew⟩
        rw [HPL.out, ← HSET.out]
        exact heap_int_set HK4.out
    | false =>
      rw [hin] at HBI HCE
      have HSK' := hid (HSK.out (by rw [HCE.out]; rfl))
      clear hin HSK HCE HSET
      gi_wp2_with (refine ⟨trivial, ?_⟩; refine (HBI.out _).mono ?_; rintro e w' ⟨rfl, rfl⟩)
      exact ⟨Ins.refl _ _ _, ⟨HK0.out, HK1.out, HK2.out, HK3.out, by rw [HPL.out, HSK'.out]; exact HK4.out⟩, HGB.out⟩
  case done =>
    intro n xs' A W hn1 hn2 hS hI ho hd
    obtain ⟨⟨-, -, -, h3, h4⟩, hg⟩ := hI
    have hS' : xs'.length = 44 := hS
    rw [hS'] at h4
    have k3 := hid (ho.heap h3 (.inl (by rw [hz2.out]; omega)))
    have k4 := hid (ho.heap h4 (.inl (by rw [hz2.out]; omega)))
    have HG := hid (Gr_out hg ho gr2.out.size)
    have HD := hid hd
    have HLF := hid (fillTo_length 44 (colE s a c) 44 (Nat.le_refl _))
    have HLO := hid (locker_any _ HLF.out)
    have HLS := hid (stk_length HLF.out)
    clear hd h3 h4 hg ho hS hS' hn2
    go_wp2_with (refine wpList_load_struct rfl 72 _ rfl _ rfl _ (kCells .i16 (stk (fillTo 44 (colE s a c) 44))) _ k4.out Try.underlying72 rfl (by rw [kCells_size, HLS.out]; kernel_rfl) ?_)
    refine (HLO.out _).mono ?_
    rintro e V ⟨rfl, g1⟩
    replace k3 := hid (g1.heap k3.out)
    have HGV := hid ((show Gr w W from HG.out).trans g1)
    have HDV := hid (g1.heap HD.out)
    clear g1 HG HD
    go_wp2_with (refine wpList_store_cells rfl 28 _ _ rfl _ (kCells .i16 (fillTo 44 (colE s a c) 44)) (kCells .i16 zeros44) rfl rfl _ 44 k3.out (by kernel_rfl) (by rw [kCells_size, HLF.out]) rfl (kCells_one _ _) ?_)
    refine leaves_mark (heap_row_kept (by rw [hz2.out]; omega) HDV.out) (results_struct2 (by rfl) _ _ _ _ _ _ _ rfl rfl (heap_putObj (by rw [hz2.out]; omega) (heap_row_set k3.out)) Try.underlying28 rfl (by rw [kCells_size, HLF.out]; kernel_rfl)) ⟨rfl, Gr_putObj (HGV.out.setRow (by omega) _) (by rw [hz2.out]; omega) _⟩
  case stop =>
    rintro c pre A W - h
    exact h.elim
set_option maxHeartbeats 2000000 in
set_option maxRecDepth 100000 in
theorem impl_EvenLocker_any (s k b : Int) (w : World) :
    Calls Try.prog 19 #[.int .i64 s, .int .i64 k, .int .i64 b] w fun e w' => e = .returned (.tuple #[.agg (kCells .i16 (evV s k b)), .int .i64 (evC s k b)]) ∧ Gr w w' := by
  cases hs : rgB s 0 20 with
  | false =>
    have hev : evB s k b = false := by unfold evB; rw [hs]; rfl
    have HS := hid (isBetween_r (n := s) (a := 0) (b := 20) (r := false) hs)
    clear hs
    rw [(ev_no hev).1, (ev_no hev).2]
    clear hev
    have b3 : Hid (((((w.alloc (.cells #[.int .i64 s] 2)).alloc (.cells #[.int .i64 k] 2)).alloc (.cells #[.int .i64 b] 2)).alloc lockerZ).heap[w.heap.size + 1 + 1 + 1]? = some (.cells (kCells .i16 zeros44) 28 (0, 0))) := hid (heap_new (by simp))
    have gr : Hid (Gr w ((((w.alloc (.cells #[.int .i64 s] 2)).alloc (.cells #[.int .i64 k] 2)).alloc (.cells #[.int .i64 b] 2)).alloc lockerZ)) := hid (((((Gr.refl _).alloc _).alloc _).alloc _).alloc _)
    go_enter Try.func19, Try.ntmps19
    go_wp2_with (first | ((with_reducible refine (HS.out _).mono ?_); rintro e w' ⟨rfl, rfl⟩) | (refine wpList_build_to rfl 28 rfl built_locker ?_) | (refine wpList_store_cells rfl 28 _ _ rfl _ (kCells .i16 zeros44) (kCells .i16 zeros44) rfl rfl _ 44 b3.out (by kernel_rfl) rfl rfl (kCells_one _ _) ?_))
    refine bodyPost_ret (results_struct2 (by rfl) _ _ _ _ _ _ _ rfl rfl (heap_row_set b3.out) Try.underlying28 rfl (by kernel_rfl)) rfl ⟨rfl, ?_⟩
    exact gr.out.setRow (by omega) _
  | true =>
    cases hk : rgB k 0 40 with
    | false =>
      have hev : evB s k b = false := by unfold evB; rw [hs, hk]; rfl
      have HS := hid (isBetween_r (n := s) (a := 0) (b := 20) (r := true) hs)
      have HK := hid (isBetween_r (n := k) (a := 0) (b := 40) (r := false) hk)
      clear hs hk
      rw [(ev_no hev).1, (ev_no hev).2]
      clear hev
      have b3 : Hid (((((w.alloc (.cells #[.int .i64 s] 2)).alloc (.cells #[.int .i64 k] 2)).alloc (.cells #[.int .i64 b] 2)).alloc lockerZ).heap[w.heap.size + 1 + 1 + 1]? = some (.cells (kCells .i16 zeros44) 28 (0, 0))) := hid (heap_new (by simp))
      have gr : Hid (Gr w ((((w.alloc (.cells #[.int .i64 s] 2)).alloc (.cells #[.int .i64 k] 2)).alloc (.cells #[.int .i64 b] 2)).alloc lockerZ)) := hid (((((Gr.refl _).alloc _).alloc _).alloc _).alloc _)
      go_enter Try.func19, Try.ntmps19
      go_wp2_with (first | ((with_reducible refine (HS.out _).mono ?_); rintro e w' ⟨rfl, rfl⟩) | ((with_reducible refine (HK.out _).mono ?_); rintro e w' ⟨rfl, rfl⟩) | (refine wpList_build_to rfl 28 rfl built_locker ?_) | (refine wpList_store_cells rfl 28 _ _ rfl _ (kCells .i16 zeros44) (kCells .i16 zeros44) rfl rfl _ 44 b3.out (by kernel_rfl) rfl rfl (kCells_one _ _) ?_))
      refine bodyPost_ret (results_struct2 (by rfl) _ _ _ _ _ _ _ rfl rfl (heap_row_set b3.out) Try.underlying28 rfl (by kernel_rfl)) rfl ⟨rfl, ?_⟩
      exact gr.out.setRow (by omega) _
    | true =>
      cases hb : rgB b 0 4 with
      | false =>
        have hev : evB s k b = false := by unfold evB; rw [hs, hk, hb]; rfl
        have HS := hid (isBetween_r (n := s) (a := 0) (b := 20) (r := true) hs)
        have HK := hid (isBetween_r (n := k) (a := 0) (b := 40) (r := true) hk)
        have HB := hid (isBetween_r (n := b) (a := 0) (b := 4) (r := false) hb)
        clear hs hk hb
        rw [(ev_no hev).1, (ev_no hev).2]
        clear hev
        have b3 : Hid (((((w.alloc (.cells #[.int .i64 s] 2)).alloc (.cells #[.int .i64 k] 2)).alloc (.cells #[.int .i64 b] 2)).alloc lockerZ).heap[w.heap.size + 1 + 1 + 1]? = some (.cells (kCells .i16 zeros44) 28 (0, 0))) := hid (heap_new (by simp))
        have gr : Hid (Gr w ((((w.alloc (.cells #[.int .i64 s] 2)).alloc (.cells #[.int .i64 k] 2)).alloc (.cells #[.int .i64 b] 2)).alloc lockerZ)) := hid (((((Gr.refl _).alloc _).alloc _).alloc _).alloc _)
        go_enter Try.func19, Try.ntmps19
        go_wp2_with (first | ((with_reducible refine (HS.out _).mono ?_); rintro e w' ⟨rfl, rfl⟩) | ((with_reducible refine (HK.out _).mono ?_); rintro e w' ⟨rfl, rfl⟩) | ((with_reducible refine (HB.out _).mono ?_); rintro e w' ⟨rfl, rfl⟩) | (refine wpList_build_to rfl 28 rfl built_locker ?_) | (refine wpList_store_cells rfl 28 _ _ rfl _ (kCells .i16 zeros44) (kCells .i16 zeros44) rfl rfl _ 44 b3.out (by kernel_rfl) rfl rfl (kCells_one _ _) ?_))
        refine bodyPost_ret (results_struct2 (by rfl) _ _ _ _ _ _ _ rfl rfl (heap_row_set b3.out) Try.underlying28 rfl (by kernel_rfl)) rfl ⟨rfl, ?_⟩
        exact gr.out.setRow (by omega) _
      | true =>
        have hev : evB s k b = true := by unfold evB; rw [hs, hk, hb]; rfl
        rw [(ev_yes hev).1, (ev_yes hev).2]
        obtain ⟨s0, s1⟩ := rgB_iff.1 hs
        obtain ⟨k0, k1⟩ := rgB_iff.1 hk
        obtain ⟨b00, b01⟩ := rgB_iff.1 hb
        obtain ⟨a, rfl⟩ := Int.eq_ofNat_of_zero_le k0
        obtain ⟨c, rfl⟩ := Int.eq_ofNat_of_zero_le b00
        rw [Int.toNat_natCast, Int.toNat_natCast]
        exact impl_EvenLocker_yes s a c s0 s1 (by omega) (by omega) w
end Go.Proofs.Ytaedompacmdacaa
