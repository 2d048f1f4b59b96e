/- How many meanings there are: the program's function. -/
import Derived.Test.YtkbdblaciphmnaaCountM
import Derived.Test.YtkbdblaciphmnaaStillIn
import Derived.StillTailTactics
namespace Go.Proofs.Ytkbdblaciphmnaa
set_option linter.unusedVariables false
open Go.RowKit
attribute [local go_sem] Oper.semAt_some
def cntB (K n S B : Int) : Bool := betB K 1 40 && betB n 1 6 && (betB S 1 8 && betB B 0 4)
def cntV (K n S B : Int) : Int := if cntB K n S B then sumW K S B.toNat n.toNat (patF n.toNat [] 0) else 0
def cntC (K n S B : Int) : Int := if cntB K n S B then 0 else 2
theorem cnt_no {K n S B : Int} (h : cntB K n S B = false) : cntV K n S B = 0 ∧ cntC K n S B = 2 := by unfold cntV cntC; rw [h]; exact ⟨rfl, rfl⟩
theorem cnt_yes {K n S B : Int} (h : cntB K n S B = true) : cntV K n S B = sumW K S B.toNat n.toNat (patF n.toNat [] 0) ∧ cntC K n S B = 0 := by unfold cntV cntC; rw [h]; exact ⟨rfl, rfl⟩
theorem betB_iff {n a b : Int} : betB n a b = true ↔ a ≤ n ∧ n ≤ b := by unfold betB; simp
theorem rgs_plain {M : List Int} {n : Nat} (h : Rgs M n) (h1 : 1 ≤ n) (h6 : n ≤ 6) : plainH M = true := by
  have key : ∀ i, i < M.length → brkI (M.getD i 0) = false ∧ subI (M.getD i 0) = false ∧ kindI (M.getD i 0) = true := fun i hi => by
    obtain ⟨p, hp, hu⟩ := h.2 i (by rw [← h.1]; exact hi)
    have := used_le M i
    have hl := h.1
    rw [hp]
    rcases (show p = 0 ∨ p = 1 ∨ p = 2 ∨ p = 3 ∨ p = 4 ∨ p = 5 ∨ p = 6 by omega) with rfl | rfl | rfl | rfl | rfl | rfl | rfl <;> exact ⟨rfl, rfl, rfl⟩
  unfold plainH validH lenB
  simp only [Bool.and_eq_true, allTo_iff, decide_eq_true_eq]
  refine ⟨⟨⟨by rw [h.1]; exact h1, by rw [h.1]; omega⟩, fun i hi => ?_⟩, fun i hi => ?_⟩
  · obtain ⟨a, b, c⟩ := key i hi
    unfold okAt
    rw [a, b, c]
    rfl
  · unfold ownAt
    rw [(key i hi).2.1]
    rfl
theorem own_shape {e : TypeId} {w : World} {lo hi : Nat} {v : Value} {xs : List Int} (h : Own .i8 e w lo hi v xs) (h1 : 1 ≤ xs.length) : ∃ g cap, v = .slice (some ⟨g, 0, none⟩) xs.length cap ∧ xs.length ≤ cap := by
  rcases h.row.2 with ⟨_, h2⟩ | ⟨g, cap, cur, h2, _, _, h3, _⟩
  · omega
  · exact ⟨g, cap, h2, h3⟩
theorem sumW_snoc (K S : Int) (B n : Nat) (L : List (List Int)) (M : List Int) : sumW K S B n (L ++ [M]) = sumW K S B n L + wgt K S B n M := by
  rw [sumW_append]
  simp [sumW]
theorem nx_mem {L : List (List Int)} {pre : List Yld} {x : Yld} (h : NxH L pre x) : x.2 ∈ L := by
  obtain ⟨rest, rfl⟩ := h
  exact List.mem_append.2 (.inr List.mem_cons_self)
theorem nx_le {K S : Int} {B n : Nat} {L : List (List Int)} {pre : List Yld} {x : Yld} (h0 : 0 ≤ K) (h4 : K ≤ 40) (hn : n ≤ 6) (hL : L.length ≤ 117649) (h : NxH L pre x) : 0 ≤ sumW K S B n (pre.map (·.2)) ∧ sumW K S B n (pre.map (·.2)) ≤ 481890304000000 := by
  obtain ⟨rest, rfl⟩ := h
  rw [List.length_append, List.length_map] at hL
  have := sumW_bd (S := S) (B := B) h0 h4 hn (pre.map (·.2))
  rw [List.length_map] at this
  omega
set_option maxRecDepth 100000 in
theorem patterns_any (n : Int) (w : World) :
    Calls Try.prog 70 #[.int .i64 n] w fun e w' => e = .returned (.func (.func 95) #[] #[.pointer (some ⟨w.heap.size, 0, none⟩)]) ∧ w' = w.alloc (.cells #[.int .i64 n] 2) := by
  go_enter Try.func70, Try.ntmps70
  go_wp2_with fail
  go_ret
  exact ⟨rfl, rfl⟩
set_option maxHeartbeats 1000000 in
set_option maxRecDepth 100000 in
theorem impl_CountMeanings_yes (K : Int) (n : Nat) (S : Int) (bb : Nat) (k1 : 1 ≤ K) (k2 : K ≤ 40) (n1 : 1 ≤ n) (n2 : n ≤ 6) (s1 : 1 ≤ S) (s2 : S ≤ 8) (b2 : bb ≤ 4) (w : World) :
    Calls Try.prog 46 #[.int .i64 K, .int .i64 n, .int .i64 S, .int .i64 bb] w fun e w' => e = .returned (.tuple #[.int .i64 (sumW K S bb n (patF n [] 0)), .int .i64 0]) ∧ Gr w w' := by
  have k2' := k2
  have HK := hid (betB_iff.2 ⟨k1, k2⟩)
  have HN := hid (betB_iff.2 (show (1 : Int) ≤ (n : Int) ∧ (n : Int) ≤ 6 by omega))
  have HS := hid (betB_iff.2 ⟨s1, s2⟩)
  have HB := hid (betB_iff.2 (show (0 : Int) ≤ (bb : Int) ∧ (bb : Int) ≤ 4 by omega))
  have HBT := hid (fun a b c w => isBetween_any a b c w)
  refine (callsIn_wide (n := 9)).1 (callsIn_of_wp_marks Try.func46 rfl trivial (wpIn_wide.2 ?_) rfl)
  simp only [Try.ntmps46, List.size_toArray, List.length_cons, List.length_nil, Nat.reduceAdd, Nat.reduceSub, Array.replicate_succ, Array.replicate_zero, List.push_toArray, List.append_toArray, List.nil_append, List.cons_append]
  go_wp2_with (refine (HBT.out _ _ _ _).mono ?_; rintro e w' ⟨rfl, rfl⟩; first | rw [HK.out] | rw [HN.out] | rw [HS.out] | rw [HB.out])
  refine (patterns_any _ _).mono ?_
  rintro e W2 ⟨rfl, hW2⟩
  have c0 : Hid (W2.heap[w.heap.size]? = some (.cells #[.int .i64 K] 2 (0, 0))) := hid (by rw [hW2]; exact heap_kept (heap_kept (heap_kept (heap_kept (heap_new rfl)))))
  have c1 : Hid (W2.heap[w.heap.size + 1]? = some (.cells #[.int .i64 S] 2 (0, 0))) := hid (by rw [hW2]; exact heap_kept (heap_kept (heap_kept (heap_new (by simp)))))
  have c2 : Hid (W2.heap[w.heap.size + 1 + 1]? = some (.cells #[.int .i64 (bb : Int)] 2 (0, 0))) := hid (by rw [hW2]; exact heap_kept (heap_kept (heap_new (by simp))))
  have c3 : Hid (W2.heap[w.heap.size + 1 + 1 + 1]? = some (.cells #[.int .i64 0] 2 (0, 0))) := hid (by rw [hW2]; exact heap_kept (heap_new (by simp)))
  have c4 : Hid (W2.heap[w.heap.size + 1 + 1 + 1 + 1]? = some (.cells #[.int .i64 (n : Int)] 2 (0, 0))) := hid (by rw [hW2]; exact heap_new (by simp))
  have gr2 : Hid (Gr w W2) := hid (by rw [hW2]; exact (((((Gr.refl _).alloc _).alloc _).alloc _).alloc _).alloc _)
  have hz2 : Hid (W2.heap.size = w.heap.size + 5) := hid (by rw [hW2]; simp)
  clear hW2
  go_wp2_with fail
  clear HK HN HS HB HBT
  refine wp_rangeFunc_V (lb := #[.pointer (some ⟨w.heap.size + 1 + 1 + 1 + 1, 0, none⟩)]) (gf := 95) rfl (callFunc_enter Try.func95 (by kernel_rfl) (by kernel_rfl))
    (fun W hb hz => patterns_iter n n1 n2 _ W (by rw [cell_of_row _ _ _ _ _ _ ((hb.block _ (lt_of_heap c4.out)).trans c4.out)]; rfl))
    (fun m B C x hm h o => h.keep o hm) (fun _ => rfl)
    (fun _ pre B => (B.heap[w.heap.size]? = some (.cells #[.int .i64 K] 2 (0, 0)) ∧ B.heap[w.heap.size + 1]? = some (.cells #[.int .i64 S] 2 (0, 0)) ∧ B.heap[w.heap.size + 1 + 1]? = some (.cells #[.int .i64 (bb : Int)] 2 (0, 0)) ∧ B.heap[w.heap.size + 1 + 1 + 1]? = some (.cells #[.int .i64 (sumW K S bb n (pre.map (·.2)))] 2 (0, 0))) ∧ Gr w B)
    (fun c pre C => False)
    ?init ?a1 ?assign ?body ?done ?stop
  case assign =>
    intro l x W K hK
    gi_wp2
    exact hK
  case init =>
    intro n' B hb hn1 hn2
    exact ⟨⟨(hb.block _ (lt_of_heap c0.out)).trans c0.out, (hb.block _ (lt_of_heap c1.out)).trans c1.out, (hb.block _ (lt_of_heap c2.out)).trans c2.out, (hb.block _ (lt_of_heap c3.out)).trans c3.out⟩, gr2.out.trans hb⟩
  case body =>
    rintro l n' pre ⟨v, M⟩ A B hn1 hn2 ⟨⟨h0, h1, h2, h3⟩, hg⟩ ho hok hnx
    have hrg : Rgs M n := pat_rgs (nx_mem hnx)
    have hok' : Own .i8 22 B A.heap.size B.heap.size v M := hok
    obtain ⟨gv, cv, rfl, hcv⟩ := own_shape hok' (by have := hrg.1; omega)
    have HRG := hid hrg
    have HCV := hid hcv
    have HSL : Hid (SliceOf .i8 B (some ⟨gv, 0, none⟩) M) := hid hok'.reads
    have k0 := hid (ho.heap h0 (.inl (by rw [hz2.out]; omega)))
    have k1 := hid (ho.heap h1 (.inl (by rw [hz2.out]; omega)))
    have k2 := hid (ho.heap h2 (.inl (by rw [hz2.out]; omega)))
    have k3 := hid (ho.heap h3 (.inl (by rw [hz2.out]; omega)))
    have HGB := hid (Gr_out hg ho gr2.out.size)
    obtain ⟨s0, s9⟩ := nx_le (S := S) (B := bb) (n := n) (by omega : 0 ≤ K) k2' n2 (patF_big n2) hnx
    have HPS := hid (show sumW K S bb n ((pre ++ [((.slice (some ⟨gv, 0, none⟩) M.length cv : Value), M)]).map (·.2)) = sumW K S bb n (pre.map (·.2)) + wgt K S bb n M by rw [List.map_append]; exact sumW_snoc _ _ _ _ _ _)
    have c0' : B.cell? ⟨w.heap.size, 0, none⟩ = some (.int .i64 K) := by rw [cell_of_row _ _ _ _ _ _ k0.out]; rfl
    have c1' : B.cell? ⟨w.heap.size + 1, 0, none⟩ = some (.int .i64 S) := by rw [cell_of_row _ _ _ _ _ _ k1.out]; rfl
    have c2' : B.cell? ⟨w.heap.size + 1 + 1, 0, none⟩ = some (.int .i64 (bb : Int)) := by rw [cell_of_row _ _ _ _ _ _ k2.out]; rfl
    have hml : M.length = n := hrg.1
    have HPL := rgs_plain hrg n1 n2
    have HAK : askC M S (bb : Int) = 0 := by
      unfold askC
      rw [if_pos HPL, betB_iff.2 ⟨s1, s2⟩, betB_iff.2 (show (0 : Int) ≤ (bb : Int) ∧ (bb : Int) ≤ 4 by omega)]
      rfl
    have HHF := hid (fun V (hs : SliceOf .i8 V (some ⟨gv, 0, none⟩) M) => CallsIn.inRound l ((callsIn_wide (n := 6)).2 (impl_HoistFor_cap (some ⟨gv, 0, none⟩) cv M (by omega) hcv (rgs_fits hrg n2) S (bb : Int) V hs)))
    rw [(hfor_yes HAK).2.1, (hfor_yes HAK).1, Int.toNat_natCast] at HHF
    have HWG := hid (show wgt K S bb n M = if hoistsL M S bb = [] then 0 else wtC K (used M n) from rfl)
    have HMX := hid (fun V (hs : SliceOf .i8 V (some ⟨gv, 0, none⟩) M) => maxMeaning_any gv 0 n cv M hml.symm n1 (by omega) V hs)
    rw [mx_used hrg (by omega : n - 1 < n), show n - 1 + 1 = n by omega] at HMX
    have hu6 := used_le M n
    have HWT := hid (fun V => waysToChoose_any (used M n) (by omega) K (by omega) k2' V)
    obtain ⟨q0, q9⟩ := wtC_big (by omega : 0 ≤ K) k2' (by omega : used M n ≤ 6)
    have HNB := hid (show n' ≤ B.heap.size by have := ho.size; omega)
    clear h0 h1 h2 h3 hg ho hnx hok hok' hn1 hn2 hrg hcv HPL HAK
    rw [hml] at HHF HPS ⊢
    generalize pre ++ [((.slice (some ⟨gv, 0, none⟩) n cv : Value), M)] = pre' at *
    generalize hoistsL M S bb = R at *
    generalize wtC K (used M n) = q at *
    generalize used M n = u at *
    generalize sumW K S bb n (pre.map (·.2)) = sm at *
    gi_wp2_with fail
    refine ⟨trivial, ?_⟩
    refine (HHF.out B HSL.out).mono ?_
    rintro e V ⟨vr, rfl, ow, gV⟩
    obtain ⟨ar, cr, rfl⟩ := ow.shape
    unfold withCode
    have K0 := hid (gV.heap k0.out)
    have K1 := hid (gV.heap k1.out)
    have K2 := hid (gV.heap k2.out)
    have K3 := hid (gV.heap k3.out)
    have HGV := hid ((show Gr w B from HGB.out).trans gV)
    have HSV : Hid (SliceOf .i8 V (some ⟨gv, 0, none⟩) M) := hid (HSL.out.gr gV)
    have HIN : Hid (Ins W2.heap.size n' B V) := hid (Ins.ofBelow gV HNB.out)
    clear ow gV k0 k1 k2 k3 HGB HSL HHF c0' c1' c2'
    by_cases hR : R = []
    · subst hR
      have HW0 := hid (HWG.out.trans (if_pos rfl))
      rw [HW0.out] at HPS
      generalize (headL []).length = qr at *
      rw [show headC [] = 6 from rfl]
      gi_wp2_with fail
      exact ⟨HIN.out, ⟨K0.out, K1.out, K2.out, by rw [HPS.out, Int.add_zero]; exact K3.out⟩, HGV.out⟩
    · have HW0 := hid (HWG.out.trans (if_neg hR))
      rw [HW0.out] at HPS
      rw [headC_ok hR]
      clear HWG HW0 hR
      generalize (headL R).length = qr at *
      have ct : V.cell? ⟨w.heap.size + 1 + 1 + 1, 0, none⟩ = some (.int .i64 sm) := by rw [cell_of_row _ _ _ _ _ _ K3.out]; rfl
      have ft : V.frozen? ⟨w.heap.size + 1 + 1 + 1, 0, none⟩ = false := frozen_of_row _ _ _ _ _ K3.out
      have ck : V.cell? ⟨w.heap.size, 0, none⟩ = some (.int .i64 K) := by rw [cell_of_row _ _ _ _ _ _ K0.out]; rfl
      have eu : IntKind.i64.wrap (u : Int) = (u : Int) := IntWalk.i64_in _ (by omega)
      have eu2 : IntKind.i64.wrap ((u : Int) - 1) = (u : Int) - 1 := IntWalk.i64_in _ (by omega)
      have es : IntKind.i64.wrap (sm + q) = sm + q := IntWalk.i64_in _ (by omega)
      gi_wp2_with fail
      refine wpIn_region_still_tail 8 rfl (by kernel_rfl) (by kernel_rfl) ?_
      simp only [List.take_succ_cons, List.take_zero, List.drop_succ_cons, List.drop_zero]
      still_step
      still_step
      still_call ((HMX.out _ (HSV.out.gr ((Gr.refl V).drew))).mono fun _ _ h => (⟨h.1, h.2.symm⟩ : _ ∧ _))
      still_step
      still_step
      still_step
      still_call ((HWT.out _).mono fun _ _ h => (⟨h.1, h.2.symm⟩ : _ ∧ _))
      still_step
      refine wpStill_nil ?_
      gi_wp2_with fail
      refine ⟨(HIN.out.setCell (p := ⟨w.heap.size + 1 + 1 + 1, 0, none⟩) (.inl (by dsimp only; rw [hz2.out]; omega)) _).drew, ⟨heap_stored (w := V) (by dsimp only; omega) K0.out, heap_stored (w := V) (by dsimp only; omega) K1.out, heap_stored (w := V) (by dsimp only; omega) K2.out, ?_⟩, (HGV.out.setCell (p := ⟨w.heap.size + 1 + 1 + 1, 0, none⟩) (by dsimp only; omega) _).drew⟩
      rw [HPS.out]
      show (V.setCell ⟨w.heap.size + 1 + 1 + 1, 0, none⟩ (.int .i64 (sm + q))).heap[w.heap.size + 1 + 1 + 1]? = _
      rw [heap_setCell_same V _ 0 _ _ _ K3.out]
      rfl
  case done =>
    intro n' xs' A W hn1 hn2 hS hI ho hd
    obtain ⟨⟨-, -, -, h3⟩, hg⟩ := hI
    have hS' : xs'.map (·.2) = patF n [] 0 := hS
    rw [hS'] at h3
    have k3 := hid (ho.heap h3 (.inl (by rw [hz2.out]; omega)))
    have HG := hid (Gr_out hg ho gr2.out.size)
    have HD := hid hd
    obtain ⟨T, hT⟩ : ∃ T, T = sumW K S bb n (patF n [] 0) := ⟨_, rfl⟩
    rw [← hT] at k3
    have HT := hid hT
    clear hT
    have ct : W.cell? ⟨w.heap.size + 1 + 1 + 1, 0, none⟩ = some (.int .i64 T) := by rw [cell_of_row _ _ _ _ _ _ k3.out]; rfl
    clear hd h3 hg ho hS hS' hn2
    go_wp2
    refine leaves_mark HD.out (results_tmp2 (by rfl) _ _ _) ⟨by rw [← HT.out]; rfl, Gr_putObj (show Gr w W from HG.out) (by rw [hz2.out]; omega) _⟩
  case stop =>
    rintro c pre A W - h
    exact h.elim
set_option maxRecDepth 100000 in
set_option maxHeartbeats 1000000 in
theorem impl_CountMeanings_any (K n S B : Int) (w : World) :
    Calls Try.prog 46 #[.int .i64 K, .int .i64 n, .int .i64 S, .int .i64 B] w fun e w' => e = .returned (.tuple #[.int .i64 (cntV K n S B), .int .i64 (cntC K n S B)]) ∧ Gr w w' := by
  cases h : cntB K n S B with
  | true =>
    obtain ⟨e1, e2⟩ := cnt_yes h
    rw [e1, e2]
    unfold cntB at h
    simp only [Bool.and_eq_true, betB_iff] at h
    obtain ⟨⟨⟨k1, k2⟩, n1, n2⟩, ⟨s1, s2⟩, b1, b2⟩ := h
    obtain ⟨m, rfl⟩ := Int.eq_ofNat_of_zero_le (by omega : 0 ≤ n)
    obtain ⟨b, rfl⟩ := Int.eq_ofNat_of_zero_le b1
    exact impl_CountMeanings_yes K m S b k1 k2 (by omega) (by omega) s1 s2 (by omega) w
  | false =>
    obtain ⟨e1, e2⟩ := cnt_no h
    rw [e1, e2]
    clear e1 e2
    have HBT := hid (fun a b c w => isBetween_any a b c w)
    have gr : Hid (Gr w (((w.alloc (.cells #[.int .i64 K] 2)).alloc (.cells #[.int .i64 S] 2)).alloc (.cells #[.int .i64 B] 2))) := hid ((((Gr.refl _).alloc _).alloc _).alloc _)
    have HH := hid h
    unfold cntB at HH
    clear h
    cases hk : betB K 1 40 with
    | false =>
      have HK := hid hk
      clear hk HH
      go_enter Try.func46, Try.ntmps46
      go_wp2_with (refine (HBT.out _ _ _ _).mono ?_; rintro e w' ⟨rfl, rfl⟩; rw [HK.out])
      go_ret2
      exact ⟨rfl, gr.out⟩
    | true =>
      cases hn : betB n 1 6 with
      | false =>
        have HK := hid hk
        have HN := hid hn
        clear hk hn HH
        go_enter Try.func46, Try.ntmps46
        go_wp2_with (refine (HBT.out _ _ _ _).mono ?_; rintro e w' ⟨rfl, rfl⟩; first | rw [HK.out] | rw [HN.out])
        go_ret2
        exact ⟨rfl, gr.out⟩
      | true =>
        rw [hk, hn] at HH
        have HK := hid hk
        have HN := hid hn
        clear hk hn
        cases hs : betB S 1 8 with
        | false =>
          have HS := hid hs
          clear hs HH
          go_enter Try.func46, Try.ntmps46
          go_wp2_with (refine (HBT.out _ _ _ _).mono ?_; rintro e w' ⟨rfl, rfl⟩; first | rw [HK.out] | rw [HN.out] | rw [HS.out])
          go_ret2
          exact ⟨rfl, gr.out⟩
        | true =>
          have HB : Hid (betB B 0 4 = false) := hid (by have := HH.out; rw [hs] at this; simpa using this)
          have HS := hid hs
          clear hs HH
          go_enter Try.func46, Try.ntmps46
          go_wp2_with (refine (HBT.out _ _ _ _).mono ?_; rintro e w' ⟨rfl, rfl⟩; first | rw [HK.out] | rw [HN.out] | rw [HS.out] | rw [HB.out])
          go_ret2
          exact ⟨rfl, gr.out⟩
end Go.Proofs.Ytkbdblaciphmnaa
