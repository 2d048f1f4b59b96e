/- How many meanings there are: the program's function. -/
import Derived.Test.YtfaiehjomcgjgaaDoorGCnt
import Derived.Test.YtfaiehjomcgjgaaDoorStillIn
import Derived.StillTailTactics
import Derived.Test.YtfaiehjomcgjgaaDoorGKit
import Derived.Test.YtfaiehjomcgjgaaDoorGHst
import Derived.Laws.IdiomStrings
import Derived.Maps.OwnSet
import Derived.Test.YtfaiehjomcgjgaaDoorGCho
import Derived.Test.YtfaiehjomcgjgaaDoorGLook
namespace Go.Proofs.YtfaiehjomcgjgaaDoor
set_option linter.unusedVariables false
open Go.RowKit
attribute [local go_sem] Oper.semAt_some
def cntB (K n S B : Int) : Bool := betB K 1 40 && betB n 1 6 && (betB S 1 8 && betB B 0 4)
def cntV (K n S B : Int) : Int := if cntB K n S B then sumW K S B.toNat n.toNat (patF n.toNat [] 0) else 0
def cntC (K n S B : Int) : Int := if cntB K n S B then 0 else 2
theorem cnt_no {K n S B : Int} (h : cntB K n S B = false) : cntV K n S B = 0 ∧ cntC K n S B = 2 := by unfold cntV cntC; rw [h]; exact ⟨rfl, rfl⟩
theorem cnt_yes {K n S B : Int} (h : cntB K n S B = true) : cntV K n S B = sumW K S B.toNat n.toNat (patF n.toNat [] 0) ∧ cntC K n S B = 0 := by unfold cntV cntC; rw [h]; exact ⟨rfl, rfl⟩
theorem betB_iff {n a b : Int} : betB n a b = true ↔ a ≤ n ∧ n ≤ b := by unfold betB; simp
theorem rgs_plain {M : List Int} {n : Nat} (h : Rgs M n) (h1 : 1 ≤ n) (h6 : n ≤ 6) : plainH M = true := by
  have key : ∀ i, i < M.length → brkI (M.getD i 0) = false ∧ subI (M.getD i 0) = false ∧ kindI (M.getD i 0) = true := fun i hi => by
    obtain ⟨p, hp, hu⟩ := h.2 i (by rw [← h.1]; exact hi)
    have := used_le M i
    have hl := h.1
    rw [hp]
    rcases (show p = 0 ∨ p = 1 ∨ p = 2 ∨ p = 3 ∨ p = 4 ∨ p = 5 ∨ p = 6 by omega) with rfl | rfl | rfl | rfl | rfl | rfl | rfl <;> exact ⟨rfl, rfl, rfl⟩
  unfold plainH validH lenB
  simp only [Bool.and_eq_true, allTo_iff, decide_eq_true_eq]
  refine ⟨⟨⟨by rw [h.1]; exact h1, by rw [h.1]; omega⟩, fun i hi => ?_⟩, fun i hi => ?_⟩
  · obtain ⟨a, b, c⟩ := key i hi
    unfold okAt
    rw [a, b, c]
    rfl
  · unfold ownAt
    rw [(key i hi).2.1]
    rfl
theorem own_shape {e : TypeId} {w : World} {lo hi : Nat} {v : Value} {xs : List Int} (h : Own .i8 e w lo hi v xs) (h1 : 1 ≤ xs.length) : ∃ g cap, v = .slice (some ⟨g, 0, none⟩) xs.length cap ∧ xs.length ≤ cap := by
  rcases h.row.2 with ⟨_, h2⟩ | ⟨g, cap, cur, h2, _, _, h3, _⟩
  · omega
  · exact ⟨g, cap, h2, h3⟩
theorem sumW_snoc (K S : Int) (B n : Nat) (L : List (List Int)) (M : List Int) : sumW K S B n (L ++ [M]) = sumW K S B n L + wgt K S B n M := by
  rw [sumW_append]
  simp [sumW]
theorem nx_mem {L : List (List Int)} {pre : List Yld} {x : Yld} (h : NxH L pre x) : x.2 ∈ L := by
  obtain ⟨rest, rfl⟩ := h
  exact List.mem_append.2 (.inr List.mem_cons_self)
theorem nx_le {K S : Int} {B n : Nat} {L : List (List Int)} {pre : List Yld} {x : Yld} (h0 : 0 ≤ K) (h4 : K ≤ 40) (hn : n ≤ 6) (hL : L.length ≤ 117649) (h : NxH L pre x) : 0 ≤ sumW K S B n (pre.map (·.2)) ∧ sumW K S B n (pre.map (·.2)) ≤ 481890304000000 := by
  obtain ⟨rest, rfl⟩ := h
  rw [List.length_append, List.length_map] at hL
  have := sumW_bd (S := S) (B := B) h0 h4 hn (pre.map (·.2))
  rw [List.length_map] at this
  omega
set_option maxRecDepth 100000 in
theorem patterns_any (n : Int) (w : World) :
    Calls Tryd.prog 106 #[.int .i64 n] w fun e w' => e = .returned (.func (.func 122) #[] #[.pointer (some ⟨w.heap.size, 0, none⟩)]) ∧ w' = w.alloc (.cells #[.int .i64 n] 2) := by
  go_enter Tryd.func106, Tryd.ntmps106
  go_wp2_with fail
  go_ret
  exact ⟨rfl, rfl⟩
set_option maxHeartbeats 1000000 in
set_option maxRecDepth 100000 in
theorem impl_CountMeanings_yes (K : Int) (n : Nat) (S : Int) (bb : Nat) (k1 : 1 ≤ K) (k2 : K ≤ 40) (n1 : 1 ≤ n) (n2 : n ≤ 6) (s1 : 1 ≤ S) (s2 : S ≤ 8) (b2 : bb ≤ 4) (w : World) :
    Calls Tryd.prog 95 #[.int .i64 K, .int .i64 n, .int .i64 S, .int .i64 bb] w fun e w' => e = .returned (.tuple #[.int .i64 (sumW K S bb n (patF n [] 0)), .int .i64 0]) ∧ Gr w w' := by
  have k2' := k2
  have HK := hid (betB_iff.2 ⟨k1, k2⟩)
  have HN := hid (betB_iff.2 (show (1 : Int) ≤ (n : Int) ∧ (n : Int) ≤ 6 by omega))
  have HS := hid (betB_iff.2 ⟨s1, s2⟩)
  have HB := hid (betB_iff.2 (show (0 : Int) ≤ (bb : Int) ∧ (bb : Int) ≤ 4 by omega))
  have HBT := hid (fun a b c w => isBetween_any a b c w)
  refine (callsIn_wide (n := 9)).1 (callsIn_of_wp_marks Tryd.func95 rfl trivial (wpIn_wide.2 ?_) rfl)
  simp only [Tryd.ntmps95, List.size_toArray, List.length_cons, List.length_nil, Nat.reduceAdd, Nat.reduceSub, Array.replicate_succ, Array.replicate_zero, List.push_toArray, List.append_toArray, List.nil_append, List.cons_append]
  go_wp2_with (refine (HBT.out _ _ _ _).mono ?_; rintro e w' ⟨rfl, rfl⟩; first | rw [HK.out] | rw [HN.out] | rw [HS.out] | rw [HB.out])
  refine (patterns_any _ _).mono ?_
  rintro e W2 ⟨rfl, hW2⟩
  have c0 : Hid (W2.heap[w.heap.size]? = some (.cells #[.int .i64 K] 2 (0, 0))) := hid (by rw [hW2]; exact heap_kept (heap_kept (heap_kept (heap_kept (heap_new rfl)))))
  have c1 : Hid (W2.heap[w.heap.size + 1]? = some (.cells #[.int .i64 S] 2 (0, 0))) := hid (by rw [hW2]; exact heap_kept (heap_kept (heap_kept (heap_new (by simp)))))
  have c2 : Hid (W2.heap[w.heap.size + 1 + 1]? = some (.cells #[.int .i64 (bb : Int)] 2 (0, 0))) := hid (by rw [hW2]; exact heap_kept (heap_kept (heap_new (by simp))))
  have c3 : Hid (W2.heap[w.heap.size + 1 + 1 + 1]? = some (.cells #[.int .i64 0] 2 (0, 0))) := hid (by rw [hW2]; exact heap_kept (heap_new (by simp)))
  have c4 : Hid (W2.heap[w.heap.size + 1 + 1 + 1 + 1]? = some (.cells #[.int .i64 (n : Int)] 2 (0, 0))) := hid (by rw [hW2]; exact heap_new (by simp))
  have gr2 : Hid (Gr w W2) := hid (by rw [hW2]; exact (((((Gr.refl _).alloc _).alloc _).alloc _).alloc _).alloc _)
  have hz2 : Hid (W2.heap.size = w.heap.size + 5) := hid (by rw [hW2]; simp)
  clear hW2
  go_wp2_with fail
  clear HK HN HS HB HBT
  refine wp_rangeFunc_V (lb := #[.pointer (some ⟨w.heap.size + 1 + 1 + 1 + 1, 0, none⟩)]) (gf := 122) rfl (callFunc_enter Tryd.func122 (by kernel_rfl) (by kernel_rfl))
    (fun W hb hz => patterns_iter n n1 n2 _ W (by rw [cell_of_row _ _ _ _ _ _ ((hb.block _ (lt_of_heap c4.out)).trans c4.out)]; rfl))
    (fun m B C x hm h o => h.keep o hm) (fun _ => rfl)
    (fun _ pre B => (B.heap[w.heap.size]? = some (.cells #[.int .i64 K] 2 (0, 0)) ∧ B.heap[w.heap.size + 1]? = some (.cells #[.int .i64 S] 2 (0, 0)) ∧ B.heap[w.heap.size + 1 + 1]? = some (.cells #[.int .i64 (bb : Int)] 2 (0, 0)) ∧ B.heap[w.heap.size + 1 + 1 + 1]? = some (.cells #[.int .i64 (sumW K S bb n (pre.map (·.2)))] 2 (0, 0))) ∧ Gr w B)
    (fun c pre C => False)
    ?init ?a1 ?assign ?body ?done ?stop
  case assign =>
    intro l x W K hK
    gi_wp2
    exact hK
  case init =>
    intro n' B hb hn1 hn2
    exact ⟨⟨(hb.block _ (lt_of_heap c0.out)).trans c0.out, (hb.block _ (lt_of_heap c1.out)).trans c1.out, (hb.block _ (lt_of_heap c2.out)).trans c2.out, (hb.block _ (lt_of_heap c3.out)).trans c3.out⟩, gr2.out.trans hb⟩
  case body =>
    rintro l n' pre ⟨v, M⟩ A B hn1 hn2 ⟨⟨h0, h1, h2, h3⟩, hg⟩ ho hok hnx
    have hrg : Rgs M n := pat_rgs (nx_mem hnx)
    have hok' : Own .i8 22 B A.heap.size B.heap.size v M := hok
    obtain ⟨gv, cv, rfl, hcv⟩ := own_shape hok' (by have := hrg.1; omega)
    have HRG := hid hrg
    have HCV := hid hcv
    have HSL : Hid (SliceOf .i8 B (some ⟨gv, 0, none⟩) M) := hid hok'.reads
    have k0 := hid (ho.heap h0 (.inl (by rw [hz2.out]; omega)))
    have k1 := hid (ho.heap h1 (.inl (by rw [hz2.out]; omega)))
    have k2 := hid (ho.heap h2 (.inl (by rw [hz2.out]; omega)))
    have k3 := hid (ho.heap h3 (.inl (by rw [hz2.out]; omega)))
    have HGB := hid (Gr_out hg ho gr2.out.size)
    obtain ⟨s0, s9⟩ := nx_le (S := S) (B := bb) (n := n) (by omega : 0 ≤ K) k2' n2 (patF_big n2) hnx
    have HPS := hid (show sumW K S bb n ((pre ++ [((.slice (some ⟨gv, 0, none⟩) M.length cv : Value), M)]).map (·.2)) = sumW K S bb n (pre.map (·.2)) + wgt K S bb n M by rw [List.map_append]; exact sumW_snoc _ _ _ _ _ _)
    have c0' : B.cell? ⟨w.heap.size, 0, none⟩ = some (.int .i64 K) := by rw [cell_of_row _ _ _ _ _ _ k0.out]; rfl
    have c1' : B.cell? ⟨w.heap.size + 1, 0, none⟩ = some (.int .i64 S) := by rw [cell_of_row _ _ _ _ _ _ k1.out]; rfl
    have c2' : B.cell? ⟨w.heap.size + 1 + 1, 0, none⟩ = some (.int .i64 (bb : Int)) := by rw [cell_of_row _ _ _ _ _ _ k2.out]; rfl
    have hml : M.length = n := hrg.1
    have HPL := rgs_plain hrg n1 n2
    have HAK : askC M S (bb : Int) = 0 := by
      unfold askC
      rw [if_pos HPL, betB_iff.2 ⟨s1, s2⟩, betB_iff.2 (show (0 : Int) ≤ (bb : Int) ∧ (bb : Int) ≤ 4 by omega)]
      rfl
    have HHF := hid (fun V (hs : SliceOf .i8 V (some ⟨gv, 0, none⟩) M) => CallsIn.inRound l ((callsIn_wide (n := 6)).2 (impl_HoistFor_cap (some ⟨gv, 0, none⟩) cv M (by omega) hcv (rgs_fits hrg n2) S (bb : Int) V hs)))
    rw [(hfor_yes HAK).2.1, (hfor_yes HAK).1, Int.toNat_natCast] at HHF
    have HWG := hid (show wgt K S bb n M = if hoistsL M S bb = [] then 0 else wtC K (used M n) from rfl)
    have HMX := hid (fun V (hs : SliceOf .i8 V (some ⟨gv, 0, none⟩) M) => maxMeaning_any gv 0 n cv M hml.symm n1 (by omega) V hs)
    rw [mx_used hrg (by omega : n - 1 < n), show n - 1 + 1 = n by omega] at HMX
    have hu6 := used_le M n
    have HWT := hid (fun V => waysToChoose_any (used M n) (by omega) K (by omega) k2' V)
    obtain ⟨q0, q9⟩ := wtC_big (by omega : 0 ≤ K) k2' (by omega : used M n ≤ 6)
    have HNB := hid (show n' ≤ B.heap.size by have := ho.size; omega)
    clear h0 h1 h2 h3 hg ho hnx hok hok' hn1 hn2 hrg hcv HPL HAK
    rw [hml] at HHF HPS ⊢
    generalize pre ++ [((.slice (some ⟨gv, 0, none⟩) n cv : Value), M)] = pre' at *
    generalize hoistsL M S bb = R at *
    generalize wtC K (used M n) = q at *
    generalize used M n = u at *
    generalize sumW K S bb n (pre.map (·.2)) = sm at *
    gi_wp2_with fail
    refine ⟨trivial, ?_⟩
    refine (HHF.out B HSL.out).mono ?_
    rintro e V ⟨vr, rfl, ow, gV⟩
    obtain ⟨ar, cr, rfl⟩ := ow.shape
    unfold withCode
    have K0 := hid (gV.heap k0.out)
    have K1 := hid (gV.heap k1.out)
    have K2 := hid (gV.heap k2.out)
    have K3 := hid (gV.heap k3.out)
    have HGV := hid ((show Gr w B from HGB.out).trans gV)
    have HSV : Hid (SliceOf .i8 V (some ⟨gv, 0, none⟩) M) := hid (HSL.out.gr gV)
    have HIN : Hid (Ins W2.heap.size n' B V) := hid (Ins.ofBelow gV HNB.out)
    clear ow gV k0 k1 k2 k3 HGB HSL HHF c0' c1' c2'
    by_cases hR : R = []
    · subst hR
      have HW0 := hid (HWG.out.trans (if_pos rfl))
      rw [HW0.out] at HPS
      generalize (headL []).length = qr at *
      rw [show headC [] = 6 from rfl]
      gi_wp2_with fail
      exact ⟨HIN.out, ⟨K0.out, K1.out, K2.out, by rw [HPS.out, Int.add_zero]; exact K3.out⟩, HGV.out⟩
    · have HW0 := hid (HWG.out.trans (if_neg hR))
      rw [HW0.out] at HPS
      rw [headC_ok hR]
      clear HWG HW0 hR
      generalize (headL R).length = qr at *
      have ct : V.cell? ⟨w.heap.size + 1 + 1 + 1, 0, none⟩ = some (.int .i64 sm) := by rw [cell_of_row _ _ _ _ _ _ K3.out]; rfl
      have ft : V.frozen? ⟨w.heap.size + 1 + 1 + 1, 0, none⟩ = false := frozen_of_row _ _ _ _ _ K3.out
      have ck : V.cell? ⟨w.heap.size, 0, none⟩ = some (.int .i64 K) := by rw [cell_of_row _ _ _ _ _ _ K0.out]; rfl
      have eu : IntKind.i64.wrap (u : Int) = (u : Int) := IntWalk.i64_in _ (by omega)
      have eu2 : IntKind.i64.wrap ((u : Int) - 1) = (u : Int) - 1 := IntWalk.i64_in _ (by omega)
      have es : IntKind.i64.wrap (sm + q) = sm + q := IntWalk.i64_in _ (by omega)
      gi_wp2_with fail
      refine wpIn_region_still_tail 8 rfl (by kernel_rfl) (by kernel_rfl) ?_
      simp only [List.take_succ_cons, List.take_zero, List.drop_succ_cons, List.drop_zero]
      still_step
      still_step
      still_call ((HMX.out _ (HSV.out.gr ((Gr.refl V).drew))).mono fun _ _ h => (⟨h.1, h.2.symm⟩ : _ ∧ _))
      still_step
      still_step
      still_step
      still_call ((HWT.out _).mono fun _ _ h => (⟨h.1, h.2.symm⟩ : _ ∧ _))
      still_step
      refine wpStill_nil ?_
      gi_wp2_with fail
      refine ⟨(HIN.out.setCell (p := ⟨w.heap.size + 1 + 1 + 1, 0, none⟩) (.inl (by dsimp only; rw [hz2.out]; omega)) _).drew, ⟨heap_stored (w := V) (by dsimp only; omega) K0.out, heap_stored (w := V) (by dsimp only; omega) K1.out, heap_stored (w := V) (by dsimp only; omega) K2.out, ?_⟩, (HGV.out.setCell (p := ⟨w.heap.size + 1 + 1 + 1, 0, none⟩) (by dsimp only; omega) _).drew⟩
      rw [HPS.out]
      show (V.setCell ⟨w.heap.size + 1 + 1 + 1, 0, none⟩ (.int .i64 (sm + q))).heap[w.heap.size + 1 + 1 + 1]? = _
      rw [heap_setCell_same V _ 0 _ _ _ K3.out]
      rfl
  case done =>
    intro n' xs' A W hn1 hn2 hS hI ho hd
    obtain ⟨⟨-, -, -, h3⟩, hg⟩ := hI
    have hS' : xs'.map (·.2) = patF n [] 0 := hS
    rw [hS'] at h3
    have k3 := hid (ho.heap h3 (.inl (by rw [hz2.out]; omega)))
    have HG := hid (Gr_out hg ho gr2.out.size)
    have HD := hid hd
    obtain ⟨T, hT⟩ : ∃ T, T = sumW K S bb n (patF n [] 0) := ⟨_, rfl⟩
    rw [← hT] at k3
    have HT := hid hT
    clear hT
    have ct : W.cell? ⟨w.heap.size + 1 + 1 + 1, 0, none⟩ = some (.int .i64 T) := by rw [cell_of_row _ _ _ _ _ _ k3.out]; rfl
    clear hd h3 hg ho hS hS' hn2
    go_wp2
    refine leaves_mark HD.out (results_tmp2 (by rfl) _ _ _) ⟨by rw [← HT.out]; rfl, Gr_putObj (show Gr w W from HG.out) (by rw [hz2.out]; omega) _⟩
  case stop =>
    rintro c pre A W - h
    exact h.elim
set_option maxRecDepth 100000 in
set_option maxHeartbeats 1000000 in
theorem impl_CountMeanings_any (K n S B : Int) (w : World) :
    Calls Tryd.prog 95 #[.int .i64 K, .int .i64 n, .int .i64 S, .int .i64 B] w fun e w' => e = .returned (.tuple #[.int .i64 (cntV K n S B), .int .i64 (cntC K n S B)]) ∧ Gr w w' := by
  cases h : cntB K n S B with
  | true =>
    obtain ⟨e1, e2⟩ := cnt_yes h
    rw [e1, e2]
    unfold cntB at h
    simp only [Bool.and_eq_true, betB_iff] at h
    obtain ⟨⟨⟨k1, k2⟩, n1, n2⟩, ⟨s1, s2⟩, b1, b2⟩ := h
    obtain ⟨m, rfl⟩ := Int.eq_ofNat_of_zero_le (by omega : 0 ≤ n)
    obtain ⟨b, rfl⟩ := Int.eq_ofNat_of_zero_le b1
    exact impl_CountMeanings_yes K m S b k1 k2 (by omega) (by omega) s1 s2 (by omega) w
  | false =>
    obtain ⟨e1, e2⟩ := cnt_no h
    rw [e1, e2]
    clear e1 e2
    have HBT := hid (fun a b c w => isBetween_any a b c w)
    have gr : Hid (Gr w (((w.alloc (.cells #[.int .i64 K] 2)).alloc (.cells #[.int .i64 S] 2)).alloc (.cells #[.int .i64 B] 2))) := hid ((((Gr.refl _).alloc _).alloc _).alloc _)
    have HH := hid h
    unfold cntB at HH
    clear h
    cases hk : betB K 1 40 with
    | false =>
      have HK := hid hk
      clear hk HH
      go_enter Tryd.func95, Tryd.ntmps95
      go_wp2_with (refine (HBT.out _ _ _ _).mono ?_; rintro e w' ⟨rfl, rfl⟩; rw [HK.out])
      go_ret2
      exact ⟨rfl, gr.out⟩
    | true =>
      cases hn : betB n 1 6 with
      | false =>
        have HK := hid hk
        have HN := hid hn
        clear hk hn HH
        go_enter Tryd.func95, Tryd.ntmps95
        go_wp2_with (refine (HBT.out _ _ _ _).mono ?_; rintro e w' ⟨rfl, rfl⟩; first | rw [HK.out] | rw [HN.out])
        go_ret2
        exact ⟨rfl, gr.out⟩
      | true =>
        rw [hk, hn] at HH
        have HK := hid hk
        have HN := hid hn
        clear hk hn
        cases hs : betB S 1 8 with
        | false =>
          have HS := hid hs
          clear hs HH
          go_enter Tryd.func95, Tryd.ntmps95
          go_wp2_with (refine (HBT.out _ _ _ _).mono ?_; rintro e w' ⟨rfl, rfl⟩; first | rw [HK.out] | rw [HN.out] | rw [HS.out])
          go_ret2
          exact ⟨rfl, gr.out⟩
        | true =>
          have HB : Hid (betB B 0 4 = false) := hid (by have := HH.out; rw [hs] at this; simpa using this)
          have HS := hid hs
          clear hs HH
          go_enter Tryd.func95, Tryd.ntmps95
          go_wp2_with (refine (HBT.out _ _ _ _).mono ?_; rintro e w' ⟨rfl, rfl⟩; first | rw [HK.out] | rw [HN.out] | rw [HS.out] | rw [HB.out])
          go_ret2
          exact ⟨rfl, gr.out⟩
end Go.Proofs.YtfaiehjomcgjgaaDoor

/- Books: their meanings: plain lists; how many there are. -/
namespace Go.Proofs.YtfaiehjomcgjgaaDoor
set_option linter.unusedVariables false
open Go.RowKit
/-- Lists, each with one more number. -/
def extK (K : Nat) (L : List (List Int)) : List (List Int) := L.flatMap fun m => (List.range K).map fun (x : Nat) => m ++ [(x : Int)]
/-- All lists of so many kinds, in ascending order. -/
def kindsS (K : Nat) : Nat → List (List Int)
  | 0 => [[]]
  | n + 1 => extK K (kindsS K n)
def canH (B : Nat) (m : List Int) : Bool := !(hoistsL m 1 B).isEmpty
/-- The meanings of a book. -/
def bookL (K B : Nat) : Nat → List (List Int)
  | 0 => []
  | n + 1 => bookL K B n ++ (kindsS K (n + 1)).filter (canH B)
theorem extK_append (K : Nat) (L L' : List (List Int)) : extK K (L ++ L') = extK K L ++ extK K L' := by simp [extK]
theorem extK_one (K : Nat) (m : List Int) : extK K [m] = (List.range K).map fun (x : Nat) => m ++ [(x : Int)] := by simp [extK]
theorem mem_extK {K : Nat} {L : List (List Int)} {m : List Int} : m ∈ extK K L ↔ ∃ l ∈ L, ∃ x : Nat, x < K ∧ m = l ++ [(x : Int)] := by
  simp only [extK, List.mem_flatMap, List.mem_map, List.mem_range]
  constructor
  · rintro ⟨l, hl, x, hx, rfl⟩; exact ⟨l, hl, x, hx, rfl⟩
  · rintro ⟨l, hl, x, hx, rfl⟩; exact ⟨l, hl, x, hx, rfl⟩
theorem extK_length (K : Nat) : ∀ L : List (List Int), (extK K L).length = L.length * K
  | [] => by simp [extK]
  | m :: L => by
    have := extK_length K L
    rw [show m :: L = [m] ++ L from rfl, extK_append, List.length_append, this, extK_one, List.length_map, List.length_range, List.length_append, List.length_singleton, Nat.add_mul, Nat.one_mul]
theorem kindsS_length (K : Nat) : ∀ n, (kindsS K n).length = K ^ n
  | 0 => rfl
  | n + 1 => by rw [kindsS, extK_length, kindsS_length K n, Nat.pow_succ]
theorem mem_kindsS {K : Nat} : ∀ {n : Nat} {m : List Int}, m ∈ kindsS K n ↔ m.length = n ∧ ∀ i, i < n → 0 ≤ m.getD i 0 ∧ m.getD i 0 < K
  | 0, m => by
    simp only [kindsS, List.mem_singleton]
    constructor
    · rintro rfl; exact ⟨rfl, fun i hi => by omega⟩
    · rintro ⟨h, _⟩; exact List.length_eq_zero_iff.1 h
  | n + 1, m => by
    rw [kindsS, mem_extK]
    constructor
    · rintro ⟨l, hl, x, hx, rfl⟩
      obtain ⟨h1, h2⟩ := mem_kindsS.1 hl
      refine ⟨by simp [h1], fun i hi => ?_⟩
      by_cases e : i = n
      · subst e; simp [List.getD, ← h1]; exact hx
      · have := h2 i (by omega)
        rw [List.getD_eq_getElem?_getD, List.getElem?_append_left (by omega), ← List.getD_eq_getElem?_getD]; exact this
    · rintro ⟨h1, h2⟩
      have hne : m ≠ [] := by intro e; subst e; simp at h1
      refine ⟨m.dropLast, mem_kindsS.2 ⟨by simp [h1], fun i hi => ?_⟩, (m.getLast hne).toNat, ?_, ?_⟩
      · have := h2 i (by omega)
        have e : m.dropLast.getD i 0 = m.getD i 0 := by
          have hl : i < m.length := by omega
          simp [List.getD, h1, hi, List.getElem?_eq_getElem hl]
        rw [e]; exact this
      · have := h2 n (by omega)
        rw [List.getLast_eq_getElem]
        simp only [List.getD, h1, Nat.add_sub_cancel]  at this ⊢
        rw [List.getElem?_eq_getElem (by omega)] at this
        simp at this; omega
      · have := h2 n (by omega)
        have e : ((m.getLast hne).toNat : Int) = m.getLast hne := by
          rw [List.getLast_eq_getElem]
          simp only [List.getD, h1, Nat.add_sub_cancel] at this ⊢
          rw [List.getElem?_eq_getElem (by omega)] at this
          simp at this; omega
        rw [e, List.dropLast_concat_getLast]
/-- Which lists can be hoisted with one set. -/
def c3 (B : Nat) : List Int → Bool
  | [_] => true
  | [a, b] => !(a == b) || decide (1 ≤ B)
  | [a, b, c] => if b == c then decide (2 ≤ B) else if a == b || a == c then decide (1 ≤ B) else true
  | _ => false
def c3All (n : Nat) : Bool := (List.range 5).all fun B => (kindsS 10 n).all fun m => canH B m == c3 B m
def cntAll (n : Nat) : Bool := (List.range 11).all fun K => (List.range 5).all fun B => decide ((((kindsS K n).filter (c3 B)).length : Int) = sumW K 1 B n (patF n [] 0))
set_option maxRecDepth 100000 in
theorem c3All_all : c3All 1 = true ∧ c3All 2 = true ∧ c3All 3 = true := by decide +kernel
set_option maxRecDepth 100000 in
theorem cntAll_all : cntAll 1 = true ∧ cntAll 2 = true ∧ cntAll 3 = true := by decide +kernel
theorem kindsS_ten {K n : Nat} {m : List Int} (hK : K ≤ 10) (h : m ∈ kindsS K n) : m ∈ kindsS 10 n := by
  obtain ⟨h1, h2⟩ := mem_kindsS.1 h
  exact mem_kindsS.2 ⟨h1, fun i hi => by have := h2 i hi; omega⟩
theorem canH_c3 {K B n : Nat} (hK : K ≤ 10) (hB : B ≤ 4) (h1 : 1 ≤ n) (h3 : n ≤ 3) {m : List Int} (h : m ∈ kindsS K n) : canH B m = c3 B m := by
  have key : c3All n = true := by rcases (show n = 1 ∨ n = 2 ∨ n = 3 by omega) with rfl | rfl | rfl <;> simp [c3All_all]
  have h' := kindsS_ten hK h
  have := List.all_eq_true.1 (List.all_eq_true.1 key B (List.mem_range.2 (by omega))) m h'
  simpa using this
theorem filter_len {K B n : Nat} (hK : K ≤ 10) (hB : B ≤ 4) (h1 : 1 ≤ n) (h3 : n ≤ 3) : (((kindsS K n).filter (canH B)).length : Int) = sumW K 1 B n (patF n [] 0) := by
  have key : cntAll n = true := by rcases (show n = 1 ∨ n = 2 ∨ n = 3 by omega) with rfl | rfl | rfl <;> simp [cntAll_all]
  rw [List.filter_congr fun m hm => canH_c3 hK hB h1 h3 hm]
  have := List.all_eq_true.1 (List.all_eq_true.1 key K (List.mem_range.2 (by omega))) B (List.mem_range.2 (by omega))
  simpa using this
/-- How many meanings there are, counted by lengths. -/
def roomTo (K B : Nat) : Nat → Int
  | 0 => 0
  | n + 1 => roomTo K B n + sumW K 1 B (n + 1) (patF (n + 1) [] 0)
theorem room_len {K B : Nat} (hK : K ≤ 10) (hB : B ≤ 4) : ∀ {n : Nat}, n ≤ 3 → roomTo K B n = ((bookL K B n).length : Int)
  | 0, _ => rfl
  | n + 1, h => by rw [roomTo, room_len hK hB (by omega), ← filter_len hK hB (by omega) (by omega), bookL, List.length_append]; omega
theorem kinds_bd {K n : Nat} (hK : K ≤ 10) (h3 : n ≤ 3) : (kindsS K n).length ≤ 1000 := by
  rw [kindsS_length]
  exact Nat.le_trans (Nat.pow_le_pow_left hK n) (Nat.le_trans (Nat.pow_le_pow_right (by omega) h3) (by decide))
theorem book_bd {K B : Nat} (hK : K ≤ 10) : ∀ {n : Nat}, n ≤ 3 → (bookL K B n).length ≤ n * 1000
  | 0, _ => by simp [bookL]
  | n + 1, h => by
    have h1 := book_bd (B := B) hK (n := n) (by omega)
    have h2 := kinds_bd hK h
    have h3 := List.length_filter_le (canH B) (kindsS K (n + 1))
    rw [bookL, List.length_append]; omega
theorem mem_bookL {K B : Nat} : ∀ {n : Nat} {m : List Int}, m ∈ bookL K B n → ∃ j, 1 ≤ j ∧ j ≤ n ∧ m ∈ kindsS K j ∧ canH B m = true
  | 0, m, h => by simp [bookL] at h
  | n + 1, m, h => by
    rw [bookL] at h
    rcases List.mem_append.1 h with h | h
    · obtain ⟨j, h1, h2, h3⟩ := mem_bookL h
      exact ⟨j, h1, by omega, h3⟩
    · obtain ⟨h1, h2⟩ := List.mem_filter.1 h
      exact ⟨n + 1, by omega, Nat.le_refl _, h1, h2⟩
/-- What comes next, up to a list and a kind. -/
def nextTo (K : Nat) (L : List (List Int)) (i x : Nat) : List (List Int) := extK K (L.take i) ++ (List.range x).map fun (y : Nat) => L.getD i [] ++ [(y : Int)]
theorem nextTo_zero (K : Nat) (L : List (List Int)) : nextTo K L 0 0 = [] := by simp [nextTo, extK]
theorem nextTo_step (K : Nat) (L : List (List Int)) (i x : Nat) : nextTo K L i (x + 1) = nextTo K L i x ++ [L.getD i [] ++ [(x : Int)]] := by
  unfold nextTo; rw [List.range_succ, List.map_append, List.append_assoc]; rfl
theorem nextTo_all {K : Nat} {L : List (List Int)} {i : Nat} (h : i < L.length) : nextTo K L i K = nextTo K L (i + 1) 0 := by
  unfold nextTo
  rw [List.take_succ_eq_append_getElem h, extK_append, extK_one, List.range_zero, List.map_nil, List.append_nil]
  simp [List.getD, List.getElem?_eq_getElem h]
theorem nextTo_end (K : Nat) (L : List (List Int)) : nextTo K L L.length 0 = extK K L := by simp [nextTo]
theorem nextTo_length {K : Nat} {L : List (List Int)} {i x : Nat} (hi : i ≤ L.length) (hx : x ≤ K) : (nextTo K L i x).length ≤ (i + 1) * K := by
  unfold nextTo
  rw [List.length_append, extK_length, List.length_map, List.length_range, List.length_take, Nat.min_eq_left hi, Nat.add_mul]
  omega
theorem filter_snoc (p : List Int → Bool) (L : List (List Int)) (m : List Int) : (L ++ [m]).filter p = if p m then L.filter p ++ [m] else L.filter p := by
  rw [List.filter_append]; cases h : p m <;> simp [h]
end Go.Proofs.YtfaiehjomcgjgaaDoor

/- Phrases: plain lists of texts; where a phrase is; which ones are as told. -/
namespace Go.Proofs.YtfaiehjomcgjgaaDoor
set_option linter.unusedVariables false
open Go.RowKit
/-- The bytes of a text as numbers. -/
def bytesN (s : ByteArray) : List Int := s.data.toList.map fun b => (b.toNat : Int)
theorem bytesN_length (s : ByteArray) : (bytesN s).length = s.size := by simp [bytesN]
theorem bytesN_get (s : ByteArray) {k : Nat} (h : k < s.size) : (bytesN s).getD k 0 = (s[k].toNat : Int) := by
  have hk : k < s.data.toList.length := by simpa using h
  simp only [bytesN, List.getD_eq_getElem?_getD, List.getElem?_map, List.getElem?_eq_getElem hk, Option.map_some, Option.getD_some, Array.getElem_toList]
  rfl
def inAt (cs : List Int) (a b : Int) (i : Nat) : Bool := decide (a ≤ cs.getD i 0) && decide (cs.getD i 0 ≤ b)
theorem inAt_iff {cs : List Int} {a b : Int} {i : Nat} : inAt cs a b i = true ↔ a ≤ cs.getD i 0 ∧ cs.getD i 0 ≤ b := by simp [inAt]
theorem inAt_no {cs : List Int} {a b : Int} {i : Nat} (h : ¬ (a ≤ cs.getD i 0 ∧ cs.getD i 0 ≤ b)) : inAt cs a b i = false := by
  cases e : inAt cs a b i
  · rfl
  · exact absurd (inAt_iff.1 e) h
/-- A text has 1 to so many bytes, all of them from a to b. -/
def txtB (s : ByteArray) (m : Nat) (a b : Int) : Bool := (decide (1 ≤ s.size) && decide (s.size ≤ m)) && allTo (inAt (bytesN s) a b) s.size
theorem txtB_at {s : ByteArray} {m : Nat} {a b : Int} {k : Nat} (hk : k < s.size) (h : ¬ (a ≤ (s[k].toNat : Int) ∧ (s[k].toNat : Int) ≤ b)) : txtB s m a b = false := by
  unfold txtB
  rw [allTo_no hk (inAt_no (by rw [bytesN_get s hk]; exact h)), Bool.and_false]
theorem txtB_all {s : ByteArray} {m : Nat} {a b : Int} (h : allTo (inAt (bytesN s) a b) s.size = true) : txtB s m a b = (decide (1 ≤ s.size) && decide (s.size ≤ m)) := by unfold txtB; rw [h, Bool.and_true]
theorem txtB_len {s : ByteArray} {m : Nat} {a b : Int} (h : ¬ (1 ≤ s.size ∧ s.size ≤ m)) : txtB s m a b = false := by
  unfold txtB
  have e : (decide (1 ≤ s.size) && decide (s.size ≤ m)) = false := by
    cases e : (decide (1 ≤ s.size) && decide (s.size ≤ m))
    · rfl
    · simp only [Bool.and_eq_true, decide_eq_true_eq] at e; exact absurd e h
  rw [e, Bool.false_and]
def phB (s : ByteArray) : Bool := txtB s 40 32 126
def strAt (ss : List ByteArray) (i : Nat) : ByteArray := ss.getD i ByteArray.empty
/-- Where a phrase is for the last time among the first k. -/
def lastTo (ss : List ByteArray) : Nat → ByteArray → Option Nat
  | 0, _ => none
  | k + 1, x => if x = strAt ss k then some k else lastTo ss k x
/-- .. for the first time. -/
def firstTo (ss : List ByteArray) : Nat → ByteArray → Option Nat
  | 0, _ => none
  | k + 1, x => if (firstTo ss k x).isSome then firstTo ss k x else if x = strAt ss k then some k else none
/-- How many different ones there are. -/
def cntD (ss : List ByteArray) : Nat → Nat
  | 0 => 0
  | k + 1 => if (lastTo ss k (strAt ss k)).isSome then cntD ss k else cntD ss k + 1
def freshB (ss : List ByteArray) (i : Nat) : Bool := !(lastTo ss i (strAt ss i)).isSome
theorem lastTo_some {ss : List ByteArray} {x : ByteArray} : ∀ {k : Nat}, (lastTo ss k x).isSome = true ↔ ∃ i, i < k ∧ x = strAt ss i
  | 0 => by simp [lastTo]
  | k + 1 => by
    rw [lastTo]
    by_cases h : x = strAt ss k
    · rw [if_pos h]; simp only [Option.isSome_some, true_iff]; exact ⟨k, by omega, h⟩
    · rw [if_neg h, lastTo_some]
      constructor
      · rintro ⟨i, hi, e⟩; exact ⟨i, by omega, e⟩
      · rintro ⟨i, hi, e⟩
        by_cases hk : i = k
        · subst hk; exact absurd e h
        · exact ⟨i, by omega, e⟩
theorem lastTo_at {ss : List ByteArray} {x : ByteArray} {i : Nat} : ∀ {k : Nat}, lastTo ss k x = some i → i < k ∧ x = strAt ss i
  | 0, h => by cases h
  | k + 1, h => by
    rw [lastTo] at h
    by_cases hx : x = strAt ss k
    · rw [if_pos hx] at h; cases h; exact ⟨by omega, hx⟩
    · rw [if_neg hx] at h; obtain ⟨h1, h2⟩ := lastTo_at h; exact ⟨by omega, h2⟩
theorem firstTo_isSome (ss : List ByteArray) (x : ByteArray) : ∀ k, (firstTo ss k x).isSome = (lastTo ss k x).isSome
  | 0 => rfl
  | k + 1 => by
    have ih := firstTo_isSome ss x k
    rw [firstTo, lastTo]
    by_cases h : (firstTo ss k x).isSome = true
    · rw [if_pos h, h]
      by_cases hx : x = strAt ss k
      · rw [if_pos hx]; rfl
      · rw [if_neg hx, ← ih, h]
    · rw [if_neg h]
      by_cases hx : x = strAt ss k
      · rw [if_pos hx, if_pos hx]
      · rw [if_neg hx, if_neg hx, ← ih]; simp only [Bool.not_eq_true] at h; rw [h]; rfl
theorem firstTo_keep {ss : List ByteArray} {x : ByteArray} {k : Nat} (h : (firstTo ss k x).isSome = true) : ∀ {n : Nat}, k ≤ n → firstTo ss n x = firstTo ss k x
  | 0, hn => by rw [show k = 0 by omega]
  | n + 1, hn => by
    by_cases e : k = n + 1
    · rw [e]
    · have := firstTo_keep h (n := n) (by omega)
      rw [firstTo, this, if_pos h]
/-- Where a phrase is, -1 standing for nowhere. -/
def firstV (ss : List ByteArray) (x : ByteArray) : Int := match firstTo ss ss.length x with | some i => (i : Int) | none => -1
theorem firstV_at {ss : List ByteArray} {x : ByteArray} {k : Nat} (hk : k < ss.length) (h : (firstTo ss k x).isSome = false) (hx : x = strAt ss k) : firstV ss x = (k : Int) := by
  have e : firstTo ss (k + 1) x = some k := by rw [firstTo, h, if_neg (by simp), if_pos hx]
  unfold firstV
  rw [firstTo_keep (k := k + 1) (by rw [e]; rfl) (by omega), e]
theorem firstV_none {ss : List ByteArray} {x : ByteArray} (h : (firstTo ss ss.length x).isSome = false) : firstV ss x = -1 := by
  unfold firstV
  cases hf : firstTo ss ss.length x with
  | none => rfl
  | some i => rw [hf] at h; cases h
theorem firstTo_step {ss : List ByteArray} {x : ByteArray} {k : Nat} (h : (firstTo ss k x).isSome = false) (hx : ¬ x = strAt ss k) : (firstTo ss (k + 1) x).isSome = false := by
  rw [firstTo, h, if_neg (by simp), if_neg hx]; rfl
theorem firstV_fresh {ss : List ByteArray} {i : Nat} (hi : i < ss.length) : firstV ss (strAt ss i) = (i : Int) ↔ freshB ss i = true := by
  unfold freshB
  rw [← firstTo_isSome]
  cases h : (firstTo ss i (strAt ss i)).isSome with
  | false => rw [firstV_at hi h rfl]; simp
  | true =>
    have e := firstTo_keep h (show i ≤ ss.length by omega)
    simp only [Bool.not_true, Bool.false_eq_true, iff_false]
    obtain ⟨j, hj⟩ := Option.isSome_iff_exists.1 h
    have hlt : ∀ {k j : Nat} {x : ByteArray}, firstTo ss k x = some j → j < k := by
      intro k
      induction k with
      | zero => intro j x h; cases h
      | succ k ih =>
        intro j x h
        rw [firstTo] at h
        split at h
        · have := ih h; omega
        · split at h
          · cases h; omega
          · cases h
    have h2 := hlt hj
    unfold firstV
    rw [e, hj]
    simp only
    omega
theorem cntD_le (ss : List ByteArray) : ∀ k, cntD ss k ≤ k
  | 0 => Nat.le_refl _
  | k + 1 => by have := cntD_le ss k; rw [cntD]; split <;> omega
theorem cntD_eq {ss : List ByteArray} : ∀ {k : Nat}, cntD ss k = k ↔ allTo (freshB ss) k = true
  | 0 => by simp [cntD, allTo]
  | k + 1 => by
    have ih := cntD_eq (ss := ss) (k := k)
    have hle := cntD_le ss k
    rw [cntD, allTo, Bool.and_eq_true, ← ih]
    unfold freshB
    cases h : (lastTo ss k (strAt ss k)).isSome with
    | true => simp; omega
    | false => simp
/-- In a book that is as told the last one is the first one. -/
theorem last_first {ss : List ByteArray} {x : ByteArray} : ∀ {k : Nat}, allTo (freshB ss) k = true → firstTo ss k x = lastTo ss k x
  | 0, _ => rfl
  | k + 1, h => by
    rw [allTo, Bool.and_eq_true] at h
    have ih := last_first (x := x) h.1
    rw [firstTo, lastTo, ih]
    by_cases hx : x = strAt ss k
    · subst hx
      have h2 := h.2
      unfold freshB at h2
      simp only [Bool.not_eq_true'] at h2
      rw [h2, if_neg (by simp), if_pos rfl, if_pos rfl]
    · rw [if_neg hx, if_neg hx]
      cases h3 : lastTo ss k x <;> simp

/-- The phrases of a book are as told. -/
def okPh (ss : List ByteArray) (i : Nat) : Bool := phB (strAt ss i) && freshB ss i
theorem okPh_all {ss : List ByteArray} {k : Nat} : allTo (okPh ss) k = (allTo (fun i => phB (strAt ss i)) k && allTo (freshB ss) k) := by
  induction k with
  | zero => rfl
  | succ k ih =>
    simp only [allTo, ih, okPh]
    cases allTo (fun i => phB (strAt ss i)) k <;> cases allTo (freshB ss) k <;> cases phB (strAt ss k) <;> rfl
end Go.Proofs.YtfaiehjomcgjgaaDoor

/- Phrases: what both sides ask of one, and of all; where one is. -/
namespace Go.Proofs.YtfaiehjomcgjgaaDoor
set_option linter.unusedVariables false
open Go.RowKit
theorem phB_bet {s : ByteArray} (h : allTo (inAt (bytesN s) 32 126) s.size = true) : phB s = betB (s.size : Int) 1 40 := by
  unfold phB
  rw [txtB_all h]
  unfold betB
  rw [Bool.eq_iff_iff]
  simp only [Bool.and_eq_true, decide_eq_true_eq]
  omega
set_option maxRecDepth 100000 in
set_option maxHeartbeats 1000000 in
theorem l03Phrase_any (s : ByteArray) (hs : s.size ≤ 9223372036854775807) (w : World) :
    Calls Tryd.prog 55 #[.string s] w fun e w' => e = .returned (.bool (phB s)) ∧ w = w' := by
  have HG := hid (fun (k : Nat) (h : k < s.size) => bytesN_get s h)
  have HNO := hid (fun (k : Nat) (hk : k < s.size) (h : ¬ (32 ≤ (s[k].toNat : Int) ∧ (s[k].toNat : Int) ≤ 126)) => show phB s = false from txtB_at hk h)
  have HYE := hid (fun (h : allTo (inAt (bytesN s) 32 126) s.size = true) => phB_bet h)
  generalize phB s = r at *
  go_enter Tryd.func55, Tryd.ntmps55
  go_wp2
  go_loop [3] (fun i => ∃ k : Nat, k ≤ s.size ∧ i = .int .i64 k ∧ Hid (allTo (inAt (bytesN s) 32 126) k = true)) (fun i => s.size - (intOf i).toNat)
  case atStart => exact ⟨0, Nat.zero_le _, rfl, hid rfl⟩
  case round =>
    obtain ⟨k, hk, rfl, hok⟩ := hrel
    by_cases hlt : k < s.size
    · have HC := hid (HG.out k hlt)
      have HNK := hid (HNO.out k hlt)
      by_cases h1 : (s[k].toNat : Int) < 32
      · have HZ := hid (HNK.out (by omega))
        go_wp2
        go_ret
        exact ⟨ret_bool HZ.out.symm, rfl⟩
      · by_cases h2 : 126 < (s[k].toNat : Int)
        · have HZ := hid (HNK.out (by omega))
          go_wp2
          go_ret
          exact ⟨ret_bool HZ.out.symm, rfl⟩
        · have HY := hid (allTo_step hok.out (inAt_iff.2 (by rw [HC.out]; omega)))
          go_wp2
          go_round
          case rel => exact ⟨k + 1, by omega, by go_num, HY⟩
          case measure => simp [intOf] <;> omega
    · have hkn : k = s.size := by omega
      have HV := hid (HYE.out (by rw [← hkn]; exact hok.out))
      clear hkn
      go_wp2_with (go_at_call 63; refine (l00In_b _ _ _ _).mono ?_; rintro e w' ⟨rfl, rfl⟩)
      go_ret
      exact ⟨ret_bool HV.out.symm, rfl⟩
set_option maxRecDepth 100000 in
set_option maxHeartbeats 1000000 in
theorem isText_any (s : ByteArray) (hs : s.size ≤ 9223372036854775807) (m : Nat) (a b : Int) (w : World) :
    Calls Tryd.prog 92 #[.string s, .int .i64 m, .int .u8 a, .int .u8 b] w fun e w' => e = .returned (.bool (txtB s m a b)) ∧ w = w' := by
  have HG := hid (fun (k : Nat) (h : k < s.size) => bytesN_get s h)
  have HNO := hid (fun (k : Nat) (hk : k < s.size) (h : ¬ (a ≤ (s[k].toNat : Int) ∧ (s[k].toNat : Int) ≤ b)) => show txtB s m a b = false from txtB_at hk h)
  have HYE := hid (fun (h : allTo (inAt (bytesN s) a b) s.size = true) => txtB_all (m := m) h)
  have HLE := hid (fun (h : ¬ (1 ≤ s.size ∧ s.size ≤ m)) => txtB_len (a := a) (b := b) h)
  generalize txtB s m a b = r at *
  by_cases h1 : s.size < 1
  · have HV := hid (HLE.out (by omega))
    go_enter Tryd.func92, Tryd.ntmps92
    go_wp2
    go_ret
    exact ⟨ret_bool HV.out.symm, rfl⟩
  · by_cases h2 : m < s.size
    · have HV := hid (HLE.out (by omega))
      go_enter Tryd.func92, Tryd.ntmps92
      go_wp2
      go_ret
      exact ⟨ret_bool HV.out.symm, rfl⟩
    · have HLB := hid (show (decide (1 ≤ s.size) && decide (s.size ≤ m)) = true by simp; omega)
      rw [HLB.out] at HYE
      go_enter Tryd.func92, Tryd.ntmps92
      go_wp2
      go_loop [9, 21] (fun _ i => ∃ k : Nat, k ≤ s.size ∧ i = .int .i64 k ∧ Hid (allTo (inAt (bytesN s) a b) k = true)) (fun _ i => s.size - (intOf i).toNat)
      case atStart => exact ⟨0, Nat.zero_le _, rfl, hid rfl⟩
      case round =>
        obtain ⟨k, hk, rfl, hok⟩ := hrel
        by_cases hlt : k < s.size
        · have HC := hid (HG.out k hlt)
          have HNK := hid (HNO.out k hlt)
          by_cases h1 : (s[k].toNat : Int) < a
          · have HZ := hid (HNK.out (by omega))
            go_wp2
            go_ret
            exact ⟨ret_bool HZ.out.symm, rfl⟩
          · by_cases h2 : b < (s[k].toNat : Int)
            · have HZ := hid (HNK.out (by omega))
              go_wp2
              go_ret
              exact ⟨ret_bool HZ.out.symm, rfl⟩
            · have HY := hid (allTo_step hok.out (inAt_iff.2 (by rw [HC.out]; omega)))
              go_wp2
              go_round
              case rel => exact ⟨k + 1, by omega, by go_num, HY⟩
              case measure => simp [intOf] <;> omega
        · have hkn : k = s.size := by omega
          have HV := hid (HYE.out (by rw [← hkn]; exact hok.out))
          clear hkn
          go_wp2
          go_ret
          exact ⟨ret_bool HV.out.symm, rfl⟩
set_option maxRecDepth 100000 in
theorem isPhrase_any (s : ByteArray) (hs : s.size ≤ 9223372036854775807) (w : World) :
    Calls Tryd.prog 75 #[.string s] w fun e w' => e = .returned (.bool (phB s)) ∧ w = w' := by
  have H := hid (fun V => isText_any s hs 40 32 126 V)
  go_enter Tryd.func75, Tryd.ntmps75
  go_wp2_with fail
  refine (H.out _).mono ?_
  rintro e w' ⟨rfl, rfl⟩
  go_wp2_with fail
  go_ret
  exact ⟨rfl, rfl⟩
def SizesOk (ss : List ByteArray) : Prop := ∀ i, (strAt ss i).size ≤ 9223372036854775807
def phAll (ss : List ByteArray) (k : Nat) : Bool := allTo (fun i => phB (strAt ss i)) k
set_option maxRecDepth 100000 in
set_option maxHeartbeats 1000000 in
theorem allPhrases_any (a : Option Addr) (cap n : Nat) (ss : List ByteArray) (hl : n = ss.length) (hn : n ≤ 1048576) (hz : SizesOk ss) (w : World) (hs : StrsOf w a ss) :
    Calls Tryd.prog 78 #[.slice a n cap, .func (.func 75) #[] #[]] w fun e w' => e = .returned (.bool (phAll ss n)) ∧ w = w' := by
  have HS := hid hs
  have HL := hid hl
  have HP := hid (fun i V => isPhrase_any (strAt ss i) (hz i) V)
  have hcf := callFunc_enter Tryd.func75 (by kernel_rfl) (by kernel_rfl)
  have HNO := hid (fun k (hk : k < n) (h : phB (strAt ss k) = false) => show phAll ss n = false from allTo_no hk h)
  have HST := hid (fun k (h : phAll ss k = true) (h2 : phB (strAt ss k) = true) => show phAll ss (k + 1) = true from allTo_step h h2)
  clear hs hl hz
  go_enter Tryd.func78, Tryd.ntmps78
  go_wp2_with fail
  go_loop [9] (fun i => ∃ k : Nat, k ≤ n ∧ i = .int .i64 k ∧ Hid (phAll ss k = true)) (fun i => n - (intOf i).toNat)
  case atStart => exact ⟨0, Nat.zero_le _, rfl, hid rfl⟩
  case round =>
    obtain ⟨k, hk, rfl, hok⟩ := hrel
    by_cases hlt : k < n
    · obtain ⟨b0, o0, rfl, h0⟩ := HS.out k (by rw [← HL.out]; exact hlt)
      have HPK := hid (HP.out k)
      have HNK := hid (HNO.out k hlt)
      have HSK := hid (HST.out k hok.out)
      unfold strAt at HPK HNK HSK
      generalize ss.getD k ByteArray.empty = v at *
      cases hv : phB v with
      | false =>
        rw [hv] at HPK
        have HZ := hid (HNK.out hv)
        clear hv HNK HSK
        go_wp2_with fail
        refine (HPK.out _).mono ?_
        rintro e w' ⟨rfl, rfl⟩
        go_wp2_with fail
        go_ret
        exact ⟨ret_bool HZ.out.symm, rfl⟩
      | true =>
        rw [hv] at HPK
        have HY := hid (HSK.out hv)
        clear hv HNK HSK
        go_wp2_with fail
        refine (HPK.out _).mono ?_
        rintro e w' ⟨rfl, rfl⟩
        go_wp2_with fail
        go_round
        case rel => exact ⟨k + 1, by omega, by go_num, HY⟩
        case measure => simp [intOf] <;> omega
    · have HV := hid (show phAll ss n = true by rw [show n = k by omega]; exact hok.out)
      go_wp2_with fail
      go_ret
      exact ⟨ret_bool HV.out.symm, rfl⟩
/-- A book that lies in memory. -/
structure BookAt (w : World) (b : Nat) (k l s : Int) (a : Option Addr) (n cap : Nat) (ss : List ByteArray) : Prop where
  c0 : w.cell? ⟨b, 0, none⟩ = some (.int .i8 k)
  c1 : w.cell? ⟨b, 1, none⟩ = some (.int .i8 l)
  c2 : w.cell? ⟨b, 2, none⟩ = some (.int .i8 s)
  c3 : w.cell? ⟨b, 3, none⟩ = some (.slice a n cap)
  len : n = ss.length
  reads : StrsOf w a ss
theorem BookAt.gr {w w' : World} {b : Nat} {k l s : Int} {a : Option Addr} {n cap : Nat} {ss : List ByteArray} (h : BookAt w b k l s a n cap ss) (g : Gr w w') : BookAt w' b k l s a n cap ss :=
  ⟨g.cell h.c0, g.cell h.c1, g.cell h.c2, g.cell h.c3, h.len, h.reads.gr g⟩
theorem bookAt_block {w : World} {b : Nat} {k l s : Int} {a : Option Addr} {n cap : Nat} {ss : List ByteArray} {t : TypeId} {fr : Nat × Nat} (h : w.heap[b]? = some (.cells #[.int .i8 k, .int .i8 l, .int .i8 s, .slice a n cap] t fr)) (hl : n = ss.length) (hs : StrsOf w a ss) : BookAt w b k l s a n cap ss :=
  ⟨by rw [cell_of_row w b 0 _ t fr h]; rfl, by rw [cell_of_row w b 1 _ t fr h]; rfl, by rw [cell_of_row w b 2 _ t fr h]; rfl, by rw [cell_of_row w b 3 _ t fr h]; rfl, hl, hs⟩
theorem firstTo_zero {ss : List ByteArray} {x : ByteArray} : (firstTo ss 0 x).isSome = false := rfl
set_option maxRecDepth 100000 in
set_option maxHeartbeats 1000000 in
theorem l03Find_any (b : Nat) (k l s : Int) (a : Option Addr) (n cap : Nat) (ss : List ByteArray) (hn : n ≤ 1048576) (x : ByteArray) (w : World) (hb : BookAt w b k l s a n cap ss) :
    Calls Tryd.prog 56 #[.pointer (some ⟨b, 0, none⟩), .string x] w fun e w' => e = .returned (.int .i64 (firstV ss x)) ∧ w = w' := by
  have HS := hid hb.reads
  have HL := hid hb.len
  have c3 := hb.c3
  have HAT := hid (fun k (hk : k < ss.length) (h : (firstTo ss k x).isSome = false) (hx : x = strAt ss k) => firstV_at hk h hx)
  have HNO := hid (fun (h : (firstTo ss ss.length x).isSome = false) => firstV_none h)
  have HST := hid (fun k (h : (firstTo ss k x).isSome = false) (hx : ¬ x = strAt ss k) => firstTo_step h hx)
  clear hb
  generalize firstV ss x = r at *
  go_enter Tryd.func56, Tryd.ntmps56
  go_wp2_with fail
  go_loop [5] (fun i => ∃ k : Nat, k ≤ n ∧ i = .int .i64 k ∧ Hid ((firstTo ss k x).isSome = false)) (fun i => n - (intOf i).toNat)
  case atStart => exact ⟨0, Nat.zero_le _, rfl, hid rfl⟩
  case round =>
    obtain ⟨k, hk, rfl, hok⟩ := hrel
    by_cases hlt : k < n
    · have hlt' : k < ss.length := by rw [← HL.out]; exact hlt
      obtain ⟨b0, o0, rfl, h0⟩ := HS.out k hlt'
      have HAK := hid (HAT.out k hlt' hok.out)
      have HSK := hid (HST.out k hok.out)
      clear hlt'
      unfold strAt at HAK HSK
      generalize ss.getD k ByteArray.empty = v at *
      by_cases hv : x = v
      · have HZ := hid (HAK.out hv)
        clear HAK HSK
        subst hv
        go_wp2_with fail
        go_ret
        exact ⟨ret_int HZ.out.symm, rfl⟩
      · have HY := hid (HSK.out hv)
        have t1 := toList_ne (fun e => hv e.symm : ¬ v = x)
        clear HAK HSK hv
        go_wp2_with fail
        go_round
        case rel => exact ⟨k + 1, by omega, by go_num, HY⟩
        case measure => simp [intOf] <;> omega
    · have HV := hid (HNO.out (by rw [← HL.out, show n = k by omega]; exact hok.out))
      go_wp2_with fail
      go_ret
      exact ⟨ret_int HV.out.symm, rfl⟩
end Go.Proofs.YtfaiehjomcgjgaaDoor

/- Where each phrase is: the program's map. -/
namespace Go.Proofs.YtfaiehjomcgjgaaDoor
set_option linter.unusedVariables false
open Go.RowKit Go.Maps
theorem lawStr : Keyed Tryd.prog 9 := string_keyed Tryd.underlying9
theorem zeroInt64 (w : World) : (zeroValue 2).run Tryd.prog w = .ok (.int .i64 0) w := by kernel_rfl
theorem wf_small {k : Nat} (h : k ≤ 9223372036854775807) : (Lit.int .i64 (k : Int)).wf = true := by
  simp [Lit.wf, IntKind.min, IntKind.max, IntKind.signed, IntKind.bits]
  omega
def strLit (x : ByteArray) : Lit := .string x.data.toList
theorem strLit_inj {x y : ByteArray} (h : strLit x = strLit y) : x = y := by
  unfold strLit at h
  simp only [Lit.string.injEq] at h
  cases x; cases y
  simp at h
  rw [h]
theorem strLit_key (x : ByteArray) : WideAt.IsKeyLit (strLit x) := by simp [strLit, WideAt.IsKeyLit]
/-- A map of texts, as a function; how many there are. -/
structure StMap (D : DataW Unit) (u : ByteArray → Option Nat) (c : Nat) : Prop where
  map : IsMap D
  has_ : ∀ x, has D (strLit x) = (u x).isSome
  at_ : ∀ x i, u x = some i → D.atKey (strLit x) (.lit (.int .i64 0)) = .lit (.int .i64 (i : Int))
  size : Maps.size D = c
theorem StMap.nil : StMap (.map []) (fun _ => none) 0 := ⟨isMap_empty, fun _ => rfl, fun x i h => (by cases h), rfl⟩
theorem StMap.put {D : DataW Unit} {u : ByteArray → Option Nat} {c : Nat} (h : StMap D u c) (ht : Tidy D) (s : ByteArray) (i : Nat) : StMap (D.put (strLit s) (.lit (.int .i64 (i : Int)))) (fun x => if x = s then some i else u x) (if (u s).isSome then c else c + 1) := by
  refine ⟨h.map.put _ _, fun x => ?_, fun x j hj => ?_, ?_⟩
  · by_cases hx : x = s
    · subst hx
      rw [has_put_same h.map (strLit_key x)]; simp
    · have hne : strLit x ≠ strLit s := fun e => hx (strLit_inj e)
      rw [has_put_other hne, h.has_ x]; simp [hx]
  · by_cases hx : x = s
    · subst hx
      simp only [if_true, Option.some.injEq] at hj
      rw [atKey_put_same h.map (strLit_key x), hj]
    · have hne : strLit x ≠ strLit s := fun e => hx (strLit_inj e)
      simp only [if_neg hx] at hj
      rw [atKey_put_other hne]
      exact h.at_ x j hj
  · rw [size_put ht, h.has_ s, h.size]
/-- What the loop keeps. -/
structure IdxI (w : World) (ss : List ByteArray) (k : Nat) (D : DataW Unit) (wr : World) : Prop where
  map : wr.ownsMap Tryd.prog 9 (plainElem Tryd.prog 2) w.heap.size k D
  rep : StMap D (lastTo ss k) (cntD ss k)
  gr : Gr w wr
theorem IdxI.start (w : World) (ss : List ByteArray) : IdxI w ss 0 (.map []) (w.alloc (.map #[] 0)) :=
  ⟨World.ownsMap_made _ _ _ _, StMap.nil, (Gr.refl w).alloc _⟩
def IdxPost (ss : List ByteArray) (n : Nat) (w : World) (e : Ending) (w' : World) : Prop :=
  e = .returned (.map (some w.heap.size)) ∧ ∃ D, IdxI w ss n D w'
set_option maxRecDepth 100000 in
set_option maxHeartbeats 2000000 in
theorem indicesOf_any (a : Option Addr) (cap n : Nat) (ss : List ByteArray) (hl : n = ss.length) (hn : n ≤ 1048576) (hz : SizesOk ss) (w : World) (hs : StrsOf w a ss) :
    Calls Tryd.prog 79 #[.slice a n cap] w (IdxPost ss n w) := by
  have hmm := @run_makeMap Tryd.prog
  have HS := hid hs
  have HL := hid hl
  have HK := hid (fun k => show keyOf Tryd.prog 9 (.string (strAt ss k)) = some (strLit (strAt ss k)) from Go.WideMaps.keyOf_string_mk Tryd.underlying9 (by have := hz k; unfold maxLen; omega))
  clear hs hl hz
  go_enter Tryd.func79, Tryd.ntmps79
  go_wp2_with fail
  go_loopw [9] (fun i wr => ∃ (k : Nat) (D : DataW Unit), k ≤ n ∧ i = .int .i64 k ∧ Hid (IdxI w ss k D wr)) (fun i _ => n - (intOf i).toNat)
  case atStart => exact ⟨0, .map [], Nat.zero_le _, rfl, hid (IdxI.start w ss)⟩
  case round =>
    obtain ⟨k, D, hk, rfl, I⟩ := hrel
    by_cases hlt : k < n
    · obtain ⟨b0, o0, rfl, h0⟩ := HS.out k (by rw [← HL.out]; exact hlt)
      have hc0 := I.out.gr.cell h0
      have HKK := hid (HK.out k)
      have HKI := hid (show ∀ wr', wr'.ownsMap Tryd.prog 9 (plainElem Tryd.prog 2) w.heap.size (k + 1) (D.put (strLit (strAt ss k)) (.lit (.int .i64 (k : Int)))) → wr.grownBy wr' (some w.heap.size) → IdxI w ss (k + 1) (D.put (strLit (strAt ss k)) (.lit (.int .i64 (k : Int)))) wr' from fun wr' h1 h2 =>
        ⟨h1, I.out.rep.put (I.out.map.tidy lawStr) (strAt ss k) k, I.out.gr.by_ h2 (fun b e => by cases e; exact Nat.le_refl _)⟩)
      have HMP := hid I.out.map
      have HPL := hid (show plainElem (H := Unit) Tryd.prog 2 (.int .i64 (k : Int)) = some (.lit (.int .i64 (k : Int)), []) from plainElem_int Tryd.underlying2 (wf_small (by omega)))
      unfold strAt at HKK HKI
      clear h0 I
      generalize ss.getD k ByteArray.empty = v at *
      go_wp2_with (at_mapUpdate; refine wpList_mapUpdate_own _ rfl _ _ _ 107 rfl 9 2 lawStr Tryd.underlying107 _ w.heap.size k D rfl HMP.out (by unfold maxLen; omega) _ _ (strLit v) rfl rfl HKK.out _ [] HPL.out ?_)
      intro w1 hown1 hgrow1
      have I1 := hid (HKI.out w1 hown1 hgrow1)
      clear hown1 hgrow1
      go_wp2_with fail
      go_roundw
      case rel => exact ⟨k + 1, _, by omega, by go_num, I1⟩
      case measure => simp [intOf]; omega
    · obtain rfl : k = n := by omega
      go_wp2_with fail
      go_ret
      exact ⟨rfl, D, I.out⟩
end Go.Proofs.YtfaiehjomcgjgaaDoor

/- Books: the model's list of meanings. -/
namespace Go.Proofs.YtfaiehjomcgjgaaDoor
set_option linter.unusedVariables false
open Go.RowKit
theorem kinds_num {K n : Nat} {m : List Int} (hK : K ≤ 40) (h : m ∈ kindsS K n) {i : Nat} (hi : i < n) : brkI (m.getD i 0) = false ∧ subI (m.getD i 0) = false ∧ kindI (m.getD i 0) = true := by
  have := (mem_kindsS.1 h).2 i hi
  refine ⟨by simp only [brkI, decide_eq_false_iff_not]; omega, ?_, kindI_iff.2 (by omega)⟩
  cases e : subI (m.getD i 0)
  · rfl
  · have := subI_iff.1 e; omega
theorem kinds_plain {K n : Nat} {m : List Int} (hK : K ≤ 40) (h1 : 1 ≤ n) (h8 : n ≤ 8) (h : m ∈ kindsS K n) : plainH m = true := by
  have hl := (mem_kindsS.1 h).1
  have key := fun i (hi : i < m.length) => kinds_num hK h (i := i) (by omega)
  unfold plainH validH lenB
  simp only [Bool.and_eq_true, allTo_iff, decide_eq_true_eq]
  refine ⟨⟨⟨by omega, by omega⟩, fun i hi => ?_⟩, fun i hi => ?_⟩
  · obtain ⟨a, b, c⟩ := key i hi
    unfold okAt
    rw [a, b, c]
    rfl
  · unfold ownAt
    rw [(key i hi).2.1]
    rfl
theorem kinds_fits {K n : Nat} {m : List Int} (hK : K ≤ 40) (h : m ∈ kindsS K n) : Fits .i8 m := by
  intro x hx
  obtain ⟨i, hi, rfl⟩ := List.mem_iff_getElem.1 hx
  obtain ⟨h1, h2⟩ := mem_kindsS.1 h
  have := h2 i (by omega)
  rw [List.getD_eq_getElem?_getD, List.getElem?_eq_getElem hi, Option.getD_some] at this
  obtain ⟨p, hp⟩ := Int.eq_ofNat_of_zero_le this.1
  rw [hp] at this ⊢
  have h4 : p < 40 := by omega
  clear this hp
  revert p
  decide
theorem kinds_ask {K n : Nat} {m : List Int} {B : Nat} (hK : K ≤ 40) (h1 : 1 ≤ n) (h8 : n ≤ 8) (hB : B ≤ 4) (h : m ∈ kindsS K n) : askC m 1 (B : Int) = 0 := by
  unfold askC
  rw [if_pos (kinds_plain hK h1 h8 h), betB_iff.2 (by omega : (1 : Int) ≤ 1 ∧ (1 : Int) ≤ 8), betB_iff.2 (show (0 : Int) ≤ (B : Int) ∧ (B : Int) ≤ 4 by omega)]
  rfl
theorem kinds_code {K n : Nat} {m : List Int} {B : Nat} (hK : K ≤ 40) (h1 : 1 ≤ n) (h8 : n ≤ 8) (hB : B ≤ 4) (h : m ∈ kindsS K n) : hforC m 1 (B : Int) = if canH B m then 0 else 6 := by
  rw [(hfor_yes (kinds_ask hK h1 h8 hB h)).2.1, Int.toNat_natCast]
  unfold canH
  cases hoistsL m 1 B <;> rfl
theorem mem_next {K j i x : Nat} {L : List (List Int)} (hL : L = kindsS K j) (hi : i < L.length) (hx : x < K) : L.getD i [] ++ [(x : Int)] ∈ kindsS K (j + 1) := by
  rw [kindsS, mem_extK]
  refine ⟨L.getD i [], ?_, x, hx, rfl⟩
  rw [← hL]
  simp only [List.getD, List.getElem?_eq_getElem hi, Option.getD_some]
  exact List.getElem_mem hi
/-- What the model's list of meanings hands back. -/
def MeansPost (xss : List (List Int)) (w : World) (e : Ending) (w' : World) : Prop :=
  ∃ g cap vs, e = .returned (.slice (some ⟨g, 0, none⟩) xss.length cap) ∧ RowQ w' w.heap.size (.slice (some ⟨g, 0, none⟩) xss.length cap) vs xss ∧ Gr w w'
theorem ownsRow_lower {w : World} {lo lo' : Nat} {e : TypeId} {size n : Nat} {v : Value} {xs : List Value} (h : w.ownsRow lo e size v n xs) (hl : lo' ≤ lo) : w.ownsRow lo' e size v n xs := by
  refine ⟨h.1, ?_⟩
  rcases h.2 with h1 | ⟨g', cap, cur, h1, h2, r⟩
  · exact .inl h1
  · exact .inr ⟨g', cap, cur, h1, Nat.le_trans hl h2, r⟩
/-- All that has been found up to a list and a kind. -/
def outTo (O : List (List Int)) (B K : Nat) (L : List (List Int)) (i x : Nat) : List (List Int) := O ++ (nextTo K L i x).filter (canH B)
theorem outTo_zero (O : List (List Int)) (B K : Nat) (L : List (List Int)) : outTo O B K L 0 0 = O := by unfold outTo; rw [nextTo_zero]; simp
theorem outTo_yes {O : List (List Int)} {B K : Nat} {L : List (List Int)} {i x : Nat} (h : canH B (L.getD i [] ++ [(x : Int)]) = true) : outTo O B K L i (x + 1) = outTo O B K L i x ++ [L.getD i [] ++ [(x : Int)]] := by
  unfold outTo; rw [nextTo_step, filter_snoc, if_pos h, List.append_assoc]
theorem outTo_no {O : List (List Int)} {B K : Nat} {L : List (List Int)} {i x : Nat} (h : canH B (L.getD i [] ++ [(x : Int)]) = false) : outTo O B K L i (x + 1) = outTo O B K L i x := by
  unfold outTo; rw [nextTo_step, filter_snoc, if_neg (by rw [h]; simp)]
theorem outTo_length {O : List (List Int)} {B K : Nat} {L : List (List Int)} {i x : Nat} (hO : O.length ≤ 3000) (hL : L.length ≤ 1000) (hK : K ≤ 10) (hi : i ≤ L.length) (hx : x ≤ K) : (outTo O B K L i x).length ≤ 100000 ∧ (nextTo K L i x).length ≤ 100000 := by
  have h1 := nextTo_length (K := K) hi hx
  have h2 := List.length_filter_le (canH B) (nextTo K L i x)
  have h3 : (i + 1) * K ≤ 1001 * 10 := Nat.mul_le_mul (by omega) hK
  unfold outTo
  rw [List.length_append]
  omega
theorem cell_q1 (w : World) (v : Value) (t : TypeId) : ∀ j u, [v][j]? = some u → (w.alloc (.cells #[v] t)).cell? ((⟨w.heap.size, 0, none⟩ : Addr).add j) = some u := by
  intro j u hj
  match j, hj with
  | 0, hj => simp at hj; subst hj; simp [Addr.add]
/-- What the loops keep: the rows of what has been found, of the last lists and of the next ones. -/
structure MeanI (w : World) (O : List (List Int)) (B K : Nat) (L : List (List Int)) (i x : Nat) (go no co gl nl cl gn nn cn : Nat) (vl : List Value) (wr : World) : Prop where
  out : ∃ vo, RowQ wr w.heap.size (.slice (some ⟨go, 0, none⟩) no co) vo (outTo O B K L i x)
  last : RowQ wr w.heap.size (.slice (some ⟨gl, 0, none⟩) nl cl) vl L
  next : ∃ vn, RowQ wr w.heap.size (.slice (some ⟨gn, 0, none⟩) nn cn) vn (nextTo K L i x)
  ol : go ≠ gl
  on : go ≠ gn
  ln : gl ≠ gn
  gr : Gr w wr
section
variable {w wr wr' : World} {O : List (List Int)} {B K : Nat} {L : List (List Int)} {i x go no co gl nl cl gn nn cn : Nat} {vl : List Value}
theorem MeanI.turn (h : MeanI w O B K L i x go no co gl nl cl gn nn cn vl wr) (g : Gr wr wr') : MeanI w O B K L i x go no co gl nl cl gn nn cn vl wr' := by
  obtain ⟨vo, ho⟩ := h.out
  obtain ⟨vn, hn⟩ := h.next
  exact ⟨⟨vo, ho.gr g⟩, h.last.gr g, ⟨vn, hn.gr g⟩, h.ol, h.on, h.ln, h.gr.trans g⟩
theorem sepOf {a b n c n' c' : Nat} (h : a ≠ b) : Sep (.slice (some ⟨a, 0, none⟩) n c) (.slice (some ⟨b, 0, none⟩) n' c') := fun k h1 h2 => by
  simp only [Value.ownBlock, Option.some.injEq] at h1 h2
  omega
theorem rowq_lt {w : World} {lo g n c : Nat} {vs : List Value} {xss : List (List Int)} (h : RowQ w lo (.slice (some ⟨g, 0, none⟩) n c) vs xss) : g < w.heap.size := (h.row.lt g rfl).2
theorem rowq_le {w : World} {lo g n c : Nat} {vs : List Value} {xss : List (List Int)} (h : RowQ w lo (.slice (some ⟨g, 0, none⟩) n c) vs xss) : lo ≤ g := (h.row.lt g rfl).1
/-- The next lists have one more; then what has been found. -/
theorem MeanI.nextRow (h : MeanI w O B K L i x go no co gl nl cl gn nn cn vl wr) : ∃ vn, wr.ownsRow w.heap.size 59 1 (.slice (some ⟨gn, 0, none⟩) nn cn) nn vn ∧ nn = (nextTo K L i x).length ∧ RowQ wr w.heap.size (.slice (some ⟨gn, 0, none⟩) nn cn) vn (nextTo K L i x) := by
  obtain ⟨vn, hn⟩ := h.next
  have hl := hn.len
  exact ⟨vn, by rw [hl]; have := hn.row; rw [hl] at this; exact this, hl, hn⟩
theorem MeanI.outRow (h : MeanI w O B K L i x go no co gl nl cl gn nn cn vl wr) : ∃ vo, wr.ownsRow w.heap.size 59 1 (.slice (some ⟨go, 0, none⟩) no co) no vo ∧ no = (outTo O B K L i x).length ∧ RowQ wr w.heap.size (.slice (some ⟨go, 0, none⟩) no co) vo (outTo O B K L i x) := by
  obtain ⟨vn, hn⟩ := h.out
  have hl := hn.len
  exact ⟨vn, by rw [hl]; have := hn.row; rw [hl] at this; exact this, hl, hn⟩
end
/-- The next lists have one more, what has been found not yet. -/
structure MeanJ (w : World) (O : List (List Int)) (B K : Nat) (L : List (List Int)) (i x : Nat) (go no co gl nl cl gn nn cn : Nat) (vl : List Value) (wr : World) : Prop where
  out : ∃ vo, RowQ wr w.heap.size (.slice (some ⟨go, 0, none⟩) no co) vo (outTo O B K L i x)
  last : RowQ wr w.heap.size (.slice (some ⟨gl, 0, none⟩) nl cl) vl L
  next : ∃ vn, RowQ wr w.heap.size (.slice (some ⟨gn, 0, none⟩) nn cn) vn (nextTo K L i (x + 1))
  ol : go ≠ gl
  on : go ≠ gn
  ln : gl ≠ gn
  gr : Gr w wr
section
variable {w wr wr' w1 : World} {O : List (List Int)} {B K : Nat} {L : List (List Int)} {i x go no co gl nl cl gn nn cn : Nat} {vl : List Value}
theorem MeanJ.turn (h : MeanJ w O B K L i x go no co gl nl cl gn nn cn vl wr) (g : Gr wr wr') : MeanJ w O B K L i x go no co gl nl cl gn nn cn vl wr' := by
  obtain ⟨vo, ho⟩ := h.out
  obtain ⟨vn, hn⟩ := h.next
  exact ⟨⟨vo, ho.gr g⟩, h.last.gr g, ⟨vn, hn.gr g⟩, h.ol, h.on, h.ln, h.gr.trans g⟩
theorem MeanJ.outRow (h : MeanJ w O B K L i x go no co gl nl cl gn nn cn vl wr) : ∃ vo, wr.ownsRow w.heap.size 59 1 (.slice (some ⟨go, 0, none⟩) no co) no vo ∧ no = (outTo O B K L i x).length ∧ RowQ wr w.heap.size (.slice (some ⟨go, 0, none⟩) no co) vo (outTo O B K L i x) := by
  obtain ⟨vn, hn⟩ := h.out
  have hl := hn.len
  exact ⟨vn, by rw [hl]; have := hn.row; rw [hl] at this; exact this, hl, hn⟩
theorem MeanI.pushed {M : List Int} (hM : L.getD i [] = M) {g c k cm H : Nat} {vn : List Value} (h : MeanI w O B K L i x go no co gl nl cl gn nn cn vl w1) (hn : RowQ w1 w.heap.size (.slice (some ⟨gn, 0, none⟩) nn cn) vn (nextTo K L i x)) (hnl : nn = (nextTo K L i x).length)
    (ho : w1.ownsRow w.heap.size 22 1 (.slice (some ⟨k, 0, none⟩) (M ++ [(x : Int)]).length cm) (M ++ [(x : Int)]).length ((M ++ [(x : Int)]).map (Value.int .i8)))
    (hrow : wr.ownsRow w.heap.size 59 1 (.slice (some ⟨g, 0, none⟩) (nn + 1) c) (nn + 1) (vn ++ [.slice (some ⟨k, 0, none⟩) (M ++ [(x : Int)]).length cm])) (hg : w1.grownBy wr (some gn)) (hor : some gn = some g ∨ g = H) (hH : w1.heap.size = H) (hs : w.heap.size ≤ w1.heap.size) :
    MeanJ w O B K L i x go no co gl nl cl g (nn + 1) c vl wr ∧ wr.ownsRow w.heap.size 22 1 (.slice (some ⟨k, 0, none⟩) (M ++ [(x : Int)]).length cm) (M ++ [(x : Int)]).length ((M ++ [(x : Int)]).map (Value.int .i8)) := by
  subst hM
  obtain ⟨vo, h1⟩ := h.out
  have lo := rowq_lt h1
  have ll := rowq_lt h.last
  have hgl := rowq_le hn
  have ho' := h.on
  have hl' := h.ln
  have key : go ≠ g ∧ gl ≠ g := by
    rcases hor with e | e
    · simp only [Option.some.injEq] at e; omega
    · omega
  refine ⟨⟨⟨vo, h1.other hn.row (sepOf h.on) hg⟩, h.last.other hn.row (sepOf h.ln) hg, ⟨vn ++ [.slice (some ⟨k, 0, none⟩) (L.getD i [] ++ [(x : Int)]).length cm], ?_⟩, h.ol, key.1, key.2, h.gr.by_ hg (fun b e => by cases e; exact hgl)⟩, ho.kept hg (.inr fun e => apart_of_types hn.row ho _ rfl e.symm)⟩
  have := hn.snoc ho (v' := .slice (some ⟨g, 0, none⟩) (nn + 1) c) (by rw [← hnl]; exact hrow) hg
  rw [nextTo_step]
  exact this
theorem MeanJ.pushed {M : List Int} (hM : L.getD i [] = M) {g c k cm H : Nat} {vo : List Value} (h : MeanJ w O B K L i x go no co gl nl cl gn nn cn vl w1) (h1 : RowQ w1 w.heap.size (.slice (some ⟨go, 0, none⟩) no co) vo (outTo O B K L i x)) (hnl : no = (outTo O B K L i x).length)
    (ho : w1.ownsRow w.heap.size 22 1 (.slice (some ⟨k, 0, none⟩) (M ++ [(x : Int)]).length cm) (M ++ [(x : Int)]).length ((M ++ [(x : Int)]).map (Value.int .i8)))
    (hrow : wr.ownsRow w.heap.size 59 1 (.slice (some ⟨g, 0, none⟩) (no + 1) c) (no + 1) (vo ++ [.slice (some ⟨k, 0, none⟩) (M ++ [(x : Int)]).length cm])) (hg : w1.grownBy wr (some go)) (hor : some go = some g ∨ g = H) (hH : w1.heap.size = H) (hyes : canH B (M ++ [(x : Int)]) = true) :
    MeanI w O B K L i (x + 1) g (no + 1) c gl nl cl gn nn cn vl wr := by
  subst hM
  obtain ⟨vn, hn⟩ := h.next
  have ln' := rowq_lt hn
  have ll := rowq_lt h.last
  have hol := rowq_le h1
  have ho' := h.on
  have hl' := h.ol
  have key : g ≠ gl ∧ g ≠ gn := by
    rcases hor with e | e
    · simp only [Option.some.injEq] at e; omega
    · omega
  refine ⟨⟨vo ++ [.slice (some ⟨k, 0, none⟩) (L.getD i [] ++ [(x : Int)]).length cm], ?_⟩, h.last.other h1.row (sepOf h.ol.symm) hg, ⟨vn, hn.other h1.row (sepOf h.on.symm) hg⟩, key.1, key.2, h.ln, h.gr.by_ hg (fun b e => by cases e; exact hol)⟩
  have := h1.snoc ho (v' := .slice (some ⟨g, 0, none⟩) (no + 1) c) (by rw [← hnl]; exact hrow) hg
  rw [outTo_yes hyes]
  exact this
theorem MeanJ.skip {M : List Int} (hM : L.getD i [] = M) (h : MeanJ w O B K L i x go no co gl nl cl gn nn cn vl wr) (hno : canH B (M ++ [(x : Int)]) = false) : MeanI w O B K L i (x + 1) go no co gl nl cl gn nn cn vl wr := by
  subst hM
  exact ⟨by rw [outTo_no hno]; exact h.out, h.last, h.next, h.ol, h.on, h.ln, h.gr⟩
theorem MeanI.wrap (h : MeanI w O B K L i K go no co gl nl cl gn nn cn vl wr) (hi : i < L.length) : MeanI w O B K L (i + 1) 0 go no co gl nl cl gn nn cn vl wr :=
  ⟨by unfold outTo; rw [← nextTo_all hi]; exact h.out, h.last, by rw [← nextTo_all hi]; exact h.next, h.ol, h.on, h.ln, h.gr⟩
end
set_option maxHeartbeats 8000000 in
set_option maxRecDepth 100000 in
theorem l03Meanings_any (bb K L B : Nat) (a : Option Addr) (n cap : Nat) (ss : List ByteArray) (hK : K ≤ 10) (hL : L ≤ 3) (hB : B ≤ 4) (w : World) (hb : BookAt w bb (K : Int) (L : Int) (B : Int) a n cap ss) :
    Calls Tryd.prog 37 #[.pointer (some ⟨bb, 0, none⟩)] w (MeansPost (bookL K B L) w) := by
  have HBK := hid (fun V (g : Gr w V) => hb.gr g)
  have HHF := hid (fun (j : Nat) (h1 : 1 ≤ j) (h2 : j ≤ 3) (m : List Int) (hm : m ∈ kindsS K j) (g0 c0 : Nat) (hc : j ≤ c0) (V : World) (hs : SliceOf .i8 V (some ⟨g0, 0, none⟩) m) => by
    have hl := (mem_kindsS.1 hm).1
    have := spec_HoistFor_cap (some ⟨g0, 0, none⟩) c0 m (by omega) (by omega) (kinds_fits (by omega) hm) 1 rfl (B : Int) (by rcases (show B = 0 ∨ B = 1 ∨ B = 2 ∨ B = 3 ∨ B = 4 by omega) with rfl | rfl | rfl | rfl | rfl <;> rfl) V hs
    rwa [kinds_code (by omega) h1 (by omega) hB hm, hl] at this)
  have HBD := hid (fun j (h : j ≤ 3) => kinds_bd hK h)
  have HBB := hid (fun j (h : j ≤ 3) => book_bd (B := B) hK h)
  clear hb
  obtain ⟨i0, hi, hz0, hz1, hz2⟩ := info_parts infoI8
  obtain ⟨q0, qi, qz0, qz1, qz2⟩ := info_parts infoMn
  go_enter Tryd.func37, Tryd.ntmps37
  go_wp2_with fail
  go_loopw [3, 4, 5] (fun out last len wr => ∃ (j go no co gl nl cl : Nat) (vo vl : List Value), j ≤ L ∧ len = .int .i8 ((j : Int) + 1) ∧ out = .slice (some ⟨go, 0, none⟩) no co ∧ last = .slice (some ⟨gl, 0, none⟩) nl cl ∧ Hid (RowQ wr w.heap.size (.slice (some ⟨go, 0, none⟩) no co) vo (bookL K B j)) ∧ Hid (RowQ wr w.heap.size (.slice (some ⟨gl, 0, none⟩) nl cl) vl (kindsS K j)) ∧ go ≠ gl ∧ Hid (Gr w wr)) (fun _ _ len _ => 5 - (intOf len).toNat)
  case atStart => exact ⟨0, w.heap.size, 0, 0, w.heap.size + 1 + 1, 1, 1, [], _, Nat.zero_le _, rfl, rfl, rfl, hid ((RowQ.empty (Nat.le_refl _)).gr (((Gr.refl _).alloc _).alloc _)), hid (by have := RowQ.one (w := w.alloc (.cells #[] 59)) (lo := w.heap.size) (by simp); simp only [World.size_alloc] at this; exact this), by omega, hid ((((Gr.refl _).alloc _).alloc _).alloc _)⟩
  case round =>
    obtain ⟨j, go, no, co, gl, nl, cl, vo, vl, hj, rfl, rfl, rfl, RO, RL, hne, GR⟩ := hrel
    obtain ⟨c0, c1, c2, c3, -, -⟩ := HBK.out _ GR.out
    by_cases hlt : j < L
    · have HIM := hid (fun (wr' : World) (gn : Nat) (h : gn = wr.heap.size) (hw : wr' = wr.alloc (.cells #[] 59)) => show MeanI w (bookL K B j) B K (kindsS K j) 0 0 go no co gl nl cl gn 0 0 vl wr' by
        subst h hw
        have h1 := rowq_lt RO.out
        have h2 := rowq_lt RL.out
        exact ⟨⟨vo, by rw [outTo_zero]; exact RO.out.alloc_ _⟩, RL.out.alloc_ _, ⟨[], by rw [nextTo_zero]; exact RowQ.empty GR.out.size⟩, hne, by omega, by omega, GR.out.alloc _⟩)
      have HLS := hid (show kindsS K j = kindsS K j from rfl)
      have HME := hid (fun i x (h1 : i < (kindsS K j).length) (h2 : x < K) => mem_next (K := K) (j := j) rfl h1 h2)
      have HJ := hid (fun m (hm : m ∈ kindsS K (j + 1)) => HHF.out (j + 1) (by omega) (by omega) m hm)
      have hOl : (bookL K B j).length ≤ 3000 := Nat.le_trans (HBB.out j (by omega)) (by omega)
      have hLl := HBD.out j (by omega)
      have HLEN := hid (fun i x (h1 : i ≤ (kindsS K j).length) (h2 : x ≤ K) => outTo_length (B := B) hOl hLl hK h1 h2)
      have HNL := hid RL.out.len
      have HEND := hid (show outTo (bookL K B j) B K (kindsS K j) (kindsS K j).length 0 = bookL K B (j + 1) by unfold outTo; rw [nextTo_end]; rfl)
      have HENL := hid (show nextTo K (kindsS K j) (kindsS K j).length 0 = kindsS K (j + 1) by rw [nextTo_end]; rfl)
      have HKL := hid (fun i (h : i < (kindsS K j).length) => show ((kindsS K j).getD i []).length = j by
        have h1 : (kindsS K j).getD i [] ∈ kindsS K j := by
          simp only [List.getD, List.getElem?_eq_getElem h, Option.getD_some]
          exact List.getElem_mem h
        exact (mem_kindsS.1 h1).1)
      clear RO RL HLS HHF HBD hOl
      obtain ⟨O, hO⟩ : ∃ O, O = bookL K B j := ⟨_, rfl⟩
      obtain ⟨Ls, hLs⟩ : ∃ Ls, Ls = kindsS K j := ⟨_, rfl⟩
      rw [← hO, ← hLs] at HIM
      rw [← hO, ← hLs] at HLEN HEND
      rw [← hLs] at HME HNL HENL HKL hLl
      have hnl : nl ≤ 1000 := by rw [HNL.out]; exact hLl
      clear hO hLs
      have dlt : decide ((j : Int) + 1 ≤ (L : Int)) = true := by rw [decide_eq_true_iff]; omega
      go_wp2_with fail
      go_loopw [3, 6, 7] (fun out next ix wr => ∃ (i go no co gn nn cn : Nat), i ≤ nl ∧ ix = .int .i64 i ∧ out = .slice (some ⟨go, 0, none⟩) no co ∧ next = .slice (some ⟨gn, 0, none⟩) nn cn ∧ Hid (MeanI w O B K Ls i 0 go no co gl nl cl gn nn cn vl wr)) (fun _ _ ix _ => nl - (intOf ix).toNat)
      case atStart => exact ⟨0, go, no, co, wr.heap.size, 0, 0, Nat.zero_le _, rfl, rfl, rfl, hid (HIM.out _ _ rfl rfl)⟩
      case round =>
        clear HIM GR hne c0 c1 c2 c3
        obtain ⟨i, go, no, co, gn, nn, cn, hi', rfl, rfl, rfl, MI⟩ := hrel
        by_cases hlt2 : i < nl
        · go_wp2_with fail
          go_loopw [3, 6, 8] (fun out next kx wr => ∃ (x go no co gn nn cn : Nat), x ≤ K ∧ kx = .int .i8 x ∧ out = .slice (some ⟨go, 0, none⟩) no co ∧ next = .slice (some ⟨gn, 0, none⟩) nn cn ∧ Hid (MeanI w O B K Ls i x go no co gl nl cl gn nn cn vl wr)) (fun _ _ kx _ => K - (intOf kx).toNat)
          case atStart => exact ⟨0, go, no, co, gn, nn, cn, Nat.zero_le _, rfl, rfl, rfl, MI⟩
          case round =>
            clear MI
            obtain ⟨x, go, no, co, gn, nn, cn, hx, rfl, rfl, rfl, MI⟩ := hrel
            obtain ⟨c0, c1, c2, c3, -, -⟩ := HBK.out _ MI.out.gr
            by_cases hlt3 : x < K
            · have hiL : i < Ls.length := by rw [← HNL.out]; exact hlt2
              obtain ⟨gl0, g', c', e0, hc0, ho0⟩ := MI.out.last.at_ hiL
              simp only [Option.some.injEq, Addr.mk.injEq, and_true] at e0
              subst e0
              have HML := hid (HKL.out i hiL)
              have HMM := hid (HME.out i x hiL hlt3)
              have hle := HLEN.out i x (by omega) (by omega)
              have hle2 := HLEN.out i (x + 1) (by omega) (by omega)
              have HJM := hid (HJ.out _ HMM.out)
              obtain ⟨vn, hrn, hln, hqn⟩ := MI.out.nextRow
              obtain ⟨vo0, hro, hlo, hqo⟩ := MI.out.outRow
              have hno9 : no ≤ 100000 := by rw [hlo]; exact hle.1
              have hnn9 : nn ≤ 100000 := by rw [hln]; exact hle.2
              have HS0 := hid (row_reads ho0 rfl)
              have HQN := hid hqn
              have HLN := hid hln
              have HRN := hid hrn
              clear hle hle2 hqo hro hlo hiL hln hrn hqn
              obtain ⟨M, hM⟩ : ∃ M, M = Ls.getD i [] := ⟨_, rfl⟩
              rw [← hM] at hc0 ho0 HML HMM HJM HS0
              have HM := hid hM.symm
              rw [HML.out] at hc0
              have hc1 : (wr.alloc (.cells #[] 22)).cell? ⟨gl, i, none⟩ = some (.slice (some ⟨g', 0, none⟩) j c') := ((Gr.refl wr).alloc (.cells #[] 22)).cell hc0
              have HMI := hid (show (M ++ [(x : Int)]).length = j + 1 by rw [List.length_append, HML.out]; rfl)
              have OE := hid ((Own.new (k := .i8) (e := 22) wr [] (by simp)).row)
              have HH := hid (news_of_slice (HS0.out.gr ((Gr.refl wr).alloc (.cells #[] 22))))
              have hj3 : j ≤ 3 := by omega
              clear hM ho0 HS0
              go_wp2_with (at_builtin; refine wpList_append_own _ rfl _ _ 59 rfl wr.heap.size 22 i0 (.int .i8 0) 1 1 Tryd.underlying59 hi hz0 hz1 hz2 rfl (by decide) _ _ _ rfl OE.out ⟨g', 0, none⟩ j c' (M.map (Value.int .i8)) rfl (by rw [List.length_map, Nat.mul_one]; exact HML.out) HH.out (by simp [Value.oneCell']) (by unfold maxLen; simp; omega) (by simp; omega) (by simp) ?_)
              intro v1 w1 hown hgrow _
              have OV := hid (Own.ofRow (k := .i8) (xs := M) hown (by simp) (by rw [HML.out]))
              have G1 := hid (((Gr.refl wr).alloc (.cells #[] 22)).by_ hgrow (fun b e => by cases e; exact Nat.le_refl _))
              obtain ⟨av, cv, hv1⟩ := OV.out.shape
              rw [HML.out] at hv1
              subst hv1
              have ROW1 := hid OV.out.row
              rw [HML.out] at ROW1
              clear hown hgrow hc0 hc1 c0 c1 c2 c3
              go_wp2_with (at_builtin; refine wpList_append_own _ rfl _ _ 59 rfl wr.heap.size 22 i0 (.int .i8 0) 1 1 Tryd.underlying59 hi hz0 hz1 hz2 rfl (by decide) _ _ _ rfl (ROW1.out.alloc _) ⟨w1.heap.size, 0, none⟩ 1 1 [.int .i8 (x : Int)] rfl rfl (cell_l1 _ _ _) (by simp [Value.oneCell']) (by unfold maxLen; omega) (by omega) (by have := G1.out.size; simp; omega) ?_)
              intro v2 w2 hown2 hgrow2 _
              obtain ⟨g2, c2, rfl, hg2, _⟩ := hown2.form (by omega)
              have G2 := hid ((G1.out.alloc (.cells #[.int .i8 (x : Int)] 22)).by_ hgrow2 (fun b e => by have := (ROW1.out.lt b e).1; omega))
              have OX := hid (show w2.ownsRow w.heap.size 22 1 (.slice (some ⟨g2, 0, none⟩) (M ++ [(x : Int)]).length c2) (M ++ [(x : Int)]).length ((M ++ [(x : Int)]).map (Value.int .i8)) by rw [HMI.out, List.map_append]; exact ownsRow_lower hown2 MI.out.gr.size)
              clear hown2 hgrow2 OE HH OV ROW1
              have ROWN := hid ((ownsRow_gr HRN.out G2.out).alloc (.cells #[.slice (some ⟨g2, 0, none⟩) (j + 1) c2] 59))
              have hsz : w.heap.size ≤ w2.heap.size := Nat.le_trans MI.out.gr.size G2.out.size
              go_wp2_with (at_builtin; refine wpList_append_lies _ rfl _ _ 56 rfl w.heap.size 59 q0 (.slice none 0 0) 1 24 Tryd.underlying56 qi qz0 qz1 qz2 rfl (by decide) _ _ _ rfl ROWN.out ⟨w2.heap.size, 0, none⟩ 1 1 [.slice (some ⟨g2, 0, none⟩) (j + 1) c2] rfl rfl (cell_q1 _ _ _) (by simp [Value.oneCell']) (by omega) (by unfold maxLen; omega) (by omega) (by simp; omega) (w2.heap.size + 1) (by simp) ?_)
              intro g3 c3 w3 hrow3 hg3 hor3 _
              have MJ2 := hid (MeanI.pushed HM.out (MI.out.turn (G2.out.alloc (.cells #[.slice (some ⟨g2, 0, none⟩) (j + 1) c2] 59))) (HQN.out.gr (G2.out.alloc _)) HLN.out (OX.out.alloc _) (by rw [HMI.out]; exact hrow3) hg3 hor3 (by simp) (by simp; omega))
              have MJ := hid MJ2.out.1
              have OX3 := hid MJ2.out.2
              clear MJ2 OX ROWN HRN HQN HLN MI hrow3 hg3 hor3 hsz G1 G2
              obtain ⟨d0, d1, d2, d3, -, -⟩ := HBK.out _ MJ.out.gr
              have HFC := hid (HJM.out g2 c2 (by have := row_cap OX3.out; rw [HMI.out] at this; exact this) w3 (row_reads OX3.out rfl))
              clear HJM
              obtain ⟨X, hX⟩ : ∃ X, X = hforL (M ++ [(x : Int)]) 1 (B : Int) := ⟨_, rfl⟩
              rw [← hX] at HFC
              clear hX
              cases hcan : canH B (M ++ [(x : Int)]) with
              | true =>
                rw [hcan, if_pos rfl] at HFC
                have HCAN := hid hcan
                clear hcan
                go_wp2_with fail
                refine HFC.out.mono ?_
                rintro e w4 ⟨vr, rfl, ow, g4⟩
                obtain ⟨ar, cr, rfl⟩ := ow.shape
                unfold withCode
                have MJ4 := hid (MJ.out.turn g4)
                have OX4 := hid (ownsRow_gr OX3.out g4)
                obtain ⟨vo4, hro4, hlo4, hqo4⟩ := MJ4.out.outRow
                have ROWO := hid (hro4.alloc (.cells #[.slice (some ⟨g2, 0, none⟩) (j + 1) c2] 59))
                have HQO := hid (hqo4.alloc_ (.cells #[.slice (some ⟨g2, 0, none⟩) (j + 1) c2] 59))
                have HLO := hid hlo4
                have hsz : w.heap.size ≤ w4.heap.size := MJ4.out.gr.size
                clear ow g4 MJ OX3 hro4 hqo4 hlo4 d0 d1 d2 d3
                generalize X.length = qx at *
                go_wp2_with (at_builtin; refine wpList_append_lies _ rfl _ _ 56 rfl w.heap.size 59 q0 (.slice none 0 0) 1 24 Tryd.underlying56 qi qz0 qz1 qz2 rfl (by decide) _ _ _ rfl ROWO.out ⟨w4.heap.size, 0, none⟩ 1 1 [.slice (some ⟨g2, 0, none⟩) (j + 1) c2] rfl rfl (cell_q1 _ _ _) (by simp [Value.oneCell']) (by omega) (by unfold maxLen; omega) (by omega) (by simp; omega) (w4.heap.size + 1) (by simp) ?_)
                intro g5 c5 w5 hrow5 hg5 hor5 _
                have MI5 := hid (MeanJ.pushed HM.out (MJ4.out.turn ((Gr.refl _).alloc (.cells #[.slice (some ⟨g2, 0, none⟩) (j + 1) c2] 59))) HQO.out HLO.out (OX4.out.alloc _) (by rw [HMI.out]; exact hrow5) hg5 hor5 (by simp) HCAN.out)
                clear hrow5 hg5 hor5 ROWO HQO HLO MJ4 OX4
                go_wp2_with fail
                go_roundw
                case rel => exact ⟨x + 1, g5, no + 1, c5, g3, nn + 1, c3, by omega, by go_num, rfl, rfl, MI5⟩
                case measure => simp [intOf]; omega
              | false =>
                rw [hcan, if_neg (by simp)] at HFC
                have HCAN := hid hcan
                clear hcan
                go_wp2_with fail
                refine HFC.out.mono ?_
                rintro e w4 ⟨vr, rfl, ow, g4⟩
                obtain ⟨ar, cr, rfl⟩ := ow.shape
                unfold withCode
                have MI5 := hid (MeanJ.skip HM.out (MJ.out.turn g4) HCAN.out)
                clear ow g4 MJ OX3 d0 d1 d2 d3
                generalize X.length = qx at *
                go_wp2_with fail
                go_roundw
                case rel => exact ⟨x + 1, go, no, co, g3, nn + 1, c3, by omega, by go_num, rfl, rfl, MI5⟩
                case measure => simp [intOf]; omega
            · obtain rfl : x = K := by omega
              have MW := hid (MI.out.wrap (by rw [← HNL.out]; exact hlt2))
              clear MI
              go_wp2_with fail
              go_roundw
              case rel => exact ⟨i + 1, go, no, co, gn, nn, cn, by omega, by go_num, rfl, rfl, MW⟩
              case measure => simp [intOf]; omega
        · have hin : i = Ls.length := by rw [← HNL.out]; omega
          obtain ⟨vo', ho'⟩ := MI.out.out
          obtain ⟨vn', hn'⟩ := MI.out.next
          rw [hin] at ho' hn'
          rw [HEND.out] at ho'
          rw [HENL.out] at hn'
          have RO := hid ho'
          have RN := hid hn'
          have hon := MI.out.on
          have GR := hid MI.out.gr
          clear hin ho' hn' MI
          go_wp2_with fail
          go_roundw
          case rel => exact ⟨j + 1, go, no, co, gn, nn, cn, vo', vn', by omega, by go_num, rfl, rfl, RO, RN, hon, GR⟩
          case measure => simp [intOf]; omega
    · have hjL : j = L := by omega
      subst hjL
      have hol := RO.out.len
      have HRO := hid RO.out
      rw [hol] at HRO
      have HOL := hid hol
      clear hol
      go_wp2_with fail
      go_ret
      exact ⟨go, co, vo, by rw [← HOL.out]; rfl, HRO.out, GR.out⟩
end Go.Proofs.YtfaiehjomcgjgaaDoor

/- Books: how many meanings there are: both functions. -/
namespace Go.Proofs.YtfaiehjomcgjgaaDoor
set_option linter.unusedVariables false
open Go.RowKit
def sizedB (k l s : Int) : Bool := betB k 1 10 && (betB l 1 3 && betB s 0 4)
theorem sizedB_yes {k l s : Int} (h : sizedB k l s = true) : ∃ K L B : Nat, k = K ∧ l = L ∧ s = B ∧ 1 ≤ K ∧ K ≤ 10 ∧ 1 ≤ L ∧ L ≤ 3 ∧ B ≤ 4 := by
  unfold sizedB at h
  simp only [Bool.and_eq_true, betB_iff] at h
  obtain ⟨⟨k1, k2⟩, ⟨l1, l2⟩, s1, s2⟩ := h
  exact ⟨k.toNat, l.toNat, s.toNat, by omega, by omega, by omega, by omega, by omega, by omega, by omega, by omega⟩
def meansOf (k l s : Int) : List (List Int) := if sizedB k l s then bookL k.toNat s.toNat l.toNat else []
def roomV (k l s : Int) : Int := ((meansOf k l s).length : Int)
def roomC (k l s : Int) : Int := if sizedB k l s then 0 else 1
theorem room_no {k l s : Int} (h : sizedB k l s = false) : roomV k l s = 0 ∧ roomC k l s = 1 := by unfold roomV roomC meansOf; rw [h]; exact ⟨rfl, rfl⟩
theorem room_yes {K L B : Nat} (h : sizedB K L B = true) : roomV K L B = ((bookL K B L).length : Int) ∧ roomC K L B = 0 ∧ meansOf K L B = bookL K B L := by
  unfold roomV roomC meansOf; rw [h]; exact ⟨rfl, rfl, rfl⟩
theorem wf_i64 {x : Int} (h : (Lit.int .i8 x).wf = true) : IntKind.i64.wrap x = x := by
  have := bounds_i8 h
  exact IntWalk.i64_in _ (by omega)
structure Wf3 (k l s : Int) : Prop where
  k : (Lit.int .i8 k).wf = true
  l : (Lit.int .i8 l).wf = true
  s : (Lit.int .i8 s).wf = true
set_option maxRecDepth 100000 in
set_option maxHeartbeats 1000000 in
theorem l03Sized_any (bb : Nat) (k l s : Int) (a : Option Addr) (n cap : Nat) (ss : List ByteArray) (hw : Wf3 k l s) (w : World) (hb : BookAt w bb k l s a n cap ss) :
    Calls Tryd.prog 74 #[.pointer (some ⟨bb, 0, none⟩)] w fun e w' => e = .returned (.bool (sizedB k l s)) ∧ w = w' := by
  have c0 := hb.c0
  have c1 := hb.c1
  have c2 := hb.c2
  have ek := wf_i64 hw.k
  have el := wf_i64 hw.l
  have es := wf_i64 hw.s
  have HK := hid (fun V => l00In_b k 1 10 V)
  have HL := hid (fun V => l00In_b l 1 3 V)
  have HS := hid (fun V => l00In_b s 0 4 V)
  clear hb hw
  unfold sizedB
  generalize betB k 1 10 = q at *
  generalize betB l 1 3 = r at *
  generalize betB s 0 4 = t at *
  cases q
  · go_enter Tryd.func74, Tryd.ntmps74
    go_wp2_with ((with_reducible refine (HK.out _).mono ?_); rintro e w' ⟨rfl, rfl⟩)
    go_ret
    exact ⟨rfl, rfl⟩
  · cases r
    · go_enter Tryd.func74, Tryd.ntmps74
      go_wp2_with (first | ((with_reducible refine (HK.out _).mono ?_); rintro e w' ⟨rfl, rfl⟩) | ((with_reducible refine (HL.out _).mono ?_); rintro e w' ⟨rfl, rfl⟩))
      go_ret
      exact ⟨rfl, rfl⟩
    · go_enter Tryd.func74, Tryd.ntmps74
      go_wp2_with (first | ((with_reducible refine (HK.out _).mono ?_); rintro e w' ⟨rfl, rfl⟩) | ((with_reducible refine (HL.out _).mono ?_); rintro e w' ⟨rfl, rfl⟩) | ((with_reducible refine (HS.out _).mono ?_); rintro e w' ⟨rfl, rfl⟩))
      go_ret
      exact ⟨rfl, rfl⟩
set_option maxRecDepth 100000 in
set_option maxHeartbeats 1000000 in
theorem scheme_isValid_any (k l s : Int) (hw : Wf3 k l s) (w : World) :
    Calls Tryd.prog 94 #[.agg #[.int .i8 k, .int .i8 l, .int .i8 s]] w fun e w' => e = .returned (.bool (sizedB k l s)) ∧ Gr w w' := by
  have gr : Hid (Gr w (w.alloc (.cells #[.int .i8 k, .int .i8 l, .int .i8 s] 67))) := hid ((Gr.refl _).alloc _)
  have ek := wf_i64 hw.k
  have el := wf_i64 hw.l
  have es := wf_i64 hw.s
  have HK := hid (fun V => isBetween_any k 1 10 V)
  have HL := hid (fun V => isBetween_any l 1 3 V)
  have HS := hid (fun V => isBetween_any s 0 4 V)
  clear hw
  unfold sizedB
  generalize betB k 1 10 = q at *
  generalize betB l 1 3 = r at *
  generalize betB s 0 4 = t at *
  cases q
  · go_enter Tryd.func94, Tryd.ntmps94
    go_wp2_with ((with_reducible refine (HK.out _).mono ?_); rintro e w' ⟨rfl, rfl⟩)
    go_ret
    exact ⟨rfl, gr.out⟩
  · cases r
    · go_enter Tryd.func94, Tryd.ntmps94
      go_wp2_with (first | ((with_reducible refine (HK.out _).mono ?_); rintro e w' ⟨rfl, rfl⟩) | ((with_reducible refine (HL.out _).mono ?_); rintro e w' ⟨rfl, rfl⟩))
      go_ret
      exact ⟨rfl, gr.out⟩
    · go_enter Tryd.func94, Tryd.ntmps94
      go_wp2_with (first | ((with_reducible refine (HK.out _).mono ?_); rintro e w' ⟨rfl, rfl⟩) | ((with_reducible refine (HL.out _).mono ?_); rintro e w' ⟨rfl, rfl⟩) | ((with_reducible refine (HS.out _).mono ?_); rintro e w' ⟨rfl, rfl⟩))
      go_ret
      exact ⟨rfl, gr.out⟩
set_option maxRecDepth 100000 in
theorem book_schemeOf (k l s : Int) (v : Value) (w : World) :
    Calls Tryd.prog 42 #[bookV k l s v] w fun e w' => e = .returned (.agg #[.int .i8 k, .int .i8 l, .int .i8 s]) ∧ Gr w w' := by
  go_enter Tryd.func42, Tryd.ntmps42
  go_wp2_with fail
  exact bodyPost_ret (v := .agg #[.int .i8 k, .int .i8 l, .int .i8 s]) (by simp [results, Tryd.results42, go_sem]) rfl ⟨rfl, ((Gr.refl _).alloc _).alloc _⟩
theorem countM_room {K B n : Nat} (k1 : 1 ≤ K) (k2 : K ≤ 10) (h3 : n + 1 ≤ 3) (b2 : B ≤ 4) : cntV (K : Int) ((n : Int) + 1) 1 (B : Int) = sumW K 1 B (n + 1) (patF (n + 1) [] 0) := by
  have h : cntB (K : Int) ((n : Int) + 1) 1 (B : Int) = true := by
    unfold cntB
    rw [betB_iff.2 (by omega : (1 : Int) ≤ (K : Int) ∧ (K : Int) ≤ 40), betB_iff.2 (by omega : (1 : Int) ≤ (n : Int) + 1 ∧ (n : Int) + 1 ≤ 6), betB_iff.2 (by omega : (1 : Int) ≤ 1 ∧ (1 : Int) ≤ 8), betB_iff.2 (by omega : (0 : Int) ≤ (B : Int) ∧ (B : Int) ≤ 4)]
    rfl
  rw [(cnt_yes h).1, Int.toNat_natCast, show ((n : Int) + 1).toNat = n + 1 by omega]
theorem room_bd {K B n : Nat} (k2 : K ≤ 10) (h3 : n ≤ 3) (b2 : B ≤ 4) : 0 ≤ roomTo K B n ∧ roomTo K B n ≤ 3000 := by
  rw [room_len k2 b2 h3]
  have := book_bd (B := B) k2 h3
  omega
set_option maxRecDepth 100000 in
set_option maxHeartbeats 4000000 in
theorem roomOf_any (k l s : Int) (v : Value) (hw : Wf3 k l s) (w : World) :
    Calls Tryd.prog 77 #[bookV k l s v] w fun e w' => e = .returned (.tuple #[.int .i64 (roomV k l s), .int .i64 (roomC k l s)]) ∧ Gr w w' := by
  have HSC := hid (fun V => book_schemeOf k l s v V)
  have HV := hid (fun V => scheme_isValid_any k l s hw V)
  cases h : sizedB k l s with
  | false =>
    obtain ⟨e1, e2⟩ := room_no h
    rw [e1, e2]
    rw [h] at HV
    clear e1 e2 h hw
    go_enter Tryd.func77, Tryd.ntmps77
    go_wp2_with fail
    refine (HSC.out _).mono ?_
    rintro e w1 ⟨rfl, g1⟩
    have G1 := hid (((Gr.refl w).alloc (.cells (bookC k l s v) 31)).trans g1)
    have N1 := hid (heap_new (w := w1) (o := .cells #[.int .i8 0, .int .i8 0, .int .i8 0] 67) rfl)
    have N2 := hid (heap_row_set (cs := #[.int .i8 k, .int .i8 l, .int .i8 s]) N1.out)
    have GL := hid ((G1.out.alloc (.cells #[.int .i8 0, .int .i8 0, .int .i8 0] 67)).setRow G1.out.size #[.int .i8 k, .int .i8 l, .int .i8 s])
    clear g1
    have q0 : ((w1.alloc (.cells #[.int .i8 0, .int .i8 0, .int .i8 0] 67)).setRow w1.heap.size #[.int .i8 k, .int .i8 l, .int .i8 s]).cell? ⟨w1.heap.size, 0, none⟩ = some (.int .i8 (k : Int)) := by rw [cell_of_row _ _ 0 _ _ _ N2.out]; rfl
    have q1 : ((w1.alloc (.cells #[.int .i8 0, .int .i8 0, .int .i8 0] 67)).setRow w1.heap.size #[.int .i8 k, .int .i8 l, .int .i8 s]).cell? ⟨w1.heap.size, 1, none⟩ = some (.int .i8 (l : Int)) := by rw [cell_of_row _ _ 1 _ _ _ N2.out]; rfl
    have q2 : ((w1.alloc (.cells #[.int .i8 0, .int .i8 0, .int .i8 0] 67)).setRow w1.heap.size #[.int .i8 k, .int .i8 l, .int .i8 s]).cell? ⟨w1.heap.size, 2, none⟩ = some (.int .i8 (s : Int)) := by rw [cell_of_row _ _ 2 _ _ _ N2.out]; rfl
    go_wp2_with (refine wpList_store_cells rfl 67 _ _ rfl _ #[.int .i8 k, .int .i8 l, .int .i8 s] #[.int .i8 0, .int .i8 0, .int .i8 0] rfl rfl _ 3 N1.out (by kernel_rfl) rfl rfl (by simp [Value.oneCell']) ?_)
    clear q0 q1 q2
    clear N1
    obtain ⟨W2, hW2⟩ : ∃ W2, W2 = (w1.alloc (.cells #[.int .i8 0, .int .i8 0, .int .i8 0] 67)).setRow w1.heap.size #[.int .i8 k, .int .i8 l, .int .i8 s] := ⟨_, rfl⟩
    rw [← hW2] at N2 GL ⊢
    clear hW2
    refine (HV.out _).mono ?_
    rintro e w3 ⟨rfl, g3⟩
    have G3 := hid (GL.out.trans g3)
    clear g3
    go_wp2_with fail
    go_ret2
    exact ⟨rfl, G3.out⟩
  | true =>
    obtain ⟨K, L, B, rfl, rfl, rfl, k1, k2, l1, l2, b2⟩ := sizedB_yes h
    obtain ⟨e1, e2, -⟩ := room_yes h
    rw [e1, e2, ← room_len k2 b2 l2]
    rw [h] at HV
    have HC := hid (fun n (hn : n + 1 ≤ 3) V => by
      have := impl_CountMeanings_any (K : Int) ((n : Int) + 1) 1 (B : Int) V
      rwa [countM_room k1 k2 hn b2] at this)
    have HR := hid (fun n (hn : n ≤ 3) => room_bd (K := K) (B := B) k2 hn b2)
    have HST := hid (fun n => show roomTo K B (n + 1) = roomTo K B n + sumW K 1 B (n + 1) (patF (n + 1) [] 0) from rfl)
    have HZ := hid (show roomTo K B 0 = 0 from rfl)
    generalize roomTo K B = R at *
    clear e1 e2 h hw
    go_enter Tryd.func77, Tryd.ntmps77
    go_wp2_with fail
    refine (HSC.out _).mono ?_
    rintro e w1 ⟨rfl, g1⟩
    have G1 := hid (((Gr.refl w).alloc (.cells (bookC K L B v) 31)).trans g1)
    have N1 := hid (heap_new (w := w1) (o := .cells #[.int .i8 0, .int .i8 0, .int .i8 0] 67) rfl)
    have N2 := hid (heap_row_set (cs := #[.int .i8 K, .int .i8 L, .int .i8 B]) N1.out)
    have GL := hid ((G1.out.alloc (.cells #[.int .i8 0, .int .i8 0, .int .i8 0] 67)).setRow G1.out.size #[.int .i8 K, .int .i8 L, .int .i8 B])
    clear g1
    have q0 : ((w1.alloc (.cells #[.int .i8 0, .int .i8 0, .int .i8 0] 67)).setRow w1.heap.size #[.int .i8 K, .int .i8 L, .int .i8 B]).cell? ⟨w1.heap.size, 0, none⟩ = some (.int .i8 (K : Int)) := by rw [cell_of_row _ _ 0 _ _ _ N2.out]; rfl
    have q1 : ((w1.alloc (.cells #[.int .i8 0, .int .i8 0, .int .i8 0] 67)).setRow w1.heap.size #[.int .i8 K, .int .i8 L, .int .i8 B]).cell? ⟨w1.heap.size, 1, none⟩ = some (.int .i8 (L : Int)) := by rw [cell_of_row _ _ 1 _ _ _ N2.out]; rfl
    have q2 : ((w1.alloc (.cells #[.int .i8 0, .int .i8 0, .int .i8 0] 67)).setRow w1.heap.size #[.int .i8 K, .int .i8 L, .int .i8 B]).cell? ⟨w1.heap.size, 2, none⟩ = some (.int .i8 (B : Int)) := by rw [cell_of_row _ _ 2 _ _ _ N2.out]; rfl
    go_wp2_with (refine wpList_store_cells rfl 67 _ _ rfl _ #[.int .i8 K, .int .i8 L, .int .i8 B] #[.int .i8 0, .int .i8 0, .int .i8 0] rfl rfl _ 3 N1.out (by kernel_rfl) rfl rfl (by simp [Value.oneCell']) ?_)
    clear q0 q1 q2
    clear N1
    obtain ⟨W2, hW2⟩ : ∃ W2, W2 = (w1.alloc (.cells #[.int .i8 0, .int .i8 0, .int .i8 0] 67)).setRow w1.heap.size #[.int .i8 K, .int .i8 L, .int .i8 B] := ⟨_, rfl⟩
    rw [← hW2] at N2 GL ⊢
    clear hW2
    refine (HV.out _).mono ?_
    rintro e w3 ⟨rfl, g3⟩
    have G3 := hid (GL.out.trans g3)
    have N3 := hid (g3.heap N2.out)
    have c0 : w3.cell? ⟨w1.heap.size, 0, none⟩ = some (.int .i8 (K : Int)) := by rw [cell_of_row _ _ 0 _ _ _ N3.out]; rfl
    have c1 : w3.cell? ⟨w1.heap.size, 1, none⟩ = some (.int .i8 (L : Int)) := by rw [cell_of_row _ _ 1 _ _ _ N3.out]; rfl
    clear g3 N2
    go_wp2_with fail
    go_loopw [5, 17] (fun r i wr => ∃ j : Nat, j ≤ L ∧ i = .int .i64 j ∧ r = .int .i64 (R j) ∧ Hid (Gr w3 wr)) (fun _ i _ => L - (intOf i).toNat)
    case atStart => exact ⟨0, Nat.zero_le _, rfl, by rw [HZ.out], hid (Gr.refl _)⟩
    case round =>
      obtain ⟨j, hj, rfl, rfl, gr⟩ := hrel
      by_cases hlt : j < L
      · have p0 := gr.out.cell c0
        have p2 : wr.cell? ⟨w1.heap.size, 2, none⟩ = some (.int .i8 (B : Int)) := gr.out.cell (by rw [cell_of_row _ _ 2 _ _ _ N3.out]; rfl)
        have HCJ := hid (HC.out j (by omega) wr)
        have HSJ := hid (HST.out j)
        obtain ⟨r0, r1⟩ := HR.out j (by omega)
        obtain ⟨s0, s1⟩ := HR.out (j + 1) (by omega)
        rw [HSJ.out] at s0 s1
        generalize sumW K 1 B (j + 1) (patF (j + 1) [] 0) = q at *
        have es : IntKind.i64.wrap (R j + q) = R j + q := IntWalk.i64_in _ (by omega)
        have HCC : Hid (cntC (K : Int) ((j : Int) + 1) 1 (B : Int) = cntC (K : Int) ((j : Int) + 1) 1 (B : Int)) := hid rfl
        generalize cntC (K : Int) ((j : Int) + 1) 1 (B : Int) = cc at *
        clear HCC
        generalize R j = rj at *
        go_wp2_with fail
        refine HCJ.out.mono ?_
        rintro e w4 ⟨rfl, g4⟩
        have G4 := hid (gr.out.trans g4)
        clear g4 HCJ p0 p2
        go_wp2_with fail
        go_roundw
        case rel => exact ⟨j + 1, by omega, by go_num, by rw [HSJ.out], G4⟩
        case measure => simp [intOf]; omega
      · obtain rfl : j = L := by omega
        go_wp2_with fail
        go_ret2
        exact ⟨rfl, G3.out.trans gr.out⟩
theorem impl_RoomOf_any (k l s : Int) (hw : Wf3 k l s) (a : Option Addr) (cap n : Nat) (ss : List ByteArray) (_hl : n = ss.length) (_hn : n ≤ 1048576) (_hz : SizesOk ss) (w : World) (_hs : StrsOf w a ss) :
    Calls Tryd.prog 77 #[bookV k l s (.slice a n cap)] w fun e w' => e = .returned (.tuple #[.int .i64 (roomV k l s), .int .i64 (roomC k l s)]) ∧ Gr w w' := roomOf_any k l s _ hw w
end Go.Proofs.YtfaiehjomcgjgaaDoor

/- Books in memory: their cells. -/
namespace Go.Proofs.YtfaiehjomcgjgaaDoor
set_option linter.unusedVariables false
open Go.RowKit
theorem bk_cells {w : World} {b : Nat} {k l s : Int} {v : Value} {t : TypeId} {fr : Nat × Nat} (h : w.heap[b]? = some (.cells (bookC k l s v) t fr)) :
    w.cell? ⟨b, 0, none⟩ = some (.int .i8 k) ∧ w.cell? ⟨b, 1, none⟩ = some (.int .i8 l) ∧ w.cell? ⟨b, 2, none⟩ = some (.int .i8 s) ∧ w.cell? ⟨b, 3, none⟩ = some v := by
  refine ⟨?_, ?_, ?_, ?_⟩ <;> rw [cell_of_row w b _ _ t fr h] <;> rfl
theorem bk_keep {A B C D E F G H I : Prop} (h : A ∧ B ∧ C ∧ D) (g : E ∧ F ∧ G ∧ H) (i : I) : A ∧ B ∧ C ∧ D ∧ E ∧ F ∧ G ∧ H ∧ I := ⟨h.1, h.2.1, h.2.2.1, h.2.2.2, g.1, g.2.1, g.2.2.1, g.2.2.2, i⟩
end Go.Proofs.YtfaiehjomcgjgaaDoor

/- ValidBook: what both sides ask; the model's function. -/
namespace Go.Proofs.YtfaiehjomcgjgaaDoor
set_option linter.unusedVariables false
open Go.RowKit
def validBk (k l s : Int) (ss : List ByteArray) : Bool := sizedB k l s && (decide (ss.length ≤ 100) && (allTo (okPh ss) ss.length && decide (ss.length ≤ (meansOf k l s).length)))
theorem validBk_sized {k l s : Int} {ss : List ByteArray} (h : sizedB k l s = false) : validBk k l s ss = false := by unfold validBk; rw [h]; rfl
theorem validBk_long {k l s : Int} {ss : List ByteArray} (h : ¬ ss.length ≤ 100) : validBk k l s ss = false := by unfold validBk; rw [decide_eq_false h]; simp
theorem validBk_at {k l s : Int} {ss : List ByteArray} {i : Nat} (hi : i < ss.length) (h : okPh ss i = false) : validBk k l s ss = false := by unfold validBk; rw [allTo_no hi h]; simp
theorem validBk_end {k l s : Int} {ss : List ByteArray} (h : sizedB k l s = true) (h1 : ss.length ≤ 100) (h2 : allTo (okPh ss) ss.length = true) : validBk k l s ss = decide (ss.length ≤ (meansOf k l s).length) := by
  unfold validBk; rw [h, decide_eq_true h1, h2]; rfl
set_option maxHeartbeats 4000000 in
set_option maxRecDepth 100000 in
theorem l03Ok_any (bb : Nat) (k l s : Int) (a : Option Addr) (n cap : Nat) (ss : List ByteArray) (hw : Wf3 k l s) (hn : n ≤ 1048576) (hz : SizesOk ss) (w : World) (hb : BookAt w bb k l s a n cap ss) :
    Calls Tryd.prog 54 #[.pointer (some ⟨bb, 0, none⟩)] w fun e w' => e = .returned (.bool (validBk k l s ss)) ∧ Gr w w' := by
  have HB := hid hb
  have HZ := hid (l03Sized_any bb k l s a n cap ss hw w hb)
  have c3 := hb.c3
  have HL := hid hb.len
  have HS := hid hb.reads
  clear hb
  cases h : sizedB k l s with
  | false =>
    rw [validBk_sized h]
    rw [h] at HZ
    clear h HB hw
    go_enter Tryd.func54, Tryd.ntmps54
    go_wp2_with fail
    refine HZ.out.mono ?_
    rintro e w' ⟨rfl, rfl⟩
    go_wp2_with fail
    go_ret
    exact ⟨rfl, Gr.refl _⟩
  | true =>
    rw [h] at HZ
    by_cases h100 : n ≤ 100
    · have HNO := hid (fun i (hi : i < n) (h : okPh ss i = false) => validBk_at (k := k) (l := l) (s := s) (show i < ss.length by rw [← HL.out]; exact hi) h)
      have HEND := hid (fun (h2 : allTo (okPh ss) n = true) => validBk_end (ss := ss) h (by rw [← HL.out]; exact h100) (by rw [← HL.out]; exact h2))
      rw [← HL.out] at HEND
      have HFI := hid (fun i (V : World) (g : BookAt V bb k l s a n cap ss) => l03Find_any bb k l s a n cap ss hn (strAt ss i) V g)
      have HPH := hid (fun i V => l03Phrase_any (strAt ss i) (hz i) V)
      have HFR := hid (fun i (hi : i < n) => firstV_fresh (ss := ss) (i := i) (by rw [← HL.out]; exact hi))
      have HOK := hid (fun i => show okPh ss i = (phB (strAt ss i) && freshB ss i) from rfl)
      obtain ⟨K, L, B, rfl, rfl, rfl, k1, k2, l1, l2, b2⟩ := sizedB_yes h
      have HM := hid (fun V (g : Gr w V) => l03Meanings_any bb K L B a n cap ss k2 l2 b2 V (HB.out.gr g))
      obtain ⟨-, -, e3⟩ := room_yes h
      rw [e3] at HEND
      generalize validBk (K : Int) (L : Int) (B : Int) ss = r at *
      generalize bookL K B L = xss at *
      have hnz : ((n : Int) > 100) = False := by simp; omega
      clear h hw hz e3
      go_enter Tryd.func54, Tryd.ntmps54
      go_wp2_with fail
      refine HZ.out.mono ?_
      rintro e w' ⟨rfl, rfl⟩
      go_wp2_with fail
      go_loop [3] (fun i => ∃ j : Nat, j ≤ n ∧ i = .int .i64 j ∧ Hid (allTo (okPh ss) j = true)) (fun i => n - (intOf i).toNat)
      case atStart => exact ⟨0, Nat.zero_le _, rfl, hid rfl⟩
      case round =>
        obtain ⟨j, hj, rfl, hok⟩ := hrel
        by_cases hlt : j < n
        · obtain ⟨b0, o0, rfl, h0⟩ := HS.out j (by rw [← HL.out]; exact hlt)
          have HNJ := hid (HNO.out j hlt)
          have HFJ := hid (HFI.out j _ HB.out)
          have HPJ := hid (HPH.out j)
          have HRJ := hid (HFR.out j hlt)
          have HOJ := hid (HOK.out j)
          have HST := hid (fun (h : okPh ss j = true) => allTo_step hok.out h)
          clear HFI HPH HFR HOK HNO
          unfold strAt at HFJ HPJ HRJ HOJ
          generalize ss.getD j ByteArray.empty = v at *
          generalize okPh ss j = ok at *
          generalize firstV ss v = fv at *
          generalize freshB ss j = fr at *
          cases hp : phB v with
          | false =>
            rw [hp] at HPJ HOJ
            have HV := hid (HNJ.out (by rw [HOJ.out]; rfl))
            clear hp
            go_wp2_with fail
            refine (HPJ.out _).mono ?_
            rintro e w' ⟨rfl, rfl⟩
            go_wp2_with fail
            go_ret
            exact ⟨ret_bool HV.out.symm, Gr.refl _⟩
          | true =>
            rw [hp] at HPJ HOJ
            clear hp
            cases fr with
            | false =>
              have HV := hid (HNJ.out (by rw [HOJ.out]; rfl))
              have t1 : (fv != (j : Int)) = true := by
                have := HRJ.out
                simp only [Bool.false_eq_true, iff_false] at this
                rw [bne_iff_ne]; exact this
              clear HRJ HOJ HNJ HST
              go_wp2_with (first | ((with_reducible refine (HPJ.out _).mono ?_); rintro e w' ⟨rfl, rfl⟩) | ((with_reducible refine HFJ.out.mono ?_); rintro e w' ⟨rfl, rfl⟩))
              go_ret
              exact ⟨ret_bool HV.out.symm, Gr.refl _⟩
            | true =>
              have hfv : fv = (j : Int) := HRJ.out.2 rfl
              have HY := hid (HST.out (by rw [HOJ.out]; rfl))
              clear HRJ HOJ HNJ HST
              subst hfv
              go_wp2_with (first | ((with_reducible refine (HPJ.out _).mono ?_); rintro e w' ⟨rfl, rfl⟩) | ((with_reducible refine HFJ.out.mono ?_); rintro e w' ⟨rfl, rfl⟩))
              go_round
              case rel => exact ⟨j + 1, by omega, by go_num, HY⟩
              case measure => simp [intOf]; omega
        · obtain rfl : j = n := by omega
          have HV := hid (HEND.out hok.out)
          clear HEND HNO
          go_wp2_with fail
          have gd : Gr w w.drew := (Gr.refl w).drew
          have p3 : w.drew.cell? ⟨bb, 3, none⟩ = some (.slice a j cap) := c3
          go_region_held3 (fun V => V.cell? ⟨bb, 3, none⟩ = some (.slice a j cap) ∧ Gr w V)
            (first | exact ⟨p3, gd⟩ | exact ⟨gW.cell c3, gW⟩ | go_keep)
            (((with_reducible refine (HM.out _ (by assumption)).mono ?_); rintro e V ⟨g0, c0, vs0, rfl, -, gV⟩; have gW : Gr w V := Gr.trans (by assumption) gV))
          go_wp2_with fail
          go_ret
          exact ⟨ret_bool (by rw [HV.out]), gW⟩
    · rw [validBk_long (by rw [← HL.out]; exact h100)]
      have h101 : (100 : Int) < (n : Int) := by omega
      clear h HB hw
      go_enter Tryd.func54, Tryd.ntmps54
      go_wp2_with fail
      refine HZ.out.mono ?_
      rintro e w' ⟨rfl, rfl⟩
      go_wp2_with fail
      go_ret
      exact ⟨rfl, Gr.refl _⟩
end Go.Proofs.YtfaiehjomcgjgaaDoor
