/- In how many ways a meaning can be hoisted: both functions. -/
import Derived.Test.YtbbkjhnihoohpaaHForL
namespace Go.Proofs.Ytbbkjhnihoohpaa
open Go.RowKit
attribute [local go_sem] Oper.semAt_some
theorem spH_lt {L : List (List Int)} {pre : List Yld} {x : Yld} (h : NxH L pre x) : pre.length < L.length := by
  obtain ⟨rest, rfl⟩ := h
  rw [List.length_append, List.length_map, List.length_cons]
  omega
theorem sH_len {L : List (List Int)} {xs : List Yld} (h : SH L xs) : xs.length = L.length := by
  unfold SH at h
  rw [← h, List.length_map]
set_option maxHeartbeats 4000000 in
set_option maxRecDepth 100000 in
theorem impl_WaysToHoist_cap (a : Option Addr) (cap : Nat) (m : List Int) (hm : m.length ≤ 1048576) (hcap : m.length ≤ cap) (hf : Fits .i8 m) (S : Int) (_hS : (Lit.int .i64 S).wf = true) (B : Int) (_hB : (Lit.int .i64 B).wf = true) (w : World) (hs : SliceOf .i8 w a m) :
    Calls Try.prog 9 #[.slice a m.length cap, .int .i64 S, .int .i64 B] w fun e w' => e = .returned (.tuple #[.int .i64 (waysV m S B), .int .i64 (askC m S B)]) ∧ Gr w w' := by
  have HQ := hid (checkWish_any a m.length cap m rfl hm hcap hf S B w hs)
  by_cases hc : askC m S B = 0
  · obtain ⟨hv, ⟨hS1, hS8⟩, hB0, hB4⟩ := askC_yes hc
    obtain ⟨_, _, eW⟩ := hfor_yes hc
    rw [eW]
    rw [hc] at HQ ⊢
    obtain ⟨bb, rfl⟩ := Int.eq_ofNat_of_zero_le hB0
    rw [Int.toNat_natCast]
    have hbb : bb ≤ 4 := by omega
    have h8 := (validH_len (plainH_valid hv)).2
    have HH : goC (choT m m.length m.length) (avS S bb) m.length [] = hoistsL m S bb := goC_goF hbb (fun i hi => (plain_nums hv i hi).elim .inl (fun h => .inr h.1)) m.length [] (by simp)
    have HR5 := goF_length m S bb hbb m.length []
    have HRL : (hoistsL m S bb).length ≤ 390625 := Nat.le_trans HR5 (by
      have := Nat.pow_le_pow_right (n := 5) (by omega) h8
      omega)
    have HIT := hid (fun bm ba k Kp W h1 h2 h3 h4 h5 => hoistsFor_iter a m.length cap m rfl hcap hv (avS S bb) 33 #[.pointer (some ⟨k + 1, 0, none⟩), .pointer (some ⟨k, 0, none⟩)] (callFunc_enter Try.func33 (by kernel_rfl) (by kernel_rfl)) bm ba Kp W h1 h2 h3 h4 h5)
    rw [HH] at HIT
    have HS := hid hs
    have HCALL := hid (fun k x hx V h1 h2 => inSets_call S bb hbb k (k + 1) x hx V h1 h2)
    clear eW hs hf hv hc HH HR5 h8 hm
    generalize m.length = n at *
    generalize hoistsL m S bb = R at *
    have HRL' := hid HRL
    clear HRL
    refine (callsIn_wide (n := 9)).1 (callsIn_of_wp_marks Try.func9 rfl trivial (wpIn_wide.2 ?_) rfl)
    simp only [Try.ntmps9, List.size_toArray, List.length_cons, List.length_nil, Nat.reduceAdd, Nat.reduceSub, Array.replicate_succ, Array.replicate_zero, List.push_toArray, List.append_toArray, List.nil_append, List.cons_append]
    go_wp2_with fail
    refine HQ.out.mono ?_
    rintro e w1 ⟨rfl, g1⟩
    have G1 := hid g1
    clear g1
    go_wp2_with fail
    refine (inSets_any _ _ _).mono ?_
    rintro e w2 ⟨rfl, hw2⟩
    go_wp2_with fail
    refine (hoistsFor_any _ _ _ _ _ _).mono ?_
    rintro e W2 ⟨rfl, hW2⟩
    have b0 : Hid (W2.heap[w1.heap.size]? = some (.cells #[.int .i64 0] 2 (0, 0))) := hid (by rw [hW2]; exact heap_kept (heap_kept (heap_kept (heap_kept (heap_new rfl)))))
    have b1 : Hid (W2.heap[w1.heap.size + 1]? = some (.cells #[.int .i64 S] 2 (0, 0))) := hid (by rw [hW2]; exact heap_kept (heap_kept (heap_kept (heap_new (by simp)))))
    have b2 : Hid (W2.heap[w1.heap.size + 1 + 1]? = some (.cells #[.int .i64 (bb : Int)] 2 (0, 0))) := hid (by rw [hW2]; exact heap_kept (heap_kept (heap_new (by simp))))
    have b3 : Hid (W2.heap[w1.heap.size + 1 + 1 + 1]? = some (.cells #[.slice a n cap] 25 (0, 0))) := hid (by rw [hW2]; exact heap_kept (heap_new (by simp)))
    have b4 : Hid (W2.heap[w1.heap.size + 1 + 1 + 1 + 1]? = some (.cells #[.func (.func 33) #[] #[.pointer (some ⟨w1.heap.size + 1 + 1, 0, none⟩), .pointer (some ⟨w1.heap.size + 1, 0, none⟩)]] 46 (0, 0))) := hid (by rw [hW2]; exact heap_new (by simp))
    have gr2 : Hid (Gr w1 W2) := hid (by rw [hW2]; exact (((((Gr.refl _).alloc _).alloc _).alloc _).alloc _).alloc _)
    have hz2 : Hid (W2.heap.size = w1.heap.size + 5) := hid (by rw [hW2]; simp)
    clear hW2 hw2
    go_wp2_with fail
    refine wp_rangeFunc_K (lb := #[.pointer (some ⟨w1.heap.size + 1 + 1 + 1, 0, none⟩), .pointer (some ⟨w1.heap.size + 1 + 1 + 1 + 1, 0, none⟩)]) (gf := 37) rfl (callFunc_enter Try.func37 (by kernel_rfl) (by kernel_rfl))
      (Kp := fun V => V.cell? ⟨w1.heap.size + 1, 0, none⟩ = some (.int .i64 S) ∧ V.cell? ⟨w1.heap.size + 1 + 1, 0, none⟩ = some (.int .i64 (bb : Int)) ∧ V.cell? ⟨w1.heap.size + 1 + 1 + 1 + 1, 0, none⟩ = some (.func (.func 33) #[] #[.pointer (some ⟨w1.heap.size + 1 + 1, 0, none⟩), .pointer (some ⟨w1.heap.size + 1, 0, none⟩)]))
      (fun W hb hz => HIT.out _ _ (w1.heap.size + 1) _ W
        (fun A B k hK ho => ⟨ho.cell hK.1 (.inl (by dsimp only; rw [hz, hz2.out]; omega)), ho.cell hK.2.1 (.inl (by dsimp only; rw [hz, hz2.out]; omega)), ho.cell hK.2.2 (.inl (by dsimp only; rw [hz, hz2.out]; omega))⟩)
        (by rw [cell_of_row _ _ _ _ _ _ ((hb.block _ (lt_of_heap b3.out)).trans b3.out)]; rfl) (HS.out.gr (G1.out.trans (gr2.out.trans hb))) (fun V hV => hV.2.2) (fun V x hV hx => HCALL.out _ x (by omega) V hV.1 hV.2.1))
      (fun A B hK ho => ⟨ho.cell hK.1 (.inl (by dsimp only; rw [hz2.out]; omega)), ho.cell hK.2.1 (.inl (by dsimp only; rw [hz2.out]; omega)), ho.cell hK.2.2 (.inl (by dsimp only; rw [hz2.out]; omega))⟩)
      (fun m B C x hm h o => h.keep o hm) (fun _ => rfl)
      (fun n pre B => (B.heap[w1.heap.size]? = some (.cells #[.int .i64 (pre.length : Int)] 2 (0, 0)) ∧ B.heap[w1.heap.size + 1]? = some (.cells #[.int .i64 S] 2 (0, 0)) ∧ B.heap[w1.heap.size + 1 + 1]? = some (.cells #[.int .i64 (bb : Int)] 2 (0, 0)) ∧ B.heap[w1.heap.size + 1 + 1 + 1 + 1]? = some (.cells #[(.func (.func 33) #[] #[.pointer (some ⟨w1.heap.size + 1 + 1, 0, none⟩), .pointer (some ⟨w1.heap.size + 1, 0, none⟩)])] 46 (0, 0))) ∧ Gr w1 B)
      (fun c pre C => False)
      (fun n pre A ⟨⟨_, h1, h2, h3⟩, _⟩ => ⟨by rw [cell_of_row _ _ _ _ _ _ h1]; rfl, by rw [cell_of_row _ _ _ _ _ _ h2]; rfl, by rw [cell_of_row _ _ _ _ _ _ h3]; rfl⟩)
      ?init ?a1 ?assign ?body ?done ?stop
    case assign =>
      intro l x W K hK
      gi_wp2
      exact hK
    case init =>
      intro n B hb hn1 hn2
      exact ⟨⟨(hb.block _ (lt_of_heap b0.out)).trans b0.out, (hb.block _ (lt_of_heap b1.out)).trans b1.out, (hb.block _ (lt_of_heap b2.out)).trans b2.out, (hb.block _ (lt_of_heap b4.out)).trans b4.out⟩, gr2.out.trans hb⟩
    case body =>
      rintro l n' pre x A B hn1 hn2 ⟨⟨h0, h1, h2, h3⟩, hg⟩ ho - hnx
      have hlt := spH_lt hnx
      have HPL := hid (show (pre ++ [x]).length = pre.length + 1 by rw [List.length_append]; rfl)
      have k0 := hid (ho.heap h0 (.inl (by rw [hz2.out]; omega)))
      have k1 := hid (ho.heap h1 (.inl (by rw [hz2.out]; omega)))
      have k2 := hid (ho.heap h2 (.inl (by rw [hz2.out]; omega)))
      have k3 := hid (ho.heap h3 (.inl (by rw [hz2.out]; omega)))
      have HGB := hid (Gr_out hg ho gr2.out.size)
      have c0 : B.cell? ⟨w1.heap.size, 0, none⟩ = some (.int .i64 (pre.length : Int)) := by rw [cell_of_row _ _ _ _ _ _ k0.out]; rfl
      have f0 : B.frozen? ⟨w1.heap.size, 0, none⟩ = false := frozen_of_row _ _ _ _ _ k0.out
      have hq : pre.length < 390625 := Nat.lt_of_lt_of_le hlt HRL'.out
      clear h0 h1 h2 h3 hg ho hnx hn1 hn2 hlt
      generalize pre ++ [x] = pre' at *
      generalize pre.length = q at *
      gi_wp2
      refine ⟨(Ins.refl _ _ _).setCell (.inl (by dsimp only; rw [hz2.out]; omega)) _, ⟨?_, heap_stored (by dsimp only; omega) k1.out, heap_stored (by dsimp only; omega) k2.out, heap_stored (by dsimp only; omega) k3.out⟩, (show Gr w1 B from HGB.out).setCell (p := ⟨w1.heap.size, 0, none⟩) (by dsimp only; omega) _⟩
      rw [HPL.out, heap_setCell_same B _ 0 _ _ _ k0.out]
      rfl
    case done =>
      intro n' xs' A W hn1 hn2 hS hI ho hd
      obtain ⟨⟨h0, -⟩, hg⟩ := hI
      rw [sH_len hS] at h0
      have k0 := hid (ho.heap h0 (.inl (by rw [hz2.out]; omega)))
      have HG := hid (G1.out.trans (Gr_out hg ho gr2.out.size))
      have HD := hid hd
      have c0 : W.cell? ⟨w1.heap.size, 0, none⟩ = some (.int .i64 (R.length : Int)) := by rw [cell_of_row _ _ _ _ _ _ k0.out]; rfl
      clear hd h0 hg ho hS hn2
      go_wp2
      refine leaves_mark HD.out (results_tmp2 (by rfl) _ _ _) ⟨rfl, Gr_putObj HG.out (by have := G1.out.size; rw [hz2.out]; omega) _⟩
    case stop =>
      rintro c pre A W - h
      exact h.elim
  · obtain ⟨_, _, eW⟩ := hfor_no hc
    rw [eW]
    have hcb : (askC m S B != 0) = true := by rw [bne_iff_ne]; exact hc
    clear eW hs hf hc
    generalize askC m S B = c at *
    generalize m.length = n at *
    go_enter Try.func9, Try.ntmps9
    go_wp2_with fail
    refine HQ.out.mono ?_
    rintro e w1 ⟨rfl, g1⟩
    have G1 := hid g1
    clear g1
    go_wp2_with fail
    go_ret2
    exact ⟨rfl, G1.out⟩
theorem impl_WaysToHoist_any (a : Option Addr) (m : List Int) (hm : m.length ≤ 1048576) (hf : Fits .i8 m) (S : Int) (_hS : (Lit.int .i64 S).wf = true) (B : Int) (_hB : (Lit.int .i64 B).wf = true) (w : World) (hs : SliceOf .i8 w a m) :
    Calls Try.prog 9 #[.slice a m.length m.length, .int .i64 S, .int .i64 B] w fun e w' => e = .returned (.tuple #[.int .i64 (waysV m S B), .int .i64 (askC m S B)]) ∧ Gr w w' := impl_WaysToHoist_cap a _ m hm (Nat.le_refl _) hf S _hS B _hB w hs
end Go.Proofs.Ytbbkjhnihoohpaa
