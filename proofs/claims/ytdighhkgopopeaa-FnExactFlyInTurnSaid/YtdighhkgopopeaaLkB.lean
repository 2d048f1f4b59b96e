/- The model's search for hoists out of a locker: a break. -/
import Derived.Test.YtdighhkgopopeaaLkA
import Derived.Test.YtdighhkgopopeaaHeldS
import Derived.Laws.AppendOwn
namespace Go.Proofs.Ytdighhkgopopeaa
set_option linter.unusedVariables false
open Go.RowKit
/-- The call for the hoists that go on from h. -/
def LkOk (lo bm om cm n : Nat) (m : List Int) (f : Nat) : Prop :=
  ∀ (h left : List Int), h.length + f = n → NumN h → left.length = 44 → (∀ q, 0 ≤ left.getD q 0 ∧ left.getD q 0 ≤ 20) → ∀ (ao : Option Addr) (no co : Nat) (vs : List Value) (xss : List (List Int)) (bh oh ch st : Nat) (w : World), st = startOf m h.length → lo ≤ w.heap.size → xss.length + 5 ^ f ≤ 1000000 →
    OwnH w lo w.heap.size (.slice ao no co) vs xss → SliceOf .i8 w (some ⟨bm, om, none⟩) m → bm < lo → SliceOf .i8 w (some ⟨bh, oh, none⟩) h → (Value.slice ao no co).ownBlock ≠ some bh →
    Calls Try.prog 38 #[.slice ao no co, .agg (kCells .i16 left), .slice (some ⟨bm, om, none⟩) n cm, .slice (some ⟨bh, oh, none⟩) h.length ch, .int .i64 st] w (LkPost lo (.slice ao no co) xss (lkF m f left h) w)
theorem lk04_zero (lo bm om cm n : Nat) (m : List Int) (hn1 : 1 ≤ n) (hn8 : n ≤ 8) : LkOk lo bm om cm n m 0 := by
  intro h left hl hN hll hlb ao no co vs xss bh oh ch st w hst hlo hc ho hm hbm hh hne
  have hl' : h.length = n := by omega
  subst hl'
  exact lk04_end lo ao no co vs xss left bm om h.length cm bh oh ch st h rfl hn1 hn8 w hlo ho (by omega) hh
set_option maxHeartbeats 8000000 in
set_option maxRecDepth 100000 in
theorem lk04_brk (lo bm om cm n : Nat) (m : List Int) (f : Nat) (hn : n = m.length) (hn8 : n ≤ 8) (ih : LkOk lo bm om cm n m f)
    (h left : List Int) (hl : h.length + (f + 1) = n) (hN : NumN h) (hll : left.length = 44) (hlb : ∀ q, 0 ≤ left.getD q 0 ∧ left.getD q 0 ≤ 20) (hb : m.getD h.length 0 = -10) (ao : Option Addr) (no co : Nat) (vs : List Value) (xss : List (List Int)) (bh oh ch st : Nat) (w : World)
    (hlo : lo ≤ w.heap.size) (hc : xss.length + 5 ^ (f + 1) ≤ 1000000) (ho : OwnH w lo w.heap.size (.slice ao no co) vs xss) (hm : SliceOf .i8 w (some ⟨bm, om, none⟩) m) (hbm : bm < lo) (hh : SliceOf .i8 w (some ⟨bh, oh, none⟩) h) (hne : (Value.slice ao no co).ownBlock ≠ some bh) :
    Calls Try.prog 38 #[.slice ao no co, .agg (kCells .i16 left), .slice (some ⟨bm, om, none⟩) n cm, .slice (some ⟨bh, oh, none⟩) h.length ch, .int .i64 st] w (LkPost lo (.slice ao no co) xss (lkF m (f + 1) left h) w) := by
  rw [lkF_brk hb]
  obtain ⟨b', o', e', cm0⟩ := hm h.length (by omega)
  simp only [Option.some.injEq, Addr.mk.injEq, and_true] at e'
  obtain ⟨rfl, rfl⟩ := e'
  rw [hb] at cm0
  obtain ⟨wr, hwr⟩ : ∃ wr, w.alloc (.cells (kCells .i16 left) 31) = wr := ⟨_, rfl⟩
  have GW : Hid (Gr w wr) := hid (by rw [← hwr]; exact (Gr.refl w).alloc _)
  have ZB : Hid (wr.heap[w.heap.size]? = some (.cells (kCells .i16 left) 31 (0, 0))) := hid (by rw [← hwr]; exact heap_new rfl)
  have ZLT := hid (lt_of_heap ZB.out)
  obtain ⟨vo, hvo⟩ : ∃ vo, vo = Value.slice ao no co := ⟨_, rfl⟩
  have HVO := hid hvo
  have VLT := hid (show ∀ b, vo.ownBlock = some b → b < w.heap.size by rw [hvo]; exact ho.top)
  have ZNE : Hid (some w.heap.size ≠ vo.ownBlock) := hid (fun e => by have := VLT.out _ e.symm; omega)
  have HIX := hid (fun (g2 c2 : Nat) (V : World) (g : Gr wr V) (hs : SliceOf .i8 V (some ⟨g2, 0, none⟩) (h ++ [-10])) (hg : wr.heap.size ≤ g2) =>
    ih (h ++ [-10]) left (by rw [List.length_append, List.length_singleton]; omega) (hN.snoc (by omega) (.inl rfl)) hll hlb ao no co vs xss g2 0 c2 (h.length + 1) V (by rw [List.length_append, List.length_singleton, startOf_brk hb]) (Nat.le_trans hlo (GW.out.trans g).size) (by rw [Nat.pow_succ] at hc; omega) ((ho.gr (GW.out.trans g)).widen (GW.out.trans g).size) (hm.gr (GW.out.trans g)) hbm hs (fun e => by have h1 := VLT.out g2 (by rw [hvo]; exact e); have h2 := GW.out.size; omega))
  have HHr := hid (hh.gr GW.out)
  have LLF := hid hll
  obtain ⟨k, hk⟩ : ∃ k, k = h.length := ⟨_, rfl⟩
  have HLA := hid (show (h ++ [-10]).length = k + 1 by rw [List.length_append, List.length_singleton, hk])
  rw [HLA.out] at HIX
  rw [← hk] at HIX cm0 hl ⊢
  rw [← hvo] at HIX ⊢
  have HK := hid hk
  have hk8 : k + 1 ≤ 8 := by omega
  have hkn : ((k : Int) == (n : Int)) = false := beq_eq_false_iff_ne.2 (by omega)
  have hk0 : (0 : Int) ≤ (k : Int) := by omega
  have hk1 : (k : Int) < (n : Int) := by omega
  have cm1 := GW.out.cell cm0
  have hw1 : IntKind.i64.wrap ((k : Int) + 1) = (k : Int) + 1 := IntWalk.i64_in _ (by omega)
  have hl' : k < n := by omega
  clear hm hh hk hb ih hc hN ho hne hlb hll cm0 hvo hn
  push_cast at HIX
  obtain ⟨i0, hi, hz0, hz1, hz2⟩ := info_parts infoI8
  go_enter Try.func38, Try.ntmps38
  go_wp2_with fail
  try rw [hwr]
  refine wp_region_held_drew (S := fun V => wr.grownBy V vo.ownBlock) (by kernel_rfl) (gr_grb ((Gr.refl wr).drew) _) (fun hH => ?_)
  have HH := hid hH
  clear hH
  have GX := hid ((Gr.refl wr).drew)
  refine wpAnyH_take (i := 0) (v := vo) rfl (by kernel_rfl) (by kernel_rfl) (by kernel_rfl) (fun _ _ _ h => h) (Or.inl ⟨by rfl, fun _ _ => by first | rfl | (go_simp; done) | (go_simp; rfl) | (go_simp; intro h; exfalso; omega)⟩) HH.out ?_
  try simp only [Act.put, List.getElem_toArray, List.getElem_cons_zero, List.setIfInBounds_toArray, List.set_cons_zero, List.set_cons_succ]
  refine wpAnyH_take (i := 1) (v := .agg (kCells .i16 left)) rfl (by kernel_rfl) (by kernel_rfl) (by kernel_rfl) (fun _ _ _ h => h) (yields_struct rfl 31 (.tmp 6) rfl w.heap.size rfl 31 _ _ (fun V hV => (World.grownBy.block hV w.heap.size ZLT.out ZNE.out).trans ZB.out) Try.underlying31 rfl (by rw [kCells_size, LLF.out]; kernel_rfl)) HH.out ?_
  try simp only [Act.put, List.getElem_toArray, List.getElem_cons_zero, List.getElem_cons_succ, List.setIfInBounds_toArray, List.set_cons_zero, List.set_cons_succ]
  refine wpAnyH_take (i := 2) (v := .slice (some ⟨bm, om, none⟩) n cm) rfl (by kernel_rfl) (by kernel_rfl) (by kernel_rfl) (fun _ _ _ h => h) (Or.inl ⟨by rfl, fun _ _ => by first | rfl | (go_simp; done) | (go_simp; rfl) | (go_simp; intro h; exfalso; omega)⟩) HH.out ?_
  try simp only [Act.put, List.getElem_toArray, List.getElem_cons_zero, List.getElem_cons_succ, List.setIfInBounds_toArray, List.set_cons_zero, List.set_cons_succ]
  refine wpAnyH_take (i := 4) (v := .slice (some ⟨bh, oh, none⟩) k ch) rfl (by kernel_rfl) (by kernel_rfl) (by kernel_rfl) (fun _ _ _ h => h) (Or.inl ⟨by rfl, fun _ _ => by first | rfl | (go_simp; done) | (go_simp; rfl) | (go_simp; intro h; exfalso; omega)⟩) HH.out ?_
  try simp only [Act.put, List.getElem_toArray, List.getElem_cons_zero, List.getElem_cons_succ, List.setIfInBounds_toArray, List.set_cons_zero, List.set_cons_succ]
  refine wpAnyH_take (i := 8) (v := .int .i64 (k : Int)) rfl (by kernel_rfl) (by kernel_rfl) (by kernel_rfl) (fun _ _ _ h => h) (Or.inl ⟨by rfl, fun _ _ => by first | rfl | (go_simp; done) | (go_simp; rfl) | (go_simp; intro h; exfalso; omega)⟩) HH.out ?_
  try simp only [Act.put, List.getElem_toArray, List.getElem_cons_zero, List.getElem_cons_succ, List.setIfInBounds_toArray, List.set_cons_zero, List.set_cons_succ]
  refine wpAnyH_take (i := 9) (v := .int .i64 ((k : Int) + 1)) rfl (by kernel_rfl) (by kernel_rfl) (by kernel_rfl) (fun _ _ _ h => h) (Or.inl ⟨by rfl, fun _ _ => by first | rfl | (go_simp; done) | (go_simp; rfl) | (go_simp; intro h; exfalso; omega)⟩) HH.out ?_
  try simp only [Act.put, List.getElem_toArray, List.getElem_cons_zero, List.getElem_cons_succ, List.setIfInBounds_toArray, List.set_cons_zero, List.set_cons_succ]
  refine wpAnyH_ready (rs := [3, 6]) (by kernel_rfl) (by simp) (AllReadyH.cons rfl (fun KK hKK => ?_) (AllReadyH.cons rfl (fun KK hKK => ?_) AllReadyH.nil))
  · rw [if_pos (by rfl)]
    go_simp
    have GN := hid (GX.out.alloc (.cells #[] 59))
    refine hKK.out _ _ (gr_grb GN.out _) (fun hH => ?_)
    clear HH hKK KK
    have HH := hid hH
    clear hH
    clear GX
    have GX := hid GN.out
    clear GN
    refine wpAnyH_ready (rs := [5, 6]) (by kernel_rfl) (by simp) (AllReadyH.cons rfl (fun KK hKK => ?_) (AllReadyH.cons rfl (fun KK hKK => ?_) AllReadyH.nil))
    · rw [if_pos (by rfl)]
      have ROW0 := hid (show World.ownsRow (wr.drew.alloc (.cells #[] 59)) wr.heap.size 59 1 (.slice (some ⟨wr.heap.size, 0, none⟩) 0 0) 0 [] from ((Own.new (k := .i8) (e := 59) (wr.drew) [] (by simp)).row))
      refine wp_append_own _ _ _ 28 rfl wr.heap.size 59 i0 (.int .i8 0) 1 1 Try.underlying28 hi hz0 hz1 hz2 rfl (by decide) _ _ _ rfl ROW0.out ⟨bh, oh, none⟩ k ch (h.map (Value.int .i8)) rfl (by rw [List.length_map, Nat.mul_one]; exact HK.out.symm) (news_of_slice (HHr.out.gr GX.out)) (by simp [Value.oneCell']) (by unfold maxLen; simp; omega) (by simp; omega) (by first | exact GX.out.size | (have := GX.out.size; omega)) ?_
      intro v1 w1 hown hgrow _
      have OV := hid (Own.ofRow (k := .i8) (xs := h) hown (by simp) (by have := HK.out; omega))
      have GN := hid (GX.out.by_ hgrow (fun b e => (ROW0.out.lt b e).1))
      have HG1 := hid hgrow
      clear hown hgrow
      obtain ⟨av, cv, hv1'⟩ := OV.out.shape
      rw [← HK.out] at hv1'
      subst hv1'
      refine hKK.out _ _ (gr_grb GN.out _) (fun hH => ?_)
      clear HH hKK KK
      have HH := hid hH
      clear hH
      clear GX
      have GX := hid GN.out
      clear GN
      refine wpAnyH_ready (rs := [6]) (by kernel_rfl) (by simp) (AllReadyH.cons rfl (fun KK hKK => ?_) AllReadyH.nil)
      rw [if_pos (by rfl)]
      go_simp
      have GN := hid (GX.out.alloc (.cells #[.int .i8 (-10)] 59))
      refine hKK.out _ _ (gr_grb GN.out _) (fun hH => ?_)
      clear HH hKK KK
      have HH := hid hH
      clear hH
      clear GX
      have GX := hid GN.out
      clear GN
      refine wpAnyH_ready (rs := [7]) (by kernel_rfl) (by simp) (AllReadyH.cons rfl (fun KK hKK => ?_) AllReadyH.nil)
      rw [if_pos (by rfl)]
      have ROW1 := hid OV.out.row
      rw [← HK.out] at ROW1
      refine wp_append_own _ _ _ 28 rfl wr.heap.size 59 i0 (.int .i8 0) 1 1 Try.underlying28 hi hz0 hz1 hz2 rfl (by decide) _ _ _ rfl (ROW1.out.alloc _) ⟨w1.heap.size, 0, none⟩ 1 1 [.int .i8 (-10)] rfl rfl (cell_l1 _ _ _) (by simp [Value.oneCell']) (by unfold maxLen; simp; omega) (by simp; omega) (by first | exact GX.out.size | (have := GX.out.size; omega)) ?_
      intro v2 w2 hown2 hgrow2 _
      obtain ⟨g2, c2, rfl, hg2, _⟩ := hown2.form (by omega)
      have OX := hid (Own.ofRow (k := .i8) (xs := h ++ [-10]) hown2 (by simp) (by rw [HLA.out])).reads
      have GN := hid (GX.out.by_ hgrow2 (fun b e => (ROW1.out.lt b e).1))
      have HG2 := hid hg2
      clear hown2 hgrow2 hg2
      refine hKK.out _ _ (gr_grb GN.out _) (fun hH => ?_)
      clear HH hKK KK
      have HH := hid hH
      clear hH
      clear GX
      have GX := hid GN.out
      clear GN
      refine wpAnyH_ready (rs := [10]) (by kernel_rfl) (by simp) (AllReadyH.cons rfl (fun KK hKK => ?_) AllReadyH.nil)
      rw [if_pos (by rfl)]
      go_simp
      (with_reducible refine (HIX.out g2 c2 _ GX.out OX.out HG2.out).mono ?_)
      rintro e w4 ⟨v4, vs4, rfl, ow4, gb4, ob4⟩
      have GB4 := hid (grb (gr_grb GX.out vo.ownBlock) gb4 (fun k e => .inl e))
      have OW4 := hid ow4
      have OB4 := hid (show OneB vo v4 wr.heap.size from fun b e => (ob4 b e).elim .inl (fun h => .inr (Nat.le_trans GX.out.size h)))
      clear ow4 gb4 ob4
      dsimp only
      refine hKK.out _ _ GB4.out (fun hH => ?_)
      clear HH hKK KK
      have HH := hid hH
      clear hH
      refine wpAnyH_take (i := 11) (v := v4) rfl (by kernel_rfl) (by kernel_rfl) (by kernel_rfl) (fun _ _ _ h => h) (Or.inl ⟨by rfl, fun _ _ => by first | rfl | (go_simp; done) | (go_simp; rfl) | (go_simp; intro h; exfalso; omega)⟩) HH.out ?_
      try simp only [Act.put, List.getElem_toArray, List.getElem_cons_zero, List.getElem_cons_succ, List.setIfInBounds_toArray, List.set_cons_zero, List.set_cons_succ]
      refine wpAnyH_done (by kernel_rfl) ?_ _
      go_wp2_with fail
      go_ret
      exact ⟨v4, vs4, rfl, OW4.out, grb (gr_grb GW.out _) GB4.out (fun k e => .inl e), fun b e => (OB4.out b e).elim .inl (fun h => .inr (Nat.le_trans GW.out.size h))⟩
    · rw [if_pos (by rfl)]
      go_simp
      have GN := hid (GX.out.alloc (.cells #[.int .i8 (-10)] 59))
      refine hKK.out _ _ (gr_grb GN.out _) (fun hH => ?_)
      clear HH hKK KK
      have HH := hid hH
      clear hH
      clear GX
      have GX := hid GN.out
      clear GN
      refine wpAnyH_ready (rs := [5]) (by kernel_rfl) (by simp) (AllReadyH.cons rfl (fun KK hKK => ?_) AllReadyH.nil)
      rw [if_pos (by rfl)]
      have ROW0 := hid ((show World.ownsRow (wr.drew.alloc (.cells #[] 59)) wr.heap.size 59 1 (.slice (some ⟨wr.heap.size, 0, none⟩) 0 0) 0 [] from ((Own.new (k := .i8) (e := 59) (wr.drew) [] (by simp)).row)).alloc (.cells #[.int .i8 (-10)] 59))
      refine wp_append_own _ _ _ 28 rfl wr.heap.size 59 i0 (.int .i8 0) 1 1 Try.underlying28 hi hz0 hz1 hz2 rfl (by decide) _ _ _ rfl ROW0.out ⟨bh, oh, none⟩ k ch (h.map (Value.int .i8)) rfl (by rw [List.length_map, Nat.mul_one]; exact HK.out.symm) (news_of_slice (HHr.out.gr GX.out)) (by simp [Value.oneCell']) (by unfold maxLen; simp; omega) (by simp; omega) (by first | exact GX.out.size | (have := GX.out.size; omega)) ?_
      intro v1 w1 hown hgrow _
      have OV := hid (Own.ofRow (k := .i8) (xs := h) hown (by simp) (by have := HK.out; omega))
      have GN := hid (GX.out.by_ hgrow (fun b e => (ROW0.out.lt b e).1))
      have HG1 := hid hgrow
      clear hown hgrow
      obtain ⟨av, cv, hv1'⟩ := OV.out.shape
      rw [← HK.out] at hv1'
      subst hv1'
      refine hKK.out _ _ (gr_grb GN.out _) (fun hH => ?_)
      clear HH hKK KK
      have HH := hid hH
      clear hH
      clear GX
      have GX := hid GN.out
      clear GN
      refine wpAnyH_ready (rs := [7]) (by kernel_rfl) (by simp) (AllReadyH.cons rfl (fun KK hKK => ?_) AllReadyH.nil)
      rw [if_pos (by rfl)]
      have ROW1 := hid OV.out.row
      rw [← HK.out] at ROW1
      refine wp_append_own _ _ _ 28 rfl wr.heap.size 59 i0 (.int .i8 0) 1 1 Try.underlying28 hi hz0 hz1 hz2 rfl (by decide) _ _ _ rfl (ROW1.out) ⟨(wr.heap.size + 1), 0, none⟩ 1 1 [.int .i8 (-10)] rfl rfl (World.news_of_block (cs := #[.int .i8 (-10)]) (t := 59) (fr := (0, 0)) ((HG1.out.block (wr.heap.size + 1) (by simp) (fun e => by have h9 : wr.heap.size + 1 = wr.heap.size := Option.some.inj e; omega)).trans (heap_new (by simp)))) (by simp [Value.oneCell']) (by unfold maxLen; simp; omega) (by simp; omega) (by first | exact GX.out.size | (have := GX.out.size; omega)) ?_
      intro v2 w2 hown2 hgrow2 _
      obtain ⟨g2, c2, rfl, hg2, _⟩ := hown2.form (by omega)
      have OX := hid (Own.ofRow (k := .i8) (xs := h ++ [-10]) hown2 (by simp) (by rw [HLA.out])).reads
      have GN := hid (GX.out.by_ hgrow2 (fun b e => (ROW1.out.lt b e).1))
      have HG2 := hid hg2
      clear hown2 hgrow2 hg2
      refine hKK.out _ _ (gr_grb GN.out _) (fun hH => ?_)
      clear HH hKK KK
      have HH := hid hH
      clear hH
      clear GX
      have GX := hid GN.out
      clear GN
      refine wpAnyH_ready (rs := [10]) (by kernel_rfl) (by simp) (AllReadyH.cons rfl (fun KK hKK => ?_) AllReadyH.nil)
      rw [if_pos (by rfl)]
      go_simp
      (with_reducible refine (HIX.out g2 c2 _ GX.out OX.out HG2.out).mono ?_)
      rintro e w4 ⟨v4, vs4, rfl, ow4, gb4, ob4⟩
      have GB4 := hid (grb (gr_grb GX.out vo.ownBlock) gb4 (fun k e => .inl e))
      have OW4 := hid ow4
      have OB4 := hid (show OneB vo v4 wr.heap.size from fun b e => (ob4 b e).elim .inl (fun h => .inr (Nat.le_trans GX.out.size h)))
      clear ow4 gb4 ob4
      dsimp only
      refine hKK.out _ _ GB4.out (fun hH => ?_)
      clear HH hKK KK
      have HH := hid hH
      clear hH
      refine wpAnyH_take (i := 11) (v := v4) rfl (by kernel_rfl) (by kernel_rfl) (by kernel_rfl) (fun _ _ _ h => h) (Or.inl ⟨by rfl, fun _ _ => by first | rfl | (go_simp; done) | (go_simp; rfl) | (go_simp; intro h; exfalso; omega)⟩) HH.out ?_
      try simp only [Act.put, List.getElem_toArray, List.getElem_cons_zero, List.getElem_cons_succ, List.setIfInBounds_toArray, List.set_cons_zero, List.set_cons_succ]
      refine wpAnyH_done (by kernel_rfl) ?_ _
      go_wp2_with fail
      go_ret
      exact ⟨v4, vs4, rfl, OW4.out, grb (gr_grb GW.out _) GB4.out (fun k e => .inl e), fun b e => (OB4.out b e).elim .inl (fun h => .inr (Nat.le_trans GW.out.size h))⟩
  · rw [if_pos (by rfl)]
    go_simp
    have GN := hid (GX.out.alloc (.cells #[.int .i8 (-10)] 59))
    refine hKK.out _ _ (gr_grb GN.out _) (fun hH => ?_)
    clear HH hKK KK
    have HH := hid hH
    clear hH
    clear GX
    have GX := hid GN.out
    clear GN
    refine wpAnyH_ready (rs := [3]) (by kernel_rfl) (by simp) (AllReadyH.cons rfl (fun KK hKK => ?_) AllReadyH.nil)
    rw [if_pos (by rfl)]
    go_simp
    have GN := hid (GX.out.alloc (.cells #[] 59))
    refine hKK.out _ _ (gr_grb GN.out _) (fun hH => ?_)
    clear HH hKK KK
    have HH := hid hH
    clear hH
    clear GX
    have GX := hid GN.out
    clear GN
    refine wpAnyH_ready (rs := [5]) (by kernel_rfl) (by simp) (AllReadyH.cons rfl (fun KK hKK => ?_) AllReadyH.nil)
    rw [if_pos (by rfl)]
    have ROW0 := hid (show World.ownsRow ((wr.drew.alloc (.cells #[.int .i8 (-10)] 59)).alloc (.cells #[] 59)) wr.heap.size 59 1 (.slice (some ⟨wr.heap.size + 1, 0, none⟩) 0 0) 0 [] by have := ((Own.new (k := .i8) (e := 59) (wr.drew.alloc (.cells #[.int .i8 (-10)] 59)) [] (by simp)).widen (show wr.heap.size ≤ _ by rw [World.size_alloc]; exact Nat.le_succ wr.heap.size) (Nat.le_refl _)).row; rw [World.size_alloc] at this; exact this)
    refine wp_append_own _ _ _ 28 rfl wr.heap.size 59 i0 (.int .i8 0) 1 1 Try.underlying28 hi hz0 hz1 hz2 rfl (by decide) _ _ _ rfl ROW0.out ⟨bh, oh, none⟩ k ch (h.map (Value.int .i8)) rfl (by rw [List.length_map, Nat.mul_one]; exact HK.out.symm) (news_of_slice (HHr.out.gr GX.out)) (by simp [Value.oneCell']) (by unfold maxLen; simp; omega) (by simp; omega) (by first | exact GX.out.size | (have := GX.out.size; omega)) ?_
    intro v1 w1 hown hgrow _
    have OV := hid (Own.ofRow (k := .i8) (xs := h) hown (by simp) (by have := HK.out; omega))
    have GN := hid (GX.out.by_ hgrow (fun b e => (ROW0.out.lt b e).1))
    have HG1 := hid hgrow
    clear hown hgrow
    obtain ⟨av, cv, hv1'⟩ := OV.out.shape
    rw [← HK.out] at hv1'
    subst hv1'
    refine hKK.out _ _ (gr_grb GN.out _) (fun hH => ?_)
    clear HH hKK KK
    have HH := hid hH
    clear hH
    clear GX
    have GX := hid GN.out
    clear GN
    refine wpAnyH_ready (rs := [7]) (by kernel_rfl) (by simp) (AllReadyH.cons rfl (fun KK hKK => ?_) AllReadyH.nil)
    rw [if_pos (by rfl)]
    have ROW1 := hid OV.out.row
    rw [← HK.out] at ROW1
    refine wp_append_own _ _ _ 28 rfl wr.heap.size 59 i0 (.int .i8 0) 1 1 Try.underlying28 hi hz0 hz1 hz2 rfl (by decide) _ _ _ rfl (ROW1.out) ⟨wr.heap.size, 0, none⟩ 1 1 [.int .i8 (-10)] rfl rfl (World.news_of_block (cs := #[.int .i8 (-10)]) (t := 59) (fr := (0, 0)) ((HG1.out.block wr.heap.size (by simp <;> omega) (fun e => by have h9 : wr.heap.size = wr.heap.size + 1 := Option.some.inj e; omega)).trans (heap_kept (heap_new rfl)))) (by simp [Value.oneCell']) (by unfold maxLen; simp; omega) (by simp; omega) (by first | exact GX.out.size | (have := GX.out.size; omega)) ?_
    intro v2 w2 hown2 hgrow2 _
    obtain ⟨g2, c2, rfl, hg2, _⟩ := hown2.form (by omega)
    have OX := hid (Own.ofRow (k := .i8) (xs := h ++ [-10]) hown2 (by simp) (by rw [HLA.out])).reads
    have GN := hid (GX.out.by_ hgrow2 (fun b e => (ROW1.out.lt b e).1))
    have HG2 := hid hg2
    clear hown2 hgrow2 hg2
    refine hKK.out _ _ (gr_grb GN.out _) (fun hH => ?_)
    clear HH hKK KK
    have HH := hid hH
    clear hH
    clear GX
    have GX := hid GN.out
    clear GN
    refine wpAnyH_ready (rs := [10]) (by kernel_rfl) (by simp) (AllReadyH.cons rfl (fun KK hKK => ?_) AllReadyH.nil)
    rw [if_pos (by rfl)]
    go_simp
    (with_reducible refine (HIX.out g2 c2 _ GX.out OX.out HG2.out).mono ?_)
    rintro e w4 ⟨v4, vs4, rfl, ow4, gb4, ob4⟩
    have GB4 := hid (grb (gr_grb GX.out vo.ownBlock) gb4 (fun k e => .inl e))
    have OW4 := hid ow4
    have OB4 := hid (show OneB vo v4 wr.heap.size from fun b e => (ob4 b e).elim .inl (fun h => .inr (Nat.le_trans GX.out.size h)))
    clear ow4 gb4 ob4
    dsimp only
    refine hKK.out _ _ GB4.out (fun hH => ?_)
    clear HH hKK KK
    have HH := hid hH
    clear hH
    refine wpAnyH_take (i := 11) (v := v4) rfl (by kernel_rfl) (by kernel_rfl) (by kernel_rfl) (fun _ _ _ h => h) (Or.inl ⟨by rfl, fun _ _ => by first | rfl | (go_simp; done) | (go_simp; rfl) | (go_simp; intro h; exfalso; omega)⟩) HH.out ?_
    try simp only [Act.put, List.getElem_toArray, List.getElem_cons_zero, List.getElem_cons_succ, List.setIfInBounds_toArray, List.set_cons_zero, List.set_cons_succ]
    refine wpAnyH_done (by kernel_rfl) ?_ _
    go_wp2_with fail
    go_ret
    exact ⟨v4, vs4, rfl, OW4.out, grb (gr_grb GW.out _) GB4.out (fun k e => .inl e), fun b e => (OB4.out b e).elim .inl (fun h => .inr (Nat.le_trans GW.out.size h))⟩
end Go.Proofs.Ytdighhkgopopeaa
