/- Meanings in turn: the model's functions. -/
import Derived.Test.YtdighhkgopopeaaGTm
import Derived.Test.YtdighhkgopopeaaGLa
namespace Go.Proofs.Ytdighhkgopopeaa
set_option linter.unusedVariables false
open Go.RowKit
set_option maxRecDepth 100000 in
set_option maxHeartbeats 1000000 in
theorem l04Meant_any (bx : Nat) (t : TypeId) (xs : List Int) (lx : xs.length = 44) (fx : Fits .i16 xs) (a : Option Addr) (cap n : Nat) (mss : List (List Int)) (hl : n = mss.length) (hn : n ≤ 1048576) (hz : ∀ i, i < n → (mss.getD i []).length ≤ 1048576) (hf : ∀ i, Fits .i8 (mss.getD i [])) (w : World) (hb : w.heap[bx]? = some (.cells (kCells .i16 xs) t (0, 0))) (hs : SlicesX w a mss) :
    Calls Try.prog 33 #[.pointer (some ⟨bx, 0, none⟩), .slice a n cap] w fun e w' => e = .returned (.int .i64 (mtC xs mss)) ∧ Gr w w' := by
  have HS := hid hs
  have HL := hid hl
  have HK := hid (l04Ok_any bx t xs lx fx w hb)
  have HV1 := hid (fun V i (hi : i < n) a' (hr : SliceOf .i8 V a' (mss.getD i [])) => l02Plain_any a' (mss.getD i []).length (mss.getD i []).length (mss.getD i []) rfl (hz i hi) (hf i) V hr)
  have H0 := hid (fun (h : lockB xs = false) => mtC_bad (mss := mss) h)
  have H1 := hid (fun i (hi : i < n) (h : plAtN mss i = false) => mtC_at (xs := xs) (show i < mss.length by omega) h)
  have H2 := hid (fun (h0 : lockB xs = true) (h : allTo (plAtN mss) n = true) (h2 : 6 < n) => mtC_long (mss := mss) h0 (by rw [← hl]; exact h) (by rw [← hl]; exact h2))
  have H3 := hid (fun (h0 : lockB xs = true) (h : allTo (plAtN mss) n = true) (h2 : ¬ 6 < n) => mtC_ok (mss := mss) h0 (by rw [← hl]; exact h) (by rw [← hl]; exact h2))
  have HE := hid (fun i => show plAtN mss i = plainH (mss.getD i []) from rfl)
  generalize mtC xs mss = c at *
  clear hs hl hz hf hb lx fx
  cases hlk : lockB xs with
  | false =>
    have HC := hid (H0.out hlk)
    rw [hlk] at HK
    clear hlk
    go_enter Try.func33, Try.ntmps33
    go_wp2_with fail
    refine HK.out.mono ?_
    rintro e w1 ⟨rfl, rfl⟩
    go_wp2_with fail
    go_ret
    exact ⟨ret_int HC.out.symm, Gr.refl _⟩
  | true =>
    rw [hlk] at HK
    replace H2 := hid (H2.out hlk)
    replace H3 := hid (H3.out hlk)
    clear hlk H0
    go_enter Try.func33, Try.ntmps33
    go_wp2_with fail
    refine HK.out.mono ?_
    rintro e w1 ⟨rfl, rfl⟩
    go_wp2_with fail
    go_loopw [5] (fun i wr => ∃ k : Nat, k ≤ n ∧ i = .int .i64 k ∧ Hid (allTo (plAtN mss) k = true) ∧ Hid (Gr w wr)) (fun i _ => n - (intOf i).toNat)
    case atStart => exact ⟨0, Nat.zero_le _, rfl, hid rfl, hid (Gr.refl _)⟩
    case round =>
      obtain ⟨k, hk, rfl, hok, gr⟩ := hrel
      by_cases hlt : k < n
      · obtain ⟨b, off, a', rfl, hc, hsl⟩ := (HS.out.gr gr.out) k (by rw [← HL.out]; exact hlt)
        have HVK := hid (HV1.out wr k hlt a' hsl)
        have HEK := hid (HE.out k)
        have HST := hid (fun (h : plAtN mss k = true) => allTo_step hok.out h)
        have H1K := hid (H1.out k hlt)
        rw [← HEK.out] at HVK
        clear hsl HV1 H1 H2 H3 HE HEK
        generalize (mss.getD k []).length = m at *
        cases hv : plAtN mss k with
        | false =>
          rw [hv] at HVK
          have HC := hid (H1K.out hv)
          clear hv HST H1K
          go_wp2_with fail
          refine HVK.out.mono ?_
          rintro e w1 ⟨rfl, g1⟩
          have G1 := hid (gr.out.trans g1)
          clear g1
          go_wp2_with fail
          go_ret
          exact ⟨ret_int HC.out.symm, G1.out⟩
        | true =>
          rw [hv] at HVK
          have HY := hid (HST.out hv)
          clear hv HST H1K
          go_wp2_with fail
          refine HVK.out.mono ?_
          rintro e w1 ⟨rfl, g1⟩
          have G1 := hid (gr.out.trans g1)
          clear g1
          go_wp2_with fail
          go_roundw
          case rel => exact ⟨k + 1, by omega, by go_num, HY, G1⟩
          case measure => simp [intOf]; omega
      · have hall : allTo (plAtN mss) n = true := by rw [show n = k by omega]; exact hok.out
        by_cases h6 : 6 < n
        · have HC := hid (H2.out hall h6)
          clear hall H1 H2 H3
          go_wp2_with fail
          go_ret
          exact ⟨ret_int HC.out.symm, gr.out⟩
        · have HC := hid (H3.out hall h6)
          clear hall H1 H2 H3
          go_wp2_with fail
          go_ret
          exact ⟨ret_int HC.out.symm, gr.out⟩
theorem infoT64 : (Try.prog.info? 2).map (fun i => (i.zero, i.size, i.bytes)) = some (some (.int .i64 0), 1, 8) := by kernel_rfl
set_option maxHeartbeats 4000000 in
set_option maxRecDepth 100000 in
theorem spec_FlyInTurn_any (xs : List Int) (lx : xs.length = 44) (fx : Fits .i16 xs) (a : Option Addr) (cap n : Nat) (mss : List (List Int)) (hl : n = mss.length) (hn : n ≤ 1048576) (hz : ∀ i, i < n → (mss.getD i []).length ≤ 1048576) (hf : ∀ i, Fits .i8 (mss.getD i [])) (w : World) (hs : SlicesX w a mss) :
    Calls Try.prog 15 #[.agg (kCells .i16 xs), .slice a n cap] w (RetOwn .i64 2 (withCode (mtC xs mss)) (fitC xs mss) w) := by
  obtain ⟨W0, hW0⟩ : ∃ W0, w.alloc (.cells (kCells .i16 xs) 31) = W0 := ⟨_, rfl⟩
  have b0 : Hid (W0.heap[w.heap.size]? = some (.cells (kCells .i16 xs) 31 (0, 0))) := hid (by rw [← hW0]; exact heap_new rfl)
  have gr : Hid (Gr w W0) := hid (by rw [← hW0]; exact (Gr.refl _).alloc _)
  have HMT := hid (l04Meant_any w.heap.size _ xs lx fx a cap n mss hl hn hz hf W0 b0.out (hs.gr gr.out))
  have HS := hid hs
  have HL := hid hl
  by_cases h0 : mtC xs mss = 0
  · obtain ⟨hv, hp, h6⟩ := mtC_zero h0
    rw [← hl] at hp h6
    have HR := hid (show fitC xs mss = flyO xs mss n by unfold fitC; rw [if_pos h0, hl])
    have HOK := hid (fun i (hi : i ≤ n) => flyX_ok lx hv hp i hi)
    have HPL := hid (fun i (hi : i < n) => show plainH (mss.getD i []) = true from allTo_iff.1 hp i hi)
    have HOL := hid (flyO_length xs mss)
    have HX0 := hid (show flyX xs mss 0 = xs from rfl)
    have HO0 := hid (show flyO xs mss 0 = [] from rfl)
    have HNIL := hid (fun i => fly_nil (xs := xs) (mss := mss) (i := i))
    have HCONS := hid (fun i g R => fly_cons (xs := xs) (mss := mss) (i := i) (g := g) (R := R))
    rw [h0] at HMT ⊢
    rw [HR.out]
    clear h0 hv hp hl hz hf hs lx fx HR
    obtain ⟨i0, hi0, hz0, hz1, hz2⟩ := info_parts infoT64
    unfold withCode
    go_enter Try.func15, Try.ntmps15
    go_wp2_with fail
    try rw [hW0]
    refine HMT.out.mono ?_
    rintro e w1 ⟨rfl, g1⟩
    have B1 := hid (g1.heap b0.out)
    have G1 := hid (gr.out.trans g1)
    have SZ1 := hid (lt_of_heap B1.out)
    have OE := hid (Own.new (k := .i64) (e := 2) w1 [] (by simp))
    clear g1 HMT
    go_wp2_with fail
    go_loopw [7, 8, 9] (fun v iv _ wr => ∃ i : Nat, i ≤ n ∧ iv = .int .i64 i ∧ Hid (wr.heap[w.heap.size]? = some (.cells (kCells .i16 (flyX xs mss i)) 31 (0, 0))) ∧ Hid (Own .i64 2 wr (w.heap.size + 1) wr.heap.size v (flyO xs mss i)) ∧ Hid (Gr w wr)) (fun _ iv _ _ => n - (intOf iv).toNat)
    case atStart => exact ⟨0, Nat.zero_le _, rfl, hid (by rw [HX0.out]; exact heap_kept B1.out), hid (by rw [HO0.out]; exact OE.out.widen (by have := SZ1.out; omega) (by simp)), hid (G1.out.alloc _)⟩
    case round =>
      obtain ⟨i, hi, rfl, hb, ho, hg⟩ := hrel
      obtain ⟨av, cv, rfl⟩ := ho.out.shape
      by_cases hlt : i < n
      · obtain ⟨b, off, a', rfl, hc, hsl⟩ := (HS.out.gr hg.out) i (by rw [← HL.out]; exact hlt)
        obtain ⟨bm, om, rfl⟩ := slice_some (validH_len (plainH_valid (HPL.out i hlt))).1 hsl
        have HALL := hid (l04All_any lk04_all w.heap.size _ (flyX xs mss i) (HOK.out i hi).1 (HOK.out i hi).2 bm om (mss.getD i []).length (mss.getD i []).length (mss.getD i []) rfl (HPL.out i hlt) wr hb.out hsl)
        have HMEM := hid (fun g (h : g ∈ fromL (flyX xs mss i) (mss.getD i [])) => fromL_mem (HOK.out i hi).1 (HOK.out i hi).2 (HPL.out i hlt) h)
        have HLX := hid (HOK.out i hi).1
        have HMID := hid (lock_mid (HOK.out i hi).2)
        have HN1 := hid (HNIL.out i)
        have HC1 := hid (HCONS.out i)
        have HOI := hid (HOL.out i)
        have SZR := hid (lt_of_heap hb.out)
        clear hsl HOK HPL HNIL HCONS HOL
        generalize fromL (flyX xs mss i) (mss.getD i []) = L at *
        generalize (mss.getD i []).length = m at *
        generalize hfx : flyX xs mss i = X at *
        generalize hfo : flyO xs mss i = O at *
        cases L with
        | nil =>
          obtain ⟨e1, e2⟩ := HN1.out rfl
          have E1 := hid e1
          have E2 := hid e2
          clear e1 e2 HN1 HC1 HMEM hfx hfo
          generalize O.length = ol at *
          go_wp2_with fail
          refine HALL.out.mono ?_
          rintro e w2 ⟨v, vs, rfl, ow, g2⟩
          obtain ⟨a2, n2, c2, rfl⟩ : ∃ av nv cv, v = .slice av nv cv := by
            rcases ow.row.2 with ⟨h3, _⟩ | ⟨g', cap', cur, h3, _⟩
            · exact ⟨_, _, _, h3⟩
            · exact ⟨_, _, _, h3⟩
          have hnv : n2 = 0 := ow.len
          subst hnv
          have G2 := hid (hg.out.trans g2)
          have B2 := hid (g2.heap hb.out)
          have O2 := hid ((ho.out.gr g2).widen (Nat.le_refl _) g2.size)
          clear ow g2
          go_wp2_with fail
          go_roundw
          case rel => exact ⟨i + 1, by omega, by go_num, hid (by rw [E1.out]; exact B2.out), hid (by rw [E2.out]; exact O2.out), G2⟩
          case measure => simp [intOf]; omega
        | cons g R =>
          obtain ⟨e1, e2⟩ := HC1.out g R rfl
          have E1 := hid e1
          have E2 := hid e2
          obtain ⟨-, h8, hnum, -⟩ := HMEM.out g List.mem_cons_self
          have hgl : g.length ≤ 8 := by have := (HMEM.out g List.mem_cons_self).1; omega
          have HSUB := hid (fun (a' : Option Addr) (c' : Nat) (V : World) hb' hs' hne' => l04Sub_any w.heap.size 31 X g HLX.out HMID.out a' g.length c' rfl hgl hnum V hb' hs' hne')
          clear e1 e2 HN1 HC1 HMEM hfx hfo h8 hnum hgl HMID HLX
          generalize hol : O.length = ol at *
          have HOLN := hid hol
          clear hol
          go_wp2_with fail
          refine HALL.out.mono ?_
          rintro e w2 ⟨v, vs, rfl, ow, g2⟩
          obtain ⟨a2, n2, c2, rfl⟩ : ∃ av nv cv, v = .slice av nv cv := by
            rcases ow.row.2 with ⟨h3, _⟩ | ⟨g', cap', cur, h3, _⟩
            · exact ⟨_, _, _, h3⟩
            · exact ⟨_, _, _, h3⟩
          have hnl := ow.len
          obtain ⟨gb, a3, c3, rfl, hc3, -, ox⟩ := ow.at_ (i := 0) (by simp)
          have hc0 : w2.cell? ⟨gb, 0, none⟩ = some (.slice a3 g.length c3) := hc3
          have hnv : 0 < n2 := by rw [hnl]; simp
          have hnp : (0 : Int) < (n2 : Int) := by omega
          have B2 := hid (g2.heap hb.out)
          have HS2 := hid (HSUB.out a3 c3 w2 B2.out ox.reads (fun x off s e => by
            have h9 := ox.row.lt x (by rw [e]; rfl)
            have := SZR.out
            omega))
          have G2 := hid (hg.out.trans g2)
          have O2 := hid ((ho.out.gr g2).widen (lo' := w.heap.size + 1) (Nat.le_refl _) g2.size)
          clear ow g2 hc3 ox hnl HSUB HALL
          generalize g.length = q at *
          go_wp2_with fail
          refine HS2.out.mono ?_
          rintro e w3 ⟨rfl, hb3, g3⟩
          have B3 := hid hb3
          have G3 := hid (G2.out.by_ g3 (fun b e => by cases e; exact Nat.le_refl _))
          have O3 := hid ((O2.out.by_ g3 (fun b e => by cases e; exact .inl (Nat.lt_succ_self _))).widen (lo' := w.heap.size + 1) (Nat.le_refl _) g3.size)
          have OR := hid O3.out.row
          rw [HOLN.out] at OR
          have SZ3 := hid (lt_of_heap hb3)
          have hol7 : ol ≤ 7 := by have := HOI.out; have := HOLN.out; omega
          clear hb3 g3 HS2
          go_wp2_with (at_builtin; refine wpList_append_own _ rfl _ _ 42 rfl (w.heap.size + 1) 2 i0 (.int .i64 0) 1 8 Try.underlying42 hi0 hz0 hz1 hz2 rfl (by decide) _ _ _ rfl (OR.out.alloc _) ⟨w3.heap.size, 0, none⟩ 1 1 [.int .i64 (i : Int)] rfl rfl (cell_l1 _ _ _) (by simp [Value.oneCell']) (by unfold maxLen; omega) (by omega) (by have := SZ3.out; simp; omega) ?_; intro v4 w4 hown4 hgrow4 _)
          have O4 := hid (Own.ofRow (k := .i64) (xs := O ++ [(i : Int)]) hown4 (by simp) (by rw [List.length_append, List.length_singleton, HOLN.out]))
          have G4 := hid ((G3.out.alloc _).by_ hgrow4 (fun b e => by have := (OR.out.lt b e).1; omega))
          have B4 := hid ((hgrow4.block w.heap.size (by have := SZ3.out; simp; omega) (fun e => by have := (OR.out.lt _ e.symm).1; omega)).trans (heap_kept B3.out))
          clear hown4 hgrow4
          go_wp2_with fail
          go_roundw
          case rel => exact ⟨i + 1, by omega, by go_num, hid (by rw [E1.out]; exact B4.out), hid (by rw [E2.out]; exact O4.out), G4⟩
          case measure => simp [intOf]; omega
      · have HI := hid (show i = n by omega)
        have OF := hid (show Own .i64 2 wr (w.heap.size + 1) wr.heap.size (.slice av (flyO xs mss i).length cv) (flyO xs mss n) by rw [← HI.out]; exact ho.out)
        clear ho
        generalize (flyO xs mss i).length = ol at *
        go_wp2_with fail
        go_ret2
        exact ⟨_, rfl, OF.out.widen (by omega) (Nat.le_refl _), hg.out⟩
  · have HR := hid (show fitC xs mss = [] by unfold fitC; rw [if_neg h0])
    have hne : (mtC xs mss == 0) = false := beq_eq_false_iff_ne.2 h0
    rw [HR.out]
    clear h0 hl hz hf hs lx fx HR
    generalize mtC xs mss = c at *
    unfold withCode
    go_enter Try.func15, Try.ntmps15
    go_wp2_with fail
    try rw [hW0]
    refine HMT.out.mono ?_
    rintro e w1 ⟨rfl, g1⟩
    have G1 := hid (gr.out.trans g1)
    clear g1 HMT
    go_wp2_with fail
    go_ret2
    exact ret_empty G1.out _
end Go.Proofs.Ytdighhkgopopeaa
