/- Meanings in turn: what the program's function calls. -/
import Derived.Test.YtdighhkgopopeaaGTm
import Derived.Test.YtdighhkgopopeaaHFromI
namespace Go.Proofs.Ytdighhkgopopeaa
set_option linter.unusedVariables false
open Go.RowKit
set_option maxRecDepth 100000 in
set_option maxHeartbeats 1000000 in
theorem allMn_any (a : Option Addr) (cap n : Nat) (hss : List (List Int)) (hl : n = hss.length) (hn : n ≤ 1048576) (hz : ∀ i, i < n → (hss.getD i []).length ≤ 1048576) (hf : ∀ i, Fits .i8 (hss.getD i [])) (w : World) (hs : SlicesX w a hss) :
    Calls Try.prog 72 #[.slice a n cap, .func (.func 73) #[] #[]] w fun e w' => e = .returned (.bool (allTo (plAtN hss) n)) ∧ Gr w w' := by
  have HS := hid hs
  have HL := hid hl
  have HV1 := hid (fun V i (hi : i < n) a' (hr : SliceOf .i8 V a' (hss.getD i [])) => impl_ValidMeaning_cap a' (hss.getD i []).length (hss.getD i []).length (hss.getD i []) rfl (hz i hi) (Nat.le_refl _) (hf i) V hr)
  have hcf := callFunc_enter Try.func73 (by kernel_rfl) (by kernel_rfl)
  have HNO := hid (fun k (hk : k < n) (h : plAtN hss k = false) => show allTo (plAtN hss) n = false from allTo_no hk h)
  have HE := hid (fun i => show plAtN hss i = plainH (hss.getD i []) from rfl)
  clear hs hl hz hf
  go_enter Try.func72, Try.ntmps72
  go_wp2_with fail
  go_loopw [6, 9] (fun _ i wr => ∃ k : Nat, k ≤ n ∧ i = .int .i64 k ∧ Hid (allTo (plAtN hss) k = true) ∧ Hid (Gr w wr)) (fun _ i _ => n - (intOf i).toNat)
  case atStart => exact ⟨0, Nat.zero_le _, rfl, hid rfl, hid (Gr.refl _)⟩
  case round =>
    obtain ⟨k, hk, rfl, hok, gr⟩ := hrel
    by_cases hlt : k < n
    · obtain ⟨b, off, a', rfl, hc, hsl⟩ := (HS.out.gr gr.out) k (by rw [← HL.out]; exact hlt)
      have HVK := hid (HV1.out wr k hlt a' hsl)
      have HEK := hid (HE.out k)
      have HST := hid (fun (h : plAtN hss k = true) => allTo_step hok.out h)
      have HNK := hid (HNO.out k hlt)
      rw [← HEK.out] at HVK
      clear hsl HV1 HE HEK
      generalize (hss.getD k []).length = m at *
      cases hv : plAtN hss k with
      | false =>
        rw [hv] at HVK
        have HZ := hid (HNK.out hv)
        clear hv HST HNK
        go_wp2_with fail
        refine HVK.out.mono ?_
        rintro e w1 ⟨rfl, g1⟩
        have G1 := hid (gr.out.trans g1)
        clear g1
        go_wp2_with fail
        go_ret
        exact ⟨ret_bool HZ.out.symm, G1.out⟩
      | true =>
        rw [hv] at HVK
        have HY := hid (HST.out hv)
        clear hv HST HNK
        go_wp2_with fail
        refine HVK.out.mono ?_
        rintro e w1 ⟨rfl, g1⟩
        have G1 := hid (gr.out.trans g1)
        clear g1
        go_wp2_with fail
        go_roundw
        case rel => exact ⟨k + 1, by omega, by go_num, HY, G1⟩
        case measure => simp [intOf]; omega
    · have HZ := hid (show allTo (plAtN hss) n = true by rw [show n = k by omega]; exact hok.out)
      go_wp2_with fail
      go_ret
      exact ⟨ret_bool HZ.out.symm, gr.out⟩
set_option maxHeartbeats 2000000 in
set_option maxRecDepth 100000 in
theorem minus_any (ys h : List Int) (hy : ys.length = 44) (hyb : ∀ q, -1000 ≤ ys.getD q 0 ∧ ys.getD q 0 ≤ 1000) (a : Option Addr) (n cap : Nat) (hn : n = h.length) (h8 : n ≤ 8) (hnum : ∀ i, i < n → h.getD i 0 = -10 ∨ (-4 ≤ h.getD i 0 ∧ h.getD i 0 ≤ 39)) (w : World) (hs : SliceOf .i8 w a h) :
    Calls Try.prog 35 #[.agg (kCells .i16 (stk ys)), .slice a n cap, .int .i16 (-1)] w fun e w' => e = .returned (.agg (kCells .i16 (stk (dropTo ys h n)))) ∧ Gr w w' := by
  have HS := hid hs
  have HN := hid hn
  have HYB := hid hyb
  have HX := hid hnum
  have HBD := hid (fun j (hj : j ≤ n) q => dropTo_bd hy (fun i hi => hnum i (by omega)) j (by omega) q)
  have HJB := hid (fun j (e : h.getD j 0 = -10) => dropTo_brk (xs := ys) e)
  have HJO := hid (fun j (e : ¬ h.getD j 0 = -10) => show dropTo ys h (j + 1) = (dropTo ys h j).set (pIdx (h.getD j 0)) ((dropTo ys h j).getD (pIdx (h.getD j 0)) 0 + -1) from dropTo_on e)
  have HLJ := hid (fun j => (dropTo_length ys h j).trans hy)
  clear hs hn hy hyb hnum
  go_enter Try.func35, Try.ntmps35
  go_wp2_with fail
  generalize hW : World.alloc _ (.cells _ 64) = W0
  have B0 : Hid (W0.heap[w.heap.size]? = some (.cells (kCells .i16 (stk (dropTo ys h 0))) 64 (0, 0))) := hid (by rw [← hW]; exact heap_kept (heap_new rfl))
  have B1 : Hid (W0.heap[w.heap.size + 1]? = some (.cells (kCells .i16 zeros44) 64 (0, 0))) := hid (by rw [← hW]; exact heap_new (by simp))
  have G0 : Hid (Gr w W0) := hid (by rw [← hW]; exact ((Gr.refl w).alloc _).alloc _)
  clear hW
  go_loopw [8, 11] (fun _ i wr => ∃ j : Nat, j ≤ n ∧ i = .int .i64 j ∧ Hid (wr.heap[w.heap.size]? = some (.cells (kCells .i16 (stk (dropTo ys h j))) 64 (0, 0)) ∧ wr.heap[w.heap.size + 1]? = some (.cells (kCells .i16 zeros44) 64 (0, 0))) ∧ Hid (Gr w wr)) (fun _ i _ => n - (intOf i).toNat)
  case atStart => exact ⟨0, Nat.zero_le _, rfl, hid ⟨B0.out, B1.out⟩, G0⟩
  case round =>
    obtain ⟨j, hj, rfl, hb, gr⟩ := hrel
    by_cases hlt : j < n
    · obtain ⟨b0, o0, rfl, hcj⟩ := (HS.out.gr gr.out) j (by rw [← HN.out]; exact hlt)
      have hxj := HX.out j hlt
      have HJBj := hid (HJB.out j)
      have HJ0 := hid (HJO.out j)
      clear HJB HJO
      generalize h.getD j 0 = v at *
      by_cases hbr : v = -10
      · have HE := hid (HJBj.out hbr)
        subst hbr
        clear HJBj HJ0 hxj
        go_wp2_with fail
        go_roundw
        case rel => exact ⟨j + 1, by omega, by go_num, hid (by rw [HE.out]; exact hb.out), gr⟩
        case measure => simp [intOf] <;> omega
      · have hv4 := hxj.resolve_left hbr
        have hbr' : (v == -10) = false := by simpa using hbr
        have hk := pIdx_lt hv4
        have HP := hid (fun b V => piece_p b hk V)
        rw [pNum_pIdx hv4] at HP
        have hl44 := HLJ.out j
        have c0 := cell_ints hb.out.1 (i := sOff (pIdx v)) (by rw [stk_length hl44]; exact sOff_lt hk)
        rw [stk_get hl44 hk] at c0
        have f0 : wr.frozen? ⟨w.heap.size, sOff (pIdx v), none⟩ = false := frozen_of_row _ _ _ _ _ hb.out.1
        have hbd := HBD.out j (by omega) (pIdx v)
        have hbY := HYB.out (pIdx v)
        have HSET := hid ((stk_set hl44 hk ((dropTo ys h j).getD (pIdx v) 0 + -1)).trans (congrArg stk (HJ0.out hbr).symm))
        clear HJBj HJ0 hl44 HBD HYB HX
        generalize (dropTo ys h j).getD (pIdx v) 0 = y at *
        have e5 : IntKind.i16.wrap (y + -1) = y + -1 := IntWalk.i16_in _ (by omega)
        clear hbd hbY hxj hv4 hk
        generalize sOff (pIdx v) = o at *
        go_wp2_with (refine (HP.out _ _).mono ?_; rintro e w' ⟨rfl, rfl⟩)
        have HB9 := hid (heap_int_set (i := o) (x := y + -1) hb.out.1)
        rw [HSET.out] at HB9
        go_roundw
        case rel => exact ⟨j + 1, by omega, by go_num, hid ⟨HB9.out, heap_stored (by dsimp only; omega) hb.out.2⟩, hid (gr.out.setCell (Nat.le_refl _) _)⟩
        case measure => simp [intOf] <;> omega
    · have hkn : j = n := by omega
      have HB0 := hid hb.out.1
      have HB1 := hid hb.out.2
      have LK := hid (stk_length (HLJ.out j))
      clear hb HBD HX HJB HJO
      have HK := hid hkn
      clear hkn
      go_wp2_with (first | (refine wpList_load_struct rfl 64 _ rfl _ rfl _ (kCells .i16 (stk (dropTo ys h j))) _ HB0.out Try.underlying64 rfl (by rw [kCells_size, LK.out]; kernel_rfl) ?_) | (refine wpList_store_cells rfl 64 _ _ rfl _ (kCells .i16 (stk (dropTo ys h j))) (kCells .i16 zeros44) rfl rfl _ 44 HB1.out (by kernel_rfl) (by rw [kCells_size, LK.out]) rfl (kCells_one _ _) ?_))
      refine bodyPost_ret (results_cell_row (by rfl) _ _ _ _ _ _ _ rfl (heap_row_set HB1.out) Try.underlying64 rfl (by rw [kCells_size, LK.out]; kernel_rfl)) rfl ⟨?_, gr.out.setRow (by omega) _⟩
      rw [HK.out]
set_option maxRecDepth 100000 in
theorem mns_isValid (a : Option Addr) (cap n : Nat) (hss : List (List Int)) (hl : n = hss.length) (hn : n ≤ 1048576) (hz : ∀ i, i < n → (hss.getD i []).length ≤ 1048576) (hf : ∀ i, Fits .i8 (hss.getD i [])) (w : World) (hs : SlicesX w a hss) :
    Calls Try.prog 70 #[.slice a n cap] w fun e w' => e = .returned (.bool (allTo (plAtN hss) n)) ∧ Gr w w' := by
  have HA := hid (allMn_any a cap n hss hl hn hz hf w hs)
  clear hl hz hf hs
  generalize allTo (plAtN hss) n = r at *
  go_enter Try.func70, Try.ntmps70
  go_wp2_with fail
  refine HA.out.mono ?_
  rintro e w1 ⟨rfl, g1⟩
  have G1 := hid g1
  clear g1
  go_wp2_with fail
  go_ret
  exact ⟨rfl, G1.out⟩
set_option maxRecDepth 100000 in
theorem mns_signals (a : Option Addr) (cap n : Nat) (w : World) :
    Calls Try.prog 71 #[.slice a n cap] w fun e w' => e = .returned (.int .i64 n) ∧ Gr w w' := by
  go_enter Try.func71, Try.ntmps71
  go_wp2_with fail
  go_ret
  exact ⟨rfl, Gr.refl _⟩
end Go.Proofs.Ytdighhkgopopeaa

/- Meanings in turn: the program's function. -/
namespace Go.Proofs.Ytdighhkgopopeaa
set_option linter.unusedVariables false
open Go.RowKit
theorem grownN_row {W : World} {g : Nat} {cs : Array Value} : W.grownBy (W.setRow g cs) (some g) :=
  ⟨rfl, rfl, rfl, by rw [size_setRow]; exact Nat.le_refl _, fun k _ hk => setRow_other W g k _ (fun e => hk (by rw [e]))⟩
theorem infoU64 : (Try.prog.info? 2).map (fun i => (i.zero, i.size, i.bytes)) = some (some (.int .i64 0), 1, 8) := by kernel_rfl
set_option maxHeartbeats 4000000 in
set_option maxRecDepth 100000 in
theorem impl_FlyInTurn_any (xs : List Int) (lx : xs.length = 44) (fx : Fits .i16 xs) (a : Option Addr) (cap n : Nat) (mss : List (List Int)) (hl : n = mss.length) (hn : n ≤ 1048576) (hz : ∀ i, i < n → (mss.getD i []).length ≤ 1048576) (hf : ∀ i, Fits .i8 (mss.getD i [])) (w : World) (hs : SlicesX w a mss) :
    Calls Try.prog 17 #[.agg (kCells .i16 xs), .slice a n cap] w (RetOwn .i64 2 (withCode (mtC xs mss)) (fitC xs mss) w) := by
  have LX := hid lx
  have HS := hid hs
  have HL := hid hl
  have HSX := hid (stockOf_any xs lx)
  have HLS := hid (stk_length lx)
  have HCK := hid (fun b V (g : Gr w V) hb => checkLM b xs lx fx (.slice a n cap) (allTo (plAtN mss) n) (n : Int) V (fun U gU => mns_isValid a cap n mss hl hn hz hf U ((hs.gr g).gr gU)) (fun U _ => mns_signals a cap n U) hb)
  have HMC := hid (show twoC (lockB xs) (allTo (plAtN mss) n) (n : Int) = mtC xs mss by unfold mtC; rw [← hl])
  rw [HMC.out] at HCK
  by_cases h0 : mtC xs mss = 0
  · obtain ⟨hv, hp, h6⟩ := mtC_zero h0
    rw [← hl] at hp h6
    have HR := hid (show fitC xs mss = flyO xs mss n by unfold fitC; rw [if_pos h0, hl])
    have HOK := hid (fun i (hi : i ≤ n) => flyX_ok lx hv hp i hi)
    have HPL := hid (fun i (hi : i < n) => show plainH (mss.getD i []) = true from allTo_iff.1 hp i hi)
    have HOL := hid (flyO_length xs mss)
    have HX0 := hid (show flyX xs mss 0 = xs from rfl)
    have HO0 := hid (show flyO xs mss 0 = [] from rfl)
    have HNIL := hid (fun i => fly_nil (xs := xs) (mss := mss) (i := i))
    have HCONS := hid (fun i g R => fly_cons (xs := xs) (mss := mss) (i := i) (g := g) (R := R))
    rw [h0] at HCK ⊢
    rw [HR.out]
    clear h0 hv hp hl hz hf hs lx fx HR HMC
    obtain ⟨i0, hi0, hz0, hz1, hz2⟩ := info_parts infoU64
    unfold withCode
    go_enter Try.func17, Try.ntmps17
    go_wp2_with (refine wpList_load_struct rfl 31 (.tmp 2) rfl w.heap.size rfl _ (kCells .i16 xs) _ (heap_new rfl) Try.underlying31 rfl (by rw [kCells_size, LX.out]; kernel_rfl) ?_)
    generalize hW2 : World.alloc _ (.cells _ 77) = W2
    have b0 : Hid (W2.heap[w.heap.size]? = some (.cells (kCells .i16 xs) 31 (0, 0))) := hid (by rw [← hW2]; exact heap_kept (heap_new rfl))
    have bd : Hid (W2.heap[w.heap.size + 1]? = some (.cells #[.iface 31 (.agg (kCells .i16 xs)), .iface 61 (.slice a n cap)] 77 (0, 0))) := hid (by rw [← hW2]; exact heap_new (by simp))
    have gr : Hid (Gr w W2) := hid (by rw [← hW2]; exact ((Gr.refl _).alloc _).alloc _)
    clear hW2
    refine (HCK.out _ _ gr.out bd.out).mono ?_
    rintro e W3 ⟨rfl, g⟩
    replace b0 := hid (g.heap b0.out)
    replace gr := hid (gr.out.trans g)
    clear bd g HCK
    go_wp2_with (refine wpList_load_struct rfl 31 (.tmp 2) rfl w.heap.size rfl _ (kCells .i16 xs) _ b0.out Try.underlying31 rfl (by rw [kCells_size, LX.out]; kernel_rfl) ?_)
    refine (HSX.out _).mono ?_
    rintro e W4 ⟨rfl, g⟩
    have G4 := hid (gr.out.trans g)
    have N4 : Hid ((W4.alloc (.cells (kCells .i16 zeros44) 64)).heap[W4.heap.size]? = some (.cells (kCells .i16 zeros44) 64 (0, 0))) := hid (heap_new rfl)
    clear g
    go_wp2_with (refine wpList_store_cells rfl 64 _ _ rfl _ (kCells .i16 (stk xs)) (kCells .i16 zeros44) rfl rfl _ 44 N4.out (by kernel_rfl) (by rw [kCells_size, HLS.out]) rfl (kCells_one _ _) ?_; generalize hW : World.setRow _ _ (kCells .i16 (stk xs)) = W5)
    have b5 : Hid (W5.heap[W4.heap.size]? = some (.cells (kCells .i16 (stk xs)) 64 (0, 0))) := hid (by rw [← hW]; exact heap_row_set N4.out)
    have G5 : Hid (Gr w W5) := hid (by rw [← hW]; exact (G4.out.alloc _).setRow (by have := G4.out.size; omega) _)
    have hz4 := G4.out.size
    clear hW N4
    generalize hq : W4.heap.size = q at *
    clear hq G4 b0 gr
    go_loopw [7, 9, 10, 11, 12, 26, 31] (fun v _ _ _ _ iv _ wr => ∃ i : Nat, i ≤ n ∧ iv = .int .i64 i ∧ Hid (wr.heap[q]? = some (.cells (kCells .i16 (stk (flyX xs mss i))) 64 (0, 0))) ∧ Hid (Own .i64 2 wr (q + 1) wr.heap.size v (flyO xs mss i)) ∧ Hid (Gr w wr)) (fun _ _ _ _ _ iv _ _ => n - (intOf iv).toNat)
    case atStart => exact ⟨0, Nat.zero_le _, rfl, hid (by rw [HX0.out]; exact b5.out), hid (by rw [HO0.out]; exact Own.nil _ _ _), G5⟩
    case round =>
      obtain ⟨i, hi, rfl, hb, ho, hg⟩ := hrel
      obtain ⟨av, cv, rfl⟩ := ho.out.shape
      by_cases hlt : i < n
      · obtain ⟨b, off, a', rfl, hc, hsl⟩ := (HS.out.gr hg.out) i (by rw [← HL.out]; exact hlt)
        have HF := hid (firstHoist_any a' (mss.getD i []).length (mss.getD i []).length (mss.getD i []) rfl (Nat.le_refl _) (HPL.out i hlt) (avL (flyX xs mss i)) 31 #[.pointer (some ⟨q, 0, none⟩)] #[] (callFunc_enter Try.func31 (by kernel_rfl) (by kernel_rfl))
          (fun V => V.heap[q]? = some (.cells (kCells .i16 (stk (flyX xs mss i))) 64 (0, 0))) wr hsl
          (fun A B lo k hlo hK ho => ho.heap hK (.inl (by have := lt_of_heap hb.out; omega))) hb.out
          (fun U x hK hx => there_av q (flyX xs mss i) (HOK.out i hi).1 (HOK.out i hi).2 U x hx hK))
        have HLK := hid (lk_goC (plain_nums (HPL.out i hlt)) (mss.getD i []).length (flyX xs mss i) [] (by simp) (Lf.nil (HOK.out i hi).1 (HOK.out i hi).2))
        rw [HLK.out, show lkF (mss.getD i []) (mss.getD i []).length (flyX xs mss i) [] = fromL (flyX xs mss i) (mss.getD i []) from rfl] at HF
        have HMEM := hid (fun g (h : g ∈ fromL (flyX xs mss i) (mss.getD i [])) => fromL_mem (HOK.out i hi).1 (HOK.out i hi).2 (HPL.out i hlt) h)
        have HLX := hid (HOK.out i hi).1
        have HMID := hid (lock_mid (HOK.out i hi).2)
        have HN1 := hid (HNIL.out i)
        have HC1 := hid (HCONS.out i)
        have HOI := hid (HOL.out i)
        have SZR := hid (lt_of_heap hb.out)
        clear hsl HOK HPL HNIL HCONS HOL HLK
        generalize fromL (flyX xs mss i) (mss.getD i []) = L at *
        generalize (mss.getD i []).length = m at *
        generalize hfx : flyX xs mss i = X at *
        generalize hfo : flyO xs mss i = O at *
        cases L with
        | nil =>
          obtain ⟨e1, e2⟩ := HN1.out rfl
          have E1 := hid e1
          have E2 := hid e2
          clear e1 e2 HN1 HC1 HMEM hfx hfo
          generalize O.length = ol at *
          go_wp2_with fail
          refine HF.out.mono ?_
          rintro e w2 ⟨v, rfl, ow, g2⟩
          have G2 := hid (hg.out.trans g2)
          have B2 := hid (g2.heap hb.out)
          have O2 := hid ((ho.out.gr g2).widen (lo' := q + 1) (Nat.le_refl _) g2.size)
          unfold withCode headC
          clear ow g2
          go_wp2_with fail
          go_roundw
          case rel => exact ⟨i + 1, by omega, by go_num, hid (by rw [E1.out]; exact B2.out), hid (by rw [E2.out]; exact O2.out), G2⟩
          case measure => simp [intOf]; omega
        | cons g R =>
          obtain ⟨e1, e2⟩ := HC1.out g R rfl
          have E1 := hid e1
          have E2 := hid e2
          obtain ⟨-, h8, hnum, -⟩ := HMEM.out g List.mem_cons_self
          have hgl : g.length ≤ 8 := by have := (HMEM.out g List.mem_cons_self).1; omega
          have HSUB := hid (fun (a' : Option Addr) (c' : Nat) (V : World) hs' => minus_any X g HLX.out HMID.out a' g.length c' rfl hgl hnum V hs')
          have HLX1 := hid (stk_length HLX.out)
          have HLX2 := hid (stk_length ((dropTo_length X g g.length).trans HLX.out))
          clear e1 e2 HN1 HC1 HMEM hfx hfo h8 hnum hgl HMID HLX
          generalize hol : O.length = ol at *
          have HOLN := hid hol
          clear hol
          go_wp2_with fail
          refine HF.out.mono ?_
          rintro e w2 ⟨v, rfl, ow, g2⟩
          unfold withCode headC headL at *
          obtain ⟨a3, c3, rfl⟩ := ow.shape
          have B2 := hid (g2.heap hb.out)
          have OG := hid ow
          have G2 := hid (hg.out.trans g2)
          have O2 := hid ((ho.out.gr g2).widen (lo' := q + 1) (Nat.le_refl _) g2.size)
          have OR := hid O2.out.row
          rw [HOLN.out] at OR
          have SZ2 := hid (lt_of_heap B2.out)
          have hol7 : ol ≤ 7 := by have := HOI.out; have := HOLN.out; omega
          have HSB := hid (fun V hs' => HSUB.out a3 c3 V hs')
          have HTOP := hid (show ∀ b, (Value.slice av ol cv).ownBlock = some b → b < wr.heap.size from ho.out.top)
          clear ow g2 HSUB HF
          generalize g.length = p at *
          go_wp2_with (first | (refine wpList_load_struct rfl 64 (.tmp 8) rfl q rfl _ (kCells .i16 (stk X)) _ B4.out Try.underlying64 rfl (by rw [kCells_size, HLX1.out]; kernel_rfl) ?_) | (at_builtin; refine wpList_append_own _ rfl _ _ 42 rfl (q + 1) 2 i0 (.int .i64 0) 1 8 Try.underlying42 hi0 hz0 hz1 hz2 rfl (by decide) _ _ _ rfl (OR.out.alloc _) ⟨w2.heap.size, 0, none⟩ 1 1 [.int .i64 (i : Int)] rfl rfl (cell_l1 _ _ _) (by simp [Value.oneCell']) (by unfold maxLen; omega) (by omega) (by have := SZ2.out; simp; omega) ?_; intro v4 w4 hown4 hgrow4 _; have O4 := hid (Own.ofRow (k := .i64) (xs := O ++ [(i : Int)]) hown4 (by simp) (by rw [List.length_append, List.length_singleton, HOLN.out])); have OG4 := hid ((OG.out.gr ((Gr.refl w2).alloc (.cells #[.int .i64 (i : Int)] 2))).by_ hgrow4 (fun b e => .inl (HTOP.out b e))); have G4 := hid ((G2.out.alloc (.cells #[.int .i64 (i : Int)] 2)).by_ hgrow4 (fun b e => by have := (OR.out.lt b e).1; omega)); have B4 := hid ((hgrow4.block q (by have := SZ2.out; simp; omega) (fun e => by have := (OR.out.lt _ e.symm).1; omega)).trans (heap_kept B2.out)); clear hown4 hgrow4))
          refine (HSB.out _ OG4.out.reads).mono ?_
          rintro e w5 ⟨rfl, g5⟩
          have B5 := hid (g5.heap B4.out)
          have G5' := hid (G4.out.trans g5)
          have O5 := hid ((O4.out.gr g5).widen (lo' := q + 1) (Nat.le_refl _) g5.size)
          clear g5
          go_wp2_with (refine wpList_store_cells rfl 64 _ _ rfl q (kCells .i16 (stk (dropTo X g p))) (kCells .i16 (stk X)) rfl rfl _ 44 B5.out (by kernel_rfl) (by rw [kCells_size, HLX2.out]) (by rw [kCells_size, HLX1.out]) (kCells_one _ _) ?_)
          have B6 := hid (heap_row_set (cs := kCells .i16 (stk (dropTo X g p))) B5.out)
          have G6 := hid (G5'.out.setRow (g := q) (by omega) (kCells .i16 (stk (dropTo X g p))))
          have O6 := hid (O5.out.by_ (grownN_row (g := q) (cs := kCells .i16 (stk (dropTo X g p)))) (fun b e => by cases e; exact .inl (Nat.lt_succ_self _)))
          go_roundw
          case rel => exact ⟨i + 1, by omega, by go_num, hid (by rw [E1.out]; exact B6.out), hid (by rw [E2.out, size_setRow]; exact O6.out), G6⟩
          case measure => simp [intOf]; omega
      · have HI := hid (show i = n by omega)
        have OF := hid (show Own .i64 2 wr (q + 1) wr.heap.size (.slice av (flyO xs mss i).length cv) (flyO xs mss n) by rw [← HI.out]; exact ho.out)
        clear ho
        generalize (flyO xs mss i).length = ol at *
        go_wp2_with fail
        go_ret2
        exact ⟨_, rfl, OF.out.widen (by omega) (Nat.le_refl _), hg.out⟩
  · have HR := hid (show fitC xs mss = [] by unfold fitC; rw [if_neg h0])
    have hne : (mtC xs mss == 0) = false := beq_eq_false_iff_ne.2 h0
    rw [HR.out]
    clear h0 hl hz hf hs lx fx HR HMC
    generalize mtC xs mss = c at *
    unfold withCode
    go_enter Try.func17, Try.ntmps17
    go_wp2_with (refine wpList_load_struct rfl 31 (.tmp 2) rfl w.heap.size rfl _ (kCells .i16 xs) _ (heap_new rfl) Try.underlying31 rfl (by rw [kCells_size, LX.out]; kernel_rfl) ?_)
    generalize hW2 : World.alloc _ (.cells _ 77) = W2
    have bd : Hid (W2.heap[w.heap.size + 1]? = some (.cells #[.iface 31 (.agg (kCells .i16 xs)), .iface 61 (.slice a n cap)] 77 (0, 0))) := hid (by rw [← hW2]; exact heap_new (by simp))
    have gr : Hid (Gr w W2) := hid (by rw [← hW2]; exact ((Gr.refl _).alloc _).alloc _)
    clear hW2
    refine (HCK.out _ _ gr.out bd.out).mono ?_
    rintro e W3 ⟨rfl, g⟩
    have G3 := hid (gr.out.trans g)
    clear bd g HCK
    go_wp2_with fail
    go_ret2
    exact ret_nil G3.out _
end Go.Proofs.Ytdighhkgopopeaa
