/- What hoists need: the model's functions of the laws. -/
import Derived.Test.YtlhijammadadmaaNeedT
import Derived.Test.YtlhijammadadmaaLockP
namespace Go.Proofs.Ytlhijammadadmaa
set_option linter.unusedVariables false
open Go.RowKit
theorem need_fits {hss : List (List Int)} {n : Nat} (h6 : n ≤ 6) (hv : ∀ i, i < n → validH (hss.getD i []) = true) : Fits .i16 (needTo hss n) := by
  intro x hx
  obtain ⟨i, hi, rfl⟩ := List.getElem_of_mem hx
  have h := needTo_bd hv n (Nat.le_refl _) i
  rw [show (needTo hss n).getD i 0 = (needTo hss n)[i] by simp [List.getD, List.getElem?_eq_getElem hi]] at h
  exact wf16.2 (by omega)
theorem need_mid {hss : List (List Int)} {n : Nat} (h6 : n ≤ 6) (hv : ∀ i, i < n → validH (hss.getD i []) = true) : Mid (needTo hss n) := fun i => by
  have h := needTo_bd hv n (Nat.le_refl _) i
  omega
set_option maxHeartbeats 4000000 in
set_option maxRecDepth 100000 in
theorem spec_NeededFor_any (a : Option Addr) (cap n : Nat) (hss : List (List Int)) (hl : n = hss.length) (hn : n ≤ 1048576) (hz : ∀ i, i < n → (hss.getD i []).length ≤ 1048576) (hf : ∀ i, Fits .i8 (hss.getD i [])) (w : World) (hs : SlicesX w a hss) :
    Calls Try.prog 7 #[.slice a n cap] w fun e w' => e = .returned (.tuple #[.agg (kCells .i16 (nfV hss)), .int .i64 (nfC hss)]) ∧ Gr w w' := by
  obtain ⟨W0, hW0⟩ : ∃ W0, w.alloc lkrZ = W0 := ⟨_, rfl⟩
  have b0 : Hid (W0.heap[w.heap.size]? = some lkrZ) := hid (by rw [← hW0]; exact heap_new rfl)
  have gr : Hid (Gr w W0) := hid (by rw [← hW0]; exact (Gr.refl _).alloc _)
  have HH := hid (l04Hoists_any a cap n hss hl hn hz hf W0 (hs.gr gr.out))
  have HND := hid (fun (h : hosC hss = 0) V (g : Gr W0 V) => l04Need_any a cap n hss (by omega) (by have := (hosC_zero h).2; omega) (fun i hi => hosC_valid h i (by omega)) V ((hs.gr gr.out).gr g))
  have HOK := hid (fun (h : hosC hss = 0) b V hb => l04Ok_any b 28 (needTo hss n) (needTo_length _ _) (need_fits (by have := (hosC_zero h).2; omega) (fun i hi => hosC_valid h i (by omega))) V hb)
  have HLN := hid (needTo_length hss n)
  have HN := hid hl
  rw [← hW0] at HH b0 gr HND
  clear hW0 hl hn hz hf hs
  by_cases hc : hosC hss = 0
  · have HN0 := hid (HND.out hc)
    have HK0 := hid (HOK.out hc)
    have HX := hid hc
    rw [hc] at HH
    clear HND HOK hc
    cases hb : lockB (needTo hss n) with
    | false =>
      obtain ⟨eC, eV⟩ := nf_much HX.out (by rw [← HN.out]; exact hb)
      have EC := hid eC
      have EV := hid eV
      rw [hb] at HK0
      clear eC eV hb
      go_enter Try.func7, Try.ntmps7
      go_wp2_with fail
      refine HH.out.mono ?_
      rintro e w1 ⟨rfl, g1⟩
      have G1 := hid (gr.out.trans g1)
      have B1 := hid (g1.heap b0.out)
      have HN1 := hid (HN0.out w1 g1)
      clear g1
      go_wp2_with fail
      refine HN1.out.mono ?_
      rintro e w2 ⟨rfl, g2⟩
      have G2 := hid (G1.out.trans g2)
      have B2 := hid (g2.heap B1.out)
      have N2 : Hid ((w2.alloc lkrZ).heap[w2.heap.size]? = some lkrZ) := hid (heap_new rfl)
      clear g2
      go_wp2_with (refine wpList_store_cells rfl 28 _ _ rfl _ (kCells .i16 (needTo hss n)) (kCells .i16 zeros44) rfl rfl _ 44 N2.out (by kernel_rfl) (by rw [kCells_size, HLN.out]) rfl (kCells_one _ _) ?_; generalize hW : World.setRow _ _ (kCells .i16 (needTo hss n)) = W3)
      have B3 : Hid (W3.heap[w.heap.size]? = some lkrZ) := hid (by rw [← hW]; exact heap_row_kept (by have := lt_of_heap B2.out; omega) (heap_kept B2.out))
      have B5 : Hid (W3.heap[w2.heap.size]? = some (.cells (kCells .i16 (needTo hss n)) 28 (0, 0))) := hid (by rw [← hW]; exact heap_row_set N2.out)
      have G3 : Hid (Gr w W3) := hid (by rw [← hW]; exact (G2.out.alloc _).setRow (by have := G2.out.size; omega) _)
      clear hW N2
      refine (HK0.out _ _ B5.out).mono ?_
      rintro e w4 ⟨rfl, rfl⟩
      go_wp2_with (first | (refine wpList_build_to rfl 28 rfl built_locker ?_) | (refine wpList_store_cells rfl 28 _ _ rfl _ (kCells .i16 zeros44) (kCells .i16 zeros44) rfl rfl _ 44 B3.out (by kernel_rfl) rfl rfl (kCells_one _ _) ?_))
      refine bodyPost_ret (results_struct2 (by rfl) _ _ _ _ _ _ _ rfl rfl (heap_row_set B3.out) Try.underlying28 rfl (by kernel_rfl)) rfl ⟨by rw [EV.out, EC.out]; rfl, ?_⟩
      exact G3.out.setRow (Nat.le_refl _) _
    | true =>
      obtain ⟨eC, eV⟩ := nf_ok HX.out (by rw [← HN.out]; exact hb)
      rw [← HN.out] at eV
      have EC := hid eC
      have EV := hid eV
      rw [hb] at HK0
      clear eC eV hb
      go_enter Try.func7, Try.ntmps7
      go_wp2_with fail
      refine HH.out.mono ?_
      rintro e w1 ⟨rfl, g1⟩
      have G1 := hid (gr.out.trans g1)
      have B1 := hid (g1.heap b0.out)
      have HN1 := hid (HN0.out w1 g1)
      clear g1
      go_wp2_with fail
      refine HN1.out.mono ?_
      rintro e w2 ⟨rfl, g2⟩
      have G2 := hid (G1.out.trans g2)
      have B2 := hid (g2.heap B1.out)
      have N2 : Hid ((w2.alloc lkrZ).heap[w2.heap.size]? = some lkrZ) := hid (heap_new rfl)
      clear g2
      go_wp2_with (refine wpList_store_cells rfl 28 _ _ rfl _ (kCells .i16 (needTo hss n)) (kCells .i16 zeros44) rfl rfl _ 44 N2.out (by kernel_rfl) (by rw [kCells_size, HLN.out]) rfl (kCells_one _ _) ?_; generalize hW : World.setRow _ _ (kCells .i16 (needTo hss n)) = W3)
      have B3 : Hid (W3.heap[w.heap.size]? = some lkrZ) := hid (by rw [← hW]; exact heap_row_kept (by have := lt_of_heap B2.out; omega) (heap_kept B2.out))
      have B5 : Hid (W3.heap[w2.heap.size]? = some (.cells (kCells .i16 (needTo hss n)) 28 (0, 0))) := hid (by rw [← hW]; exact heap_row_set N2.out)
      have G3 : Hid (Gr w W3) := hid (by rw [← hW]; exact (G2.out.alloc _).setRow (by have := G2.out.size; omega) _)
      clear hW N2
      refine (HK0.out _ _ B5.out).mono ?_
      rintro e w4 ⟨rfl, rfl⟩
      go_wp2_with (first | (refine wpList_load_struct rfl 28 _ rfl _ rfl _ (kCells .i16 (needTo hss n)) _ B5.out Try.underlying28 rfl (by rw [kCells_size, HLN.out]; kernel_rfl) ?_) | (refine wpList_store_cells rfl 28 _ _ rfl _ (kCells .i16 (needTo hss n)) (kCells .i16 zeros44) rfl rfl _ 44 B3.out (by kernel_rfl) (by rw [kCells_size, HLN.out]) rfl (kCells_one _ _) ?_))
      refine bodyPost_ret (results_struct2 (by rfl) _ _ _ _ _ _ _ rfl rfl (heap_row_set B3.out) Try.underlying28 rfl (by rw [kCells_size, HLN.out]; kernel_rfl)) rfl ⟨by rw [EV.out, EC.out]; rfl, ?_⟩
      exact G3.out.setRow (Nat.le_refl _) _
  · obtain ⟨eC, eV⟩ := nf_code hc
    have EC := hid eC
    have EV := hid eV
    clear HND HOK eC eV
    generalize hosC hss = c at *
    have hcb : (c == 0) = false := by simpa using hc
    go_enter Try.func7, Try.ntmps7
    go_wp2_with fail
    refine HH.out.mono ?_
    rintro e w1 ⟨rfl, g1⟩
    have G1 := hid (gr.out.trans g1)
    have B1 := hid (g1.heap b0.out)
    clear g1
    go_wp2_with (first | (refine wpList_build_to rfl 28 rfl built_locker ?_) | (refine wpList_store_cells rfl 28 _ _ rfl _ (kCells .i16 zeros44) (kCells .i16 zeros44) rfl rfl _ 44 B1.out (by kernel_rfl) rfl rfl (kCells_one _ _) ?_))
    refine bodyPost_ret (results_struct2 (by rfl) _ _ _ _ _ _ _ rfl rfl (heap_row_set B1.out) Try.underlying28 rfl (by kernel_rfl)) rfl ⟨by rw [EV.out, EC.out]; rfl, ?_⟩
    exact G1.out.setRow (Nat.le_refl _) _
set_option maxHeartbeats 4000000 in
set_option maxRecDepth 100000 in
theorem spec_CanFly_any (xs : List Int) (lx : xs.length = 44) (fx : Fits .i16 xs) (a : Option Addr) (cap n : Nat) (hss : List (List Int)) (hl : n = hss.length) (hn : n ≤ 1048576) (hz : ∀ i, i < n → (hss.getD i []).length ≤ 1048576) (hf : ∀ i, Fits .i8 (hss.getD i [])) (w : World) (hs : SlicesX w a hss) :
    Calls Try.prog 12 #[.agg (kCells .i16 xs), .slice a n cap] w fun e w' => e = .returned (.tuple #[.bool (cfV xs hss), .int .i64 (flC xs hss)]) ∧ Gr w w' := by
  obtain ⟨W0, hW0⟩ : ∃ W0, w.alloc (.cells (kCells .i16 xs) 28) = W0 := ⟨_, rfl⟩
  have b0 : Hid (W0.heap[w.heap.size]? = some (.cells (kCells .i16 xs) 28 (0, 0))) := hid (by rw [← hW0]; exact heap_new rfl)
  have gr : Hid (Gr w W0) := hid (by rw [← hW0]; exact (Gr.refl _).alloc _)
  have HH := hid (l04Flown_any w.heap.size _ xs lx fx a cap n hss hl hn hz hf W0 b0.out (hs.gr gr.out))
  have HND := hid (fun (h : flC xs hss = 0) V (g : Gr W0 V) => l04Need_any a cap n hss (by omega) (by have := (hosC_zero (fl_zero h).2).2; omega) (fun i hi => hosC_valid (fl_zero h).2 i (by omega)) V ((hs.gr gr.out).gr g))
  have HCV := hid (fun bx by_ tx ty V hx hy => l04Covers_any bx by_ tx ty xs (needTo hss n) lx (needTo_length _ _) V hx hy)
  have HLN := hid (needTo_length hss n)
  have HN := hid hl
  rw [← hW0] at HH b0 gr HND
  clear hW0 hl hn hz hf hs
  by_cases hc : flC xs hss = 0
  · have HN0 := hid (HND.out hc)
    have EV := hid (cf_yes hc)
    have EC := hid hc
    rw [hc] at HH
    rw [← HN.out] at EV
    clear HND hc
    generalize covTo xs (needTo hss n) 44 = cv at *
    go_enter Try.func12, Try.ntmps12
    go_wp2_with fail
    refine HH.out.mono ?_
    rintro e w1 ⟨rfl, g1⟩
    have G1 := hid (gr.out.trans g1)
    have B1 := hid (g1.heap b0.out)
    have HN1 := hid (HN0.out w1 g1)
    clear g1
    go_wp2_with fail
    refine HN1.out.mono ?_
    rintro e w2 ⟨rfl, g2⟩
    have G2 := hid (G1.out.trans g2)
    have B2 := hid (g2.heap B1.out)
    have N2 : Hid ((w2.alloc lkrZ).heap[w2.heap.size]? = some lkrZ) := hid (heap_new rfl)
    clear g2
    go_wp2_with (refine wpList_store_cells rfl 28 _ _ rfl _ (kCells .i16 (needTo hss n)) (kCells .i16 zeros44) rfl rfl _ 44 N2.out (by kernel_rfl) (by rw [kCells_size, HLN.out]) rfl (kCells_one _ _) ?_; generalize hW : World.setRow _ _ (kCells .i16 (needTo hss n)) = W3)
    have B3 : Hid (W3.heap[w.heap.size]? = some (.cells (kCells .i16 xs) 28 (0, 0))) := hid (by rw [← hW]; exact heap_row_kept (by have := lt_of_heap B2.out; omega) (heap_kept B2.out))
    have B5 : Hid (W3.heap[w2.heap.size]? = some (.cells (kCells .i16 (needTo hss n)) 28 (0, 0))) := hid (by rw [← hW]; exact heap_row_set N2.out)
    have G3 : Hid (Gr w W3) := hid (by rw [← hW]; exact (G2.out.alloc _).setRow (by have := G2.out.size; omega) _)
    clear hW N2
    refine (HCV.out _ _ _ _ _ B3.out B5.out).mono ?_
    rintro e w4 ⟨rfl, g4⟩
    have G4 := hid (G3.out.trans g4)
    clear g4
    go_wp2_with fail
    go_ret2
    exact ⟨by rw [EV.out, EC.out]; rfl, G4.out⟩
  · have EV := hid (cf_no hc)
    clear HND HCV
    generalize flC xs hss = c at *
    have hcb : (c == 0) = false := by simpa using hc
    go_enter Try.func12, Try.ntmps12
    go_wp2_with fail
    refine HH.out.mono ?_
    rintro e w1 ⟨rfl, g1⟩
    have G1 := hid (gr.out.trans g1)
    clear g1
    go_wp2_with fail
    go_ret2
    exact ⟨by rw [EV.out]; rfl, G1.out⟩
set_option maxHeartbeats 4000000 in
set_option maxRecDepth 100000 in
theorem spec_FirstGrounded_any (xs : List Int) (lx : xs.length = 44) (fx : Fits .i16 xs) (a : Option Addr) (cap n : Nat) (hss : List (List Int)) (hl : n = hss.length) (hn : n ≤ 1048576) (hz : ∀ i, i < n → (hss.getD i []).length ≤ 1048576) (hf : ∀ i, Fits .i8 (hss.getD i [])) (hcap : n ≤ cap) (w : World) (hs : SlicesX w a hss) :
    Calls Try.prog 15 #[.agg (kCells .i16 xs), .slice a n cap] w fun e w' => e = .returned (.tuple #[.int .i64 (fgV xs hss), .int .i64 (fgC xs hss)]) ∧ Gr w w' := by
  obtain ⟨W0, hW0⟩ : ∃ W0, w.alloc (.cells (kCells .i16 xs) 28) = W0 := ⟨_, rfl⟩
  have b0 : Hid (W0.heap[w.heap.size]? = some (.cells (kCells .i16 xs) 28 (0, 0))) := hid (by rw [← hW0]; exact heap_new rfl)
  have gr : Hid (Gr w W0) := hid (by rw [← hW0]; exact (Gr.refl _).alloc _)
  have HH := hid (l04Flown_any w.heap.size _ xs lx fx a cap n hss hl hn hz hf W0 b0.out (hs.gr gr.out))
  have HND := hid (fun (h : flC xs hss = 0) c2 k (hk : k < n) V (g : Gr w V) => l04Need_any a c2 (k + 1) hss (by omega) (by have := (hosC_zero (fl_zero h).2).2; omega) (fun i hi => hosC_valid (fl_zero h).2 i (by omega)) V (hs.gr g))
  have HCV := hid (fun k bx by_ tx ty V hx hy => l04Covers_any bx by_ tx ty xs (needTo hss (k + 1)) lx (needTo_length _ _) V hx hy)
  have HLN := hid (fun k => needTo_length hss k)
  have HN := hid hl
  have HA := hid (fun (h : 0 < n) => show ∃ b off, a = some ⟨b, off, none⟩ from let ⟨b, off, _, e, _⟩ := hs 0 (by omega); ⟨b, off, e⟩)
  rw [← hW0] at HH b0 gr
  clear hW0 hl hz hf hs
  by_cases hc : flC xs hss = 0
  · have HN0 := hid (HND.out hc)
    have HAT := hid (fun i (e : grnF xs hss n 0 = some i) => fg_at hc (by rw [← HN.out]; exact e))
    have HNO := hid (fun (e : grnF xs hss n 0 = none) => fg_none hc (by rw [← HN.out]; exact e))
    have HON := hid (fun i (hi : i < n) (h : covTo xs (needTo hss (i + 1)) 44 = true) => grnF_on hi h)
    have HHE := hid (fun i (hi : i < n) (h : covTo xs (needTo hss (i + 1)) 44 = false) => grnF_here hi h)
    rw [hc] at HH
    clear HND hc
    generalize fgV xs hss = rV at *
    generalize fgC xs hss = rC at *
    obtain ⟨gn, hgn⟩ : ∃ gn, grnF xs hss n 0 = gn := ⟨_, rfl⟩
    have H00 := hid hgn
    rw [hgn] at HAT HNO
    clear hgn
    go_enter Try.func15, Try.ntmps15
    go_wp2_with fail
    refine HH.out.mono ?_
    rintro e w1 ⟨rfl, g1⟩
    have G1 := hid (gr.out.trans g1)
    have B1 := hid (g1.heap b0.out)
    clear g1
    go_wp2_with fail
    go_loopw [7, 8] (fun i _ wr => ∃ k : Nat, k ≤ n ∧ i = .int .i64 k ∧ Hid (grnF xs hss (n - k) k = gn) ∧ Hid (wr.heap[w.heap.size]? = some (.cells (kCells .i16 xs) 28 (0, 0))) ∧ Hid (Gr w wr)) (fun i _ _ => n - (intOf i).toNat)
    case atStart => exact ⟨0, Nat.zero_le _, rfl, H00, B1, G1⟩
    case round =>
      clear G1 B1
      obtain ⟨k, hk, rfl, hg, hb, G1⟩ := hrel
      by_cases hlt : k < n
      · obtain ⟨b, off, rfl⟩ := HA.out (by omega)
        have HN1 := hid (fun c2 => HN0.out c2 k hlt wr G1.out)
        have HCK := hid (HCV.out k)
        have LK1 := hid (HLN.out (k + 1))
        have HONK := hid (HON.out k hlt)
        have HHEK := hid (HHE.out k hlt)
        have hw1 : IntKind.i64.wrap ((k : Int) + 1) = ((k + 1 : Nat) : Int) := IntWalk.i64_in _ (by omega)
        clear HN0 HCV HON HHE
        cases hv : covTo xs (needTo hss (k + 1)) 44 with
        | false =>
          have HE := hid ((HHEK.out hv).symm.trans hg.out)
          obtain ⟨eV, eC⟩ := HAT.out k HE.out.symm
          have EV := hid eV
          have EC := hid eC
          rw [hv] at HCK
          clear hv HONK HHEK HAT HNO eV eC
          go_wp2_with fail
          refine (HN1.out _).mono ?_
          rintro e w2 ⟨rfl, g2⟩
          have G2 := hid (G1.out.trans g2)
          have B2 := hid (g2.heap hb.out)
          have N2 : Hid ((w2.alloc lkrZ).heap[w2.heap.size]? = some lkrZ) := hid (heap_new rfl)
          clear g2
          go_wp2_with (refine wpList_store_cells rfl 28 _ _ rfl _ (kCells .i16 (needTo hss (k + 1))) (kCells .i16 zeros44) rfl rfl _ 44 N2.out (by kernel_rfl) (by rw [kCells_size, LK1.out]) rfl (kCells_one _ _) ?_; generalize hW : World.setRow _ _ (kCells .i16 (needTo hss (k + 1))) = W3)
          have B3 : Hid (W3.heap[w.heap.size]? = some (.cells (kCells .i16 xs) 28 (0, 0))) := hid (by rw [← hW]; exact heap_row_kept (by have := lt_of_heap B2.out; omega) (heap_kept B2.out))
          have B5 : Hid (W3.heap[w2.heap.size]? = some (.cells (kCells .i16 (needTo hss (k + 1))) 28 (0, 0))) := hid (by rw [← hW]; exact heap_row_set N2.out)
          have G3 : Hid (Gr w W3) := hid (by rw [← hW]; exact (G2.out.alloc _).setRow (by have := G2.out.size; omega) _)
          clear hW N2
          refine (HCK.out _ _ _ _ _ B3.out B5.out).mono ?_
          rintro e w4 ⟨rfl, g4⟩
          have G4 := hid (G3.out.trans g4)
          clear g4
          go_wp2_with fail
          go_ret2
          exact ⟨by rw [EV.out, EC.out]; rfl, G4.out⟩
        | true =>
          have HE := hid ((HONK.out hv).symm.trans hg.out)
          rw [hv] at HCK
          clear hv HONK HHEK HAT HNO
          go_wp2_with fail
          refine (HN1.out _).mono ?_
          rintro e w2 ⟨rfl, g2⟩
          have G2 := hid (G1.out.trans g2)
          have B2 := hid (g2.heap hb.out)
          have N2 : Hid ((w2.alloc lkrZ).heap[w2.heap.size]? = some lkrZ) := hid (heap_new rfl)
          clear g2
          go_wp2_with (refine wpList_store_cells rfl 28 _ _ rfl _ (kCells .i16 (needTo hss (k + 1))) (kCells .i16 zeros44) rfl rfl _ 44 N2.out (by kernel_rfl) (by rw [kCells_size, LK1.out]) rfl (kCells_one _ _) ?_; generalize hW : World.setRow _ _ (kCells .i16 (needTo hss (k + 1))) = W3)
          have B3 : Hid (W3.heap[w.heap.size]? = some (.cells (kCells .i16 xs) 28 (0, 0))) := hid (by rw [← hW]; exact heap_row_kept (by have := lt_of_heap B2.out; omega) (heap_kept B2.out))
          have B5 : Hid (W3.heap[w2.heap.size]? = some (.cells (kCells .i16 (needTo hss (k + 1))) 28 (0, 0))) := hid (by rw [← hW]; exact heap_row_set N2.out)
          have G3 : Hid (Gr w W3) := hid (by rw [← hW]; exact (G2.out.alloc _).setRow (by have := G2.out.size; omega) _)
          clear hW N2
          refine (HCK.out _ _ _ _ _ B3.out B5.out).mono ?_
          rintro e w4 ⟨rfl, g4⟩
          have G4 := hid (G3.out.trans g4)
          have B4 := hid (g4.heap B3.out)
          clear g4
          go_wp2_with fail
          go_roundw
          case rel => exact ⟨k + 1, by omega, by go_num, HE, B4, G4⟩
          case measure => simp [intOf] <;> omega
      · have hkn : k = n := by omega
        have hg2 := hg.out
        rw [hkn, Nat.sub_self] at hg2
        obtain ⟨eV, eC⟩ := HNO.out hg2.symm
        have EV := hid eV
        have EC := hid eC
        clear hg2 hkn eV eC HNO HAT
        go_wp2_with fail
        go_ret2
        exact ⟨by rw [EV.out, EC.out]; rfl, G1.out⟩
  · obtain ⟨eV, eC⟩ := fg_no hc
    have EV := hid eV
    have EC := hid eC
    clear HND HCV eV eC
    generalize flC xs hss = c at *
    have hcb : (c == 0) = false := by simpa using hc
    go_enter Try.func15, Try.ntmps15
    go_wp2_with fail
    refine HH.out.mono ?_
    rintro e w1 ⟨rfl, g1⟩
    have G1 := hid (gr.out.trans g1)
    clear g1
    go_wp2_with fail
    go_ret2
    exact ⟨by rw [EV.out, EC.out]; rfl, G1.out⟩
end Go.Proofs.Ytlhijammadadmaa
