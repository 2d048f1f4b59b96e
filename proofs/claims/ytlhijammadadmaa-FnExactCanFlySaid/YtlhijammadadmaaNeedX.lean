/- CanFly, FirstGrounded: the functions of the program. -/
import Derived.Test.YtlhijammadadmaaNeedW
namespace Go.Proofs.Ytlhijammadadmaa
set_option linter.unusedVariables false
open Go.RowKit
set_option maxHeartbeats 4000000 in
set_option maxRecDepth 100000 in
theorem impl_CanFly_any (xs : List Int) (lx : xs.length = 44) (fx : Fits .i16 xs) (a : Option Addr) (cap n : Nat) (hss : List (List Int)) (hl : n = hss.length) (hn : n ≤ 1048576) (hz : ∀ i, i < n → (hss.getD i []).length ≤ 1048576) (hf : ∀ i, Fits .i8 (hss.getD i [])) (w : World) (hs : SlicesX w a hss) :
    Calls Try.prog 14 #[.agg (kCells .i16 xs), .slice a n cap] w fun e w' => e = .returned (.tuple #[.bool (cfV xs hss), .int .i64 (flC xs hss)]) ∧ Gr w w' := by
  have LX := hid lx
  have HSX := hid (stockOf_any xs lx)
  have HCK := hid (fun b V (g : Gr w V) hb => checkLH b xs lx fx (.slice a n cap) (allTo (hvAtN hss) n) n V (fun U gU => hoists_isValid a cap n hss hl hn hz hf U ((hs.gr g).gr gU)) (fun U _ => hoists_signals a cap n U) hb)
  rw [show twoC (lockB xs) (allTo (hvAtN hss) n) n = flC xs hss by rw [hl]; exact twoC_fl xs hss] at HCK
  have HCV := hid (fun (h : flC xs hss = 0) V (g : Gr w V) => covers_H xs lx (fl_zero h).1 a cap n hss (by omega) (by have := (hosC_zero (fl_zero h).2).2; omega) (fun i hi => hosC_valid (fl_zero h).2 i (by omega)) V (hs.gr g))
  have HN := hid hl
  clear lx fx hl hn hz hf hs
  go_enter Try.func14, Try.ntmps14
  go_wp2_with (refine wpList_load_struct rfl 28 (.tmp 2) rfl w.heap.size rfl _ (kCells .i16 xs) _ (heap_new rfl) Try.underlying28 rfl (by rw [kCells_size, LX.out]; kernel_rfl) ?_)
  generalize hW2 : World.alloc _ (.cells _ 74) = W2
  have b0 : Hid (W2.heap[w.heap.size]? = some (.cells (kCells .i16 xs) 28 (0, 0))) := hid (by rw [← hW2]; exact heap_kept (heap_new rfl))
  have bd : Hid (W2.heap[w.heap.size + 1]? = some (.cells #[.iface 28 (.agg (kCells .i16 xs)), .iface 52 (.slice a n cap)] 74 (0, 0))) := hid (by rw [← hW2]; exact heap_new (by simp))
  have gr : Hid (Gr w W2) := hid (by rw [← hW2]; exact ((Gr.refl _).alloc _).alloc _)
  clear hW2
  refine (HCK.out _ _ gr.out bd.out).mono ?_
  rintro e W3 ⟨rfl, g⟩
  replace b0 := hid (g.heap b0.out)
  replace gr := hid (gr.out.trans g)
  clear bd g HCK
  by_cases hc : flC xs hss = 0
  · have HC0 := hid (HCV.out hc)
    have EV := hid (cf_yes hc)
    have EC := hid hc
    rw [← HN.out] at EV
    rw [hc]
    clear HCV hc
    generalize covTo xs (needTo hss n) 44 = cv at *
    go_wp2_with (refine wpList_load_struct rfl 28 (.tmp 2) rfl w.heap.size rfl _ (kCells .i16 xs) _ b0.out Try.underlying28 rfl (by rw [kCells_size, LX.out]; kernel_rfl) ?_)
    refine (HSX.out _).mono ?_
    rintro e W4 ⟨rfl, g⟩
    have G4 := hid (gr.out.trans g)
    clear g
    go_wp2_with fail
    refine (HC0.out _ G4.out).mono ?_
    rintro e W5 ⟨rfl, g⟩
    have G5 := hid (G4.out.trans g)
    clear g
    go_wp2_with fail
    go_ret2
    exact ⟨by rw [EV.out, EC.out]; rfl, G5.out⟩
  · have EV := hid (cf_no hc)
    clear HCV
    have hcb : (flC xs hss == 0) = false := by simpa using hc
    go_wp2_with fail
    go_ret2
    exact ⟨by rw [EV.out]; rfl, gr.out⟩
set_option maxHeartbeats 8000000 in
set_option maxRecDepth 100000 in
theorem impl_FirstGrounded_any (xs : List Int) (lx : xs.length = 44) (fx : Fits .i16 xs) (a : Option Addr) (cap n : Nat) (hss : List (List Int)) (hl : n = hss.length) (hn : n ≤ 1048576) (hz : ∀ i, i < n → (hss.getD i []).length ≤ 1048576) (hf : ∀ i, Fits .i8 (hss.getD i [])) (hcap : n ≤ cap) (w : World) (hs : SlicesX w a hss) :
    Calls Try.prog 16 #[.agg (kCells .i16 xs), .slice a n cap] w fun e w' => e = .returned (.tuple #[.int .i64 (fgV xs hss), .int .i64 (fgC xs hss)]) ∧ Gr w w' := by
  have LX := hid lx
  have HSX := hid (stockOf_any xs lx)
  have HCK := hid (fun b V (g : Gr w V) hb => checkLH b xs lx fx (.slice a n cap) (allTo (hvAtN hss) n) n V (fun U gU => hoists_isValid a cap n hss hl hn hz hf U ((hs.gr g).gr gU)) (fun U _ => hoists_signals a cap n U) hb)
  rw [show twoC (lockB xs) (allTo (hvAtN hss) n) n = flC xs hss by rw [hl]; exact twoC_fl xs hss] at HCK
  have HCV := hid (fun (h : flC xs hss = 0) k (hk : k < n) V (g : Gr w V) => covers_H xs lx (fl_zero h).1 a cap (k + 1) hss (by omega) (by have := (hosC_zero (fl_zero h).2).2; omega) (fun i hi => hosC_valid (fl_zero h).2 i (by omega)) V (hs.gr g))
  have HN := hid hl
  have HA := hid (fun (h : 0 < n) => show ∃ b off, a = some ⟨b, off, none⟩ from let ⟨b, off, _, e, _⟩ := hs 0 (by omega); ⟨b, off, e⟩)
  clear lx fx hl hz hf hs
  go_enter Try.func16, Try.ntmps16
  go_wp2_with (refine wpList_load_struct rfl 28 (.tmp 2) rfl w.heap.size rfl _ (kCells .i16 xs) _ (heap_new rfl) Try.underlying28 rfl (by rw [kCells_size, LX.out]; kernel_rfl) ?_)
  generalize hW2 : World.alloc _ (.cells _ 74) = W2
  have b0 : Hid (W2.heap[w.heap.size]? = some (.cells (kCells .i16 xs) 28 (0, 0))) := hid (by rw [← hW2]; exact heap_kept (heap_new rfl))
  have bd : Hid (W2.heap[w.heap.size + 1]? = some (.cells #[.iface 28 (.agg (kCells .i16 xs)), .iface 52 (.slice a n cap)] 74 (0, 0))) := hid (by rw [← hW2]; exact heap_new (by simp))
  have gr : Hid (Gr w W2) := hid (by rw [← hW2]; exact ((Gr.refl _).alloc _).alloc _)
  clear hW2
  refine (HCK.out _ _ gr.out bd.out).mono ?_
  rintro e W3 ⟨rfl, g⟩
  replace b0 := hid (g.heap b0.out)
  replace gr := hid (gr.out.trans g)
  clear bd g HCK
  by_cases hc : flC xs hss = 0
  · have HC0 := hid (HCV.out hc)
    have HAT := hid (fun i (e : grnF xs hss n 0 = some i) => fg_at hc (by rw [← HN.out]; exact e))
    have HNO := hid (fun (e : grnF xs hss n 0 = none) => fg_none hc (by rw [← HN.out]; exact e))
    have HON := hid (fun i (hi : i < n) (h : covTo xs (needTo hss (i + 1)) 44 = true) => grnF_on hi h)
    have HHE := hid (fun i (hi : i < n) (h : covTo xs (needTo hss (i + 1)) 44 = false) => grnF_here hi h)
    rw [hc]
    clear HCV hc
    obtain ⟨gn, hgn⟩ : ∃ gn, grnF xs hss n 0 = gn := ⟨_, rfl⟩
    have H00 := hid hgn
    rw [hgn] at HAT HNO
    clear hgn
    go_wp2_with fail
    go_loopw [7, 19] (fun _ i wr => ∃ k : Nat, k ≤ n ∧ i = .int .i64 k ∧ Hid (grnF xs hss (n - k) k = gn) ∧ Hid (wr.heap[w.heap.size]? = some (.cells (kCells .i16 xs) 28 (0, 0))) ∧ Hid (Gr w wr)) (fun _ i _ => n - (intOf i).toNat)
    case atStart => exact ⟨0, Nat.zero_le _, rfl, H00, b0, gr⟩
    case round =>
      clear gr b0
      obtain ⟨k, hk, rfl, hg, hb, gr⟩ := hrel
      by_cases hlt : k < n
      · obtain ⟨b, off, rfl⟩ := HA.out (by omega)
        have HONK := hid (HON.out k hlt)
        have HHEK := hid (HHE.out k hlt)
        have hw1 : IntKind.i64.wrap ((k : Int) + 1) = ((k + 1 : Nat) : Int) := IntWalk.i64_in _ (by omega)
        have hkc : k + 1 ≤ cap := by omega
        have hkc2 : (k : Int) + 1 ≤ (cap : Int) := by omega
        clear HON HHE
        cases hv : covTo xs (needTo hss (k + 1)) 44 with
        | false =>
          have HE := hid ((HHEK.out hv).symm.trans hg.out)
          obtain ⟨eV, eC⟩ := HAT.out k HE.out.symm
          have EV := hid eV
          have EC := hid eC
          have HC1 := hid (HC0.out k hlt)
          rw [hv] at HC1
          clear hv HONK HHEK HAT HNO eV eC HC0
          go_wp2_with fail
          refine wp_region_held_drew (S := fun V => V.heap[w.heap.size]? = some (.cells (kCells .i16 xs) 28 (0, 0)) ∧ Gr w V) (by kernel_rfl) ⟨hb.out, gr.out.drew⟩ (fun hH => ?_)
          have HH := hid hH
          clear hH
          refine wpAnyH_take (i := 0) (v := .agg (kCells .i16 (xs))) rfl (by kernel_rfl) (by kernel_rfl) (by kernel_rfl) (fun _ _ _ h => h) (yields_struct rfl 28 (.tmp 2) rfl (w.heap.size) rfl 28 _ _ (fun _ h => h.1) Try.underlying28 rfl (by rw [kCells_size, LX.out]; kernel_rfl)) HH.out ?_
          try simp only [Act.put, List.getElem_toArray, List.getElem_cons_zero, List.setIfInBounds_toArray, List.set_cons_zero, List.set_cons_succ]
          refine wpAnyH_take (i := 2) (v := .slice (some ⟨b, off, none⟩) n cap) rfl (by kernel_rfl) (by kernel_rfl) (by kernel_rfl) (fun _ _ _ h => h) (Or.inl ⟨by rfl, fun _ _ => by first | rfl | (go_simp; done) | (go_simp; rfl) | (go_simp; intro h; exfalso; omega)⟩) HH.out ?_
          try simp only [Act.put, List.getElem_toArray, List.getElem_cons_zero, List.getElem_cons_succ, List.setIfInBounds_toArray, List.set_cons_zero, List.set_cons_succ]
          refine wpAnyH_take (i := 3) (v := .int .i64 (k : Int)) rfl (by kernel_rfl) (by kernel_rfl) (by kernel_rfl) (fun _ _ _ h => h) (Or.inl ⟨by rfl, fun _ _ => by first | rfl | (go_simp; done) | (go_simp; rfl) | (go_simp; intro h; exfalso; omega)⟩) HH.out ?_
          try simp only [Act.put, List.getElem_toArray, List.getElem_cons_zero, List.getElem_cons_succ, List.setIfInBounds_toArray, List.set_cons_zero, List.set_cons_succ]
          refine wpAnyH_take (i := 4) (v := .int .i64 ((k + 1 : Nat) : Int)) rfl (by kernel_rfl) (by kernel_rfl) (by kernel_rfl) (fun _ _ _ h => h) (Or.inl ⟨by rfl, fun _ _ => by first | rfl | (go_simp; done) | (go_simp; rfl) | (go_simp; intro h; exfalso; omega)⟩) HH.out ?_
          try simp only [Act.put, List.getElem_toArray, List.getElem_cons_zero, List.getElem_cons_succ, List.setIfInBounds_toArray, List.set_cons_zero, List.set_cons_succ]
          refine wpAnyH_take (i := 5) (v := .slice (some ⟨b, off, none⟩) (k + 1) cap) rfl (by kernel_rfl) (by kernel_rfl) (by kernel_rfl) (fun _ _ _ h => h) (Or.inl ⟨by rfl, fun _ _ => by first | rfl | (go_simp; done) | (go_simp; rfl) | (go_simp; intro h; exfalso; omega)⟩) HH.out ?_
          try simp only [Act.put, List.getElem_toArray, List.getElem_cons_zero, List.getElem_cons_succ, List.setIfInBounds_toArray, List.set_cons_zero, List.set_cons_succ]
          refine wpAnyH_take (i := 6) (v := .iface 52 (.slice (some ⟨b, off, none⟩) (k + 1) cap)) rfl (by kernel_rfl) (by kernel_rfl) (by kernel_rfl) (fun _ _ _ h => h) (Or.inl ⟨by rfl, fun _ _ => by first | rfl | (go_simp; done) | (go_simp; rfl) | (go_simp; intro h; exfalso; omega)⟩) HH.out ?_
          try simp only [Act.put, List.getElem_toArray, List.getElem_cons_zero, List.getElem_cons_succ, List.setIfInBounds_toArray, List.set_cons_zero, List.set_cons_succ]
          refine wpAnyH_ready (rs := [1]) (by kernel_rfl) (by simp) (AllReadyH.cons rfl (fun K hK => ?_) AllReadyH.nil)
          rw [if_pos (by rfl)]
          go_simp
          refine (HSX.out _).mono ?_
          rintro e V ⟨rfl, g⟩
          dsimp only
          refine hK.out _ _ ⟨g.heap HH.out.1, HH.out.2.trans g⟩ (fun hH => ?_)
          clear HH hK K
          have HH := hid hH
          clear hH g
          refine wpAnyH_ready (rs := [7]) (by kernel_rfl) (by simp) (AllReadyH.cons rfl (fun K hK => ?_) AllReadyH.nil)
          rw [if_pos (by rfl)]
          go_simp
          refine (HC1.out _ HH.out.2).mono ?_
          rintro e V ⟨rfl, g⟩
          dsimp only
          refine hK.out _ _ ⟨g.heap HH.out.1, HH.out.2.trans g⟩ (fun hH => ?_)
          clear HH hK K
          have HH := hid hH
          clear hH g
          refine wpAnyH_ready (rs := [8]) (by kernel_rfl) (by simp) (AllReadyH.cons rfl (fun K hK => ?_) AllReadyH.nil)
          rw [if_pos (by rfl)]
          go_simp
          refine hK.out _ _ HH.out (fun hH => ?_)
          clear hK K hH
          refine wpAnyH_done (by kernel_rfl) ?_ _
          go_wp2_with fail
          go_ret2
          exact ⟨by rw [EV.out, EC.out]; rfl, HH.out.2⟩
        | true =>
          have HE := hid ((HONK.out hv).symm.trans hg.out)
          have HC1 := hid (HC0.out k hlt)
          rw [hv] at HC1
          clear hv HONK HHEK HAT HNO HC0
          go_wp2_with fail
          refine wp_region_held_drew (S := fun V => V.heap[w.heap.size]? = some (.cells (kCells .i16 xs) 28 (0, 0)) ∧ Gr w V) (by kernel_rfl) ⟨hb.out, gr.out.drew⟩ (fun hH => ?_)
          have HH := hid hH
          clear hH
          refine wpAnyH_take (i := 0) (v := .agg (kCells .i16 (xs))) rfl (by kernel_rfl) (by kernel_rfl) (by kernel_rfl) (fun _ _ _ h => h) (yields_struct rfl 28 (.tmp 2) rfl (w.heap.size) rfl 28 _ _ (fun _ h => h.1) Try.underlying28 rfl (by rw [kCells_size, LX.out]; kernel_rfl)) HH.out ?_
          try simp only [Act.put, List.getElem_toArray, List.getElem_cons_zero, List.setIfInBounds_toArray, List.set_cons_zero, List.set_cons_succ]
          refine wpAnyH_take (i := 2) (v := .slice (some ⟨b, off, none⟩) n cap) rfl (by kernel_rfl) (by kernel_rfl) (by kernel_rfl) (fun _ _ _ h => h) (Or.inl ⟨by rfl, fun _ _ => by first | rfl | (go_simp; done) | (go_simp; rfl) | (go_simp; intro h; exfalso; omega)⟩) HH.out ?_
          try simp only [Act.put, List.getElem_toArray, List.getElem_cons_zero, List.getElem_cons_succ, List.setIfInBounds_toArray, List.set_cons_zero, List.set_cons_succ]
          refine wpAnyH_take (i := 3) (v := .int .i64 (k : Int)) rfl (by kernel_rfl) (by kernel_rfl) (by kernel_rfl) (fun _ _ _ h => h) (Or.inl ⟨by rfl, fun _ _ => by first | rfl | (go_simp; done) | (go_simp; rfl) | (go_simp; intro h; exfalso; omega)⟩) HH.out ?_
          try simp only [Act.put, List.getElem_toArray, List.getElem_cons_zero, List.getElem_cons_succ, List.setIfInBounds_toArray, List.set_cons_zero, List.set_cons_succ]
          refine wpAnyH_take (i := 4) (v := .int .i64 ((k + 1 : Nat) : Int)) rfl (by kernel_rfl) (by kernel_rfl) (by kernel_rfl) (fun _ _ _ h => h) (Or.inl ⟨by rfl, fun _ _ => by first | rfl | (go_simp; done) | (go_simp; rfl) | (go_simp; intro h; exfalso; omega)⟩) HH.out ?_
          try simp only [Act.put, List.getElem_toArray, List.getElem_cons_zero, List.getElem_cons_succ, List.setIfInBounds_toArray, List.set_cons_zero, List.set_cons_succ]
          refine wpAnyH_take (i := 5) (v := .slice (some ⟨b, off, none⟩) (k + 1) cap) rfl (by kernel_rfl) (by kernel_rfl) (by kernel_rfl) (fun _ _ _ h => h) (Or.inl ⟨by rfl, fun _ _ => by first | rfl | (go_simp; done) | (go_simp; rfl) | (go_simp; intro h; exfalso; omega)⟩) HH.out ?_
          try simp only [Act.put, List.getElem_toArray, List.getElem_cons_zero, List.getElem_cons_succ, List.setIfInBounds_toArray, List.set_cons_zero, List.set_cons_succ]
          refine wpAnyH_take (i := 6) (v := .iface 52 (.slice (some ⟨b, off, none⟩) (k + 1) cap)) rfl (by kernel_rfl) (by kernel_rfl) (by kernel_rfl) (fun _ _ _ h => h) (Or.inl ⟨by rfl, fun _ _ => by first | rfl | (go_simp; done) | (go_simp; rfl) | (go_simp; intro h; exfalso; omega)⟩) HH.out ?_
          try simp only [Act.put, List.getElem_toArray, List.getElem_cons_zero, List.getElem_cons_succ, List.setIfInBounds_toArray, List.set_cons_zero, List.set_cons_succ]
          refine wpAnyH_ready (rs := [1]) (by kernel_rfl) (by simp) (AllReadyH.cons rfl (fun K hK => ?_) AllReadyH.nil)
          rw [if_pos (by rfl)]
          go_simp
          refine (HSX.out _).mono ?_
          rintro e V ⟨rfl, g⟩
          dsimp only
          refine hK.out _ _ ⟨g.heap HH.out.1, HH.out.2.trans g⟩ (fun hH => ?_)
          clear HH hK K
          have HH := hid hH
          clear hH g
          refine wpAnyH_ready (rs := [7]) (by kernel_rfl) (by simp) (AllReadyH.cons rfl (fun K hK => ?_) AllReadyH.nil)
          rw [if_pos (by rfl)]
          go_simp
          refine (HC1.out _ HH.out.2).mono ?_
          rintro e V ⟨rfl, g⟩
          dsimp only
          refine hK.out _ _ ⟨g.heap HH.out.1, HH.out.2.trans g⟩ (fun hH => ?_)
          clear HH hK K
          have HH := hid hH
          clear hH g
          refine wpAnyH_ready (rs := [8]) (by kernel_rfl) (by simp) (AllReadyH.cons rfl (fun K hK => ?_) AllReadyH.nil)
          rw [if_pos (by rfl)]
          go_simp
          refine hK.out _ _ HH.out (fun hH => ?_)
          clear hK K hH
          refine wpAnyH_done (by kernel_rfl) ?_ _
          go_wp2_with fail
          go_roundw
          case rel => exact ⟨k + 1, by omega, by go_num, HE, hid HH.out.1, hid HH.out.2⟩
          case measure => simp [intOf] <;> omega
      · have hkn : k = n := by omega
        have hg2 := hg.out
        rw [hkn, Nat.sub_self] at hg2
        obtain ⟨eV, eC⟩ := HNO.out hg2.symm
        have EV := hid eV
        have EC := hid eC
        clear hg2 hkn eV eC HNO HAT
        go_wp2_with fail
        go_ret2
        exact ⟨by rw [EV.out, EC.out]; rfl, gr.out⟩
  · obtain ⟨eV, eC⟩ := fg_no hc
    have EV := hid eV
    have EC := hid eC
    clear HCV eV eC
    generalize flC xs hss = c at *
    have hcb : (c == 0) = false := by simpa using hc
    go_wp2_with fail
    go_ret2
    exact ⟨by rw [EV.out, EC.out]; rfl, gr.out⟩
end Go.Proofs.Ytlhijammadadmaa
