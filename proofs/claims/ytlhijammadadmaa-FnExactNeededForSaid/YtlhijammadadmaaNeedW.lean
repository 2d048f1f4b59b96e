/- What hoists need: the program's functions of the laws. -/
import Derived.Test.YtlhijammadadmaaNeedU
import Derived.Test.YtlhijammadadmaaNeedV
namespace Go.Proofs.Ytlhijammadadmaa
set_option linter.unusedVariables false
open Go.RowKit
theorem shrt_mid {xs ys : List Int} (hx : lockB xs = true) (hy : ∀ k, 0 ≤ ys.getD k 0 ∧ ys.getD k 0 ≤ 1000) : Mid (cmbL shrt xs ys) := fun k => by
  by_cases hk : k < 44
  · rw [cmbL_get hk]
    have h1 := lockB_get hx k
    have h2 := hy k
    unfold shrt
    split <;> omega
  · have : (cmbL shrt xs ys).getD k 0 = 0 := by simp [List.getD, List.getElem?_eq_none (by rw [cmbL_length]; omega : (cmbL shrt xs ys).length ≤ k)]
    omega
set_option maxHeartbeats 4000000 in
set_option maxRecDepth 100000 in
theorem shortFor_H (xs : List Int) (lx : xs.length = 44) (vx : lockB xs = true) (a : Option Addr) (cap n : Nat) (hss : List (List Int)) (hl : n ≤ hss.length) (h6 : n ≤ 6) (hv : ∀ i, i < n → validH (hss.getD i []) = true) (w : World) (hs : SlicesX w a hss) :
    Calls Try.prog 42 #[.agg (kCells .i16 (stk xs)), .iface 52 (.slice a n cap)] w fun e w' => e = .returned (.int .i64 (sumTo (cmbL shrt xs (needTo hss n)) 44)) ∧ Gr w w' := by
  have LX := hid (stk_length lx)
  have HND := hid (fun V (g : Gr w V) => needed_any a cap n hss hl h6 hv V (hs.gr g))
  have HCB := hid (combined_any shrt 46 (callFunc_enter Try.func46 (by kernel_rfl) (by kernel_rfl)) (fun x y hx hy w => shortage_any x y hx hy w) xs (needTo hss n) lx (needTo_length _ _) (mid_of_lock vx) (need_mid h6 hv))
  have HCN := hid (count_mid (cmbL shrt xs (needTo hss n)) (cmbL_length _ _ _) (shrt_mid vx (fun k => by have := needTo_bd hv n (Nat.le_refl _) k; omega)))
  have hta1 : ∀ (W : World) (v : Value), (Instr.typeAssert (.iface 52 v) 74 28 true).run Try.prog W = .ok (.tuple #[.agg (kCells .i16 zeros44), .bool false]) W := fun W v => by kernel_rfl
  have hta2 : ∀ (W : World) (v : Value), (Instr.typeAssert (.iface 52 v) 74 52 true).run Try.prog W = .ok (.tuple #[v, .bool true]) W := fun W v => by kernel_rfl
  have b0 : Hid ((w.alloc (.cells (kCells .i16 (stk xs)) 55)).heap[w.heap.size]? = some (.cells (kCells .i16 (stk xs)) 55 (0, 0))) := hid (heap_new rfl)
  have gr : Hid (Gr w (w.alloc (.cells (kCells .i16 (stk xs)) 55))) := hid ((Gr.refl _).alloc _)
  clear lx vx hl hv hs
  generalize sumTo (cmbL shrt xs (needTo hss n)) 44 = sm at *
  go_enter Try.func42, Try.ntmps42
  go_wp2_with fail
  refine wp_region_held_drew (S := fun V => V.heap[w.heap.size]? = some (.cells (kCells .i16 (stk xs)) 55 (0, 0)) ∧ Gr w V) (by kernel_rfl) ⟨b0.out, gr.out.drew⟩ (fun hH => ?_)
  have HH := hid hH
  clear hH
  refine wpAnyH_take (i := 0) (v := .agg (kCells .i16 (stk xs))) rfl (by kernel_rfl) (by kernel_rfl) (by kernel_rfl) (fun _ _ _ h => h) (yields_struct rfl 55 (.tmp 2) rfl (w.heap.size) rfl 55 _ _ (fun _ h => h.1) Try.underlying55 rfl (by rw [kCells_size, LX.out]; kernel_rfl)) HH.out ?_
  try simp only [Act.put, List.getElem_toArray, List.getElem_cons_zero, List.setIfInBounds_toArray, List.set_cons_zero, List.set_cons_succ]
  refine wpAnyH_take (i := 1) (v := .slice a n cap) rfl (by kernel_rfl) (by kernel_rfl) (by kernel_rfl) (fun _ _ _ h => h) (Or.inl ⟨by rfl, fun _ _ => by first | rfl | (go_simp; done) | (go_simp; rfl) | (go_simp; intro h; exfalso; omega)⟩) HH.out ?_
  try simp only [Act.put, List.getElem_toArray, List.getElem_cons_zero, List.getElem_cons_succ, List.setIfInBounds_toArray, List.set_cons_zero, List.set_cons_succ]
  refine wpAnyH_ready (rs := [2]) (by kernel_rfl) (by simp) (AllReadyH.cons rfl (fun K hK => ?_) AllReadyH.nil)
  rw [if_pos (by rfl)]
  go_simp
  refine (HND.out _ HH.out.2).mono ?_
  rintro e V ⟨rfl, g⟩
  dsimp only
  refine hK.out _ _ ⟨g.heap HH.out.1, HH.out.2.trans g⟩ (fun hH => ?_)
  clear HH hK K
  have HH := hid hH
  clear hH g
  refine wpAnyH_ready (rs := [3]) (by kernel_rfl) (by simp) (AllReadyH.cons rfl (fun K hK => ?_) AllReadyH.nil)
  rw [if_pos (by rfl)]
  go_simp
  refine (HCB.out _).mono ?_
  rintro e V ⟨rfl, g⟩
  dsimp only
  refine hK.out _ _ ⟨g.heap HH.out.1, HH.out.2.trans g⟩ (fun hH => ?_)
  clear HH hK K
  have HH := hid hH
  clear hH g
  refine wpAnyH_ready (rs := [4]) (by kernel_rfl) (by simp) (AllReadyH.cons rfl (fun K hK => ?_) AllReadyH.nil)
  rw [if_pos (by rfl)]
  go_simp
  refine (HCN.out _).mono ?_
  rintro e V ⟨rfl, g⟩
  dsimp only
  refine hK.out _ _ ⟨g.heap HH.out.1, HH.out.2.trans g⟩ (fun hH => ?_)
  clear HH hK K
  have HH := hid hH
  clear hH g
  refine wpAnyH_ready (rs := [5]) (by kernel_rfl) (by simp) (AllReadyH.cons rfl (fun K hK => ?_) AllReadyH.nil)
  rw [if_pos (by rfl)]
  go_simp
  refine hK.out _ _ HH.out (fun hH => ?_)
  clear hK K hH
  refine wpAnyH_done (by kernel_rfl) ?_ _
  go_wp2_with fail
  go_ret
  exact ⟨rfl, HH.out.2⟩
set_option maxHeartbeats 2000000 in
set_option maxRecDepth 100000 in
theorem covers_H (xs : List Int) (lx : xs.length = 44) (vx : lockB xs = true) (a : Option Addr) (cap n : Nat) (hss : List (List Int)) (hl : n ≤ hss.length) (h6 : n ≤ 6) (hv : ∀ i, i < n → validH (hss.getD i []) = true) (w : World) (hs : SlicesX w a hss) :
    Calls Try.prog 34 #[.agg (kCells .i16 (stk xs)), .iface 52 (.slice a n cap)] w fun e w' => e = .returned (.bool (covTo xs (needTo hss n) 44)) ∧ Gr w w' := by
  have LX := hid (stk_length lx)
  have HS := hid (fun V (g : Gr w V) => shortFor_H xs lx vx a cap n hss hl h6 hv V (hs.gr g))
  have HE := hid (covers_eq (xs := xs) (ys := needTo hss n))
  have b0 : Hid ((w.alloc (.cells (kCells .i16 (stk xs)) 55)).heap[w.heap.size]? = some (.cells (kCells .i16 (stk xs)) 55 (0, 0))) := hid (heap_new rfl)
  have gr : Hid (Gr w (w.alloc (.cells (kCells .i16 (stk xs)) 55))) := hid ((Gr.refl _).alloc _)
  clear lx vx hl hv hs
  generalize sumTo (cmbL shrt xs (needTo hss n)) 44 = sm at *
  generalize covTo xs (needTo hss n) 44 = cb at *
  go_enter Try.func34, Try.ntmps34
  go_wp2_with (refine wpList_load_struct rfl 55 _ rfl _ rfl _ (kCells .i16 (stk xs)) _ b0.out Try.underlying55 rfl (by rw [kCells_size, LX.out]; kernel_rfl) ?_)
  refine (HS.out _ gr.out).mono ?_
  rintro e V ⟨rfl, g⟩
  have G := hid (gr.out.trans g)
  clear g
  go_wp2_with fail
  go_ret
  exact ⟨ret_bool (by rw [← HE.out]), G.out⟩
set_option maxHeartbeats 4000000 in
set_option maxRecDepth 100000 in
theorem impl_NeededFor_any (a : Option Addr) (cap n : Nat) (hss : List (List Int)) (hl : n = hss.length) (hn : n ≤ 1048576) (hz : ∀ i, i < n → (hss.getD i []).length ≤ 1048576) (hf : ∀ i, Fits .i8 (hss.getD i [])) (w : World) (hs : SlicesX w a hss) :
    Calls Try.prog 9 #[.slice a n cap] w fun e w' => e = .returned (.tuple #[.agg (kCells .i16 (nfV hss)), .int .i64 (nfC hss)]) ∧ Gr w w' := by
  have HSR := hid (fun V (g : Gr w V) => hs.gr g)
  have HCK := hid (fun b V (g : Gr w V) hb => check1H b (.slice a n cap) (allTo (hvAtN hss) n) n V (fun U gU => hoists_isValid a cap n hss hl hn hz hf U ((hs.gr g).gr gU)) (fun U _ => hoists_signals a cap n U) hb)
  have HND := hid (fun (h : hosC hss = 0) V (g : Gr w V) => needed_any a cap n hss (by omega) (by have := (hosC_zero h).2; omega) (fun i hi => hosC_valid h i (by omega)) V (hs.gr g))
  have HLK := hid (locker_any (needTo hss n) (needTo_length _ _))
  have HVL := hid (fun (h : hosC hss = 0) => impl_ValidLocker_any (needTo hss n) (needTo_length _ _) (need_fits (by have := (hosC_zero h).2; omega) (fun i hi => hosC_valid h i (by omega))))
  have HLN := hid (needTo_length hss n)
  have HN := hid hl
  rw [show oneC (allTo (hvAtN hss) n) n = hosC hss by rw [hl]; exact oneC_ho hss] at HCK
  clear hl hn hz hf hs
  go_enter Try.func9, Try.ntmps9
  go_wp2_with fail
  generalize hW2 : World.alloc _ (.cells _ 74) = W2
  have b0 : Hid (W2.heap[w.heap.size]? = some lkrZ) := hid (by rw [← hW2]; exact heap_kept (heap_new rfl))
  have bd : Hid (W2.heap[w.heap.size + 1]? = some (.cells #[.iface 52 (.slice a n cap)] 74 (0, 0))) := hid (by rw [← hW2]; exact heap_new (by simp))
  have gr : Hid (Gr w W2) := hid (by rw [← hW2]; exact ((Gr.refl _).alloc _).alloc _)
  clear hW2
  refine (HCK.out _ _ gr.out bd.out).mono ?_
  rintro e W3 ⟨rfl, g⟩
  replace b0 := hid (g.heap b0.out)
  replace gr := hid (gr.out.trans g)
  clear bd g
  by_cases hc : hosC hss = 0
  · have HN0 := hid (HND.out hc)
    have HV0 := hid (HVL.out hc)
    have HX := hid hc
    rw [hc]
    clear HND HVL hc
    go_wp2_with fail
    refine (HN0.out _ gr.out).mono ?_
    rintro e W4 ⟨rfl, g⟩
    have b4 := hid (g.heap b0.out)
    have g4 := hid (gr.out.trans g)
    clear g
    go_wp2_with fail
    refine (HLK.out _).mono ?_
    rintro e W5 ⟨rfl, g⟩
    have b5 := hid (g.heap b4.out)
    have g5 := hid (g4.out.trans g)
    have N5 : Hid ((W5.alloc lkrZ).heap[W5.heap.size]? = some lkrZ) := hid (heap_new rfl)
    clear g
    go_wp2_with (first | (refine wpList_store_cells rfl 28 _ _ rfl _ (kCells .i16 (needTo hss n)) (kCells .i16 zeros44) rfl rfl _ 44 N5.out (by kernel_rfl) (by rw [kCells_size, HLN.out]) rfl (kCells_one _ _) ?_) | (refine wpList_load_struct rfl 28 _ rfl W5.heap.size rfl _ (kCells .i16 (needTo hss n)) _ (heap_row_set N5.out) Try.underlying28 rfl (by rw [kCells_size, HLN.out]; kernel_rfl) ?_))
    generalize hW : World.setRow _ _ (kCells .i16 (needTo hss n)) = W6
    have B6 : Hid (W6.heap[w.heap.size]? = some lkrZ) := hid (by rw [← hW]; exact heap_row_kept (by have := lt_of_heap b5.out; omega) (heap_kept b5.out))
    have L6 : Hid (W6.heap[W5.heap.size]? = some (.cells (kCells .i16 (needTo hss n)) 28 (0, 0))) := hid (by rw [← hW]; exact heap_row_set N5.out)
    have G6 : Hid (Gr w W6) := hid (by rw [← hW]; exact (g5.out.alloc _).setRow (by have := g5.out.size; omega) _)
    clear hW N5
    refine (HV0.out _).mono ?_
    rintro e W7 ⟨rfl, g⟩
    have B7 := hid (g.heap B6.out)
    have L7 := hid (g.heap L6.out)
    have G7 := hid (G6.out.trans g)
    clear g
    cases hb : lockB (needTo hss n) with
    | false =>
      obtain ⟨eC, eV⟩ := nf_much HX.out (by rw [← HN.out]; exact hb)
      have EC := hid eC
      have EV := hid eV
      clear eC eV hb
      go_wp2_with (first | (refine wpList_build_to rfl 28 rfl built_locker ?_) | (refine wpList_store_cells rfl 28 _ _ rfl _ (kCells .i16 zeros44) (kCells .i16 zeros44) rfl rfl _ 44 B7.out (by kernel_rfl) rfl rfl (kCells_one _ _) ?_))
      refine bodyPost_ret (results_struct2 (by rfl) _ _ _ _ _ _ _ rfl rfl (heap_row_set B7.out) Try.underlying28 rfl (by kernel_rfl)) rfl ⟨by rw [EV.out, EC.out]; rfl, ?_⟩
      exact G7.out.setRow (Nat.le_refl _) _
    | true =>
      obtain ⟨eC, eV⟩ := nf_ok HX.out (by rw [← HN.out]; exact hb)
      rw [← HN.out] at eV
      have EC := hid eC
      have EV := hid eV
      clear eC eV hb
      go_wp2_with (first | (refine wpList_load_struct rfl 28 _ rfl _ rfl _ (kCells .i16 (needTo hss n)) _ L7.out Try.underlying28 rfl (by rw [kCells_size, HLN.out]; kernel_rfl) ?_) | (refine wpList_store_cells rfl 28 _ _ rfl _ (kCells .i16 (needTo hss n)) (kCells .i16 zeros44) rfl rfl _ 44 B7.out (by kernel_rfl) (by rw [kCells_size, HLN.out]) rfl (kCells_one _ _) ?_))
      refine bodyPost_ret (results_struct2 (by rfl) _ _ _ _ _ _ _ rfl rfl (heap_row_set B7.out) Try.underlying28 rfl (by rw [kCells_size, HLN.out]; kernel_rfl)) rfl ⟨by rw [EV.out, EC.out]; rfl, ?_⟩
      exact G7.out.setRow (Nat.le_refl _) _
  · obtain ⟨eC, eV⟩ := nf_code hc
    have EC := hid eC
    have EV := hid eV
    clear HND HVL HCK eC eV
    generalize hosC hss = c at *
    have hcb : (c == 0) = false := by simpa using hc
    go_wp2_with (first | (refine wpList_build_to rfl 28 rfl built_locker ?_) | (refine wpList_store_cells rfl 28 _ _ rfl _ (kCells .i16 zeros44) (kCells .i16 zeros44) rfl rfl _ 44 b0.out (by kernel_rfl) rfl rfl (kCells_one _ _) ?_))
    refine bodyPost_ret (results_struct2 (by rfl) _ _ _ _ _ _ _ rfl rfl (heap_row_set b0.out) Try.underlying28 rfl (by kernel_rfl)) rfl ⟨by rw [EV.out, EC.out]; rfl, ?_⟩
    exact gr.out.setRow (Nat.le_refl _) _
end Go.Proofs.Ytlhijammadadmaa
