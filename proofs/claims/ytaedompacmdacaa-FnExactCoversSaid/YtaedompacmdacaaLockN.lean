/- What is missing from a locker: the program's function. -/
import Derived.Test.YtaedompacmdacaaLockG
import Derived.Test.YtaedompacmdacaaLockH
import Derived.Test.YtaedompacmdacaaHeldS
namespace Go.Proofs.Ytaedompacmdacaa
open Go.RowKit
def missV (xs ys : List Int) : List Int := if lockB xs && lockB ys then cmbL shrt xs ys else zeros44
def missC (xs ys : List Int) : Int := if lockB xs && lockB ys then 0 else 1
theorem missV_length (xs ys : List Int) : (missV xs ys).length = 44 := by
  unfold missV
  split
  · exact cmbL_length _ _ _
  · rfl
theorem miss_yes {xs ys : List Int} (hx : lockB xs = true) (hy : lockB ys = true) : missV xs ys = cmbL shrt xs ys ∧ missC xs ys = 0 := by unfold missV missC; rw [hx, hy]; exact ⟨rfl, rfl⟩
theorem miss_no {xs ys : List Int} (h : (lockB xs && lockB ys) = false) : missV xs ys = zeros44 ∧ missC xs ys = 1 := by unfold missV missC; rw [h]; exact ⟨rfl, rfl⟩
theorem twoC_no {a b : Bool} (h : (a && b) = false) (s : Int) : twoC a b s = 1 := by unfold twoC; rw [h]; rfl
theorem twoC_yes {a b : Bool} (h : (a && b) = true) : twoC a b 0 = 0 := by unfold twoC; rw [h]; rfl
set_option maxHeartbeats 4000000 in
set_option maxRecDepth 100000 in
theorem impl_MissingFrom_any (xs ys : List Int) (lx : xs.length = 44) (ly : ys.length = 44) (fx : Fits .i16 xs) (fy : Fits .i16 ys) (w : World) :
    Calls Try.prog 24 #[.agg (kCells .i16 xs), .agg (kCells .i16 ys)] w fun e w' => e = .returned (.tuple #[.agg (kCells .i16 (missV xs ys)), .int .i64 (missC xs ys)]) ∧ Gr w w' := by
  have LX := hid lx
  have LY := hid ly
  have HCK := hid (fun b W hb => checkLL b xs lx fx (.agg (kCells .i16 ys)) (lockB ys) 0 W (fun V _ => locker_isValid ys ly fy V) (fun V _ => locker_signals ys V) hb)
  have HSX := hid (stockOf_any xs lx)
  have HSY := hid (stockOf_any ys ly)
  have HCB := hid (fun (hx : lockB xs = true) (hy : lockB ys = true) => combined_any shrt 67 (callFunc_enter Try.func67 (by kernel_rfl) (by kernel_rfl)) (fun x y hx hy w => shortage_any x y hx hy w) xs ys lx ly (mid_of_lock hx) (mid_of_lock hy))
  have HLK := hid (locker_any (cmbL shrt xs ys) (cmbL_length _ _ _))
  have HLC := hid (cmbL_length shrt xs ys)
  clear lx ly fx fy
  go_enter Try.func24, Try.ntmps24
  go_wp2_with (first | (refine wpList_load_struct rfl 28 (.tmp 2) rfl w.heap.size rfl _ (kCells .i16 xs) _ (heap_kept (heap_kept (heap_new rfl))) Try.underlying28 rfl (by rw [kCells_size, LX.out]; kernel_rfl) ?_) | (refine wpList_load_struct rfl 28 (.tmp 3) rfl (w.heap.size + 1) rfl _ (kCells .i16 ys) _ (heap_kept (heap_new (by simp))) Try.underlying28 rfl (by rw [kCells_size, LY.out]; kernel_rfl) ?_))
  generalize hW2 : World.alloc _ (.cells _ 112) = W2
  have b0 : Hid (W2.heap[w.heap.size]? = some (.cells (kCells .i16 xs) 28 (0, 0))) := hid (by rw [← hW2]; exact heap_kept (heap_kept (heap_kept (heap_new rfl))))
  have b1 : Hid (W2.heap[w.heap.size + 1]? = some (.cells (kCells .i16 ys) 28 (0, 0))) := hid (by rw [← hW2]; exact heap_kept (heap_kept (heap_new (by simp))))
  have b2 : Hid (W2.heap[w.heap.size + 1 + 1]? = some (.cells (kCells .i16 zeros44) 28 (0, 0))) := hid (by rw [← hW2]; exact heap_kept (heap_new (by simp)))
  have bd : Hid (W2.heap[w.heap.size + 1 + 1 + 1]? = some (.cells #[.iface 28 (.agg (kCells .i16 xs)), .iface 28 (.agg (kCells .i16 ys))] 112 (0, 0))) := hid (by rw [← hW2]; exact heap_new (by simp))
  have gr : Hid (Gr w W2) := hid (by rw [← hW2]; exact ((((Gr.refl _).alloc _).alloc _).alloc _).alloc _)
  clear hW2
  refine (HCK.out _ _ bd.out).mono ?_
  rintro e W3 ⟨rfl, g⟩
  replace b0 := hid (g.heap b0.out)
  replace b1 := hid (g.heap b1.out)
  replace b2 := hid (g.heap b2.out)
  replace gr := hid (gr.out.trans g)
  clear bd g
  cases hv : (lockB xs && lockB ys) with
  | false =>
    obtain ⟨eV, eC⟩ := miss_no hv
    rw [twoC_no hv]
    have EV := hid eV
    have EC := hid eC
    clear eV eC hv HCB
    go_wp2_with (first | (refine wpList_build_to rfl 28 rfl built_locker ?_) | (refine wpList_store_cells rfl 28 _ _ rfl _ (kCells .i16 zeros44) (kCells .i16 zeros44) rfl rfl _ 44 b2.out (by kernel_rfl) rfl rfl (kCells_one _ _) ?_))
    refine bodyPost_ret (results_struct2 (by rfl) _ _ _ _ _ _ _ rfl rfl (heap_row_set b2.out) Try.underlying28 rfl (by kernel_rfl)) rfl ⟨by rw [EV.out, EC.out]; rfl, ?_⟩
    exact gr.out.setRow (by omega) _
  | true =>
    obtain ⟨hx, hy⟩ : lockB xs = true ∧ lockB ys = true := by simpa using hv
    obtain ⟨eV, eC⟩ := miss_yes hx hy
    replace HCB := hid (HCB.out hx hy)
    rw [twoC_yes hv]
    have EV := hid eV
    have EC := hid eC
    clear eV eC hv hx hy
    go_wp2_with fail
    refine wp_region_held_drew (S := fun V => V.heap[w.heap.size]? = some (.cells (kCells .i16 (xs)) 28 (0, 0)) ∧ V.heap[w.heap.size + 1]? = some (.cells (kCells .i16 (ys)) 28 (0, 0)) ∧ (∃ zs : List Int, zs.length = 44 ∧ V.heap[w.heap.size + 1 + 1]? = some (.cells (kCells .i16 zs) 28 (0, 0))) ∧ Gr w V) (by kernel_rfl) ⟨b0.out, b1.out, ⟨_, rfl, b2.out⟩, gr.out.drew⟩ (fun hH => ?_)
    have HH := hid hH
    clear hH
    refine wpAnyH_take (i := 0) (v := .agg (kCells .i16 (xs))) rfl (by kernel_rfl) (by kernel_rfl) (by kernel_rfl) (fun _ _ _ h => h) (yields_struct rfl 28 (.tmp 2) rfl (w.heap.size) rfl 28 _ _ (fun _ h => h.1) Try.underlying28 rfl (by rw [kCells_size, LX.out]; kernel_rfl)) HH.out ?_
    simp only [Act.put, List.setIfInBounds_toArray, List.set_cons_zero, List.set_cons_succ]
    refine wpAnyH_take (i := 2) (v := .agg (kCells .i16 (ys))) rfl (by kernel_rfl) (by kernel_rfl) (by kernel_rfl) (fun _ _ _ h => h) (yields_struct rfl 28 (.tmp 3) rfl (w.heap.size + 1) rfl 28 _ _ (fun _ h => h.2.1) Try.underlying28 rfl (by rw [kCells_size, LY.out]; kernel_rfl)) HH.out ?_
    simp only [Act.put, List.setIfInBounds_toArray, List.set_cons_zero, List.set_cons_succ]
    refine wpAnyH_ready (rs := [1]) (by kernel_rfl) (by simp) (AllReadyH.cons rfl (fun K hK => ?_) AllReadyH.nil)
    rw [if_pos (by rfl)]
    go_simp
    refine (HSX.out _).mono ?_
    rintro e V ⟨rfl, g⟩
    dsimp only
    refine hK.out _ _ ⟨g.heap HH.out.1, g.heap HH.out.2.1, (by obtain ⟨zs, z1, z2⟩ := HH.out.2.2.1; exact ⟨zs, z1, g.heap z2⟩), HH.out.2.2.2.trans g⟩ (fun hH => ?_)
    clear HH hK K
    have HH := hid hH
    clear hH g
    refine wpAnyH_ready (rs := [3]) (by kernel_rfl) (by simp) (AllReadyH.cons rfl (fun K hK => ?_) AllReadyH.nil)
    rw [if_pos (by rfl)]
    go_simp
    refine (HSY.out _).mono ?_
    rintro e V ⟨rfl, g⟩
    dsimp only
    refine hK.out _ _ ⟨g.heap HH.out.1, g.heap HH.out.2.1, (by obtain ⟨zs, z1, z2⟩ := HH.out.2.2.1; exact ⟨zs, z1, g.heap z2⟩), HH.out.2.2.2.trans g⟩ (fun hH => ?_)
    clear HH hK K
    have HH := hid hH
    clear hH g
    refine wpAnyH_ready (rs := [4]) (by kernel_rfl) (by simp) (AllReadyH.cons rfl (fun K hK => ?_) AllReadyH.nil)
    rw [if_pos (by rfl)]
    go_simp
    refine (HCB.out _).mono ?_
    rintro e V ⟨rfl, g⟩
    dsimp only
    refine hK.out _ _ ⟨g.heap HH.out.1, g.heap HH.out.2.1, (by obtain ⟨zs, z1, z2⟩ := HH.out.2.2.1; exact ⟨zs, z1, g.heap z2⟩), HH.out.2.2.2.trans g⟩ (fun hH => ?_)
    clear HH hK K
    have HH := hid hH
    clear hH g
    refine wpAnyH_ready (rs := [5]) (by kernel_rfl) (by simp) (AllReadyH.cons rfl (fun K hK => ?_) AllReadyH.nil)
    rw [if_pos (by rfl)]
    go_simp
    refine (HLK.out _).mono ?_
    rintro e V ⟨rfl, g⟩
    dsimp only
    refine hK.out _ _ ⟨g.heap HH.out.1, g.heap HH.out.2.1, (by obtain ⟨zs, z1, z2⟩ := HH.out.2.2.1; exact ⟨zs, z1, g.heap z2⟩), HH.out.2.2.2.trans g⟩ (fun hH => ?_)
    clear HH hK K
    have HH := hid hH
    clear hH g
    refine wpAnyH_ready (rs := [6]) (by kernel_rfl) (by simp) (AllReadyH.cons rfl (fun K hK => ?_) AllReadyH.nil)
    rw [if_pos (by rfl)]
    obtain ⟨zs, hzs, hzb⟩ := HH.out.2.2.1
    refine wp_store_row 28 _ _ rfl (w.heap.size + 1 + 1) (kCells .i16 (cmbL shrt xs ys)) rfl rfl 28 (kCells .i16 zs) hzb (by rw [kCells_size, HLC.out]; kernel_rfl) (by rw [kCells_size, kCells_size, hzs, HLC.out]) (kCells_one _ _) ?_
    simp only [Act.put, List.setIfInBounds_toArray, List.set_cons_zero, List.set_cons_succ]
    have HB := hid (heap_row_set (cs := kCells .i16 (cmbL shrt xs ys)) hzb)
    refine hK.out _ _ ⟨heap_row_kept (by omega) HH.out.1, heap_row_kept (by omega) HH.out.2.1, ⟨_, HLC.out, HB.out⟩, HH.out.2.2.2.setRow (by omega) _⟩ (fun hH => ?_)
    clear HH hK K
    have HH := hid hH
    clear hH hzb hzs
    refine wpAnyH_ready (rs := [7]) (by kernel_rfl) (by simp) (AllReadyH.cons rfl (fun K hK => ?_) AllReadyH.nil)
    rw [if_pos (by rfl)]
    go_simp
    refine hK.out _ _ HH.out (fun hH => ?_)
    clear hK K hH
    refine wpAnyH_done (by kernel_rfl) ?_ _
    go_wp2_with fail
    refine bodyPost_ret (results_struct2 (by rfl) _ _ _ _ _ _ _ rfl rfl HB.out Try.underlying28 rfl (by rw [kCells_size, HLC.out]; kernel_rfl)) rfl ⟨by rw [EV.out, EC.out]; rfl, HH.out.2.2.2⟩
end Go.Proofs.Ytaedompacmdacaa
