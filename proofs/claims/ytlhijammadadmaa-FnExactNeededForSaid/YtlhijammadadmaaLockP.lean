/- Does a locker cover another one: all functions. -/
import Derived.Test.YtlhijammadadmaaLockN
import Derived.Test.YtlhijammadadmaaLockC
namespace Go.Proofs.Ytlhijammadadmaa
set_option linter.unusedVariables false
open Go.RowKit
def covTo (xs ys : List Int) (k : Nat) : Bool := (List.range k).all fun i => decide (ys.getD i 0 ≤ xs.getD i 0)
theorem covTo_succ (xs ys : List Int) (k : Nat) : covTo xs ys (k + 1) = (covTo xs ys k && decide (ys.getD k 0 ≤ xs.getD k 0)) := by
  unfold covTo
  rw [List.range_succ, List.all_append]
  simp
theorem covTo_yes {xs ys : List Int} {k : Nat} (h : covTo xs ys k = true) (h0 : ys.getD k 0 ≤ xs.getD k 0) : covTo xs ys (k + 1) = true := by rw [covTo_succ, h, decide_eq_true h0]; rfl
theorem covTo_no {xs ys : List Int} {k n : Nat} (hk : k < n) (h0 : xs.getD k 0 < ys.getD k 0) : covTo xs ys n = false := by
  unfold covTo
  rw [List.all_eq_false]
  exact ⟨k, List.mem_range.2 hk, by simp only [decide_eq_true_eq]; omega⟩
theorem shrt_lock {xs ys : List Int} (hx : lockB xs = true) (hy : lockB ys = true) : lockB (cmbL shrt xs ys) = true := by
  unfold lockB
  rw [List.all_eq_true]
  intro x hx'
  unfold cmbL at hx'
  obtain ⟨i, hi, rfl⟩ := List.mem_map.1 hx'
  have h1 := lockB_get hx i
  have h2 := lockB_get hy i
  rw [lkB_iff]
  unfold shrt
  split <;> omega
theorem sum_short {xs ys : List Int} (k : Nat) : k ≤ 44 → 0 ≤ sumTo (cmbL shrt xs ys) k ∧ (sumTo (cmbL shrt xs ys) k = 0 ↔ covTo xs ys k = true) := by
  induction k with
  | zero => intro _; exact ⟨Int.le_refl _, fun _ => rfl, fun _ => rfl⟩
  | succ k ih =>
    intro hk
    obtain ⟨h1, h2⟩ := ih (by omega)
    have e : sumTo (cmbL shrt xs ys) (k + 1) = sumTo (cmbL shrt xs ys) k + shrt (xs.getD k 0) (ys.getD k 0) := by rw [← cmbL_get (f := shrt) (by omega : k < 44)]; rfl
    have h3 : 0 ≤ shrt (xs.getD k 0) (ys.getD k 0) := by unfold shrt; split <;> omega
    have h4 : shrt (xs.getD k 0) (ys.getD k 0) = 0 ↔ ys.getD k 0 ≤ xs.getD k 0 := by unfold shrt; split <;> constructor <;> intro <;> omega
    rw [e, covTo_succ, Bool.and_eq_true, ← h2, decide_eq_true_eq, ← h4]
    constructor
    · omega
    · omega
theorem covers_eq {xs ys : List Int} : (sumTo (cmbL shrt xs ys) 44 == 0) = covTo xs ys 44 := by
  have h := (sum_short (xs := xs) (ys := ys) 44 (Nat.le_refl _)).2
  cases hc : covTo xs ys 44
  · rw [hc] at h
    rw [beq_eq_false_iff_ne]
    intro e
    exact absurd (h.1 e) (by simp)
  · rw [hc] at h
    rw [beq_iff_eq]
    exact h.2 rfl
def covV (xs ys : List Int) : Bool := if lockB xs && lockB ys then covTo xs ys 44 else false
theorem cov_yes {xs ys : List Int} (hx : lockB xs = true) (hy : lockB ys = true) : covV xs ys = covTo xs ys 44 := by unfold covV; rw [hx, hy]; rfl
theorem cov_no {xs ys : List Int} (h : (lockB xs && lockB ys) = false) : covV xs ys = false := by unfold covV; rw [h]; rfl
set_option maxHeartbeats 4000000 in
set_option maxRecDepth 100000 in
theorem shortFor_L (xs ys : List Int) (lx : xs.length = 44) (ly : ys.length = 44) (vx : lockB xs = true) (vy : lockB ys = true) (w : World) :
    Calls Try.prog 42 #[.agg (kCells .i16 (stk xs)), .iface 28 (.agg (kCells .i16 ys))] w fun e w' => e = .returned (.int .i64 (sumTo (cmbL shrt xs ys) 44)) ∧ Gr w w' := by
  have LX := hid (stk_length lx)
  have LY := hid ly
  have HSY := hid (stockOf_any ys ly)
  have HCB := hid (combined_any shrt 46 (callFunc_enter Try.func46 (by kernel_rfl) (by kernel_rfl)) (fun x y hx hy w => shortage_any x y hx hy w) xs ys lx ly (mid_of_lock vx) (mid_of_lock vy))
  have HCN := hid (count_any (cmbL shrt xs ys) (cmbL_length _ _ _) (shrt_lock vx vy))
  have n1 : Hid (((w.alloc (.cells (kCells .i16 (stk xs)) 55)).alloc (.cells (kCells .i16 zeros44) 28)).heap[w.heap.size]? = some (.cells (kCells .i16 (stk xs)) 55 (0, 0))) := hid (heap_kept (heap_new rfl))
  have n2 : Hid (((w.alloc (.cells (kCells .i16 (stk xs)) 55)).alloc (.cells (kCells .i16 zeros44) 28)).heap[w.heap.size + 1]? = some (.cells (kCells .i16 zeros44) 28 (0, 0))) := hid (heap_new (by simp))
  have n3 : Hid (Gr w ((w.alloc (.cells (kCells .i16 (stk xs)) 55)).alloc (.cells (kCells .i16 zeros44) 28))) := hid (((Gr.refl _).alloc _).alloc _)
  have hta : ∀ (W : World) (v : Value), (Instr.typeAssert (.iface 28 v) 74 28 true).run Try.prog W = .ok (.tuple #[v, .bool true]) W := fun W v => by kernel_rfl
  clear lx ly vx vy
  generalize sumTo (cmbL shrt xs ys) 44 = sm at *
  go_enter Try.func42, Try.ntmps42
  go_wp2_with (refine wpList_store_cells rfl 28 _ _ rfl _ (kCells .i16 ys) (kCells .i16 zeros44) rfl rfl _ 44 n2.out (by kernel_rfl) (by rw [kCells_size, LY.out]) rfl (kCells_one _ _) ?_; generalize hW : World.setRow _ _ (kCells .i16 ys) = W2)
  have b0 : Hid (W2.heap[w.heap.size]? = some (.cells (kCells .i16 (stk xs)) 55 (0, 0))) := hid (by rw [← hW]; exact heap_row_kept (by omega) n1.out)
  have b1 : Hid (W2.heap[w.heap.size + 1]? = some (.cells (kCells .i16 ys) 28 (0, 0))) := hid (by rw [← hW]; exact heap_row_set n2.out)
  have gr : Hid (Gr w W2) := hid (by rw [← hW]; exact n3.out.setRow (by omega) _)
  clear hW n1 n2 n3
  refine wp_region_held_drew (S := fun V => V.heap[w.heap.size]? = some (.cells (kCells .i16 (stk xs)) 55 (0, 0)) ∧ V.heap[w.heap.size + 1]? = some (.cells (kCells .i16 (ys)) 28 (0, 0)) ∧ Gr w V) (by kernel_rfl) ⟨b0.out, b1.out, gr.out.drew⟩ (fun hH => ?_)
  have HH := hid hH
  clear hH
  refine wpAnyH_take (i := 0) (v := .agg (kCells .i16 (stk xs))) rfl (by kernel_rfl) (by kernel_rfl) (by kernel_rfl) (fun _ _ _ h => h) (yields_struct rfl 55 (.tmp 2) rfl (w.heap.size) rfl 55 _ _ (fun _ h => h.1) Try.underlying55 rfl (by rw [kCells_size, LX.out]; kernel_rfl)) HH.out ?_
  simp only [Act.put, List.setIfInBounds_toArray]
  refine wpAnyH_take (i := 1) (v := .agg (kCells .i16 (ys))) rfl (by kernel_rfl) (by kernel_rfl) (by kernel_rfl) (fun _ _ _ h => h) (yields_struct rfl 28 (.tmp 5) rfl (w.heap.size + 1) rfl 28 _ _ (fun _ h => h.2.1) Try.underlying28 rfl (by rw [kCells_size, LY.out]; kernel_rfl)) HH.out ?_
  simp only [Act.put]
  refine wpAnyH_ready (rs := [2]) (by kernel_rfl) (by simp) (AllReadyH.cons rfl (fun K hK => ?_) AllReadyH.nil)
  rw [if_pos (by rfl)]
  go_simp
  refine (HSY.out _).mono ?_
  rintro e V ⟨rfl, g⟩
  dsimp only
  refine hK.out _ _ ⟨g.heap HH.out.1, g.heap HH.out.2.1, HH.out.2.2.trans g⟩ (fun hH => ?_)
  clear HH hK K
  have HH := hid hH
  clear hH g
  refine wpAnyH_ready (rs := [3]) (by kernel_rfl) (by simp) (AllReadyH.cons rfl (fun K hK => ?_) AllReadyH.nil)
  rw [if_pos (by rfl)]
  go_simp
  refine (HCB.out _).mono ?_
  rintro e V ⟨rfl, g⟩
  dsimp only
  refine hK.out _ _ ⟨g.heap HH.out.1, g.heap HH.out.2.1, HH.out.2.2.trans g⟩ (fun hH => ?_)
  clear HH hK K
  have HH := hid hH
  clear hH g
  refine wpAnyH_ready (rs := [4]) (by kernel_rfl) (by simp) (AllReadyH.cons rfl (fun K hK => ?_) AllReadyH.nil)
  rw [if_pos (by rfl)]
  go_simp
  refine (HCN.out _).mono ?_
  rintro e V ⟨rfl, g⟩
  dsimp only
  refine hK.out _ _ ⟨g.heap HH.out.1, g.heap HH.out.2.1, HH.out.2.2.trans g⟩ (fun hH => ?_)
  clear HH hK K
  have HH := hid hH
  clear hH g
  refine wpAnyH_ready (rs := [5]) (by kernel_rfl) (by simp) (AllReadyH.cons rfl (fun K hK => ?_) AllReadyH.nil)
  rw [if_pos (by rfl)]
  go_simp
  refine hK.out _ _ HH.out (fun hH => ?_)
  clear hK K hH
  refine wpAnyH_done (by kernel_rfl) ?_ _
  go_wp2_with fail
  go_ret
  exact ⟨rfl, HH.out.2.2⟩
set_option maxHeartbeats 2000000 in
set_option maxRecDepth 100000 in
theorem covers_L (xs ys : List Int) (lx : xs.length = 44) (ly : ys.length = 44) (vx : lockB xs = true) (vy : lockB ys = true) (w : World) :
    Calls Try.prog 34 #[.agg (kCells .i16 (stk xs)), .iface 28 (.agg (kCells .i16 ys))] w fun e w' => e = .returned (.bool (covTo xs ys 44)) ∧ Gr w w' := by
  have LX := hid (stk_length lx)
  have HS := hid (shortFor_L xs ys lx ly vx vy)
  have HE := hid (covers_eq (xs := xs) (ys := ys))
  have b0 : Hid ((w.alloc (.cells (kCells .i16 (stk xs)) 55)).heap[w.heap.size]? = some (.cells (kCells .i16 (stk xs)) 55 (0, 0))) := hid (heap_new rfl)
  have gr : Hid (Gr w (w.alloc (.cells (kCells .i16 (stk xs)) 55))) := hid ((Gr.refl _).alloc _)
  clear lx ly vx vy
  generalize sumTo (cmbL shrt xs ys) 44 = sm at *
  generalize covTo xs ys 44 = cb at *
  go_enter Try.func34, Try.ntmps34
  go_wp2_with (refine wpList_load_struct rfl 55 _ rfl _ rfl _ (kCells .i16 (stk xs)) _ b0.out Try.underlying55 rfl (by rw [kCells_size, LX.out]; kernel_rfl) ?_)
  refine (HS.out _).mono ?_
  rintro e V ⟨rfl, g⟩
  have G := hid (gr.out.trans g)
  clear g
  go_wp2_with fail
  go_ret
  exact ⟨ret_bool (by rw [← HE.out]), G.out⟩
set_option maxHeartbeats 4000000 in
set_option maxRecDepth 100000 in
theorem l04Covers_any (bx by_ : Nat) (tx ty : TypeId) (xs ys : List Int) (lx : xs.length = 44) (ly : ys.length = 44) (w : World) (hx : w.heap[bx]? = some (.cells (kCells .i16 xs) tx (0, 0))) (hy : w.heap[by_]? = some (.cells (kCells .i16 ys) ty (0, 0))) :
    Calls Try.prog 30 #[.pointer (some ⟨bx, 0, none⟩), .pointer (some ⟨by_, 0, none⟩)] w fun e w' => e = .returned (.bool (covTo xs ys 44)) ∧ Gr w w' := by
  have HX := hid (fun k (hk : k < 44) => cell_ints hx (i := k) (by rw [lx]; exact hk))
  have HY := hid (fun k (hk : k < 44) => cell_ints hy (i := k) (by rw [ly]; exact hk))
  have HYES := hid (fun k (h : covTo xs ys k = true) => covTo_yes (xs := xs) (ys := ys) (k := k) h)
  have HNO := hid (fun k (hk : k < 44) => covTo_no (xs := xs) (ys := ys) (k := k) hk)
  have H0 := hid (show covTo xs ys 0 = true from rfl)
  clear lx ly hx hy
  generalize covTo xs ys = cv at *
  go_enter Try.func30, Try.ntmps30
  go_wp2_with fail
  go_loopw [5] (fun i wr => ∃ k : Nat, k ≤ 40 ∧ i = .int .i64 k ∧ Hid (cv k = true) ∧ Hid (Gr w wr)) (fun i _ => 40 - (intOf i).toNat)
  case atStart => exact ⟨0, Nat.zero_le _, rfl, H0, hid (Gr.refl _)⟩
  case round =>
    obtain ⟨k, hk, rfl, hc, hg⟩ := hrel
    by_cases hltk : k < 40
    · have hcx := hg.out.cell (HX.out k (by omega))
      have hcy := hg.out.cell (HY.out k (by omega))
      have HS := hid (HYES.out k hc.out)
      have HN := hid (HNO.out k (by omega))
      generalize xs.getD k 0 = x at *
      generalize ys.getD k 0 = y at *
      have hb0 : (0 : Int) ≤ k := by omega
      have hb1 : (k : Int) < 40 := by omega
      by_cases hxy : x < y
      · have hxy' : decide (x < y) = true := by simpa using hxy
        have HV := hid (HN.out hxy)
        clear HS HN hxy
        go_wp2_with fail
        go_quiet (fail)
        go_wp2_with fail
        go_ret
        exact ⟨ret_bool HV.out.symm, hg.out.drewN _⟩
      · have hxy' : decide (x < y) = false := by simpa using hxy
        have HV := hid (HS.out (by omega))
        clear HS HN hxy
        go_wp2_with fail
        go_quiet (fail)
        go_wp2_with fail
        go_roundw
        case rel => exact ⟨k + 1, by omega, by go_num, HV, hid (hg.out.drewN _)⟩
        case measure => simp [intOf]; omega
    · obtain rfl : k = 40 := by omega
      obtain ⟨wo, hwo⟩ : ∃ wo : World, wo = wr := ⟨_, rfl⟩
      rw [← hwo] at hg ⊢
      clear hwo
      go_wp2_with fail
      go_loopw [6] (fun i wr => ∃ j : Nat, j ≤ 4 ∧ i = .int .i64 j ∧ Hid (cv (40 + j) = true) ∧ Hid (Gr w wr)) (fun i _ => 4 - (intOf i).toNat)
      case atStart => exact ⟨0, Nat.zero_le _, rfl, hc, hg⟩
      case round =>
        obtain ⟨j, hj, rfl, hc, hg⟩ := hrel
        by_cases hltj : j < 4
        · have hcx := hg.out.cell (HX.out (40 + j) (by omega))
          have hcy := hg.out.cell (HY.out (40 + j) (by omega))
          have HS := hid (HYES.out (40 + j) hc.out)
          have HN := hid (HNO.out (40 + j) (by omega))
          generalize xs.getD (40 + j) 0 = x at *
          generalize ys.getD (40 + j) 0 = y at *
          have hb0 : (0 : Int) ≤ j := by omega
          have hb1 : (j : Int) < 4 := by omega
          by_cases hxy : x < y
          · have hxy' : decide (x < y) = true := by simpa using hxy
            have HV := hid (HN.out hxy)
            clear HS HN hxy
            go_wp2_with fail
            go_quiet (fail)
            go_wp2_with fail
            go_ret
            exact ⟨ret_bool HV.out.symm, hg.out.drewN _⟩
          · have hxy' : decide (x < y) = false := by simpa using hxy
            have HV := hid (HS.out (by omega))
            clear HS HN hxy
            go_wp2_with fail
            go_quiet (fail)
            go_wp2_with fail
            go_roundw
            case rel => exact ⟨j + 1, by omega, by go_num, HV, hid (hg.out.drewN _)⟩
            case measure => simp [intOf]; omega
        · obtain rfl : j = 4 := by omega
          go_wp2_with fail
          go_ret
          exact ⟨ret_bool hc.out.symm, hg.out⟩
end Go.Proofs.Ytlhijammadadmaa
