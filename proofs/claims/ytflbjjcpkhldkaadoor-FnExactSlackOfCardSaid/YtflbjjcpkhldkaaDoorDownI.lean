/- When all haul down: the program's function. -/
import Derived.Test.YtflbjjcpkhldkaaDoorDownS
namespace Go.Proofs.YtflbjjcpkhldkaaDoor
set_option linter.unusedVariables false
open Go.RowKit
theorem field_clos (x y : Int) (w : World) : (Instr.field 82 (.agg #[.int .i64 x, .int .i64 y]) 0).run Tryd.prog w = .ok (.int .i64 x) w := by kernel_rfl
set_option maxRecDepth 100000 in
set_option maxHeartbeats 4000000 in
theorem downTimes_any (a : Option Addr) (n c : Nat) (hnc : n ≤ c) (hc : c ≤ maxLen) (ts : List Tm) (hl : n = ts.length) (h0 : 1 ≤ n) (h20 : n ≤ 20) (hok : TsOk ts) (hfr : TsFrom ts) (hc0 : (tmAt ts 0).c = 0) (w : World) (hnv : NeverAt w) (ha : CellsOf w a (tmCells ts)) :
    Calls Tryd.prog 76 #[.slice a n c] w (RetOwn .i64 2 id (downTo ts n) w) := by
  obtain ⟨i0, hi, hz0, hz1, hz2⟩ := info_parts info64
  obtain ⟨b0, o0, rfl, -, -, -, t3⟩ := tm_at ha (i := 0) (by omega)
  have gd : Gr w w.drew := (Gr.refl w).drew
  have HLC := hid (fun V (g : Gr w V) => lastClosed_any (some ⟨b0, o0, none⟩) n c ts hl h0 h20 hc0 V (ha.gr g))
  have HA := hid (fun V (g : Gr w V) k (hk : k < n) => tm_at' (ha.gr g) (i := k) (by omega))
  have HI := hid (fun V (g : Gr w V) k (hk : k < n) => isReached_any k (tmAt ts k) (hok k (by omega)) rfl V (hnv.gr g))
  have HFR := hid (fun k (hk : k < n) => hfr k (by omega))
  have HOK := hid (fun k (hk : k < n) => hok k (by omega))
  have HD1 := hid (show downTo ts 1 = [max (lastC ts) (tmAt ts 0).l] from rfl)
  have HDL := hid (fun k => downTo_length ts k)
  have HDR := hid (fun k (h : k ≤ 20) i => downTo_range hok hfr (by omega) (by omega) k h i)
  have HDS := hid (fun k (h : 1 ≤ k) => downTo_succ ts h)
  have C3 := hid t3
  simp only [Nat.zero_mul, Nat.add_zero] at t3
  generalize (lastTo ts ts.length : Int) = lt at *
  obtain ⟨x, hx⟩ : ∃ x, x = lastC ts := ⟨_, rfl⟩
  obtain ⟨y, hy⟩ : ∃ y, y = (tmAt ts 0).l := ⟨_, rfl⟩
  rw [← hx] at HLC HD1
  rw [← hy] at t3 HD1 C3
  simp only [Nat.zero_mul, Nat.add_zero] at C3
  obtain ⟨m, hm⟩ : ∃ m, max x y = m := ⟨_, rfl⟩
  rw [hm] at HD1
  clear ha hl hok hfr hc0 hnv hx hy
  have h01 : (1 : Int) ≤ n := by omega
  have h02 : 0 < n := h0
  have h03 : (0 : Int) < n := by omega
  have hfd := field_clos x lt
  go_enter Tryd.func76, Tryd.ntmps76
  go_wp2_with fail
  refine wp_region_held_drew (S := fun V => V.cell? ⟨b0, o0 + 3, none⟩ = some (.int .i64 y) ∧ Gr w V) (by kernel_rfl) ⟨t3, gd⟩ (fun hH => ?_)
  have HH := hid hH
  clear hH
  refine wpAnyH_take (i := 0) (v := .slice (some ⟨b0, o0, none⟩) n c) rfl (by kernel_rfl) (by kernel_rfl) (by kernel_rfl) (fun _ _ _ h => h) (Or.inl ⟨by rfl, fun _ _ => by first | rfl | (go_simp; done) | (go_simp; rfl)⟩) HH.out ?_
  simp only [Act.put, List.getElem_toArray, List.getElem_cons_zero, List.setIfInBounds_toArray, List.set_cons_zero, List.set_cons_succ]
  refine wpAnyH_take (i := 3) (v := .slice (some ⟨b0, o0, none⟩) n c) rfl (by kernel_rfl) (by kernel_rfl) (by kernel_rfl) (fun _ _ _ h => h) (Or.inl ⟨by rfl, fun _ _ => by first | rfl | (go_simp; done) | (go_simp; rfl)⟩) HH.out ?_
  simp only [Act.put, List.getElem_toArray, List.getElem_cons_zero, List.getElem_cons_succ, List.setIfInBounds_toArray, List.set_cons_zero, List.set_cons_succ]
  refine wpAnyH_take (i := 4) (v := .pointer (some ⟨b0, o0, none⟩)) rfl (by kernel_rfl) (by kernel_rfl) (by kernel_rfl) (fun _ _ _ h => h) (Or.inl ⟨by rfl, fun _ _ => by first | rfl | (go_simp; done) | (go_simp; rfl)⟩) HH.out ?_
  simp only [Act.put, List.getElem_toArray, List.getElem_cons_zero, List.getElem_cons_succ, List.setIfInBounds_toArray, List.set_cons_zero, List.set_cons_succ]
  refine wpAnyH_take (i := 5) (v := .pointer (some ⟨b0, o0 + 3, none⟩)) rfl (by kernel_rfl) (by kernel_rfl) (by kernel_rfl) (fun _ _ _ h => h) (Or.inl ⟨by rfl, fun _ _ => by first | rfl | (go_simp; done) | (go_simp; rfl)⟩) HH.out ?_
  simp only [Act.put, List.getElem_toArray, List.getElem_cons_zero, List.getElem_cons_succ, List.setIfInBounds_toArray, List.set_cons_zero, List.set_cons_succ]
  refine wpAnyH_take (i := 6) (v := .int .i64 y) rfl (by kernel_rfl) (by kernel_rfl) (by kernel_rfl) (fun _ _ _ h => h) (Or.inl ⟨by rfl, fun V hV => by (obtain ⟨h1, h2⟩ := hV; first | (go_simp; done) | (go_simp; rfl))⟩) HH.out ?_
  simp only [Act.put, List.getElem_toArray, List.getElem_cons_zero, List.getElem_cons_succ, List.setIfInBounds_toArray, List.set_cons_zero, List.set_cons_succ]
  refine wpAnyH_ready (rs := [1]) (by kernel_rfl) (by simp) (AllReadyH.cons rfl (fun K2 hK2 => ?_) AllReadyH.nil)
  rw [if_pos (by rfl)]
  go_simp
  refine (HLC.out _ HH.out.2).mono ?_
  rintro e V ⟨rfl, gV0⟩
  dsimp only
  have gV := HH.out.2.trans gV0
  refine hK2.out _ _ ⟨gV.cell C3.out, gV⟩ (fun hH => ?_)
  clear HH hK2 K2 gV0
  have HH := hid hH
  clear hH
  refine wpAnyH_take (i := 2) (v := .int .i64 x) rfl (by kernel_rfl) (by kernel_rfl) (by kernel_rfl) (fun _ _ _ h => h) (Or.inl ⟨by rfl, fun _ _ => by first | rfl | (go_simp; done) | (go_simp; rfl)⟩) HH.out ?_
  simp only [Act.put, List.getElem_toArray, List.getElem_cons_zero, List.getElem_cons_succ, List.setIfInBounds_toArray, List.set_cons_zero, List.set_cons_succ]
  refine wpAnyH_take (i := 7) (v := .int .i64 m) rfl (by kernel_rfl) (by kernel_rfl) (by kernel_rfl) (fun _ _ _ h => h) (Or.inl ⟨by rfl, fun _ _ => by (go_simp; rw [← hm]; split <;> omega)⟩) HH.out ?_
  simp only [Act.put, List.getElem_toArray, List.getElem_cons_zero, List.getElem_cons_succ, List.setIfInBounds_toArray, List.set_cons_zero, List.set_cons_succ]
  refine wpAnyH_ready (rs := [8]) (by kernel_rfl) (by simp) (AllReadyH.cons rfl (fun K2 hK2 => ?_) AllReadyH.nil)
  rw [if_pos (by rfl)]
  go_simp
  refine hK2.out _ _ ⟨(gV.alloc _).cell C3.out, gV.alloc _⟩ (fun hH => ?_)
  clear HH hK2 K2
  have HH := hid hH
  clear hH
  refine wpAnyH_take (i := 9) (v := .slice (some ⟨V.heap.size, 0, none⟩) 1 1) rfl (by kernel_rfl) (by kernel_rfl) (by kernel_rfl) (fun _ _ _ h => h) (Or.inl ⟨by rfl, fun _ _ => by first | rfl | (go_simp; done) | (go_simp; rfl)⟩) HH.out ?_
  simp only [Act.put, List.getElem_toArray, List.getElem_cons_zero, List.getElem_cons_succ, List.setIfInBounds_toArray, List.set_cons_zero, List.set_cons_succ]
  refine wpAnyH_done (by kernel_rfl) ?_ _
  have OM := hid (Own.ofBlock (k := .i64) (e := 2) (xs := [m]) (heap_new (w := V) (o := .cells (kCells .i64 [m]) 2) rfl) (by unfold maxLen; simp))
  have GV := hid (gV.alloc (.cells (kCells .i64 [m]) 2))
  have hsv := gV.size
  clear gV t3
  by_cases hc1 : c = 1
  · subst hc1
    obtain rfl : n = 1 := by omega
    go_wp2_with fail
    go_loopw [3, 18] (fun v i wr => v = .slice (some ⟨V.heap.size, 0, none⟩) 1 1 ∧ i = .int .i64 0 ∧ wr = V.alloc (.cells (kCells .i64 [m]) 2)) (fun _ _ _ => 0)
    case atStart => exact ⟨rfl, rfl, rfl⟩
    case round =>
      obtain ⟨rfl, rfl, rfl⟩ := hrel
      go_wp2_with fail
      go_ret
      exact ⟨_, rfl, by rw [HD1.out]; exact OM.out.widen hsv (by simp), GV.out⟩
  · have hc2 : 1 < c := by omega
    have hn1 : ((n - 1 : Nat) : Int) = (n : Int) - 1 := by omega
    go_wp2_with fail
    go_loopw [3, 18] (fun v i wr => ∃ j : Nat, j + 1 ≤ n ∧ i = .int .i64 j ∧ Hid (Own .i64 2 wr w.heap.size wr.heap.size v (downTo ts (j + 1))) ∧ Hid (Gr w wr)) (fun _ i _ => n - (intOf i).toNat)
    case atStart => exact ⟨0, h0, rfl, hid (by rw [HD1.out]; exact OM.out.widen hsv (by simp)), GV⟩
    case round =>
      clear OM GV
      obtain ⟨j, hj, rfl, O, G⟩ := hrel
      by_cases hlt : j + 1 < n
      · have hlt2 : (j : Int) < (n : Int) - 1 := by omega
        have hlt3 : (j : Int) < ((n - 1 : Nat) : Int) := by omega
        have hds := HDS.out (j + 1) (by omega)
        have hdl := HDL.out (j + 1)
        have hsz2 : (downTo ts (j + 1)).length ≤ 20 := by rw [hdl]; omega
        have hTk := HOK.out (j + 1) hlt
        have hFk := HFR.out (j + 1) hlt
        have RG := HA.out wr G.out (j + 1) hlt
        rw [show o0 + (j + 1) * 4 = o0 + 4 + j * 4 by omega] at RG
        have RG := hid (range4 RG)
        have HIk := hid (HI.out (wr.alloc (.cells #[.int .i8 (tmAt ts (j + 1)).f, .int .i64 (tmAt ts (j + 1)).s, .int .i64 (tmAt ts (j + 1)).c, .int .i64 (tmAt ts (j + 1)).l] 69)) (G.out.alloc _) (j + 1) hlt)
        have BK := hid (heap_new (w := wr) (o := .cells #[.int .i8 (tmAt ts (j + 1)).f, .int .i64 (tmAt ts (j + 1)).s, .int .i64 (tmAt ts (j + 1)).c, .int .i64 (tmAt ts (j + 1)).l] 69) rfl)
        have GA := hid (G.out.alloc (.cells #[.int .i8 (tmAt ts (j + 1)).f, .int .i64 (tmAt ts (j + 1)).s, .int .i64 (tmAt ts (j + 1)).c, .int .i64 (tmAt ts (j + 1)).l] 69))
        have OA := hid (O.out.gr ((Gr.refl wr).alloc (.cells #[.int .i8 (tmAt ts (j + 1)).f, .int .i64 (tmAt ts (j + 1)).s, .int .i64 (tmAt ts (j + 1)).c, .int .i64 (tmAt ts (j + 1)).l] 69)))
        have hf0 : 0 ≤ (tmAt ts (j + 1)).l → 0 ≤ (tmAt ts (j + 1)).f := by
          intro hl0
          rcases hTk with h | ⟨h1, -, h3, -⟩
          · rw [h] at hl0; simp [noT] at hl0
          · by_cases h4 : (tmAt ts (j + 1)).f = -1
            · have := h3 h4; omega
            · omega
        generalize (tmAt ts (j + 1)).f = f0 at *
        generalize (tmAt ts (j + 1)).s = s0 at *
        generalize (tmAt ts (j + 1)).c = c0 at *
        generalize (tmAt ts (j + 1)).l = l0 at *
        obtain ⟨av, cv, rfl⟩ := O.out.shape
        rw [hdl]
        cases hq : decide (0 ≤ l0)
        · rw [hq] at HIk
          have HDX := hid (by have h := hds; rw [if_neg (of_decide_eq_false hq)] at h; exact h)
          clear hds hTk hFk hf0 hq
          go_wp2_with (refine wpList_load_mid rfl 69 _ rfl b0 (o0 + 4 + j * 4) rfl _ _ RG.out Tryd.underlying69 rfl sizeTimes ?_)
          refine HIk.out.mono ?_
          rintro e w1 ⟨rfl, g1⟩
          have G1 := hid (GA.out.trans g1)
          have O1 := hid (OA.out.gr g1)
          rw [hdl] at O1
          clear g1 RG hdl
          go_wp2_with (at_builtin; refine wpList_append_own _ rfl _ _ 40 rfl w.heap.size 2 i0 (.int .i64 0) 1 8 Tryd.underlying40 hi hz0 hz1 hz2 rfl (by decide) _ _ _ rfl (O1.out.row.alloc _) ⟨w1.heap.size, 0, none⟩ 1 1 [.int .i64 (-1)] rfl rfl (news_one (heap_new rfl)) (by simp [Value.oneCell']) (by unfold maxLen; omega) (by omega) (by have := G1.out.size; simp; omega) ?_; intro v2 w5 hown2 hgrow2 _)
          have G5 := hid ((G1.out.alloc (.cells #[.int .i64 (-1)] 2)).by_ hgrow2 (fun b e => (O1.out.row.lt b e).1))
          have O5 := hid (show Own .i64 2 w5 w.heap.size w5.heap.size v2 (downTo ts (j + 1 + 1)) by rw [HDX.out]; exact Own.ofRow hown2 (by simp) (by simp))
          clear hown2 hgrow2
          go_wp2_with fail
          go_roundw
          case rel => exact ⟨j + 1, by omega, by go_num, O5, G5⟩
          case measure => simp [intOf] <;> omega
        · rw [hq] at HIk
          have hl0 : 0 ≤ l0 := of_decide_eq_true hq
          obtain ⟨hfk, -⟩ := hFk (hf0 hl0)
          obtain ⟨q, rfl⟩ : ∃ q : Nat, f0 = (q : Int) := ⟨f0.toNat, by have := hf0 hl0; omega⟩
          rw [if_pos hl0, Int.toNat_natCast] at hds
          have hqk : q < j + 1 := by omega
          have hrg := HDR.out (j + 1) (by omega) q
          have HDX := hid hds
          have OQ := hid (fun V (g : Gr wr V) => (O.out.gr g).at_ (i := q) (by rw [hdl]; exact hqk))
          have hqn2 : (q : Int) < (j : Int) + 1 := by omega
          generalize (downTo ts (j + 1)).getD q 0 = y2 at *
          have ey : IntKind.i64.wrap (y2 + 1) = y2 + 1 := IntWalk.i64_in _ (by omega)
          clear hds hTk hFk hf0 hq
          go_wp2_with (refine wpList_load_mid rfl 69 _ rfl b0 (o0 + 4 + j * 4) rfl _ _ RG.out Tryd.underlying69 rfl sizeTimes ?_)
          refine HIk.out.mono ?_
          rintro e w1 ⟨rfl, g1⟩
          have G1 := hid (GA.out.trans g1)
          have O1 := hid (OA.out.gr g1)
          obtain ⟨g3, rfl, -, c3, -⟩ := OQ.out w1 (((Gr.refl wr).alloc _).trans g1)
          have cf : w1.cell? ⟨wr.heap.size, 0, none⟩ = some (.int .i8 q) := by rw [cell_of_row _ _ _ _ _ _ (g1.heap BK.out)]; rfl
          rw [hdl] at O1
          clear g1 RG hdl
          go_wp2_with (at_builtin; refine wpList_append_own _ rfl _ _ 40 rfl w.heap.size 2 i0 (.int .i64 0) 1 8 Tryd.underlying40 hi hz0 hz1 hz2 rfl (by decide) _ _ _ rfl (O1.out.row.alloc _) ⟨w1.heap.size, 0, none⟩ 1 1 [.int .i64 (y2 + 1)] rfl rfl (news_one (heap_new rfl)) (by simp [Value.oneCell']) (by unfold maxLen; omega) (by omega) (by have := G1.out.size; simp; omega) ?_; intro v2 w5 hown2 hgrow2 _)
          have G5 := hid ((G1.out.alloc (.cells #[.int .i64 (y2 + 1)] 2)).by_ hgrow2 (fun b e => (O1.out.row.lt b e).1))
          have O5 := hid (show Own .i64 2 w5 w.heap.size w5.heap.size v2 (downTo ts (j + 1 + 1)) by rw [HDX.out]; exact Own.ofRow hown2 (by simp) (by simp))
          clear hown2 hgrow2
          go_wp2_with fail
          go_roundw
          case rel => exact ⟨j + 1, by omega, by go_num, O5, G5⟩
          case measure => simp [intOf] <;> omega
      · obtain rfl : n = j + 1 := by omega
        go_wp2_with fail
        go_ret
        exact ⟨_, rfl, O.out, G.out⟩
end Go.Proofs.YtflbjjcpkhldkaaDoor
