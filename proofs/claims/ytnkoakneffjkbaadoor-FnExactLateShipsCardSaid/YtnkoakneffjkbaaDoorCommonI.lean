/- The longest list of pairs that agree: the program's table, and the search for the next entry that agrees. -/
import Derived.Test.YtnkoakneffjkbaaDoorSides
namespace Go.Proofs.YtnkoakneffjkbaaDoor
set_option linter.unusedVariables false
open Go.RowKit
set_option maxRecDepth 100000 in
set_option maxHeartbeats 2000000 in
theorem lcTell_any (a b : Option Addr) (n m ca cb : Nat) (es fs : List En) (hn6 : n ≤ 60) (hm6 : m ≤ 60) (V : World) (h2 : Logs2 V a b n m es fs) (lo tb cap : Nat) (rb : Nat → Nat) (i k : Nat) (hi : i ≤ n) (hk : k ≤ m) (ht : Tab V lo tb (n + 1) (m + 1) (lcT es fs) i i (k + 1) rb) (g : Nat)
    (hg : V.heap[g]? = some (.cells (sidesC a b n m ca cb) 67 (0, 0))) :
    Calls Tryd.prog 71 #[.slice (some ⟨tb, 0, none⟩) (n + 1) cap, .int .i64 i, .int .i64 k, .pointer (some ⟨g, 0, none⟩)] V fun e w' => e = .returned (.int .i64 (lcT es fs i k)) ∧ Gr V w' := by
  have c0 : V.cell? ⟨g, 0, none⟩ = some (.slice a n ca) := by rw [cell_of_row _ _ _ _ _ _ hg]; rfl
  have c1 : V.cell? ⟨g, 1, none⟩ = some (.slice b m cb) := by rw [cell_of_row _ _ _ _ _ _ hg]; rfl
  have hLT := lcT.eq_1 es fs i k
  have hln := h2.n_
  have hlm := h2.m_
  have bd1 := lcT_bd es fs (i + 1) k (by omega) (by omega)
  have bd2 := lcT_bd es fs i (k + 1) (by omega) (by omega)
  have bd3 := lcT_bd es fs (i + 1) (k + 1) (by omega) (by omega)
  rw [← hln, ← hlm] at hLT
  have hin : (0 : Int) ≤ i := by omega
  have hkn : (0 : Int) ≤ k := by omega
  by_cases hi1 : i < n
  · have hni : ((i : Int) == (n : Int)) = false := beq_eq_false_iff_ne.2 (by omega)
    by_cases hk1 : k < m
    · have hnk : ((k : Int) == (m : Int)) = false := beq_eq_false_iff_ne.2 (by omega)
      rw [if_pos ⟨hi1, hk1⟩] at hLT
      have r1 := ht.row (r := i + 1) (by omega) (by omega)
      have r0 := ht.row (r := i) (Nat.le_refl _) (by omega)
      have d1 := ht.cell (r := i + 1) (c := k) (by omega) (by omega) (by omega) (.inl (by omega))
      have d2 := ht.cell (r := i) (c := k + 1) (Nat.le_refl _) (by omega) (by omega) (.inr ⟨rfl, Nat.le_refl _⟩)
      have d3 := ht.cell (r := i + 1) (c := k + 1) (by omega) (by omega) (by omega) (.inl (by omega))
      obtain ⟨b0, o0, rfl, p0, p1, p2⟩ := en_at h2.fst (i := i) (by omega)
      obtain ⟨b1, o1, rfl, q0, q1, q2⟩ := en_at h2.snd (i := k) (by omega)
      have HRG0 := hid (range3 ⟨p0, p1, p2⟩)
      have HRG1 := hid (range3 ⟨q0, q1, q2⟩)
      have HAG := hid (fun V => agrees_any (enAt es i) (enAt fs k) V)
      have HLT := hid hLT
      generalize lcT es fs i k = r at *
      generalize lcT es fs (i + 1) k = x1 at *
      generalize lcT es fs i (k + 1) = x2 at *
      generalize lcT es fs (i + 1) (k + 1) = x3 at *
      generalize agE (enAt es i) (enAt fs k) = ag at *
      generalize enAt es i = x at *
      generalize enAt fs k = y at *
      unfold enV at HAG
      obtain ⟨xt, xs, xd⟩ := x
      obtain ⟨yt, ys, yd⟩ := y
      simp only at HRG0 HRG1 HAG
      generalize rb (i + 1) = g1 at *
      generalize rb i = g0 at *
      have hi2 : (i : Int) < n := by omega
      have hk2 : (k : Int) < m := by omega
      have hi3 : (i : Int) + 1 < (n + 1 : Nat) := by omega
      have hk3 : (k : Int) + 1 < (m + 1 : Nat) := by omega
      have e1 : IntKind.i64.wrap ((i : Int) + 1) = (i : Int) + 1 := IntWalk.i64_in _ (by omega)
      have e2 : IntKind.i64.wrap ((k : Int) + 1) = (k : Int) + 1 := IntWalk.i64_in _ (by omega)
      have e3 : IntKind.i64.wrap (1 + x3) = 1 + x3 := IntWalk.i64_in _ (by omega)
      clear p0 p1 p2 q0 q1 q2 h2 ht hg hLT hln hlm
      go_enter Tryd.func71, Tryd.ntmps71
      go_wp2_with fail
      go_quiet (fail)
      go_wp2_with fail
      all_goals
        refine wp_region_still_tail 10 (by kernel_rfl) (by kernel_rfl) ?_
        simp only [List.take_succ_cons, List.take_zero, List.drop_succ_cons, List.drop_zero]
        change wpStill _ _ ((V.drewN nq).drew) _ _ _
        have GW := hid (show Gr V ((V.drewN nq).drew) from ((Gr.refl V).drewN nq).drew)
        generalize (V.drewN nq).drew = W1 at *
        have w0 := GW.out.cell c0
        have w1 := GW.out.cell c1
        have RG0 : Hid (W1.rangeAt b0 (o0 + i * 3) [.int .i64 xt, .int .i64 xs, .bool xd]) := hid (fun j v hv => GW.out.cell (HRG0.out j v hv))
        have RG1 : Hid (W1.rangeAt b1 (o1 + k * 3) [.int .i64 yt, .int .i64 ys, .bool yd]) := hid (fun j v hv => GW.out.cell (HRG1.out j v hv))
        repeat still_step
        refine wpStill_load_mid rfl 58 (.tmp 41) rfl b0 (o0 + i * 3) rfl _ _ RG0.out Tryd.underlying58 rfl sizeEn ?_
        simp only [Act.put, List.setIfInBounds_toArray, List.set_cons_zero, List.set_cons_succ]
        repeat still_step
        refine wpStill_load_mid rfl 58 (.tmp 46) rfl b1 (o1 + k * 3) rfl _ _ RG1.out Tryd.underlying58 rfl sizeEn ?_
        simp only [Act.put, List.setIfInBounds_toArray, List.set_cons_zero, List.set_cons_succ]
        refine wpStill_nil ?_
        go_wp2_with fail
        refine (HAG.out _).mono ?_
        rintro e w2 ⟨rfl, g2⟩
        have G2 := hid (show Gr V w2 from (((Gr.refl V).drewN nq).drew).trans g2)
        have t1 := G2.out.cell r1
        have t2 := G2.out.cell d3
        clear g2 c0 c1 r1 r0 d1 d2 d3 w0 w1 RG0 RG1
        cases ag with
        | false =>
          have HR := hid (show r = max x1 x2 by rw [HLT.out, if_neg (by simp)])
          go_wp2_with fail
          go_ret
          exact ⟨ret_int (by rw [HR.out]; omega), G2.out⟩
        | true =>
          have HR := hid (show r = max (max x1 x2) (1 + x3) by rw [HLT.out, if_pos rfl])
          go_wp2_with fail
          all_goals
            go_ret
            exact ⟨ret_int (by rw [HR.out]; omega), G2.out⟩
    · have hkm : k = m := by omega
      subst hkm
      rw [if_neg (by omega)] at hLT
      have HR := hid hLT
      clear h2 ht hg hLT hln hlm
      go_enter Tryd.func71, Tryd.ntmps71
      go_wp2_with fail
      go_ret
      exact ⟨ret_int HR.out.symm, Gr.refl _⟩
  · have hkm : i = n := by omega
    subst hkm
    rw [if_neg (by omega)] at hLT
    have HR := hid hLT
    clear h2 ht hg hLT hln hlm
    go_enter Tryd.func71, Tryd.ntmps71
    go_wp2_with fail
    go_ret
    exact ⟨ret_int HR.out.symm, Gr.refl _⟩
set_option maxRecDepth 100000 in
set_option maxHeartbeats 1000000 in
theorem longestCommon_any (a b : Option Addr) (n m ca cb : Nat) (es fs : List En) (hn6 : n ≤ 60) (hm6 : m ≤ 60) (w : World) (h2 : Logs2 w a b n m es fs) :
    Calls Tryd.prog 37 #[.agg (sidesC a b n m ca cb)] w fun e w' => ∃ tb rb, e = .returned (.slice (some ⟨tb, 0, none⟩) (n + 1) (n + 1)) ∧ Tab w' w.heap.size tb (n + 1) (m + 1) (lcT es fs) 0 0 0 rb ∧ Gr w w' := by
  have hmf : ∀ (fn : Fn) (first cap : Array Value) (w : World), (Instr.makeFunc fn first cap).run Tryd.prog w = .ok (.func fn first cap) w := fun _ _ _ _ => rfl
  obtain ⟨W1, hW1⟩ : ∃ W1, W1 = w.alloc (.cells (sidesC a b n m ca cb) 67) := ⟨_, rfl⟩
  have GW := hid (show Gr w W1 by rw [hW1]; exact (Gr.refl w).alloc _)
  have B1 := hid (show W1.heap[w.heap.size]? = some (.cells (sidesC a b n m ca cb) 67 (0, 0)) by rw [hW1]; exact heap_new rfl)
  have HT := hid (table_any a b n m ca cb es fs hn6 hm6 71 #[.pointer (some ⟨w.heap.size, 0, none⟩)] (lcT es fs) (fun args w => callFunc_enter Tryd.func71 (by kernel_rfl) (by kernel_rfl) args w) W1 (h2.gr GW.out)
    (fun V lo tb cap rb i k gV hi hk ht => lcTell_any a b n m ca cb es fs hn6 hm6 V (h2.gr (GW.out.trans gV)) lo tb cap rb i k hi hk ht w.heap.size (gV.heap B1.out)))
  have HR := hid (show W1.rangeAt w.heap.size 0 [.slice a n ca, .slice b m cb] from rangeAt_vals (vs := [.slice a n ca, .slice b m cb]) B1.out)
  have HS := hid (show W1.heap.size = w.heap.size + 1 by rw [hW1]; simp)
  have HW1 := hid hW1
  clear h2 hW1
  unfold sidesC at HT HW1 ⊢
  go_enter Tryd.func37, Tryd.ntmps37
  go_wp2_with fail
  rw [← HW1.out]
  refine HT.out.mono ?_
  rintro e w1 ⟨tb, rb, rfl, t1, g1⟩
  have G1 := hid (GW.out.trans g1)
  have T1 := hid (show Tab w1 w.heap.size tb (n + 1) (m + 1) (lcT es fs) 0 0 0 rb from ⟨t1.outer, t1.rows, t1.apart, fun r x y => by have := t1.low r x y; have := HS.out; omega, by have := t1.lot; have := HS.out; omega⟩)
  clear g1 t1
  go_wp2_with fail
  go_ret
  exact ⟨_, _, rfl, T1.out, G1.out⟩
theorem firstFrom_le (p : Nat → Bool) (m j : Nat) (hj : j ≤ m) : firstFrom p m j ≤ m := by have := (firstFrom_spec p m _ j rfl).2.1; omega
def idxV (p : Nat → Bool) (m j : Nat) : Int := if firstFrom p m j < m then (firstFrom p m j : Int) - j else -1
set_option maxRecDepth 100000 in
set_option maxHeartbeats 1000000 in
/-- Of a log from there on: the first entry that agrees, or -1. -/
theorem indexEn_any (x : En) (fs : List En) (m j cap d : Nat) (hm : m = fs.length) (hj : d + j = m) (hm6 : m ≤ 1048576) (a : Option Addr) (w : World)
    (ha : ∀ q, q < d → ∃ b o, a = some ⟨b, o, none⟩ ∧ ∀ V, Gr w V → V.rangeAt b (o + q * 3) [.int .i64 (enAt fs (j + q)).t, .int .i64 (enAt fs (j + q)).s, .bool (enAt fs (j + q)).d]) :
    Calls Tryd.prog 38 #[.slice a d cap, .func (.func 39) #[enV x] #[]] w fun e w' =>
      e = .returned (.int .i64 (idxV (fun k => agE x (enAt fs k)) m j)) ∧ Gr w w' := by
  have HA := hid ha
  have hcf := callFunc_enter Tryd.func39 (by kernel_rfl) (by kernel_rfl)
  have HAG := hid (fun q V => agrees_any x (enAt fs q) V)
  obtain ⟨p, hp⟩ : ∃ p : Nat → Bool, p = fun k => agE x (enAt fs k) := ⟨_, rfl⟩
  have HPE := hid (fun q => show p q = agE x (enAt fs q) by rw [hp])
  rw [← hp]
  have HFY := hid (fun q => firstFrom_yes (p := p) (n := m) (j := q))
  have HFN := hid (fun q => firstFrom_no (p := p) (n := m) (j := q))
  have HFG := hid (fun q => firstFrom_ge (p := p) (n := m) (j := q))
  have HJ := hid hj
  have hd6 : d ≤ 1048576 := by omega
  obtain ⟨xt, xs, xd⟩ := x
  unfold enV at HAG ⊢
  simp only at HAG ⊢
  clear ha hm hp hj
  go_enter Tryd.func38, Tryd.ntmps38
  go_wp2_with fail
  go_loopw [5, 8] (fun _ iv wr => ∃ q : Nat, q ≤ d ∧ iv = .int .i64 q ∧ Hid (firstFrom p m j = firstFrom p m (j + q)) ∧ Hid (Gr w wr)) (fun _ iv _ => d - (intOf iv).toNat)
  case atStart => exact ⟨0, Nat.zero_le _, rfl, hid rfl, hid (Gr.refl _)⟩
  case round =>
    obtain ⟨q, hq, rfl, hf, hg⟩ := hrel
    by_cases hlt : q < d
    · obtain ⟨b, o, rfl, hr⟩ := HA.out q hlt
      have HR := hid (hr wr hg.out)
      have HC := hid (HAG.out (j + q))
      have HE := hid (HPE.out (j + q))
      have HY := hid (HFY.out (j + q) (by have := HJ.out; omega))
      have HN := hid (HFN.out (j + q) (by have := HJ.out; omega))
      rw [← HE.out] at HC
      clear hr
      generalize enAt fs (j + q) = y at *
      obtain ⟨yt, ys, yd⟩ := y
      simp only at HR HC
      have hq0 : (0 : Int) ≤ q := by omega
      have hq1 : (q : Int) < d := by omega
      cases hpq : p (j + q) with
      | false =>
        rw [hpq] at HC
        have HF := hid (hf.out.trans (HN.out hpq))
        clear hpq
        go_wp2_with (refine wpList_load_mid rfl 58 _ rfl b (o + q * 3) rfl _ _ HR.out Tryd.underlying58 rfl sizeEn ?_)
        refine (HC.out _).mono ?_
        rintro e w2 ⟨rfl, g2⟩
        have G2 := hid (hg.out.trans g2)
        clear g2
        go_wp2_with fail
        go_roundw
        case rel => exact ⟨q + 1, by omega, by go_num, HF, G2⟩
        case measure => simp [intOf]; omega
      | true =>
        rw [hpq] at HC
        have HF := hid (show firstFrom p m j = j + q from hf.out.trans (HY.out hpq))
        have HLT := hid (show j + q < m by have := HJ.out; omega)
        clear hpq
        go_wp2_with (refine wpList_load_mid rfl 58 _ rfl b (o + q * 3) rfl _ _ HR.out Tryd.underlying58 rfl sizeEn ?_)
        refine (HC.out _).mono ?_
        rintro e w2 ⟨rfl, g2⟩
        have G2 := hid (hg.out.trans g2)
        clear g2
        go_wp2_with fail
        go_ret
        exact ⟨ret_int (by unfold idxV; rw [HF.out, if_pos HLT.out]; omega), G2.out⟩
    · have HF := hid (show firstFrom p m j = m by rw [hf.out, HFG.out (j + q) (by have := HJ.out; omega)])
      clear hf
      go_wp2_with fail
      go_ret
      exact ⟨ret_int (by unfold idxV; rw [HF.out, if_neg (by omega)]), hg.out⟩
end Go.Proofs.YtnkoakneffjkbaaDoor
