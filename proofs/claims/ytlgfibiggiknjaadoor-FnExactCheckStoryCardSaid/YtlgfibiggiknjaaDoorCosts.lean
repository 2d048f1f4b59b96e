/- The model's costs. -/
import Derived.Test.YtlgfibiggiknjaaDoorBegin
import Derived.Deep.DeepCutAuto
namespace Go.Proofs.YtlgfibiggiknjaaDoor
set_option linter.unusedVariables false
open Go.RowKit
set_option maxRecDepth 100000 in
set_option maxHeartbeats 1000000 in
theorem l07Cost_any (x y : En) (w : World) :
    Calls Tryd.prog 105 #[enV x, enV y] w fun e w' => e = .returned (.int .i64 (bothC x y)) ∧ Gr w w' := by
  have HQ := hid (show bothC x y = if (x.d == y.d) = true then (if (x.s == y.s) = true then 0 else 1) else -1 by unfold bothC; simp)
  unfold enV
  generalize bothC x y = r at *
  obtain ⟨xt, xs, xd⟩ := x
  obtain ⟨yt, ys, yd⟩ := y
  simp only at HQ ⊢
  cases xd <;> cases yd
  all_goals
    cases e1 : (xs == ys)
    all_goals
      rw [e1] at HQ
      go_enter Tryd.func105, Tryd.ntmps105
      go_wp2_with fail
      go_ret
      exact ⟨ret_int (by rw [HQ.out]; rfl), ((Gr.refl _).alloc _).alloc _⟩
set_option maxRecDepth 100000 in
theorem l00Max_any (x y : Int) (w : World) : Calls Tryd.prog 89 #[.int .i64 x, .int .i64 y] w fun e w' => e = .returned (.int .i64 (max x y)) ∧ w = w' := by
  by_cases h : y < x
  · have HR := hid (show max x y = x by omega)
    go_enter Tryd.func89, Tryd.ntmps89
    go_wp2_with fail
    go_ret
    exact ⟨ret_int HR.out.symm, rfl⟩
  · have HR := hid (show max x y = y by omega)
    go_enter Tryd.func89, Tryd.ntmps89
    go_wp2_with fail
    go_ret
    exact ⟨ret_int HR.out.symm, rfl⟩
/-- The best so far, of an entry's costs. -/
def cB1 (es fs : List En) (i k : Nat) : Int := if i < es.length then 1 + costT es fs (i + 1) k else -1
def cB2 (es fs : List En) (i k : Nat) : Int := if k < fs.length ∧ (cB1 es fs i k < 0 ∨ 2 + costT es fs i (k + 1) < cB1 es fs i k) then 2 + costT es fs i (k + 1) else cB1 es fs i k
def cB3 (es fs : List En) (i k : Nat) : Int := if i < es.length ∧ k < fs.length then (if 0 ≤ bothC (enAt es i) (enAt fs k) ∧ bothC (enAt es i) (enAt fs k) + costT es fs (i + 1) (k + 1) < cB2 es fs i k then bothC (enAt es i) (enAt fs k) + costT es fs (i + 1) (k + 1) else cB2 es fs i k) else cB2 es fs i k
theorem cB_eq (es fs : List En) (i k : Nat) (h1 : es.length ≤ 60) (h2 : fs.length ≤ 60) : max (cB3 es fs i k) 0 = costT es fs i k := by
  have b1 := costT_bd es fs (i + 1) k h1 h2
  have b2 := costT_bd es fs i (k + 1) h1 h2
  have b3 := costT_bd es fs (i + 1) (k + 1) h1 h2
  have hb := bothC_range (enAt es i) (enAt fs k)
  have hT := costT.eq_1 es fs i k
  unfold cB3 cB2 cB1
  rw [hT]
  generalize costT es fs (i + 1) k = x at *
  generalize costT es fs i (k + 1) = y at *
  generalize costT es fs (i + 1) (k + 1) = z at *
  generalize bothC (enAt es i) (enAt fs k) = c at *
  simp only [Int.min_def]
  by_cases hi : i < es.length
  · by_cases hk : k < fs.length
    · simp only [hi, hk, if_true, true_and]
      repeat' split
      all_goals omega
    · simp only [hi, hk, if_true, if_false, false_and, and_false]
      omega
  · by_cases hk : k < fs.length
    · simp only [hi, hk, if_true, if_false, false_and, true_and]
      repeat' split
      all_goals omega
    · simp only [hi, hk, if_false, false_and]
      omega
set_option maxRecDepth 100000 in
set_option maxHeartbeats 8000000 in
theorem l07Costs_any (a b : Option Addr) (n m ca cb : Nat) (es fs : List En) (hn6 : n ≤ 60) (hm6 : m ≤ 60) (w : World) (h2 : Logs2 w a b n m es fs) :
    Calls Tryd.prog 98 #[.slice a n ca, .slice b m cb] w (TabRet w n m (costT es fs) 0 0) := by
  have HB := hid (l07Begin_any a b n m ca cb (by omega) (by omega) (costT es fs) w)
  have H2 := hid h2
  have HN := hid h2.n_
  have HM := hid h2.m_
  have HCB := hid (fun i k => cB_eq es fs i k (by rw [← h2.n_]; exact hn6) (by rw [← h2.m_]; exact hm6))
  have HBD := hid (fun i k => costT_bd es fs i k (by rw [← h2.n_]; exact hn6) (by rw [← h2.m_]; exact hm6))
  clear h2
  go_enter Tryd.func98, Tryd.ntmps98
  go_wp2_with fail
  refine HB.out.mono ?_
  rintro e w1 ⟨tb, cap, rb, rfl, t1, g1⟩
  have T1 := hid t1
  have G1 := hid g1
  clear t1 g1 HB
  go_wp2_with fail
  go_loopw [6, 7, 8, 9] (fun iv _ _ _ wr => ∃ q : Nat, q ≤ n + 1 ∧ iv = .int .i64 ((q : Int) - 1) ∧ Hid (Tab wr w.heap.size tb (n + 1) (m + 1) (costT es fs) 0 q 0 rb) ∧ Hid (Gr w wr)) (fun iv _ _ _ _ => (intOf iv + 1).toNat)
  case atStart => exact ⟨n + 1, Nat.le_refl _, by go_num, T1, G1⟩
  case round =>
    obtain ⟨q, hq, rfl, I, hg⟩ := hrel
    by_cases hq0 : q = 0
    · subst hq0
      go_wp2_with fail
      go_ret
      exact ⟨tb, cap, rb, rfl, I.out, hg.out⟩
    · obtain ⟨i, rfl⟩ : ∃ i, q = i + 1 := ⟨q - 1, by omega⟩
      have hei : ((i + 1 : Nat) : Int) - 1 = i := by omega
      rw [hei]
      clear hei hq0
      have J := hid I.out.next
      have hi0 : (0 : Int) ≤ i := by omega
      have hi1 : (i : Int) < (n + 1 : Nat) := by omega
      clear I
      go_wp2_with fail
      go_loopw [7, 8, 9] (fun jv _ _ wq => ∃ c : Nat, c ≤ m + 1 ∧ jv = .int .i64 ((c : Int) - 1) ∧ Hid (Tab wq w.heap.size tb (n + 1) (m + 1) (costT es fs) 0 i c rb) ∧ Hid (Gr w wq)) (fun jv _ _ _ => (intOf jv + 1).toNat)
      case atStart => exact ⟨m + 1, Nat.le_refl _, by go_num, J, hg⟩
      case round =>
        clear J hg
        obtain ⟨c, hc, rfl, Q, hgq⟩ := hrel
        by_cases hc0 : c = 0
        · subst hc0
          go_wp2_with fail
          go_roundw
          case rel => exact ⟨i, by omega, by go_num, Q, hgq⟩
          case measure => simp [intOf]
        · obtain ⟨k, rfl⟩ : ∃ k, c = k + 1 := ⟨c - 1, by omega⟩
          have hek : ((k + 1 : Nat) : Int) - 1 = k := by omega
          rw [hek]
          clear hek hc0
          have hk0 : (0 : Int) ≤ k := by omega
          have hk1 : (k : Int) < (m + 1 : Nat) := by omega
          have HF1 := hid (fun V (g : Gr wr V) (h : i < n) => And.intro ((Q.out.gr g).row (r := i + 1) (Nat.zero_le _) (by omega)) ((Q.out.gr g).cell (r := i + 1) (c := k) (Nat.zero_le _) (by omega) (by omega) (.inl (by omega))))
          have HF2 := hid (fun V (g : Gr wr V) (h : k < m) => And.intro ((Q.out.gr g).row (r := i) (Nat.zero_le _) (by omega)) ((Q.out.gr g).cell (r := i) (c := k + 1) (Nat.zero_le _) (by omega) (by omega) (.inr ⟨rfl, by omega⟩)))
          have HF3 := hid (fun V (g : Gr wr V) (h : i < n) (h' : k < m) => And.intro ((Q.out.gr g).row (r := i + 1) (Nat.zero_le _) (by omega)) ((Q.out.gr g).cell (r := i + 1) (c := k + 1) (Nat.zero_le _) (by omega) (by omega) (.inl (by omega))))
          have HD1 := hid (show cB1 es fs i k = if i < n then 1 + costT es fs (i + 1) k else -1 by unfold cB1; rw [← HN.out])
          have HD2 := hid (show cB2 es fs i k = if k < m ∧ (cB1 es fs i k < 0 ∨ 2 + costT es fs i (k + 1) < cB1 es fs i k) then 2 + costT es fs i (k + 1) else cB1 es fs i k by unfold cB2; rw [← HM.out])
          have HD3 := hid (show cB3 es fs i k = if i < n ∧ k < m then (if 0 ≤ bothC (enAt es i) (enAt fs k) ∧ bothC (enAt es i) (enAt fs k) + costT es fs (i + 1) (k + 1) < cB2 es fs i k then bothC (enAt es i) (enAt fs k) + costT es fs (i + 1) (k + 1) else cB2 es fs i k) else cB2 es fs i k by unfold cB3; rw [← HN.out, ← HM.out])
          have HEQ := hid (HCB.out i k)
          have hx1 := HBD.out (i + 1) k
          have hx2 := HBD.out i (k + 1)
          have hx3 := HBD.out (i + 1) (k + 1)
          generalize costT es fs (i + 1) k = x1 at *
          generalize costT es fs i (k + 1) = x2 at *
          generalize costT es fs (i + 1) (k + 1) = x3 at *
          have HTT := hid (show costT es fs i k = max (cB3 es fs i k) 0 from HEQ.out.symm)
          have hr1 : -1 ≤ cB1 es fs i k ∧ cB1 es fs i k ≤ 1000 := by rw [HD1.out]; split <;> omega
          have hr2 : -1 ≤ cB2 es fs i k ∧ cB2 es fs i k ≤ 1000 := by rw [HD2.out]; split <;> omega
          generalize cB1 es fs i k = b1 at *
          generalize cB2 es fs i k = b2 at *
          generalize cB3 es fs i k = b3 at *
          clear HEQ
          go_upto_if 28 with (fail)
          go_cut [8] (fun v wx => v = .int .i64 b1 ∧ wr = wx)
          case first =>
            by_cases hi : i < n
            · have HV := hid (show b1 = 1 + x1 by rw [HD1.out, if_pos hi])
              obtain ⟨d0, d1⟩ := HF1.out wr (Gr.refl _) hi
              clear HD1 HD2 HD3 HTT hr1 hr2
              go_wp2_with fail
              go_meet
              case rel => exact ⟨by rw [HV.out], rfl⟩
            · have HV := hid (show b1 = -1 by rw [HD1.out, if_neg hi])
              clear HD1 HD2 HD3 HTT hr1 hr2
              go_wp2_with fail
              go_meet
              case rel => exact ⟨by rw [HV.out], rfl⟩
          case rest =>
            obtain ⟨rfl, rfl⟩ := hcut
            have HQ2 := hid (show ∃ q2 : Bool, (k < m ∧ (b1 < 0 ∨ 2 + x2 < b1)) = (q2 = true) from ⟨decide (k < m ∧ (b1 < 0 ∨ 2 + x2 < b1)), by simp⟩)
            obtain ⟨q2, hq2⟩ := HQ2.out
            have HE2 := hid (show b2 = if q2 = true then 2 + x2 else b1 by rw [HD2.out]; cases q2; (rw [if_neg (by rw [hq2]; simp)]; rfl); (rw [if_pos (by rw [hq2])]; rfl))
            have HP2 := hid hq2
            clear HQ2 hq2 HD2 HD1 hr1
            go_upto_region 11 with (fail)
            go_cut [58] (fun v wx => v = .bool q2 ∧ wr = wx)
            case first =>
              clear HE2 HD3 HTT hr2
              by_cases hk : k < m
              · obtain ⟨d2, d3⟩ := HF2.out wr (Gr.refl _) hk
                by_cases hb1 : b1 < 0
                · obtain rfl : q2 = true := by have := HP2.out; rw [← this]; exact ⟨hk, .inl hb1⟩
                  clear HP2
                  go_wp2_with fail
                  go_meet
                  case rel => exact ⟨rfl, rfl⟩
                · by_cases hlt2 : 2 + x2 < b1
                  · obtain rfl : q2 = true := by have := HP2.out; rw [← this]; exact ⟨hk, .inr hlt2⟩
                    clear HP2
                    go_wp2_with fail
                    go_meet
                    case rel => exact ⟨rfl, rfl⟩
                  · obtain rfl : q2 = false := by have := HP2.out; cases q2 with
                      | false => rfl
                      | true => exact absurd (this.mpr rfl).2 (fun h => h.elim hb1 hlt2)
                    clear HP2
                    go_wp2_with fail
                    go_meet
                    case rel => exact ⟨rfl, rfl⟩
              · obtain rfl : q2 = false := by have := HP2.out; cases q2 with
                  | false => rfl
                  | true => exact absurd (this.mpr rfl).1 hk
                clear HP2
                go_wp2_with fail
                go_meet
                case rel => exact ⟨rfl, rfl⟩
            case rest =>
              obtain ⟨rfl, rfl⟩ := hcut
              go_upto_if 58 with (fail)
              go_cut [8] (fun v wx => v = .int .i64 b2 ∧ wr = wx)
              case first =>
                clear HD3 HTT hr2
                cases q2
                · have HV := hid (show b2 = b1 from HE2.out)
                  clear HE2
                  go_wp2_with fail
                  go_meet
                  case rel => exact ⟨by rw [HV.out], rfl⟩
                · have HV := hid (show b2 = 2 + x2 from HE2.out)
                  have hk : k < m := (HP2.out.mpr rfl).1
                  obtain ⟨d2, d3⟩ := HF2.out wr (Gr.refl _) hk
                  clear HE2 HP2
                  go_wp2_with fail
                  go_meet
                  case rel => exact ⟨by rw [HV.out], rfl⟩
              case rest =>
                obtain ⟨rfl, rfl⟩ := hcut
                clear HE2 HP2
                have HQ3 := hid (show ∃ q3 : Bool, (i < n ∧ k < m) = (q3 = true) from ⟨decide (i < n ∧ k < m), by simp⟩)
                obtain ⟨q3, hq3⟩ := HQ3.out
                have HE3 := hid (show b3 = if q3 = true then (if 0 ≤ bothC (enAt es i) (enAt fs k) ∧ bothC (enAt es i) (enAt fs k) + x3 < b2 then bothC (enAt es i) (enAt fs k) + x3 else b2) else b2 by rw [HD3.out]; cases q3; (rw [if_neg (by rw [hq3]; simp)]; rfl); (rw [if_pos (by rw [hq3])]; rfl))
                have HP3 := hid hq3
                clear HQ3 hq3 HD3
                go_upto_region 13 with (fail)
                go_cut [77] (fun v wx => v = .bool q3 ∧ wr = wx)
                case first =>
                  clear HE3 HTT hr2
                  by_cases hi : i < n
                  · by_cases hk : k < m
                    · obtain rfl : q3 = true := by have := HP3.out; rw [← this]; exact ⟨hi, hk⟩
                      clear HP3
                      go_wp2_with fail
                      go_meet
                      case rel => exact ⟨rfl, rfl⟩
                    · obtain rfl : q3 = false := by have := HP3.out; cases q3 with
                        | false => rfl
                        | true => exact absurd (this.mpr rfl).2 hk
                      clear HP3
                      go_wp2_with fail
                      go_meet
                      case rel => exact ⟨rfl, rfl⟩
                  · obtain rfl : q3 = false := by have := HP3.out; cases q3 with
                      | false => rfl
                      | true => exact absurd (this.mpr rfl).1 hi
                    clear HP3
                    go_wp2_with fail
                    go_meet
                    case rel => exact ⟨rfl, rfl⟩
                case rest =>
                  obtain ⟨rfl, rfl⟩ := hcut
                  go_upto_if 77 with (fail)
                  go_cut [8, 9] (fun v _ wx => v = .int .i64 b3 ∧ Hid (Gr wr wx))
                  case first =>
                    clear HTT
                    cases q3
                    · have HV := hid (show b3 = b2 from HE3.out)
                      clear HE3 HP3
                      go_wp2_with fail
                      go_meet
                      case rel => exact ⟨by rw [HV.out], hid (Gr.refl _)⟩
                    · obtain ⟨hi, hk⟩ := HP3.out.mpr rfl
                      have HV := hid (show b3 = if 0 ≤ bothC (enAt es i) (enAt fs k) ∧ bothC (enAt es i) (enAt fs k) + x3 < b2 then bothC (enAt es i) (enAt fs k) + x3 else b2 from HE3.out)
                      clear HE3 HP3
                      obtain ⟨bb0, o0, rfl, p0, p1, p2⟩ := en_at (H2.out.gr hgq.out).fst (i := i) (by rw [← HN.out]; exact hi)
                      obtain ⟨bb1, o1, rfl, q0, q1, q2'⟩ := en_at (H2.out.gr hgq.out).snd (i := k) (by rw [← HM.out]; exact hk)
                      have HRG0 := hid (range3 ⟨p0, p1, p2⟩)
                      have HRG1 := hid (range3 ⟨q0, q1, q2'⟩)
                      have HC := hid (fun V => l07Cost_any (enAt es i) (enAt fs k) V)
                      have hcr := bothC_range (enAt es i) (enAt fs k)
                      generalize bothC (enAt es i) (enAt fs k) = cc at *
                      generalize enAt es i = x at *
                      generalize enAt fs k = y at *
                      unfold enV at HC
                      obtain ⟨x0, x1', x2'⟩ := x
                      obtain ⟨y0, y1', y2'⟩ := y
                      simp only at HRG0 HRG1 HC
                      clear p0 p1 p2 q0 q1 q2'
                      have hi2 : (i : Int) < n := by omega
                      have hk2 : (k : Int) < m := by omega
                      go_wp2_with fail
                      refine wp_region_still_tail 8 (by kernel_rfl) (by kernel_rfl) ?_
                      simp only [List.take_succ_cons, List.take_zero, List.drop_succ_cons, List.drop_zero]
                      repeat still_step
                      refine wpStill_load_mid rfl 70 (.tmp 80) rfl bb0 (o0 + i * 3) rfl _ _ HRG0.out Tryd.underlying70 rfl sizeEn ?_
                      simp only [Act.put, List.setIfInBounds_toArray, List.set_cons_zero, List.set_cons_succ]
                      repeat still_step
                      refine wpStill_load_mid rfl 70 (.tmp 84) rfl bb1 (o1 + k * 3) rfl _ _ HRG1.out Tryd.underlying70 rfl sizeEn ?_
                      simp only [Act.put, List.setIfInBounds_toArray, List.set_cons_zero, List.set_cons_succ]
                      refine wpStill_nil ?_
                      go_wp2_with fail
                      refine (HC.out _).mono ?_
                      rintro e w2 ⟨rfl, g2⟩
                      have G2 := hid (show Gr wr w2 from ((Gr.refl wr).drew).trans g2)
                      obtain ⟨d4, d5⟩ := HF3.out w2 G2.out hi hk
                      clear g2
                      by_cases hcc : 0 ≤ cc
                      · by_cases hlt3 : cc + x3 < b2
                        · have HW := hid (show b3 = cc + x3 by rw [HV.out, if_pos ⟨hcc, hlt3⟩])
                          clear HV
                          go_wp2_with fail
                          go_meet
                          case rel => exact ⟨by rw [HW.out], G2⟩
                        · have HW := hid (show b3 = b2 by rw [HV.out, if_neg (fun h => hlt3 h.2)])
                          clear HV
                          go_wp2_with fail
                          go_meet
                          case rel => exact ⟨by rw [HW.out], G2⟩
                      · have HW := hid (show b3 = b2 by rw [HV.out, if_neg (fun h => hcc h.1)])
                        clear HV
                        go_wp2_with fail
                        go_meet
                        case rel => exact ⟨by rw [HW.out], G2⟩
                  case rest =>
                    obtain ⟨rfl, G2⟩ := hcut
                    clear HE3 HP3 hr2
                    have Q2 := hid (Q.out.gr G2.out)
                    have G3 := hid (hgq.out.trans G2.out)
                    have hri := Q2.out.row (r := i) (Nat.zero_le _) (by omega)
                    have HRI := hid (fun (V : World) (h : Tab V w.heap.size tb (n + 1) (m + 1) (costT es fs) 0 i (k + 1) rb) => And.intro (h.row (r := i) (Nat.zero_le _) (by omega)) (h.some_ (r := i) (c := k) (Nat.zero_le _) (by omega) (by omega)))
                    have HPUT := hid (fun (V : World) (h : Tab V w.heap.size tb (n + 1) (m + 1) (costT es fs) 0 i (k + 1) rb) => h.put (Nat.zero_le i) (by omega) (by omega) (x := max b3 0) HTT.out.symm)
                    have HLOW := hid (Q2.out.low (r := i) (Nat.zero_le _) (by omega))
                    have HMX := hid (fun V => l00Max_any b3 0 V)
                    generalize rb i = ri at *
                    go_wp2_with fail
                    refine wp_region_held_drew (S := fun V => V.cell? ⟨tb, i, none⟩ = some (.slice (some ⟨ri, 0, none⟩) (m + 1) (m + 1)) ∧ Tab V w.heap.size tb (n + 1) (m + 1) (costT es fs) 0 i (k + 1) rb ∧ Gr w V) (by kernel_rfl) ⟨hri, Q2.out.gr ((Gr.refl _).drew), G3.out.drew⟩ (fun hH => ?_)
                    have HH := hid hH
                    clear hH
                    refine wpAnyH_take (i := 0) (v := .slice (some ⟨tb, 0, none⟩) (n + 1) cap) rfl (by kernel_rfl) (by kernel_rfl) (by kernel_rfl) (fun _ _ _ h => h) (Or.inl ⟨by rfl, fun _ _ => by first | rfl | (go_simp; done) | (go_simp; rfl) | (go_simp; intro h; exfalso; omega)⟩) HH.out ?_
                    simp only [Act.put, List.getElem_toArray, List.getElem_cons_zero, List.setIfInBounds_toArray, List.set_cons_zero, List.set_cons_succ]
                    refine wpAnyH_take (i := 1) (v := .int .i64 i) rfl (by kernel_rfl) (by kernel_rfl) (by kernel_rfl) (fun _ _ _ h => h) (Or.inl ⟨by rfl, fun _ _ => by first | rfl | (go_simp; done) | (go_simp; rfl) | (go_simp; intro h; exfalso; omega)⟩) HH.out ?_
                    simp only [Act.put, List.getElem_toArray, List.getElem_cons_zero, List.getElem_cons_succ, List.setIfInBounds_toArray, List.set_cons_zero, List.set_cons_succ]
                    refine wpAnyH_take (i := 2) (v := .pointer (some ⟨tb, i, none⟩)) rfl (by kernel_rfl) (by kernel_rfl) (by kernel_rfl) (fun _ _ _ h => h) (Or.inl ⟨by rfl, fun _ _ => by first | rfl | (go_simp; done) | (go_simp; rfl) | (go_simp; intro h; exfalso; omega)⟩) HH.out ?_
                    simp only [Act.put, List.getElem_toArray, List.getElem_cons_zero, List.getElem_cons_succ, List.setIfInBounds_toArray, List.set_cons_zero, List.set_cons_succ]
                    refine wpAnyH_take (i := 3) (v := .slice (some ⟨ri, 0, none⟩) (m + 1) (m + 1)) rfl (by kernel_rfl) (by kernel_rfl) (by kernel_rfl) (fun _ _ _ h => h) (Or.inl ⟨by rfl, fun V hV => by (have hc := hV.1; first | (go_simp; done) | (go_simp; rfl))⟩) HH.out ?_
                    simp only [Act.put, List.getElem_toArray, List.getElem_cons_zero, List.getElem_cons_succ, List.setIfInBounds_toArray, List.set_cons_zero, List.set_cons_succ]
                    refine wpAnyH_take (i := 4) (v := .int .i64 k) rfl (by kernel_rfl) (by kernel_rfl) (by kernel_rfl) (fun _ _ _ h => h) (Or.inl ⟨by rfl, fun _ _ => by first | rfl | (go_simp; done) | (go_simp; rfl) | (go_simp; intro h; exfalso; omega)⟩) HH.out ?_
                    simp only [Act.put, List.getElem_toArray, List.getElem_cons_zero, List.getElem_cons_succ, List.setIfInBounds_toArray, List.set_cons_zero, List.set_cons_succ]
                    refine wpAnyH_take (i := 5) (v := .int .i64 b3) rfl (by kernel_rfl) (by kernel_rfl) (by kernel_rfl) (fun _ _ _ h => h) (Or.inl ⟨by rfl, fun _ _ => by first | rfl | (go_simp; done) | (go_simp; rfl) | (go_simp; intro h; exfalso; omega)⟩) HH.out ?_
                    simp only [Act.put, List.getElem_toArray, List.getElem_cons_zero, List.getElem_cons_succ, List.setIfInBounds_toArray, List.set_cons_zero, List.set_cons_succ]
                    refine wpAnyH_ready (rs := [6]) (by kernel_rfl) (by simp) (AllReadyH.cons rfl (fun KK hKK => ?_) AllReadyH.nil)
                    rw [if_pos (by rfl)]
                    go_simp
                    refine (HMX.out _).mono ?_
                    rintro e V ⟨rfl, rfl⟩
                    dsimp only
                    refine hKK.out _ _ HH.out (fun hH => ?_)
                    clear HH hKK KK
                    have HH := hid hH
                    clear hH
                    refine wpAnyH_take (i := 7) (v := .pointer (some ⟨ri, k, none⟩)) rfl (by kernel_rfl) (by kernel_rfl) (by kernel_rfl) (fun _ _ _ h => h) (Or.inl ⟨by rfl, fun _ _ => by first | rfl | (go_simp; done) | (go_simp; rfl) | (go_simp; intro h; exfalso; omega)⟩) HH.out ?_
                    simp only [Act.put, List.getElem_toArray, List.getElem_cons_zero, List.getElem_cons_succ, List.setIfInBounds_toArray, List.set_cons_zero, List.set_cons_succ]
                    refine wpAnyH_ready (rs := [8]) (by kernel_rfl) (by simp) (AllReadyH.cons rfl (fun KK hKK => ?_) AllReadyH.nil)
                    rw [if_pos (by rfl)]
                    obtain ⟨⟨y2, c3⟩, f3⟩ := (HRI.out _ HH.out.2.1).2
                    have HB := hid (HPUT.out _ HH.out.2.1)
                    have HGB := hid (HH.out.2.2.setCell (p := ⟨ri, k, none⟩) HLOW.out (.int .i64 (max b3 0)))
                    go_simp
                    have hs := HB.out.less (Nat.le_refl 0) (i' := i) (j' := k + 1) (.inr ⟨rfl, Nat.le_succ _⟩)
                    refine hKK.out _ _ ⟨(HRI.out _ hs).1, hs, HGB.out⟩ (fun hH => ?_)
                    clear hKK KK HH hH hs c3 f3
                    refine wpAnyH_done (by kernel_rfl) ?_ _
                    go_wp2_with fail
                    go_roundw
                    case rel => exact ⟨k, by omega, by go_num, HB, HGB⟩
                    case measure => simp [intOf]
end Go.Proofs.YtlgfibiggiknjaaDoor
