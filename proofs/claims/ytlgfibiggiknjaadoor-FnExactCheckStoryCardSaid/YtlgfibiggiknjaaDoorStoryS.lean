/- The model's story. -/
import Derived.Test.YtlgfibiggiknjaaDoorCosts
import Derived.Test.YtlgfibiggiknjaaDoorStoryOfT
import Derived.Test.YtlgfibiggiknjaaDoorLogOk
namespace Go.Proofs.YtlgfibiggiknjaaDoor
set_option linter.unusedVariables false
open Go.RowKit
/-- What the loop keeps: the steps so far, and what is left. -/
structure SsI (w : World) (es fs : List En) (i k : Nat) (pre : List Acct) (v : Value) (wr : World) : Prop where
  own : OwnV 112 2 wr w.heap.size wr.heap.size v pre.length (flCells (pre.map stepP))
  left : pre ++ storyL es fs i k = storyL es fs 0 0
  gr : Gr w wr
theorem SsI.turn {w wr wx : World} {es fs : List En} {i k : Nat} {pre : List Acct} {v : Value} (h : SsI w es fs i k pre v wr) (g : Gr wr wx) : SsI w es fs i k pre v wx :=
  ⟨(h.own.gr g).widen (Nat.le_refl _) g.size, h.left, h.gr.trans g⟩
theorem SsI.snoc {w wr wy : World} {es fs : List En} {i k i2 k2 : Nat} {pre : List Acct} {v v2 : Value} {X Y : Int} (h : SsI w es fs i k pre v wr) (hl : i < es.length ∨ k < fs.length) (hx : stepP (pickA es fs i k) = (X, Y)) (hi : (pickA es fs i k).ni i = i2) (hk : (pickA es fs i k).nk k = k2)
    (ho : wy.ownsRow w.heap.size 112 2 v2 (pre.length + 1) (flCells (pre.map stepP) ++ [.int .i64 X, .int .i64 Y])) (hg : (wr.alloc (.cells #[.int .i64 X, .int .i64 Y] 112)).grownBy wy v.ownBlock) :
    SsI w es fs i2 k2 (pre ++ [pickA es fs i k]) v2 wy := by
  subst hi
  subst hk
  refine ⟨?_, by rw [← h.left, storyL_go hl]; simp, (h.gr.alloc _).by_ hg (fun b e => (h.own.row.lt b e).1)⟩
  rw [show flCells ((pre ++ [pickA es fs i k]).map stepP) = flCells (pre.map stepP) ++ [.int .i64 X, .int .i64 Y] by rw [List.map_append, flCells_append, List.map_singleton, hx]; rfl, show (pre ++ [pickA es fs i k]).length = pre.length + 1 by simp]
  exact OwnV.ofRow ho
theorem SsI.len {w wr : World} {es fs : List En} {i k : Nat} {pre : List Acct} {v : Value} (h : SsI w es fs i k pre v wr) (h1 : es.length ≤ 60) (h2 : fs.length ≤ 60) : pre.length ≤ 120 := by
  have a := congrArg List.length h.left
  have b := storyL_length es fs _ 0 0 rfl
  rw [List.length_append] at a
  omega
/-- Which account it is, in the model's words. -/
theorem pick_both {es fs : List En} {i k : Nat} (hi : i < es.length) (hk : k < fs.length) (hc : 0 ≤ bothC (enAt es i) (enAt fs k)) (he : bothC (enAt es i) (enAt fs k) + costT es fs (i + 1) (k + 1) = costT es fs i k) :
    stepP (pickA es fs i k) = ((i : Int), (k : Int)) ∧ (pickA es fs i k).ni i = i + 1 ∧ (pickA es fs i k).nk k = k + 1 := by
  unfold pickA
  rw [if_pos hi, if_pos hk, if_pos ⟨hc, he⟩]
  split
  · exact ⟨rfl, ni_right _ _ _, nk_right _ _ _⟩
  · exact ⟨rfl, ni_mis _ _ _, nk_mis _ _ _⟩
theorem pick_drop {es fs : List En} {i k : Nat} (hi : i < es.length) (hk : k < fs.length) (hc : ¬ (0 ≤ bothC (enAt es i) (enAt fs k) ∧ bothC (enAt es i) (enAt fs k) + costT es fs (i + 1) (k + 1) = costT es fs i k)) (he : 1 + costT es fs (i + 1) k = costT es fs i k) :
    stepP (pickA es fs i k) = ((i : Int), -1) ∧ (pickA es fs i k).ni i = i + 1 ∧ (pickA es fs i k).nk k = k := by
  unfold pickA
  rw [if_pos hi, if_pos hk, if_neg hc, if_pos he]
  exact ⟨rfl, ni_drop _ _, nk_drop _ _⟩
theorem pick_extra {es fs : List En} {i k : Nat} (hi : i < es.length) (hk : k < fs.length) (hc : ¬ (0 ≤ bothC (enAt es i) (enAt fs k) ∧ bothC (enAt es i) (enAt fs k) + costT es fs (i + 1) (k + 1) = costT es fs i k)) (he : ¬ 1 + costT es fs (i + 1) k = costT es fs i k) :
    stepP (pickA es fs i k) = (-1, (k : Int)) ∧ (pickA es fs i k).ni i = i ∧ (pickA es fs i k).nk k = k + 1 := by
  unfold pickA
  rw [if_pos hi, if_pos hk, if_neg hc, if_neg he]
  exact ⟨rfl, ni_extra _ _, nk_extra _ _⟩
theorem pick_i {es fs : List En} {i k : Nat} (hi : i < es.length) (hk : ¬ k < fs.length) : stepP (pickA es fs i k) = ((i : Int), -1) ∧ (pickA es fs i k).ni i = i + 1 ∧ (pickA es fs i k).nk k = k ∧ 1 + costT es fs (i + 1) k = costT es fs i k := by
  unfold pickA
  rw [if_pos hi, if_neg hk, costT.eq_1 es fs i k, if_pos hi, if_neg hk]
  exact ⟨rfl, ni_drop _ _, nk_drop _ _, rfl⟩
theorem pick_k {es fs : List En} {i k : Nat} (hi : ¬ i < es.length) : stepP (pickA es fs i k) = (-1, (k : Int)) ∧ (pickA es fs i k).ni i = i ∧ (pickA es fs i k).nk k = k + 1 := by
  unfold pickA
  rw [if_neg hi]
  exact ⟨rfl, ni_extra _ _, nk_extra _ _⟩
theorem valid2_split {es fs : List En} (h : valid2 es fs = true) : validE es = true ∧ validE fs = true := by unfold valid2 at h; rw [Bool.and_eq_true] at h; exact h
set_option maxRecDepth 100000 in
set_option maxHeartbeats 8000000 in
theorem l07Story_any (a b : Option Addr) (n m ca cb : Nat) (es fs : List En) (hn6 : n ≤ 60) (hm6 : m ≤ 60) (w : World) (h2 : Logs2 w a b n m es fs) :
    Calls Tryd.prog 102 #[.slice a n ca, .slice b m cb] w fun e w' => ∃ v, e = .returned v ∧ OwnV 112 2 w' w.heap.size w'.heap.size v (storyL es fs 0 0).length (flCells ((storyL es fs 0 0).map stepP)) ∧ Gr w w' := by
  obtain ⟨i0, hi0, hz0, hz1, hz2⟩ := info_parts infoSt
  have HC0 := hid (l07Costs_any a b n m ca cb es fs hn6 hm6 w h2)
  have H2 := hid h2
  have HN := hid h2.n_
  have HM := hid h2.m_
  have HBD := hid (fun i k => costT_bd es fs i k (by rw [← h2.n_]; exact hn6) (by rw [← h2.m_]; exact hm6))
  clear h2
  go_enter Tryd.func102, Tryd.ntmps102
  go_wp2_with fail
  refine HC0.out.mono ?_
  rintro e w1 ⟨tb, cap, rb, rfl, t1, g1⟩
  have T1 := hid t1
  have G1 := hid g1
  have I0 := hid (show SsI w1 es fs 0 0 [] (.slice (some ⟨w1.heap.size, 0, none⟩) 0 0) (w1.alloc (.cells #[] 112)) from
    ⟨((OwnV.ofBlock (e := 112) (sz := 2) (n := 0) (us := #[]) (heap_new (w := w1) (o := .cells #[] 112) rfl) (by simp) (by unfold maxLen; simp)).widen (Nat.le_refl _) (by simp)), rfl, (Gr.refl w1).alloc _⟩)
  clear t1 g1 HC0
  go_wp2_with fail
  go_loopw [6, 7, 8] (fun v iv kv wr => ∃ (i k : Nat) (pre : List Acct), i ≤ n ∧ k ≤ m ∧ iv = .int .i64 i ∧ kv = .int .i64 k ∧ Hid (SsI w1 es fs i k pre v wr)) (fun _ iv kv _ => (n - (intOf iv).toNat) + (m - (intOf kv).toNat))
  case atStart => exact ⟨0, 0, [], Nat.zero_le _, Nat.zero_le _, rfl, rfl, I0⟩
  case round =>
    clear I0
    obtain ⟨i, k, pre, hin, hkm, rfl, rfl, I⟩ := hrel
    have hi0' : (0 : Int) ≤ i := by omega
    have hk0' : (0 : Int) ≤ k := by omega
    have hi1' : (i : Int) ≤ n := by omega
    have hk1' : (k : Int) ≤ m := by omega
    have hpl := I.out.len (by rw [← HN.out]; exact hn6) (by rw [← HM.out]; exact hm6)
    obtain ⟨av, cv, rfl⟩ := I.out.own.shape
    have HT1 := hid (fun V (g : Gr w1 V) (h : i < n) => And.intro ((T1.out.gr g).row (r := i + 1) (Nat.zero_le _) (by omega)) ((T1.out.gr g).cell (r := i + 1) (c := k) (Nat.zero_le _) (by omega) (by omega) (.inl (by omega))))
    have HT0 := hid (fun V (g : Gr w1 V) => And.intro ((T1.out.gr g).row (r := i) (Nat.zero_le _) (by omega)) ((T1.out.gr g).cell (r := i) (c := k) (Nat.zero_le _) (by omega) (by omega) (by omega)))
    have HT3 := hid (fun V (g : Gr w1 V) (h : i < n) (h' : k < m) => ((T1.out.gr g).cell (r := i + 1) (c := k + 1) (Nat.zero_le _) (by omega) (by omega) (.inl (by omega))))
    have hx0 := HBD.out i k
    have hx1 := HBD.out (i + 1) k
    have hx3 := HBD.out (i + 1) (k + 1)
    by_cases hi : i < n
    · have hie : i < es.length := by rw [← HN.out]; exact hi
      have hi2 : (i : Int) < n := by omega
      by_cases hk : k < m
      · have hke : k < fs.length := by rw [← HM.out]; exact hk
        have hk2 : (k : Int) < m := by omega
        have HPB := hid (fun h1 h2 => pick_both hie hke h1 h2)
        have HPD := hid (fun h1 h2 => pick_drop hie hke h1 h2)
        have HPE := hid (fun h1 h2 => pick_extra hie hke h1 h2)
        obtain ⟨bb0, o0, rfl, p0, p1, p2⟩ := en_at (H2.out.gr (G1.out.trans I.out.gr)).fst (i := i) hie
        obtain ⟨bb1, o1, rfl, q0, q1, q2'⟩ := en_at (H2.out.gr (G1.out.trans I.out.gr)).snd (i := k) hke
        have HRG0 := hid (range3 ⟨p0, p1, p2⟩)
        have HRG1 := hid (range3 ⟨q0, q1, q2'⟩)
        have HC := hid (fun V => l07Cost_any (enAt es i) (enAt fs k) V)
        have hcr := bothC_range (enAt es i) (enAt fs k)
        have HSN := hid (fun (v2 : Value) (wx wy : World) (g : Gr wr wx) X Y i2 k2 hx hi hk ho hg => (I.out.turn g).snoc (v2 := v2) (wy := wy) (X := X) (Y := Y) (i2 := i2) (k2 := k2) (.inl hie) hx hi hk ho hg)
        generalize bothC (enAt es i) (enAt fs k) = cc at *
        generalize enAt es i = x at *
        generalize enAt fs k = y at *
        generalize costT es fs (i + 1) (k + 1) = x3 at *
        generalize costT es fs (i + 1) k = x1 at *
        generalize costT es fs i k = x0 at *
        generalize rb i = r0 at *
        generalize rb (i + 1) = r1 at *
        unfold enV at HC
        obtain ⟨x0', x1', x2'⟩ := x
        obtain ⟨y0, y1', y2'⟩ := y
        simp only at HRG0 HRG1 HC
        clear p0 p1 p2 q0 q1 q2' hie hke
        go_wp2_with fail
        refine wp_region_still_tail 8 (by kernel_rfl) (by kernel_rfl) ?_
        simp only [List.take_succ_cons, List.take_zero, List.drop_succ_cons, List.drop_zero]
        repeat still_step
        refine wpStill_load_mid rfl 70 (.tmp 36) rfl bb0 (o0 + i * 3) rfl _ _ HRG0.out Tryd.underlying70 rfl sizeEn ?_
        simp only [Act.put, List.setIfInBounds_toArray, List.set_cons_zero, List.set_cons_succ]
        repeat still_step
        refine wpStill_load_mid rfl 70 (.tmp 40) rfl bb1 (o1 + k * 3) rfl _ _ HRG1.out Tryd.underlying70 rfl sizeEn ?_
        simp only [Act.put, List.setIfInBounds_toArray, List.set_cons_zero, List.set_cons_succ]
        refine wpStill_nil ?_
        go_wp2_with fail
        refine (HC.out _).mono ?_
        rintro e w2 ⟨rfl, g2⟩
        have G2 := hid (show Gr wr w2 from ((Gr.refl wr).drew).trans g2)
        clear g2 HRG0 HRG1
        have GT := hid (I.out.gr.trans G2.out)
        obtain ⟨d0, d1⟩ := HT0.out w2 GT.out
        obtain ⟨d2, d3⟩ := HT1.out w2 GT.out hi
        have d4 := HT3.out w2 GT.out hi hk
        by_cases hcc : 0 ≤ cc
        · by_cases heq : cc + x3 = x0
          · have hb : (cc + x3 == x0) = true := by simpa using heq
            have HP := hid (HPB.out hcc heq)
            clear heq HPB HPD HPE
            go_wp2_with fail
            go_quiet (fail)
            generalize hq_w3 : World.drewN w2 _ = w3 at *
            have G3 := hid (show Gr wr w3 from by rw [← hq_w3]; exact G2.out.drewN _)
            clear hq_w3
            (try clear d0 d1)
            (try clear d2 d3)
            (try clear d4)
            have O2 := hid (I.out.turn G3.out).own.row
            have SZ := hid (show w1.heap.size ≤ w3.heap.size from (I.out.turn G3.out).gr.size)
            go_wp2_with (at_builtin; refine wpList_append_own _ rfl _ _ 39 rfl w1.heap.size 112 i0 (.agg #[.int .i64 0, .int .i64 0]) 2 16 Tryd.underlying39 hi0 hz0 hz1 hz2 rfl (by decide) _ _ _ rfl (O2.out.alloc _) ⟨w3.heap.size, 0, none⟩ 1 1 [.int .i64 i, .int .i64 k] rfl rfl (news_st (heap_new rfl)) (fl_oneCell _ _) (by unfold maxLen; omega) (by omega) (by have := SZ.out; simp <;> omega) ?_; intro v5 w5 hown5 hgrow5 _)
            have A5 := hid (HSN.out v5 w3 w5 G3.out _ _ _ _ HP.out.1 HP.out.2.1 HP.out.2.2 hown5 hgrow5)
            clear hown5 hgrow5
            go_wp2_with fail
            go_roundw
            case rel => exact ⟨i + 1, k + 1, _, by omega, by omega, by go_num, by go_num, A5⟩
            case measure => simp [intOf]; omega
          · have hb : (cc + x3 == x0) = false := by simpa using heq
            have hno : ¬ (0 ≤ cc ∧ cc + x3 = x0) := fun h => heq h.2
            clear heq
            clear HPB
            by_cases hd : 1 + x1 = x0
            · have hb2 : (1 + x1 == x0) = true := by simpa using hd
              have HP := hid (HPD.out hno hd)
              clear hd hno HPD HPE
              go_wp2_with fail
              go_quiet (fail)
              generalize hq_w3 : World.drewN w2 _ = w3 at *
              have G3 := hid (show Gr wr w3 from by rw [← hq_w3]; exact G2.out.drewN _)
              clear hq_w3
              (try clear d0 d1)
              (try clear d2 d3)
              (try clear d4)
              obtain ⟨d0, d1⟩ := HT0.out w3 (I.out.gr.trans G3.out)
              obtain ⟨d2, d3⟩ := HT1.out w3 (I.out.gr.trans G3.out) hi
              go_wp2_with fail
              go_quiet (fail)
              generalize hq_w4 : World.drewN w3 _ = w4 at *
              have G4 := hid (show Gr wr w4 from by rw [← hq_w4]; exact G3.out.drewN _)
              clear hq_w4
              (try clear d0 d1)
              (try clear d2 d3)
              (try clear d4)
              have O2 := hid (I.out.turn G4.out).own.row
              have SZ := hid (show w1.heap.size ≤ w4.heap.size from (I.out.turn G4.out).gr.size)
              go_wp2_with (at_builtin; refine wpList_append_own _ rfl _ _ 39 rfl w1.heap.size 112 i0 (.agg #[.int .i64 0, .int .i64 0]) 2 16 Tryd.underlying39 hi0 hz0 hz1 hz2 rfl (by decide) _ _ _ rfl (O2.out.alloc _) ⟨w4.heap.size, 0, none⟩ 1 1 [.int .i64 i, .int .i64 (-1)] rfl rfl (news_st (heap_new rfl)) (fl_oneCell _ _) (by unfold maxLen; omega) (by omega) (by have := SZ.out; simp <;> omega) ?_; intro v5 w5 hown5 hgrow5 _)
              have A5 := hid (HSN.out v5 w4 w5 G4.out _ _ _ _ HP.out.1 HP.out.2.1 HP.out.2.2 hown5 hgrow5)
              clear hown5 hgrow5
              go_wp2_with fail
              go_roundw
              case rel => exact ⟨i + 1, k, _, by omega, by omega, by go_num, by go_num, A5⟩
              case measure => simp [intOf]; omega
            · have hb2 : (1 + x1 == x0) = false := by simpa using hd
              have HP := hid (HPE.out hno hd)
              clear hd hno HPD HPE
              go_wp2_with fail
              go_quiet (fail)
              generalize hq_w3 : World.drewN w2 _ = w3 at *
              have G3 := hid (show Gr wr w3 from by rw [← hq_w3]; exact G2.out.drewN _)
              clear hq_w3
              (try clear d0 d1)
              (try clear d2 d3)
              (try clear d4)
              obtain ⟨d0, d1⟩ := HT0.out w3 (I.out.gr.trans G3.out)
              obtain ⟨d2, d3⟩ := HT1.out w3 (I.out.gr.trans G3.out) hi
              go_wp2_with fail
              go_quiet (fail)
              generalize hq_w4 : World.drewN w3 _ = w4 at *
              have G4 := hid (show Gr wr w4 from by rw [← hq_w4]; exact G3.out.drewN _)
              clear hq_w4
              (try clear d0 d1)
              (try clear d2 d3)
              (try clear d4)
              have O2 := hid (I.out.turn G4.out).own.row
              have SZ := hid (show w1.heap.size ≤ w4.heap.size from (I.out.turn G4.out).gr.size)
              go_wp2_with (at_builtin; refine wpList_append_own _ rfl _ _ 39 rfl w1.heap.size 112 i0 (.agg #[.int .i64 0, .int .i64 0]) 2 16 Tryd.underlying39 hi0 hz0 hz1 hz2 rfl (by decide) _ _ _ rfl (O2.out.alloc _) ⟨w4.heap.size, 0, none⟩ 1 1 [.int .i64 (-1), .int .i64 k] rfl rfl (news_st (heap_new rfl)) (fl_oneCell _ _) (by unfold maxLen; omega) (by omega) (by have := SZ.out; simp <;> omega) ?_; intro v5 w5 hown5 hgrow5 _)
              have A5 := hid (HSN.out v5 w4 w5 G4.out _ _ _ _ HP.out.1 HP.out.2.1 HP.out.2.2 hown5 hgrow5)
              clear hown5 hgrow5
              go_wp2_with fail
              go_roundw
              case rel => exact ⟨i, k + 1, _, by omega, by omega, by go_num, by go_num, A5⟩
              case measure => simp [intOf]; omega
        · have hno : ¬ (0 ≤ cc ∧ cc + x3 = x0) := fun h => hcc h.1
          have hcd : decide (0 ≤ cc) = false := decide_eq_false hcc
          clear HPB
          by_cases hd : 1 + x1 = x0
          · have hb2 : (1 + x1 == x0) = true := by simpa using hd
            have HP := hid (HPD.out hno hd)
            clear hd hno HPD HPE
            go_wp2_with fail
            go_quiet (fail)
            generalize hq_w3 : World.drewN w2 _ = w3 at *
            have G3 := hid (show Gr wr w3 from by rw [← hq_w3]; exact G2.out.drewN _)
            clear hq_w3
            (try clear d0 d1)
            (try clear d2 d3)
            (try clear d4)
            obtain ⟨d0, d1⟩ := HT0.out w3 (I.out.gr.trans G3.out)
            obtain ⟨d2, d3⟩ := HT1.out w3 (I.out.gr.trans G3.out) hi
            go_wp2_with fail
            go_quiet (fail)
            generalize hq_w4 : World.drewN w3 _ = w4 at *
            have G4 := hid (show Gr wr w4 from by rw [← hq_w4]; exact G3.out.drewN _)
            clear hq_w4
            (try clear d0 d1)
            (try clear d2 d3)
            (try clear d4)
            have O2 := hid (I.out.turn G4.out).own.row
            have SZ := hid (show w1.heap.size ≤ w4.heap.size from (I.out.turn G4.out).gr.size)
            go_wp2_with (at_builtin; refine wpList_append_own _ rfl _ _ 39 rfl w1.heap.size 112 i0 (.agg #[.int .i64 0, .int .i64 0]) 2 16 Tryd.underlying39 hi0 hz0 hz1 hz2 rfl (by decide) _ _ _ rfl (O2.out.alloc _) ⟨w4.heap.size, 0, none⟩ 1 1 [.int .i64 i, .int .i64 (-1)] rfl rfl (news_st (heap_new rfl)) (fl_oneCell _ _) (by unfold maxLen; omega) (by omega) (by have := SZ.out; simp <;> omega) ?_; intro v5 w5 hown5 hgrow5 _)
            have A5 := hid (HSN.out v5 w4 w5 G4.out _ _ _ _ HP.out.1 HP.out.2.1 HP.out.2.2 hown5 hgrow5)
            clear hown5 hgrow5
            go_wp2_with fail
            go_roundw
            case rel => exact ⟨i + 1, k, _, by omega, by omega, by go_num, by go_num, A5⟩
            case measure => simp [intOf]; omega
          · have hb2 : (1 + x1 == x0) = false := by simpa using hd
            have HP := hid (HPE.out hno hd)
            clear hd hno HPD HPE
            go_wp2_with fail
            go_quiet (fail)
            generalize hq_w3 : World.drewN w2 _ = w3 at *
            have G3 := hid (show Gr wr w3 from by rw [← hq_w3]; exact G2.out.drewN _)
            clear hq_w3
            (try clear d0 d1)
            (try clear d2 d3)
            (try clear d4)
            obtain ⟨d0, d1⟩ := HT0.out w3 (I.out.gr.trans G3.out)
            obtain ⟨d2, d3⟩ := HT1.out w3 (I.out.gr.trans G3.out) hi
            go_wp2_with fail
            go_quiet (fail)
            generalize hq_w4 : World.drewN w3 _ = w4 at *
            have G4 := hid (show Gr wr w4 from by rw [← hq_w4]; exact G3.out.drewN _)
            clear hq_w4
            (try clear d0 d1)
            (try clear d2 d3)
            (try clear d4)
            have O2 := hid (I.out.turn G4.out).own.row
            have SZ := hid (show w1.heap.size ≤ w4.heap.size from (I.out.turn G4.out).gr.size)
            go_wp2_with (at_builtin; refine wpList_append_own _ rfl _ _ 39 rfl w1.heap.size 112 i0 (.agg #[.int .i64 0, .int .i64 0]) 2 16 Tryd.underlying39 hi0 hz0 hz1 hz2 rfl (by decide) _ _ _ rfl (O2.out.alloc _) ⟨w4.heap.size, 0, none⟩ 1 1 [.int .i64 (-1), .int .i64 k] rfl rfl (news_st (heap_new rfl)) (fl_oneCell _ _) (by unfold maxLen; omega) (by omega) (by have := SZ.out; simp <;> omega) ?_; intro v5 w5 hown5 hgrow5 _)
            have A5 := hid (HSN.out v5 w4 w5 G4.out _ _ _ _ HP.out.1 HP.out.2.1 HP.out.2.2 hown5 hgrow5)
            clear hown5 hgrow5
            go_wp2_with fail
            go_roundw
            case rel => exact ⟨i, k + 1, _, by omega, by omega, by go_num, by go_num, A5⟩
            case measure => simp [intOf]; omega
      · -- only the first one is left
        have hke : ¬ k < fs.length := by rw [← HM.out]; exact hk
        obtain ⟨e1, e2, e3, e4⟩ := pick_i hie hke
        have HP := hid (And.intro e1 (And.intro e2 e3))
        have HSN := hid (fun (v2 : Value) (wx wy : World) (g : Gr wr wx) X Y i2 k2 hx hi hk ho hg => (I.out.turn g).snoc (v2 := v2) (wy := wy) (X := X) (Y := Y) (i2 := i2) (k2 := k2) (.inl hie) hx hi hk ho hg)
        obtain ⟨d0, d1⟩ := HT0.out wr I.out.gr
        obtain ⟨d2, d3⟩ := HT1.out wr I.out.gr hi
        generalize costT es fs (i + 1) k = x1 at *
        generalize costT es fs i k = x0 at *
        generalize rb i = r0 at *
        generalize rb (i + 1) = r1 at *
        have hb : (1 + x1 == x0) = true := by simpa using e4
        have G2 := hid (Gr.refl wr)
        clear e1 e2 e3 e4 hie hke
        go_wp2_with fail
        go_quiet (fail)
        generalize hq_w3 : World.drewN wr _ = w3 at *
        have G3 := hid (show Gr wr w3 from by rw [← hq_w3]; exact G2.out.drewN _)
        clear hq_w3
        (try clear d0 d1)
        (try clear d2 d3)
        (try clear d4)
        obtain ⟨d0, d1⟩ := HT0.out w3 (I.out.gr.trans G3.out)
        obtain ⟨d2, d3⟩ := HT1.out w3 (I.out.gr.trans G3.out) hi
        go_wp2_with fail
        go_quiet (fail)
        generalize hq_w4 : World.drewN w3 _ = w4 at *
        have G4 := hid (show Gr wr w4 from by rw [← hq_w4]; exact G3.out.drewN _)
        clear hq_w4
        (try clear d0 d1)
        (try clear d2 d3)
        (try clear d4)
        have O2 := hid (I.out.turn G4.out).own.row
        have SZ := hid (show w1.heap.size ≤ w4.heap.size from (I.out.turn G4.out).gr.size)
        go_wp2_with (at_builtin; refine wpList_append_own _ rfl _ _ 39 rfl w1.heap.size 112 i0 (.agg #[.int .i64 0, .int .i64 0]) 2 16 Tryd.underlying39 hi0 hz0 hz1 hz2 rfl (by decide) _ _ _ rfl (O2.out.alloc _) ⟨w4.heap.size, 0, none⟩ 1 1 [.int .i64 i, .int .i64 (-1)] rfl rfl (news_st (heap_new rfl)) (fl_oneCell _ _) (by unfold maxLen; omega) (by omega) (by have := SZ.out; simp <;> omega) ?_; intro v5 w5 hown5 hgrow5 _)
        have A5 := hid (HSN.out v5 w4 w5 G4.out _ _ _ _ HP.out.1 HP.out.2.1 HP.out.2.2 hown5 hgrow5)
        clear hown5 hgrow5
        go_wp2_with fail
        go_roundw
        case rel => exact ⟨i + 1, k, _, by omega, by omega, by go_num, by go_num, A5⟩
        case measure => simp [intOf]; omega
    · have hie : ¬ i < es.length := by rw [← HN.out]; exact hi
      by_cases hk : k < m
      · have hke : k < fs.length := by rw [← HM.out]; exact hk
        have HP := hid (pick_k (fs := fs) (k := k) hie)
        have HSN := hid (fun (v2 : Value) (wx wy : World) (g : Gr wr wx) X Y i2 k2 hx hi hk ho hg => (I.out.turn g).snoc (v2 := v2) (wy := wy) (X := X) (Y := Y) (i2 := i2) (k2 := k2) (.inr hke) hx hi hk ho hg)
        have G2 := hid (Gr.refl wr)
        clear hie hke hx0 hx1 hx3
        go_wp2_with fail
        go_quiet (fail)
        generalize hq_w3 : World.drewN wr _ = w3 at *
        have G3 := hid (show Gr wr w3 from by rw [← hq_w3]; exact G2.out.drewN _)
        clear hq_w3
        (try clear d0 d1)
        (try clear d2 d3)
        (try clear d4)
        go_wp2_with fail
        go_quiet (fail)
        generalize hq_w4 : World.drewN w3 _ = w4 at *
        have G4 := hid (show Gr wr w4 from by rw [← hq_w4]; exact G3.out.drewN _)
        clear hq_w4
        (try clear d0 d1)
        (try clear d2 d3)
        (try clear d4)
        have O2 := hid (I.out.turn G4.out).own.row
        have SZ := hid (show w1.heap.size ≤ w4.heap.size from (I.out.turn G4.out).gr.size)
        go_wp2_with (at_builtin; refine wpList_append_own _ rfl _ _ 39 rfl w1.heap.size 112 i0 (.agg #[.int .i64 0, .int .i64 0]) 2 16 Tryd.underlying39 hi0 hz0 hz1 hz2 rfl (by decide) _ _ _ rfl (O2.out.alloc _) ⟨w4.heap.size, 0, none⟩ 1 1 [.int .i64 (-1), .int .i64 k] rfl rfl (news_st (heap_new rfl)) (fl_oneCell _ _) (by unfold maxLen; omega) (by omega) (by have := SZ.out; simp <;> omega) ?_; intro v5 w5 hown5 hgrow5 _)
        have A5 := hid (HSN.out v5 w4 w5 G4.out _ _ _ _ HP.out.1 HP.out.2.1 HP.out.2.2 hown5 hgrow5)
        clear hown5 hgrow5
        go_wp2_with fail
        go_roundw
        case rel => exact ⟨i, k + 1, _, by omega, by omega, by go_num, by go_num, A5⟩
        case measure => simp [intOf]; omega
      · have HE := hid (show pre = storyL es fs 0 0 by
          have h := I.out.left
          rw [storyL_end (by rw [← HN.out, ← HM.out]; omega), List.append_nil] at h
          exact h)
        have OE := hid I.out.own
        have GE := hid I.out.gr
        clear I hie hx0 hx1 hx3
        go_wp2_with fail
        go_ret
        exact ⟨_, rfl, by rw [← HE.out]; exact OE.out.widen G1.out.size (Nat.le_refl _), G1.out.trans GE.out⟩
set_option maxRecDepth 100000 in
set_option maxHeartbeats 2000000 in
theorem spec_FaultsOf_law (a : Option Addr) (n ca : Nat) (es : List En) (hn0 : n = es.length) (hn : n ≤ 1048576) (hf : EnFits es) (b : Option Addr) (m cb : Nat) (fs : List En) (hm0 : m = fs.length) (hm : m ≤ 1048576) (hg : EnFits fs) (w : World) (ha : CellsOf w a (enCells es)) (hb : CellsOf w b (enCells fs)) :
    Calls Tryd.prog 34 #[.slice a n ca, .slice b m cb] w fun e w' => e = .returned (.tuple #[.int .i64 (faultsV es fs), .int .i64 (code2 es fs)]) ∧ Gr w w' := by
  have h2 : Logs2 w a b n m es fs := ⟨ha, hb, hn0, hm0, hn, hm⟩
  have HO1 := hid (fun V (g : Gr w V) => l07Ok_any a n ca es hn0 hn V (ha.gr g))
  have HO2 := hid (fun V (g : Gr w V) => l07Ok_any b m cb fs hm0 hm V (hb.gr g))
  cases hv : valid2 es fs with
  | false =>
    rw [show code2 es fs = 1 by unfold code2; rw [hv]; rfl, show faultsV es fs = 0 by unfold faultsV; rw [hv]; rfl]
    cases hv1 : validE es with
    | false =>
      rw [hv1] at HO1
      clear h2 ha hb hf hg hn0 hm0 hv hv1
      go_enter Tryd.func34, Tryd.ntmps34
      go_wp2_with fail
      refine (HO1.out _ (Gr.refl _)).mono ?_
      rintro e w1 ⟨rfl, g1⟩
      have GF := hid g1
      clear g1
      go_wp2_with fail
      go_ret2
      exact ⟨rfl, GF.out⟩
    | true =>
      have hv2 : validE fs = false := by unfold valid2 at hv; rw [hv1, Bool.true_and] at hv; exact hv
      rw [hv1] at HO1
      rw [hv2] at HO2
      clear h2 ha hb hf hg hn0 hm0 hv hv1 hv2
      go_enter Tryd.func34, Tryd.ntmps34
      go_wp2_with fail
      refine (HO1.out _ (Gr.refl _)).mono ?_
      rintro e w1 ⟨rfl, g1⟩
      have G1 := hid g1
      clear g1
      go_wp2_with fail
      refine (HO2.out _ G1.out).mono ?_
      rintro e w2 ⟨rfl, g2⟩
      have GF := hid (G1.out.trans g2)
      clear g2
      go_wp2_with fail
      go_ret2
      exact ⟨rfl, GF.out⟩
  | true =>
    obtain ⟨h1, h2'⟩ := valid2_split hv
    have h60 := valid2_60 hv
    rw [h1] at HO1
    rw [h2'] at HO2
    have HT := hid (fun V (g : Gr w V) => l07Costs_any a b n m ca cb es fs (by rw [hn0]; exact h60.1) (by rw [hm0]; exact h60.2) V (h2.gr g))
    rw [show code2 es fs = 0 by unfold code2; rw [hv]; rfl]
    have HV := hid (show faultsV es fs = costT es fs 0 0 by unfold faultsV; rw [hv]; rfl)
    clear h2 ha hb hf hg hn0 hm0 hv h1 h2'
    go_enter Tryd.func34, Tryd.ntmps34
    go_wp2_with fail
    refine (HO1.out _ (Gr.refl _)).mono ?_
    rintro e w1 ⟨rfl, g1⟩
    have G1 := hid g1
    clear g1
    go_wp2_with fail
    refine (HO2.out _ G1.out).mono ?_
    rintro e w2 ⟨rfl, g2⟩
    have G2 := hid (G1.out.trans g2)
    clear g2
    go_wp2_with fail
    refine (HT.out _ G2.out).mono ?_
    rintro e w3 ⟨tb, cap, rb, rfl, t3, g3⟩
    have G3 := hid (G2.out.trans g3)
    have c0 := t3.row (r := 0) (Nat.le_refl _) (by omega)
    have c1 := t3.cell (r := 0) (c := 0) (Nat.le_refl _) (by omega) (by omega) (.inr ⟨rfl, Nat.le_refl _⟩)
    rw [← HV.out] at c1
    generalize hft : faultsV es fs = ft at *
    have HFT := hid hft
    generalize rb 0 = r0 at *
    clear g3 t3 hft HV
    go_wp2_with fail
    go_ret2
    exact ⟨by rw [HFT.out]; rfl, G3.out⟩
set_option maxRecDepth 100000 in
set_option maxHeartbeats 2000000 in
theorem spec_StoryOf_law (a : Option Addr) (n ca : Nat) (es : List En) (hn0 : n = es.length) (hn : n ≤ 1048576) (hf : EnFits es) (b : Option Addr) (m cb : Nat) (fs : List En) (hm0 : m = fs.length) (hm : m ≤ 1048576) (hg : EnFits fs) (w : World) (ha : CellsOf w a (enCells es)) (hb : CellsOf w b (enCells fs)) :
    Calls Tryd.prog 36 #[.slice a n ca, .slice b m cb] w (RetV 112 2 (withCode (code2 es fs)) (storyV es fs).length (flCells (storyV es fs)) w) := by
  have h2 : Logs2 w a b n m es fs := ⟨ha, hb, hn0, hm0, hn, hm⟩
  have HO1 := hid (fun V (g : Gr w V) => l07Ok_any a n ca es hn0 hn V (ha.gr g))
  have HO2 := hid (fun V (g : Gr w V) => l07Ok_any b m cb fs hm0 hm V (hb.gr g))
  cases hv : valid2 es fs with
  | false =>
    rw [show code2 es fs = 1 by unfold code2; rw [hv]; rfl, show storyV es fs = [] by unfold storyV; rw [hv]; rfl]
    cases hv1 : validE es with
    | false =>
      rw [hv1] at HO1
      clear h2 ha hb hf hg hn0 hm0 hv hv1
      go_enter Tryd.func36, Tryd.ntmps36
      go_wp2_with fail
      refine (HO1.out _ (Gr.refl _)).mono ?_
      rintro e w1 ⟨rfl, g1⟩
      have GF := hid g1
      clear g1
      go_wp2_with fail
      go_ret2
      exact ⟨_, rfl, (OwnV.ofBlock (e := 112) (sz := 2) (n := 0) (us := #[]) (heap_new (o := .cells #[] 112) rfl) (by simp) (by unfold maxLen; simp)).widen GF.out.size (by simp), GF.out.alloc _⟩
    | true =>
      have hv2 : validE fs = false := by unfold valid2 at hv; rw [hv1, Bool.true_and] at hv; exact hv
      rw [hv1] at HO1
      rw [hv2] at HO2
      clear h2 ha hb hf hg hn0 hm0 hv hv1 hv2
      go_enter Tryd.func36, Tryd.ntmps36
      go_wp2_with fail
      refine (HO1.out _ (Gr.refl _)).mono ?_
      rintro e w1 ⟨rfl, g1⟩
      have G1 := hid g1
      clear g1
      go_wp2_with fail
      refine (HO2.out _ G1.out).mono ?_
      rintro e w2 ⟨rfl, g2⟩
      have GF := hid (G1.out.trans g2)
      clear g2
      go_wp2_with fail
      go_ret2
      exact ⟨_, rfl, (OwnV.ofBlock (e := 112) (sz := 2) (n := 0) (us := #[]) (heap_new (o := .cells #[] 112) rfl) (by simp) (by unfold maxLen; simp)).widen GF.out.size (by simp), GF.out.alloc _⟩
  | true =>
    obtain ⟨h1, h2'⟩ := valid2_split hv
    have h60 := valid2_60 hv
    rw [h1] at HO1
    rw [h2'] at HO2
    have HT := hid (fun V (g : Gr w V) => l07Story_any a b n m ca cb es fs (by rw [hn0]; exact h60.1) (by rw [hm0]; exact h60.2) V (h2.gr g))
    rw [show code2 es fs = 0 by unfold code2; rw [hv]; rfl, show storyV es fs = (storyL es fs 0 0).map stepP by unfold storyV; rw [hv]; rfl]
    clear h2 ha hb hf hg hn0 hm0 hv h1 h2'
    go_enter Tryd.func36, Tryd.ntmps36
    go_wp2_with fail
    refine (HO1.out _ (Gr.refl _)).mono ?_
    rintro e w1 ⟨rfl, g1⟩
    have G1 := hid g1
    clear g1
    go_wp2_with fail
    refine (HO2.out _ G1.out).mono ?_
    rintro e w2 ⟨rfl, g2⟩
    have G2 := hid (G1.out.trans g2)
    clear g2
    go_wp2_with fail
    refine (HT.out _ G2.out).mono ?_
    rintro e w3 ⟨v, rfl, o3, g3⟩
    have G3 := hid (G2.out.trans g3)
    have O3 := hid o3
    clear g3 o3
    go_wp2_with fail
    go_ret2
    exact ⟨_, rfl, by rw [List.length_map]; exact O3.out.widen G2.out.size (Nat.le_refl _), G3.out⟩
end Go.Proofs.YtlgfibiggiknjaaDoor
