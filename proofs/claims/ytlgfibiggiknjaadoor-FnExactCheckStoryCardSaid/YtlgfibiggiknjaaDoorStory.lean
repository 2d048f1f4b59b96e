/- The story with the least faults: the program's function. -/
import Derived.Test.YtlgfibiggiknjaaDoorFaults
namespace Go.Proofs.YtlgfibiggiknjaaDoor
set_option linter.unusedVariables false
open Go.RowKit
/-- What the loop keeps: the accounts so far, and what is left. -/
structure StI (w : World) (es fs : List En) (i k : Nat) (pre : List Acct) (v : Value) (wr : World) : Prop where
  own : OwnV 128 1 wr w.heap.size wr.heap.size v pre.length (acVals pre)
  left : pre ++ storyL es fs i k = storyL es fs 0 0
  gr : Gr w wr
theorem StI.start (w : World) (es fs : List En) : StI w es fs 0 0 [] (.slice none 0 0) w := ⟨OwnV.nil _ _ _, rfl, Gr.refl _⟩
theorem StI.turn {w wr wx : World} {es fs : List En} {i k : Nat} {pre : List Acct} {v : Value} (h : StI w es fs i k pre v wr) (g : Gr wr wx) : StI w es fs i k pre v wx :=
  ⟨(h.own.gr g).widen (Nat.le_refl _) g.size, h.left, h.gr.trans g⟩
theorem StI.snoc {w wr wy : World} {es fs : List En} {i k : Nat} {pre : List Acct} {v v2 : Value} (h : StI w es fs i k pre v wr) (hl : i < es.length ∨ k < fs.length) {x : Value} (hx : (pickA es fs i k).val = x)
    (ho : wy.ownsRow w.heap.size 128 1 v2 (pre.length + 1) (acVals pre ++ [x])) (hg : (wr.alloc (.cells #[x] 128)).grownBy wy v.ownBlock) :
    StI w es fs ((pickA es fs i k).ni i) ((pickA es fs i k).nk k) (pre ++ [pickA es fs i k]) v2 wy := by
  subst hx
  refine ⟨?_, by rw [← h.left, storyL_go hl]; simp, (h.gr.alloc _).by_ hg (fun b e => (h.own.row.lt b e).1)⟩
  rw [show acVals (pre ++ [pickA es fs i k]) = acVals pre ++ [(pickA es fs i k).val] by simp [acVals], show (pre ++ [pickA es fs i k]).length = pre.length + 1 by simp]
  exact OwnV.ofRow ho
theorem StI.len {w wr : World} {es fs : List En} {i k : Nat} {pre : List Acct} {v : Value} (h : StI w es fs i k pre v wr) (h1 : es.length ≤ 60) (h2 : fs.length ≤ 60) : pre.length ≤ 120 := by
  have a := congrArg List.length h.left
  have b := storyL_length es fs _ 0 0 rfl
  rw [List.length_append] at a
  omega
set_option maxRecDepth 100000 in
set_option maxHeartbeats 4000000 in
theorem story_any (a b : Option Addr) (n m ca cb : Nat) (es fs : List En) (hn6 : n ≤ 60) (hm6 : m ≤ 60) (w : World) (h2 : Logs2 w a b n m es fs) :
    Calls Tryd.prog 104 #[.agg (sidesC a b n m ca cb)] w fun e w' => ∃ v, e = .returned v ∧ OwnV 128 1 w' w.heap.size w'.heap.size v (storyL es fs 0 0).length (acVals (storyL es fs 0 0)) ∧ Gr w w' := by
  obtain ⟨i0, hi0, hz0, hz1, hz2⟩ := info_parts infoAc
  obtain ⟨W1, hW1⟩ : ∃ W1, W1 = w.alloc (.cells (sidesC a b n m ca cb) 115) := ⟨_, rfl⟩
  have GW := hid (show Gr w W1 by rw [hW1]; exact (Gr.refl w).alloc _)
  have B1 := hid (show W1.heap[w.heap.size]? = some (.cells (sidesC a b n m ca cb) 115 (0, 0)) by rw [hW1]; exact heap_new rfl)
  have HL := hid (leastFaults_any a b n m ca cb es fs hn6 hm6 W1 (h2.gr GW.out))
  have H2 := hid h2
  have HGO := hid (fun V (g : Gr w V) lo tb cap rb i k hi hk ht => goOn_any a b n m ca cb es fs i k hi hk hn6 hm6 V (h2.gr g) lo tb cap rb ht)
  have HW1 := hid hW1
  have HN := hid h2.n_
  have HM := hid h2.m_
  clear h2 hW1
  unfold sidesC at HL HW1 HGO B1 ⊢
  go_enter Tryd.func104, Tryd.ntmps104
  go_wp2_with fail
  rw [← HW1.out]
  refine HL.out.mono ?_
  rintro e w1 ⟨tb, rb, rfl, t1, g1⟩
  have G1 := hid (GW.out.trans g1)
  have T1 := hid t1
  have B2 := hid (g1.heap B1.out)
  clear g1 t1 HL
  go_wp2_with fail
  go_loopw [4, 5, 6] (fun v iv kv wr => ∃ (i k : Nat) (pre : List Acct), i ≤ n ∧ k ≤ m ∧ iv = .int .i64 i ∧ kv = .int .i64 k ∧ Hid (StI w1 es fs i k pre v wr)) (fun _ iv kv _ => (n - (intOf iv).toNat) + (m - (intOf kv).toNat))
  case atStart => exact ⟨0, 0, [], Nat.zero_le _, Nat.zero_le _, rfl, rfl, hid (StI.start w1 es fs)⟩
  case round =>
    obtain ⟨i, k, pre, hin, hkm, rfl, rfl, I⟩ := hrel
    have B3 := hid (I.out.gr.heap B2.out)
    have c0 : wr.cell? ⟨w.heap.size, 0, none⟩ = some (.slice a n ca) := by rw [cell_of_row _ _ _ _ _ _ B3.out]; rfl
    have c1 : wr.cell? ⟨w.heap.size, 1, none⟩ = some (.slice b m cb) := by rw [cell_of_row _ _ _ _ _ _ B3.out]; rfl
    have HRG := hid (show wr.rangeAt w.heap.size 0 [.slice a n ca, .slice b m cb] from rangeAt_vals (vs := [.slice a n ca, .slice b m cb]) B3.out)
    have hi0' : (0 : Int) ≤ i := by omega
    have hk0' : (0 : Int) ≤ k := by omega
    have hi1' : (i : Int) ≤ n := by omega
    have hk1' : (k : Int) ≤ m := by omega
    have hpl := I.out.len (by rw [← HN.out]; exact hn6) (by rw [← HM.out]; exact hm6)
    obtain ⟨av, cv, rfl⟩ := I.out.own.shape
    by_cases hc : i < n ∨ k < m
    · have hce : i < es.length ∨ k < fs.length := by rw [← HN.out, ← HM.out]; exact hc
      have hat := pickA_at hce
      have HGK := hid (HGO.out wr (G1.out.trans I.out.gr) _ tb (n + 1) rb i k hin hkm (((T1.out.gr I.out.gr).less (Nat.zero_le i) (i' := i) (j' := k + 1) (by omega))))
      have HGK2 := hid (show (if i < n ∨ k < m then some (pickA es fs i k) else none) = some (pickA es fs i k) by rw [if_pos hc])
      rw [HGK2.out] at HGK
      have HSN := hid (fun (v2 : Value) (wx wy : World) (g : Gr wr wx) x (hx : (pickA es fs i k).val = x) ho hg => (I.out.turn g).snoc (v2 := v2) (wy := wy) hce hx ho hg)
      have HBH := hid (fun V => behind_any (pickA es fs i k).fl (pickA es fs i k).se i k (by omega) (by omega) V)
      have hnn := acct_next hat
      rw [← HN.out, ← HM.out] at hnn
      have hon := pick_on es fs i k hce
      rw [← HN.out, ← HM.out] at hon
      have HNI := hid (show (if (pickA es fs i k).fl = -1 then i else i + 1) = (pickA es fs i k).ni i from rfl)
      have HNK := hid (show (if (pickA es fs i k).se = -1 then k else k + 1) = (pickA es fs i k).nk k from rfl)
      rw [HNI.out, HNK.out] at HBH
      have hbd := costT_bd es fs i k (by rw [← HN.out]; exact hn6) (by rw [← HM.out]; exact hm6)
      generalize costT es fs i k = cst at *
      clear HNI HNK HGK2
      by_cases hi : i < n
      · clear hc hce
        generalize hpk : pickA es fs i k = x at *
        generalize x.ni i = i2 at *
        generalize x.nk k = k2 at *
        have HAT := hid hat
        rcases hat with ⟨rfl, -⟩ | ⟨rfl, -⟩ | ⟨rfl, -⟩ | ⟨rfl, -⟩
        · have HS := hid (show ∀ V, Calls Tryd.prog 219 #[.agg #[.int .i64 i, .int .i64 k]] V (fun e w' => e = .returned (.agg #[.int .i64 i, .int .i64 k]) ∧ Gr V w') from fun V => stepR_any i k V)
          unfold Acct.fl Acct.se at HBH
          have HSN2 := hid (fun (v2 : Value) (wx wy : World) (g : Gr wr wx) => HSN.out v2 wx wy g (.iface 190 (.agg #[.int .i64 i, .int .i64 k])) rfl)
          unfold optV Acct.val at HGK
          clear HSN hpk HAT
          go_wp2_with ((refine wpList_load_mid rfl 115 _ rfl w.heap.size 0 rfl _ _ HRG.out Tryd.underlying115 rfl (by kernel_rfl) ?_))
          refine HGK.out.mono ?_
          rintro e w2 ⟨rfl, g2⟩
          have G2 := hid g2
          have O2 := hid (I.out.turn g2).own.row
          have SZ := hid (show w1.heap.size ≤ w2.heap.size from (I.out.turn g2).gr.size)
          clear g2
          go_upto_region 7 with (at_builtin; refine wpList_append_own _ rfl _ _ 125 rfl w1.heap.size 128 i0 .nilIface 1 16 Tryd.underlying125 hi0 hz0 hz1 hz2 rfl (by decide) _ _ _ rfl (O2.out.alloc _) ⟨w2.heap.size, 0, none⟩ 1 1 [.iface 190 (.agg #[.int .i64 i, .int .i64 k])] rfl rfl (news_ac (heap_new rfl)) (by simp [Value.oneCell']) (by unfold maxLen; omega) (by omega) (by have := SZ.out; simp <;> omega) ?_; intro v5 w5 hown_w5 hgrow_w5 _)
          have A3 := hid (HSN2.out _ _ _ G2.out hown_w5 hgrow_w5)
          clear hown_w5 hgrow_w5 c0 c1 O2
          go_wp2_with fail
          refine (HS.out _).mono ?_
          rintro e w6 ⟨rfl, g6⟩
          have A4 := hid (A3.out.turn g6)
          clear g6
          go_wp2_with fail
          refine (HBH.out _).mono ?_
          rintro e w7 ⟨rfl, g7⟩
          have A5 := hid (A4.out.turn g7)
          clear g7
          go_wp2_with fail
          go_roundw
          case rel => exact ⟨i2, k2, _, by omega, by omega, rfl, rfl, A5⟩
          case measure => simp [intOf]; omega
        · have HS := hid (show ∀ V, Calls Tryd.prog 216 #[.agg #[.int .i64 i, .int .i64 k]] V (fun e w' => e = .returned (.agg #[.int .i64 i, .int .i64 k]) ∧ Gr V w') from fun V => stepM_any i k V)
          unfold Acct.fl Acct.se at HBH
          have HSN2 := hid (fun (v2 : Value) (wx wy : World) (g : Gr wr wx) => HSN.out v2 wx wy g (.iface 144 (.agg #[.int .i64 i, .int .i64 k])) rfl)
          unfold optV Acct.val at HGK
          clear HSN hpk HAT
          go_wp2_with ((refine wpList_load_mid rfl 115 _ rfl w.heap.size 0 rfl _ _ HRG.out Tryd.underlying115 rfl (by kernel_rfl) ?_))
          refine HGK.out.mono ?_
          rintro e w2 ⟨rfl, g2⟩
          have G2 := hid g2
          have O2 := hid (I.out.turn g2).own.row
          have SZ := hid (show w1.heap.size ≤ w2.heap.size from (I.out.turn g2).gr.size)
          clear g2
          go_upto_region 7 with (at_builtin; refine wpList_append_own _ rfl _ _ 125 rfl w1.heap.size 128 i0 .nilIface 1 16 Tryd.underlying125 hi0 hz0 hz1 hz2 rfl (by decide) _ _ _ rfl (O2.out.alloc _) ⟨w2.heap.size, 0, none⟩ 1 1 [.iface 144 (.agg #[.int .i64 i, .int .i64 k])] rfl rfl (news_ac (heap_new rfl)) (by simp [Value.oneCell']) (by unfold maxLen; omega) (by omega) (by have := SZ.out; simp <;> omega) ?_; intro v5 w5 hown_w5 hgrow_w5 _)
          have A3 := hid (HSN2.out _ _ _ G2.out hown_w5 hgrow_w5)
          clear hown_w5 hgrow_w5 c0 c1 O2
          go_wp2_with fail
          refine (HS.out _).mono ?_
          rintro e w6 ⟨rfl, g6⟩
          have A4 := hid (A3.out.turn g6)
          clear g6
          go_wp2_with fail
          refine (HBH.out _).mono ?_
          rintro e w7 ⟨rfl, g7⟩
          have A5 := hid (A4.out.turn g7)
          clear g7
          go_wp2_with fail
          go_roundw
          case rel => exact ⟨i2, k2, _, by omega, by omega, rfl, rfl, A5⟩
          case measure => simp [intOf]; omega
        · have HS := hid (show ∀ V, Calls Tryd.prog 215 #[.int .i64 i] V (fun e w' => e = .returned (.agg #[.int .i64 i, .int .i64 (-1)]) ∧ Gr V w') from fun V => stepD_any i V)
          unfold Acct.fl Acct.se at HBH
          have HSN2 := hid (fun (v2 : Value) (wx wy : World) (g : Gr wr wx) => HSN.out v2 wx wy g (.iface 142 (.int .i64 i)) rfl)
          unfold optV Acct.val at HGK
          clear HSN hpk HAT
          go_wp2_with ((refine wpList_load_mid rfl 115 _ rfl w.heap.size 0 rfl _ _ HRG.out Tryd.underlying115 rfl (by kernel_rfl) ?_))
          refine HGK.out.mono ?_
          rintro e w2 ⟨rfl, g2⟩
          have G2 := hid g2
          have O2 := hid (I.out.turn g2).own.row
          have SZ := hid (show w1.heap.size ≤ w2.heap.size from (I.out.turn g2).gr.size)
          clear g2
          go_upto_region 7 with (at_builtin; refine wpList_append_own _ rfl _ _ 125 rfl w1.heap.size 128 i0 .nilIface 1 16 Tryd.underlying125 hi0 hz0 hz1 hz2 rfl (by decide) _ _ _ rfl (O2.out.alloc _) ⟨w2.heap.size, 0, none⟩ 1 1 [.iface 142 (.int .i64 i)] rfl rfl (news_ac (heap_new rfl)) (by simp [Value.oneCell']) (by unfold maxLen; omega) (by omega) (by have := SZ.out; simp <;> omega) ?_; intro v5 w5 hown_w5 hgrow_w5 _)
          have A3 := hid (HSN2.out _ _ _ G2.out hown_w5 hgrow_w5)
          clear hown_w5 hgrow_w5 c0 c1 O2
          go_wp2_with fail
          refine (HS.out _).mono ?_
          rintro e w6 ⟨rfl, g6⟩
          have A4 := hid (A3.out.turn g6)
          clear g6
          go_wp2_with fail
          refine (HBH.out _).mono ?_
          rintro e w7 ⟨rfl, g7⟩
          have A5 := hid (A4.out.turn g7)
          clear g7
          go_wp2_with fail
          go_roundw
          case rel => exact ⟨i2, k2, _, by omega, by omega, rfl, rfl, A5⟩
          case measure => simp [intOf]; omega
        · have HS := hid (show ∀ V, Calls Tryd.prog 220 #[.int .i64 k] V (fun e w' => e = .returned (.agg #[.int .i64 (-1), .int .i64 k]) ∧ Gr V w') from fun V => stepE_any k V)
          unfold Acct.fl Acct.se at HBH
          have HSN2 := hid (fun (v2 : Value) (wx wy : World) (g : Gr wr wx) => HSN.out v2 wx wy g (.iface 191 (.int .i64 k)) rfl)
          unfold optV Acct.val at HGK
          clear HSN hpk HAT
          go_wp2_with ((refine wpList_load_mid rfl 115 _ rfl w.heap.size 0 rfl _ _ HRG.out Tryd.underlying115 rfl (by kernel_rfl) ?_))
          refine HGK.out.mono ?_
          rintro e w2 ⟨rfl, g2⟩
          have G2 := hid g2
          have O2 := hid (I.out.turn g2).own.row
          have SZ := hid (show w1.heap.size ≤ w2.heap.size from (I.out.turn g2).gr.size)
          clear g2
          go_upto_region 7 with (at_builtin; refine wpList_append_own _ rfl _ _ 125 rfl w1.heap.size 128 i0 .nilIface 1 16 Tryd.underlying125 hi0 hz0 hz1 hz2 rfl (by decide) _ _ _ rfl (O2.out.alloc _) ⟨w2.heap.size, 0, none⟩ 1 1 [.iface 191 (.int .i64 k)] rfl rfl (news_ac (heap_new rfl)) (by simp [Value.oneCell']) (by unfold maxLen; omega) (by omega) (by have := SZ.out; simp <;> omega) ?_; intro v5 w5 hown_w5 hgrow_w5 _)
          have A3 := hid (HSN2.out _ _ _ G2.out hown_w5 hgrow_w5)
          clear hown_w5 hgrow_w5 c0 c1 O2
          go_wp2_with fail
          refine (HS.out _).mono ?_
          rintro e w6 ⟨rfl, g6⟩
          have A4 := hid (A3.out.turn g6)
          clear g6
          go_wp2_with fail
          refine (HBH.out _).mono ?_
          rintro e w7 ⟨rfl, g7⟩
          have A5 := hid (A4.out.turn g7)
          clear g7
          go_wp2_with fail
          go_roundw
          case rel => exact ⟨i2, k2, _, by omega, by omega, rfl, rfl, A5⟩
          case measure => simp [intOf]; omega
      · have hk : k < m := by omega
        clear hc hce
        generalize hpk : pickA es fs i k = x at *
        generalize x.ni i = i2 at *
        generalize x.nk k = k2 at *
        have HAT := hid hat
        rcases hat with ⟨rfl, -⟩ | ⟨rfl, -⟩ | ⟨rfl, -⟩ | ⟨rfl, -⟩
        · have HS := hid (show ∀ V, Calls Tryd.prog 219 #[.agg #[.int .i64 i, .int .i64 k]] V (fun e w' => e = .returned (.agg #[.int .i64 i, .int .i64 k]) ∧ Gr V w') from fun V => stepR_any i k V)
          unfold Acct.fl Acct.se at HBH
          have HSN2 := hid (fun (v2 : Value) (wx wy : World) (g : Gr wr wx) => HSN.out v2 wx wy g (.iface 190 (.agg #[.int .i64 i, .int .i64 k])) rfl)
          unfold optV Acct.val at HGK
          clear HSN hpk HAT
          go_wp2_with ((refine wpList_load_mid rfl 115 _ rfl w.heap.size 0 rfl _ _ HRG.out Tryd.underlying115 rfl (by kernel_rfl) ?_))
          refine HGK.out.mono ?_
          rintro e w2 ⟨rfl, g2⟩
          have G2 := hid g2
          have O2 := hid (I.out.turn g2).own.row
          have SZ := hid (show w1.heap.size ≤ w2.heap.size from (I.out.turn g2).gr.size)
          clear g2
          go_upto_region 7 with (at_builtin; refine wpList_append_own _ rfl _ _ 125 rfl w1.heap.size 128 i0 .nilIface 1 16 Tryd.underlying125 hi0 hz0 hz1 hz2 rfl (by decide) _ _ _ rfl (O2.out.alloc _) ⟨w2.heap.size, 0, none⟩ 1 1 [.iface 190 (.agg #[.int .i64 i, .int .i64 k])] rfl rfl (news_ac (heap_new rfl)) (by simp [Value.oneCell']) (by unfold maxLen; omega) (by omega) (by have := SZ.out; simp <;> omega) ?_; intro v5 w5 hown_w5 hgrow_w5 _)
          have A3 := hid (HSN2.out _ _ _ G2.out hown_w5 hgrow_w5)
          clear hown_w5 hgrow_w5 c0 c1 O2
          go_wp2_with fail
          refine (HS.out _).mono ?_
          rintro e w6 ⟨rfl, g6⟩
          have A4 := hid (A3.out.turn g6)
          clear g6
          go_wp2_with fail
          refine (HBH.out _).mono ?_
          rintro e w7 ⟨rfl, g7⟩
          have A5 := hid (A4.out.turn g7)
          clear g7
          go_wp2_with fail
          go_roundw
          case rel => exact ⟨i2, k2, _, by omega, by omega, rfl, rfl, A5⟩
          case measure => simp [intOf]; omega
        · have HS := hid (show ∀ V, Calls Tryd.prog 216 #[.agg #[.int .i64 i, .int .i64 k]] V (fun e w' => e = .returned (.agg #[.int .i64 i, .int .i64 k]) ∧ Gr V w') from fun V => stepM_any i k V)
          unfold Acct.fl Acct.se at HBH
          have HSN2 := hid (fun (v2 : Value) (wx wy : World) (g : Gr wr wx) => HSN.out v2 wx wy g (.iface 144 (.agg #[.int .i64 i, .int .i64 k])) rfl)
          unfold optV Acct.val at HGK
          clear HSN hpk HAT
          go_wp2_with ((refine wpList_load_mid rfl 115 _ rfl w.heap.size 0 rfl _ _ HRG.out Tryd.underlying115 rfl (by kernel_rfl) ?_))
          refine HGK.out.mono ?_
          rintro e w2 ⟨rfl, g2⟩
          have G2 := hid g2
          have O2 := hid (I.out.turn g2).own.row
          have SZ := hid (show w1.heap.size ≤ w2.heap.size from (I.out.turn g2).gr.size)
          clear g2
          go_upto_region 7 with (at_builtin; refine wpList_append_own _ rfl _ _ 125 rfl w1.heap.size 128 i0 .nilIface 1 16 Tryd.underlying125 hi0 hz0 hz1 hz2 rfl (by decide) _ _ _ rfl (O2.out.alloc _) ⟨w2.heap.size, 0, none⟩ 1 1 [.iface 144 (.agg #[.int .i64 i, .int .i64 k])] rfl rfl (news_ac (heap_new rfl)) (by simp [Value.oneCell']) (by unfold maxLen; omega) (by omega) (by have := SZ.out; simp <;> omega) ?_; intro v5 w5 hown_w5 hgrow_w5 _)
          have A3 := hid (HSN2.out _ _ _ G2.out hown_w5 hgrow_w5)
          clear hown_w5 hgrow_w5 c0 c1 O2
          go_wp2_with fail
          refine (HS.out _).mono ?_
          rintro e w6 ⟨rfl, g6⟩
          have A4 := hid (A3.out.turn g6)
          clear g6
          go_wp2_with fail
          refine (HBH.out _).mono ?_
          rintro e w7 ⟨rfl, g7⟩
          have A5 := hid (A4.out.turn g7)
          clear g7
          go_wp2_with fail
          go_roundw
          case rel => exact ⟨i2, k2, _, by omega, by omega, rfl, rfl, A5⟩
          case measure => simp [intOf]; omega
        · have HS := hid (show ∀ V, Calls Tryd.prog 215 #[.int .i64 i] V (fun e w' => e = .returned (.agg #[.int .i64 i, .int .i64 (-1)]) ∧ Gr V w') from fun V => stepD_any i V)
          unfold Acct.fl Acct.se at HBH
          have HSN2 := hid (fun (v2 : Value) (wx wy : World) (g : Gr wr wx) => HSN.out v2 wx wy g (.iface 142 (.int .i64 i)) rfl)
          unfold optV Acct.val at HGK
          clear HSN hpk HAT
          go_wp2_with ((refine wpList_load_mid rfl 115 _ rfl w.heap.size 0 rfl _ _ HRG.out Tryd.underlying115 rfl (by kernel_rfl) ?_))
          refine HGK.out.mono ?_
          rintro e w2 ⟨rfl, g2⟩
          have G2 := hid g2
          have O2 := hid (I.out.turn g2).own.row
          have SZ := hid (show w1.heap.size ≤ w2.heap.size from (I.out.turn g2).gr.size)
          clear g2
          go_upto_region 7 with (at_builtin; refine wpList_append_own _ rfl _ _ 125 rfl w1.heap.size 128 i0 .nilIface 1 16 Tryd.underlying125 hi0 hz0 hz1 hz2 rfl (by decide) _ _ _ rfl (O2.out.alloc _) ⟨w2.heap.size, 0, none⟩ 1 1 [.iface 142 (.int .i64 i)] rfl rfl (news_ac (heap_new rfl)) (by simp [Value.oneCell']) (by unfold maxLen; omega) (by omega) (by have := SZ.out; simp <;> omega) ?_; intro v5 w5 hown_w5 hgrow_w5 _)
          have A3 := hid (HSN2.out _ _ _ G2.out hown_w5 hgrow_w5)
          clear hown_w5 hgrow_w5 c0 c1 O2
          go_wp2_with fail
          refine (HS.out _).mono ?_
          rintro e w6 ⟨rfl, g6⟩
          have A4 := hid (A3.out.turn g6)
          clear g6
          go_wp2_with fail
          refine (HBH.out _).mono ?_
          rintro e w7 ⟨rfl, g7⟩
          have A5 := hid (A4.out.turn g7)
          clear g7
          go_wp2_with fail
          go_roundw
          case rel => exact ⟨i2, k2, _, by omega, by omega, rfl, rfl, A5⟩
          case measure => simp [intOf]; omega
        · have HS := hid (show ∀ V, Calls Tryd.prog 220 #[.int .i64 k] V (fun e w' => e = .returned (.agg #[.int .i64 (-1), .int .i64 k]) ∧ Gr V w') from fun V => stepE_any k V)
          unfold Acct.fl Acct.se at HBH
          have HSN2 := hid (fun (v2 : Value) (wx wy : World) (g : Gr wr wx) => HSN.out v2 wx wy g (.iface 191 (.int .i64 k)) rfl)
          unfold optV Acct.val at HGK
          clear HSN hpk HAT
          go_wp2_with ((refine wpList_load_mid rfl 115 _ rfl w.heap.size 0 rfl _ _ HRG.out Tryd.underlying115 rfl (by kernel_rfl) ?_))
          refine HGK.out.mono ?_
          rintro e w2 ⟨rfl, g2⟩
          have G2 := hid g2
          have O2 := hid (I.out.turn g2).own.row
          have SZ := hid (show w1.heap.size ≤ w2.heap.size from (I.out.turn g2).gr.size)
          clear g2
          go_upto_region 7 with (at_builtin; refine wpList_append_own _ rfl _ _ 125 rfl w1.heap.size 128 i0 .nilIface 1 16 Tryd.underlying125 hi0 hz0 hz1 hz2 rfl (by decide) _ _ _ rfl (O2.out.alloc _) ⟨w2.heap.size, 0, none⟩ 1 1 [.iface 191 (.int .i64 k)] rfl rfl (news_ac (heap_new rfl)) (by simp [Value.oneCell']) (by unfold maxLen; omega) (by omega) (by have := SZ.out; simp <;> omega) ?_; intro v5 w5 hown_w5 hgrow_w5 _)
          have A3 := hid (HSN2.out _ _ _ G2.out hown_w5 hgrow_w5)
          clear hown_w5 hgrow_w5 c0 c1 O2
          go_wp2_with fail
          refine (HS.out _).mono ?_
          rintro e w6 ⟨rfl, g6⟩
          have A4 := hid (A3.out.turn g6)
          clear g6
          go_wp2_with fail
          refine (HBH.out _).mono ?_
          rintro e w7 ⟨rfl, g7⟩
          have A5 := hid (A4.out.turn g7)
          clear g7
          go_wp2_with fail
          go_roundw
          case rel => exact ⟨i2, k2, _, by omega, by omega, rfl, rfl, A5⟩
          case measure => simp [intOf]; omega
    · have hi : ¬ i < n := fun h => hc (.inl h)
      have hk : ¬ k < m := fun h => hc (.inr h)
      have HE := hid (show pre = storyL es fs 0 0 by
        have h := I.out.left
        rw [storyL_end (by rw [← HN.out, ← HM.out]; omega), List.append_nil] at h
        exact h)
      have OE := hid I.out.own
      have GE := hid I.out.gr
      clear hc I
      go_wp2_with fail
      go_ret
      exact ⟨_, rfl, by rw [← HE.out]; exact OE.out.widen G1.out.size (Nat.le_refl _), G1.out.trans GE.out⟩
end Go.Proofs.YtlgfibiggiknjaaDoor
