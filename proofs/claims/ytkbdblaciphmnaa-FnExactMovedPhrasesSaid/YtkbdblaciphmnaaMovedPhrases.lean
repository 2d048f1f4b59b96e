/- MovedPhrases: the program's function. -/
import Derived.Test.YtkbdblaciphmnaaMoved
namespace Go.Proofs.Ytkbdblaciphmnaa
set_option linter.unusedVariables false
open Go.RowKit
attribute [local go_sem] Oper.semAt_some
set_option maxRecDepth 100000 in
set_option maxHeartbeats 8000000 in
theorem impl_MovedPhrases_any (k l s : Int) (hw : Wf3 k l s) (a : Option Addr) (cap n : Nat) (ss : List ByteArray) (hl : n = ss.length) (hn : n ≤ 1048576) (hz : SizesOk ss) (k' l' s' : Int) (hw' : Wf3 k' l' s') (a' : Option Addr) (cap' n' : Nat) (tt : List ByteArray) (hl' : n' = tt.length) (hn' : n' ≤ 1048576) (hz' : SizesOk tt) (w : World) (hs : StrsOf w a ss) (hs' : StrsOf w a' tt) :
    Calls Try.prog 39 #[bookV k l s (.slice a n cap), bookV k' l' s' (.slice a' n' cap')] w (RetOwn .i64 2 (withCode (movC k l s ss k' l' s' tt)) (movL k l s ss k' l' s' tt) w) := by
  obtain ⟨W, hW⟩ : ∃ W, W = (w.alloc (.cells (bookC k l s (.slice a n cap)) 29)).alloc (.cells (bookC k' l' s' (.slice a' n' cap')) 29) := ⟨_, rfl⟩
  have G0 : Hid (Gr w W) := hid (by rw [hW]; exact ((Gr.refl w).alloc _).alloc _)
  have B0 : Hid (W.heap[w.heap.size]? = some (.cells (bookC k l s (.slice a n cap)) 29 (0, 0))) := hid (by rw [hW]; exact heap_kept (heap_new rfl))
  have B1 : Hid (W.heap[w.heap.size + 1]? = some (.cells (bookC k' l' s' (.slice a' n' cap')) 29 (0, 0))) := hid (by rw [hW]; exact heap_new (by simp))
  have HD := hid (fun V (g : Gr W V) => bk_cells (k := k) (l := l) (s := s) (v := .slice a n cap) (g.heap B0.out))
  have HE := hid (fun V (g : Gr W V) => bk_cells (k := k') (l := l') (s := s') (v := .slice a' n' cap') (g.heap B1.out))
  have HVB := hid (fun V (g : Gr W V) => impl_ValidBook_any k l s hw a cap n ss hl hn hz V (hs.gr (G0.out.trans g)))
  have HVC := hid (fun V (g : Gr W V) => impl_ValidBook_any k' l' s' hw' a' cap' n' tt hl' hn' hz' V (hs'.gr (G0.out.trans g)))
  have HIX := hid (fun V (g : Gr W V) => indicesOf_any a' cap' n' tt hl' hn' hz' V (hs'.gr (G0.out.trans g)))
  have HKY := hid (fun k => show keyOf Try.prog 9 (.string (strAt ss k)) = some (strLit (strAt ss k)) from Go.WideMaps.keyOf_string_mk Try.underlying9 (by have := hz k; unfold maxLen; omega))
  have HW := hid hW
  have HSS := hid hs
  clear hW
  cases h : validBk k l s ss with
  | false =>
    obtain ⟨e1, e2⟩ := mov_no (k' := k') (l' := l') (s' := s') (tt := tt) (show (validBk k l s ss && validBk k' l' s' tt) = false by rw [h]; rfl)
    rw [e1, e2]
    rw [h] at HVB
    clear h e1 e2 hs hs' hl hl' hz hz' hw hw' HVC HIX
    go_enter Try.func39, Try.ntmps39
    go_wp2_with fail
    rw [← HW.out]
    obtain ⟨d0, d1, d2, d3⟩ := HD.out _ (Gr.refl W)
    go_wp2_with fail
    refine (HVB.out _ (Gr.refl W)).mono ?_
    rintro e w2 ⟨rfl, g2⟩
    have G2 := hid g2
    clear g2 d0 d1 d2 d3
    go_wp2_with fail
    go_ret2
    exact ⟨_, rfl, Own.nil _ _ _, G0.out.trans G2.out⟩
  | true =>
    rw [h] at HVB
    cases h' : validBk k' l' s' tt with
    | false =>
      obtain ⟨e1, e2⟩ := mov_no (k := k) (l := l) (s := s) (ss := ss) (show (validBk k l s ss && validBk k' l' s' tt) = false by rw [h', Bool.and_false])
      rw [e1, e2]
      rw [h'] at HVC
      clear h e1 e2 hs hs' hl hl' hz hz' hw hw' h' HIX
      go_enter Try.func39, Try.ntmps39
      go_wp2_with fail
      rw [← HW.out]
      obtain ⟨d0, d1, d2, d3⟩ := HD.out _ (Gr.refl W)
      go_wp2_with fail
      refine (HVB.out _ (Gr.refl W)).mono ?_
      rintro e w2 ⟨rfl, g2⟩
      have G2 := hid g2
      clear g2 d0 d1 d2 d3
      obtain ⟨d0, d1, d2, d3⟩ := HE.out _ G2.out
      go_wp2_with fail
      refine (HVC.out _ G2.out).mono ?_
      rintro e w3 ⟨rfl, g3⟩
      have G3 := hid (G2.out.trans g3)
      clear g3 d0 d1 d2 d3
      go_wp2_with fail
      go_ret2
      exact ⟨_, rfl, Own.nil _ _ _, G0.out.trans G3.out⟩
    | true =>
      rw [h'] at HVC
      obtain ⟨e1, e2⟩ := mov_yes (show (validBk k l s ss && validBk k' l' s' tt) = true by rw [h, h']; rfl)
      rw [e1, e2]
      obtain ⟨K, L, B, rfl, rfl, rfl, k1, k2, l1, l2, b2⟩ := sizedB_yes (validBk_sizedT h)
      obtain ⟨-, -, e3⟩ := room_yes (validBk_sizedT h)
      have hnl := validBk_lens h
      obtain ⟨K', L', B', rfl, rfl, rfl, k1', k2', l1', l2', b2'⟩ := sizedB_yes (validBk_sizedT h')
      obtain ⟨-, -, e3'⟩ := room_yes (validBk_sizedT h')
      have hnl' := validBk_lens h'
      have hfr := validBk_fresh h'
      rw [e3, ← hl] at hnl
      rw [e3', ← hl'] at hnl'
      rw [e3, e3', ← hl]
      have HM := hid (fun V => meaningsIn_any K L B k1 k2 l2 b2 a cap n hnl.2 V)
      have HM' := hid (fun V => meaningsIn_any K' L' B' k1' k2' l2' b2' a' cap' n' hnl'.2 V)
      have HLN := hid (fun x (h : lastTo tt n' x = none) => last_none hfr (by rw [← hl']; exact h))
      have HLS := hid (fun x i (h : lastTo tt n' x = some i) => last_some hfr (by rw [← hl']; exact h))
      have HFB := hid (fun x => show firstV tt x = -1 ∨ (0 ≤ firstV tt x ∧ firstV tt x < (n' : Int)) by have := firstV_bd tt x; rw [hl']; omega)
      have HALL := hid (book_lens (K := K) (B := B) l2)
      have HALL' := hid (book_lens (K := K') (B := B') l2')
      have HNL := hid hnl
      have HNL' := hid hnl'
      have HL := hid hl
      have hn100 : n ≤ 100 := by have := hnl.1; omega
      clear h h' e1 e2 e3 e3' hs hs' hl hl' hz hz' hw hw' hnl hnl' hfr
      generalize bookL K B L = X at *
      generalize bookL K' B' L' = Y at *
      obtain ⟨i0, hi, hz0, hz1, hz2⟩ := info_parts infoC64
      go_enter Try.func39, Try.ntmps39
      go_wp2_with fail
      rw [← HW.out]
      obtain ⟨d0, d1, d2, d3⟩ := HD.out _ (Gr.refl W)
      go_wp2_with fail
      refine (HVB.out _ (Gr.refl W)).mono ?_
      rintro e w2 ⟨rfl, g2⟩
      have G2 := hid g2
      clear g2 d0 d1 d2 d3
      obtain ⟨d0, d1, d2, d3⟩ := HE.out _ G2.out
      go_wp2_with fail
      refine (HVC.out _ G2.out).mono ?_
      rintro e w3 ⟨rfl, g3⟩
      have G3 := hid (G2.out.trans g3)
      clear g3 d0 d1 d2 d3
      go_wp2_with fail
      have gd : Gr w3 w3.drew := (Gr.refl w3).drew
      obtain ⟨p0, p1, p2, p3⟩ := HD.out _ (G3.out.trans gd)
      obtain ⟨q0, q1, q2, q3⟩ := HE.out _ (G3.out.trans gd)
      go_region_held3 (fun V => V.cell? ⟨w.heap.size, 0, none⟩ = some (.int .i8 K) ∧ V.cell? ⟨w.heap.size, 1, none⟩ = some (.int .i8 L) ∧ V.cell? ⟨w.heap.size, 2, none⟩ = some (.int .i8 B) ∧ V.cell? ⟨w.heap.size, 3, none⟩ = some (.slice a n cap) ∧ V.cell? ⟨w.heap.size + 1, 0, none⟩ = some (.int .i8 K') ∧ V.cell? ⟨w.heap.size + 1, 1, none⟩ = some (.int .i8 L') ∧ V.cell? ⟨w.heap.size + 1, 2, none⟩ = some (.int .i8 B') ∧ V.cell? ⟨w.heap.size + 1, 3, none⟩ = some (.slice a' n' cap') ∧ Gr w3 V)
        (first | exact ⟨p0, p1, p2, p3, q0, q1, q2, q3, gd⟩ | exact bk_keep (HD.out _ (G3.out.trans gWx)) (HE.out _ (G3.out.trans gWx)) gWx | go_keep)
        ((first | ((with_reducible refine (HM.out _).mono ?_); rintro e V ⟨ax, cx, vx, rfl, hrx, gV⟩; have gWx : Gr w3 V := Gr.trans (by assumption) gV) | ((with_reducible refine (HM'.out _).mono ?_); rintro e V9 ⟨ay, cy, vy, rfl, hry, gV9⟩; have gW9 : Gr w3 V9 := gWx.trans gV9; have hrx9 := hrx.gr gV9; have gWx := gW9)))
      have g9 : Gr w3 V9 := gWx
      have G9 := hid (G3.out.trans g9)
      have HRX := hid hrx9
      have HRY := hid hry
      clear gd p0 p1 p2 p3 q0 q1 q2 q3 g9 hrx9 hry hrx gV gV9 gW9 gWx
      obtain ⟨q0, q1, q2, q3⟩ := HE.out _ G9.out
      go_wp2_with fail
      refine (HIX.out _ G9.out).mono ?_
      rintro e w8 ⟨rfl, D, I⟩
      have HI := hid I
      have G8 := hid (G9.out.trans I.gr)
      replace HRX := hid (HRX.out.gr I.gr)
      replace HRY := hid (HRY.out.gr I.gr)
      clear I q0 q1 q2 q3
      obtain ⟨p0, p1, p2, p3⟩ := HD.out _ G8.out
      go_wp2_with fail
      go_loopw [9, 10, 11, 12, 13, 32] (fun o _ _ _ _ i wr => ∃ k : Nat, k ≤ n ∧ i = .int .i64 k ∧ Hid (Own .i64 2 wr w8.heap.size wr.heap.size o (selTo (movB X Y ss tt) k)) ∧ Hid (Gr w8 wr)) (fun _ _ _ _ _ i _ => n - (intOf i).toNat)
      case atStart => exact ⟨0, Nat.zero_le _, rfl, hid (Own.nil _ _ _), hid (Gr.refl _)⟩
      case round =>
        obtain ⟨k, hk, rfl, how, gr⟩ := hrel
        obtain ⟨ao, co, rfl⟩ := how.out.shape
        have hcl := selTo_len (movB X Y ss tt) k
        have ROW := hid how.out.row
        obtain ⟨mo, hmo⟩ : ∃ j, j = (selTo (movB X Y ss tt) k).length := ⟨_, rfl⟩
        rw [← hmo] at ROW hcl ⊢
        have HML := hid hmo.symm
        clear hmo p0 p1 p2 p3
        have GWr := hid (G8.out.trans gr.out)
        by_cases hlt : k < n
        · obtain ⟨b0, o0, rfl, h0⟩ := HSS.out k (by rw [← HL.out]; exact hlt)
          have hc0 := (G0.out.trans GWr.out).cell h0
          have hfb := HFB.out (strAt ss k)
          have HLNx := hid (HLN.out (strAt ss k))
          have HLSx := hid (HLS.out (strAt ss k))
          have HKYx := hid (HKY.out k)
          have HMAP := hid (HI.out.map.kept (grown_gr gr.out none) (by simp))
          have HMB : Hid (movB X Y ss tt k = (decide (0 ≤ firstV tt (strAt ss k)) && !(eqLB (X.getD k []) (Y.getD (firstV tt (strAt ss k)).toNat [])))) := hid rfl
          have HY := hid (selTo_yes (p := movB X Y ss tt) (k := k))
          have HNo := hid (selTo_no (p := movB X Y ss tt) (k := k))
          obtain ⟨g1, g', c', rfl, hcx, ho⟩ := (HRX.out.gr gr.out).at_take hlt HNL.out.2
          have HSX := hid (row_reads ho rfl)
          have hlx := getD_lens (show k < X.length by have := HNL.out.2; omega) HALL.out
          unfold strAt at HLNx HLSx HKYx hfb HMB
          clear h0 ho
          generalize ss.getD k ByteArray.empty = sk at *
          generalize firstV tt sk = fv at *
          generalize X.getD k [] = x at *
          obtain ⟨p, hp⟩ : ∃ p, p = x.length := ⟨_, rfl⟩
          rw [← hp] at hcx hlx
          have HP := hid hp
          clear hp
          cases hla : lastTo tt n' sk with
          | none =>
            have hfv := HLNx.out hla
            have HLA := hid hla
            have HZ := hid (HNo.out (by rw [HMB.out, hfv]; rfl))
            have OW := hid (show Own .i64 2 wr w8.heap.size wr.heap.size (.slice ao mo co) (selTo (movB X Y ss tt) (k + 1)) by
              rw [← HZ.out]
              have := how.out
              rw [HML.out] at this
              exact this)
            clear HMB HY HNo hfb hcx hla hfv HLNx HLSx
            go_wp2_with (at_lookup; refine wpList_lookup_str _ rfl _ _ 72 rfl Try.underlying72 V9.heap.size n' D (lastTo tt n') (cntD tt n') rfl HMAP.out HI.out.rep sk rfl HKYx.out none 0 false HLA.out rfl rfl ?_)
            go_wp2_with fail
            go_quiet (fail)
            go_wp2_with fail
            go_roundw
            case rel => exact ⟨k + 1, by omega, by go_num, hid (OW.out.gr ((Gr.refl _).drewN _)), hid (gr.out.drewN _)⟩
            case measure => simp [intOf] <;> omega
          | some j =>
            have hfv := HLSx.out j hla
            subst hfv
            have HLA := hid hla
            have hjn : j < n' := by omega
            obtain ⟨g2, g2', c2', rfl, hcy, ho⟩ := (HRY.out.gr gr.out).at_take hjn HNL'.out.2
            have HSY := hid (row_reads ho rfl)
            have hly := getD_lens (show j < Y.length by have := HNL'.out.2; omega) HALL'.out
            rw [decide_eq_true (show 0 ≤ (j : Int) by omega), Bool.true_and, Int.toNat_natCast] at HMB
            clear ho hla HLNx HLSx
            generalize Y.getD j [] = y at *
            obtain ⟨r, hr⟩ : ∃ p, p = y.length := ⟨_, rfl⟩
            rw [← hr] at hcy hly
            have HR := hid hr
            clear hr
            have HEQ := hid (fun V (g : Gr wr V) => equalMeaning_any (some ⟨g', 0, none⟩) p c' x HP.out hlx (some ⟨g2', 0, none⟩) r c2' y HR.out hly V (HSX.out.gr g) (HSY.out.gr g))
            have HCX := hid (fun V (g : Gr wr V) => g.cell hcx)
            have HCY := hid (fun V (g : Gr wr V) => g.cell hcy)
            generalize eqLB x y = bq at *
            clear hfb
            go_wp2_with (at_lookup; refine wpList_lookup_str _ rfl _ _ 72 rfl Try.underlying72 V9.heap.size n' D (lastTo tt n') (cntD tt n') rfl HMAP.out HI.out.rep sk rfl HKYx.out (some j) (j : Int) true HLA.out rfl rfl ?_)
            go_wp2_with fail
            have gd : Gr wr wr.drew := (Gr.refl wr).drew
            have e1 := HCX.out _ gd
            have e2 := HCY.out _ gd
            go_region_held3 (fun V => V.cell? ⟨g1, k, none⟩ = some (.slice (some ⟨g', 0, none⟩) p c') ∧ V.cell? ⟨g2, j, none⟩ = some (.slice (some ⟨g2', 0, none⟩) r c2') ∧ Gr wr V)
              (first | exact ⟨e1, e2, gd⟩ | exact ⟨HCX.out _ gWx, HCY.out _ gWx, gWx⟩ | go_keep)
              ((first | ((with_reducible refine (HEQ.out _ (by assumption)).mono ?_); rintro e V7 ⟨rfl, gV⟩; have gWx : Gr wr V7 := Gr.trans (by assumption) gV)))
            have g7 : Gr wr V7 := gWx
            have G7 := hid (gr.out.trans g7)
            have ROW9 := hid (ownsRow_gr ROW.out g7)
            have OW9 := hid (by have := how.out.gr g7; rw [HML.out] at this; exact this.widen (Nat.le_refl _) g7.size)
            clear gd e1 e2 g7 HEQ HCX HCY
            cases bq with
            | false =>
              have HZ := hid (HY.out (by rw [HMB.out]; rfl))
              clear HMB HY HNo OW9
              go_wp2_with (at_builtin; refine wpList_append_own _ rfl _ _ 51 rfl w8.heap.size 2 i0 (.int .i64 0) 1 8 Try.underlying51 hi hz0 hz1 hz2 rfl (by decide) _ _ _ rfl (ROW9.out.alloc _) ⟨V7.heap.size, 0, none⟩ 1 1 [.int .i64 (k : Int)] rfl rfl (cell_q1 _ _ _) (by simp [Value.oneCell']) (by unfold maxLen; omega) (by omega) (by have := G7.out.size; simp; omega) ?_; intro v' w9 hown' hgrow _)
              have OW := hid (Own.appended hown' HZ.out HML.out)
              have GW := hid ((G7.out.alloc _).by_ hgrow (fun b e => by have := (ROW9.out.lt b e).1; exact this))
              clear hown' hgrow
              go_wp2_with fail
              go_roundw
              case rel => exact ⟨k + 1, by omega, by go_num, OW, GW⟩
              case measure => simp [intOf] <;> omega
            | true =>
              have HZ := hid (HNo.out (by rw [HMB.out]; rfl))
              rw [HZ.out] at OW9
              clear HMB HY HNo ROW9
              go_wp2_with fail
              go_roundw
              case rel => exact ⟨k + 1, by omega, by go_num, OW9, G7⟩
              case measure => simp [intOf] <;> omega
        · have hkn : k = n := by omega
          have HO := how.out
          rw [hkn] at HO
          rw [hkn] at HML
          rw [HML.out] at HO
          have HOW := hid HO
          have GE := hid (G0.out.trans GWr.out)
          clear ROW hkn HO how
          go_wp2_with fail
          go_ret2
          exact ⟨_, rfl, HOW.out.widen (G0.out.trans G8.out).size (Nat.le_refl _), GE.out⟩
end Go.Proofs.Ytkbdblaciphmnaa
