/- Uses of phrases: what is wrong with them: both functions. -/
import Derived.Test.YtfaiehjomcgjgaaDoorUsesM
namespace Go.Proofs.YtfaiehjomcgjgaaDoor
set_option linter.unusedVariables false
open Go.RowKit
set_option maxRecDepth 100000 in
set_option maxHeartbeats 2000000 in
theorem l03Uses_any (bb : Nat) (k l s : Int) (a : Option Addr) (n cap : Nat) (ss : List ByteArray) (hw : Wf3 k l s) (hn : n ≤ 1048576) (hz : SizesOk ss) (b : Option Addr) (q cb : Nat) (cs : List Int) (hq : q = cs.length) (hqm : q ≤ 1048576) (w : World) (hb : BookAt w bb k l s a n cap ss) (hs : SliceOf .i64 w b cs) :
    Calls Tryd.prog 47 #[.pointer (some ⟨bb, 0, none⟩), .slice b q cb] w fun e w' => e = .returned (.int .i64 (usesC k l s ss cs)) ∧ Gr w w' := by
  have HB := hid (l03Ok_any bb k l s a n cap ss hw hn hz w hb)
  have HC := hid (fun V (g : Gr w V) => (hb.gr g).c3)
  have hl := hb.len
  have HQ := hid hq
  have HI := hid (fun i V => l00In_b (cs.getD i 0) 0 1000000 V)
  cases h : validBk k l s ss with
  | false =>
    rw [uses_no h]
    rw [h] at HB
    clear h hb hl hw hz hs hq
    go_enter Tryd.func47, Tryd.ntmps47
    go_wp2_with fail
    refine HB.out.mono ?_
    rintro e w1 ⟨rfl, g1⟩
    have G1 := hid g1
    clear g1
    go_wp2_with fail
    go_ret
    exact ⟨rfl, G1.out⟩
  | true =>
    rw [h] at HB
    by_cases h2 : q = n
    · have HNO := hid (fun i (hi : i < q) (h2 : useAt cs i = false) => uses_at h (show i < cs.length by omega) h2)
      have HYE := hid (fun (h3 : allTo (useAt cs) q = true) => uses_yes h (show cs.length = ss.length by omega) (by rw [← hq]; exact h3))
      have HS := hid hs
      have HE := hid (fun i => show useAt cs i = betB (cs.getD i 0) 0 1000000 from rfl)
      generalize usesC k l s ss cs = r at *
      subst h2
      clear h hb hl hw hz hs hq
      go_enter Tryd.func47, Tryd.ntmps47
      go_wp2_with fail
      refine HB.out.mono ?_
      rintro e w1 ⟨rfl, g1⟩
      have G1 := hid g1
      have c3 := HC.out _ g1
      clear g1
      go_wp2_with fail
      go_loopw [5] (fun i wr => ∃ j : Nat, j ≤ q ∧ i = .int .i64 j ∧ Hid (allTo (useAt cs) j = true) ∧ Hid (Gr w wr)) (fun i _ => q - (intOf i).toNat)
      case atStart => exact ⟨0, Nat.zero_le _, rfl, hid rfl, G1⟩
      case round =>
        obtain ⟨j, hj, rfl, hok, gr⟩ := hrel
        by_cases hlt : j < q
        · obtain ⟨b0, o0, rfl, hc⟩ := (HS.out.gr gr.out) j (by rw [← HQ.out]; exact hlt)
          have HEJ := hid (HE.out j)
          have HNJ := hid (HNO.out j hlt)
          have HIJ := hid (HI.out j)
          have HST := hid (fun (h : useAt cs j = true) => allTo_step hok.out h)
          clear HE HNO HI
          cases hu : useAt cs j with
          | false =>
            have HV := hid (HNJ.out hu)
            rw [hu] at HEJ
            rw [← HEJ.out] at HIJ
            clear hu HST HNJ
            generalize cs.getD j 0 = x at *
            go_wp2_with fail
            refine (HIJ.out _).mono ?_
            rintro e w2 ⟨rfl, rfl⟩
            go_wp2_with fail
            go_ret
            exact ⟨ret_int HV.out.symm, gr.out⟩
          | true =>
            have HY := hid (HST.out hu)
            rw [hu] at HEJ
            rw [← HEJ.out] at HIJ
            clear hu HST HNJ
            generalize cs.getD j 0 = x at *
            go_wp2_with fail
            refine (HIJ.out _).mono ?_
            rintro e w2 ⟨rfl, rfl⟩
            go_wp2_with fail
            go_roundw
            case rel => exact ⟨j + 1, by omega, by go_num, HY, gr⟩
            case measure => simp [intOf] <;> omega
        · have hjq : j = q := by omega
          have HV := hid (HYE.out (by rw [← hjq]; exact hok.out))
          clear HNO hjq
          go_wp2_with fail
          go_ret
          exact ⟨ret_int HV.out.symm, gr.out⟩
    · rw [uses_len h (by rw [← hl, ← hq]; exact h2)]
      have h2' : ((q : Int) != (n : Int)) = true := by rw [bne_iff_ne]; omega
      clear h hb hl hw hz hs hq
      go_enter Tryd.func47, Tryd.ntmps47
      go_wp2_with fail
      refine HB.out.mono ?_
      rintro e w1 ⟨rfl, g1⟩
      have G1 := hid g1
      have c3 := HC.out _ g1
      clear g1
      go_wp2_with fail
      go_ret
      exact ⟨rfl, G1.out⟩
set_option maxRecDepth 100000 in
set_option maxHeartbeats 2000000 in
theorem checkUses_any (k l s : Int) (hw : Wf3 k l s) (a : Option Addr) (cap n : Nat) (ss : List ByteArray) (hl : n = ss.length) (hn : n ≤ 1048576) (hz : SizesOk ss) (b : Option Addr) (q cb : Nat) (cs : List Int) (hq : q = cs.length) (hqm : q ≤ 1048576) (b0 b1 b2 : Addr) (w : World) (hs : StrsOf w a ss) (ht : SliceOf .i64 w b cs) (hS : SentAt w b0 b1 b2) :
    Calls Tryd.prog 48 #[bookV k l s (.slice a n cap), .slice b q cb] w fun e w' => e = .returned (errE b0 b1 b2 (usesC k l s ss cs)) ∧ Gr w w' := by
  obtain ⟨W, hW⟩ : ∃ W, W = w.alloc (.cells (bookC k l s (.slice a n cap)) 31) := ⟨_, rfl⟩
  have G0 : Hid (Gr w W) := hid (by rw [hW]; exact (Gr.refl w).alloc _)
  have B0 : Hid (W.heap[w.heap.size]? = some (.cells (bookC k l s (.slice a n cap)) 31 (0, 0))) := hid (by rw [hW]; exact heap_new rfl)
  have HD := hid (fun V (g : Gr W V) => bk_cells (k := k) (l := l) (s := s) (v := .slice a n cap) (g.heap B0.out))
  have HVB := hid (fun V (g : Gr W V) => impl_ValidBook_any k l s hw a cap n ss hl hn hz V (hs.gr (G0.out.trans g)))
  have HSE := hid (fun V (g : Gr w V) => hS.gr g)
  have HI := hid (fun i V => isBetween_any (cs.getD i 0) 0 1000000 V)
  have HQ := hid hq
  have HT := hid ht
  have HW := hid hW
  clear hW hS ht
  cases h : validBk k l s ss with
  | false =>
    rw [uses_no h]
    rw [h] at HVB
    clear h hs hl hz hw hq
    go_enter Tryd.func48, Tryd.ntmps48
    go_wp2_with fail
    rw [← HW.out]
    obtain ⟨d0, d1, d2, d3⟩ := HD.out _ (Gr.refl W)
    go_wp2_with fail
    refine (HVB.out _ (Gr.refl W)).mono ?_
    rintro e w2 ⟨rfl, g2⟩
    have G2 := hid (G0.out.trans g2)
    have c0 := (HSE.out _ G2.out).g0
    unfold sentV at c0
    clear g2 d0 d1 d2 d3
    go_wp2_with fail
    go_ret
    exact ⟨rfl, G2.out⟩
  | true =>
    rw [h] at HVB
    by_cases h2 : q = n
    · have HNO := hid (fun i (hi : i < q) (h2 : useAt cs i = false) => uses_at h (show i < cs.length by omega) h2)
      have HYE := hid (fun (h3 : allTo (useAt cs) q = true) => uses_yes h (show cs.length = ss.length by omega) (by rw [← hq]; exact h3))
      have HE := hid (fun i => show useAt cs i = betB (cs.getD i 0) 0 1000000 from rfl)
      generalize usesC k l s ss cs = r at *
      subst h2
      clear h hs hl hz hw hq
      go_enter Tryd.func48, Tryd.ntmps48
      go_wp2_with fail
      rw [← HW.out]
      obtain ⟨d0, d1, d2, d3⟩ := HD.out _ (Gr.refl W)
      go_wp2_with fail
      refine (HVB.out _ (Gr.refl W)).mono ?_
      rintro e w2 ⟨rfl, g2⟩
      have G2 := hid (G0.out.trans g2)
      clear d0 d1 d2 d3
      obtain ⟨d0, d1, d2, d3⟩ := HD.out _ g2
      clear g2
      go_wp2_with fail
      clear d0 d1 d2 d3
      go_loopw [6, 20] (fun _ i wr => ∃ j : Nat, j ≤ q ∧ i = .int .i64 j ∧ Hid (allTo (useAt cs) j = true) ∧ Hid (Gr w wr)) (fun _ i _ => q - (intOf i).toNat)
      case atStart => exact ⟨0, Nat.zero_le _, rfl, hid rfl, G2⟩
      case round =>
        obtain ⟨j, hj, rfl, hok, gr⟩ := hrel
        by_cases hlt : j < q
        · obtain ⟨bb0, o0, rfl, hc⟩ := (HT.out.gr gr.out) j (by rw [← HQ.out]; exact hlt)
          have HEJ := hid (HE.out j)
          have HNJ := hid (HNO.out j hlt)
          have HIJ := hid (HI.out j)
          have HST := hid (fun (h : useAt cs j = true) => allTo_step hok.out h)
          clear HE HNO HI
          cases hu : useAt cs j with
          | false =>
            have HV := hid (HNJ.out hu)
            rw [hu] at HEJ
            rw [← HEJ.out] at HIJ
            have c1 := (HSE.out _ gr.out).g1
            unfold sentV at c1
            clear hu HST HNJ
            generalize cs.getD j 0 = x at *
            go_wp2_with fail
            refine (HIJ.out _).mono ?_
            rintro e w2 ⟨rfl, rfl⟩
            go_wp2_with fail
            go_ret
            exact ⟨by rw [HV.out]; rfl, gr.out⟩
          | true =>
            have HY := hid (HST.out hu)
            rw [hu] at HEJ
            rw [← HEJ.out] at HIJ
            clear hu HST HNJ
            generalize cs.getD j 0 = x at *
            go_wp2_with fail
            refine (HIJ.out _).mono ?_
            rintro e w2 ⟨rfl, rfl⟩
            go_wp2_with fail
            go_roundw
            case rel => exact ⟨j + 1, by omega, by go_num, HY, gr⟩
            case measure => simp [intOf] <;> omega
        · have hjq : j = q := by omega
          have HV := hid (HYE.out (by rw [← hjq]; exact hok.out))
          clear HNO hjq
          go_wp2_with fail
          go_ret
          exact ⟨by rw [HV.out]; rfl, gr.out⟩
    · rw [uses_len h (by rw [← hl, ← hq]; exact h2)]
      have h2' : ((q : Int) != (n : Int)) = true := by rw [bne_iff_ne]; omega
      clear h hs hl hz hw hq
      go_enter Tryd.func48, Tryd.ntmps48
      go_wp2_with fail
      rw [← HW.out]
      obtain ⟨d0, d1, d2, d3⟩ := HD.out _ (Gr.refl W)
      go_wp2_with fail
      refine (HVB.out _ (Gr.refl W)).mono ?_
      rintro e w2 ⟨rfl, g2⟩
      have G2 := hid (G0.out.trans g2)
      have c1 := (HSE.out _ G2.out).g1
      unfold sentV at c1
      clear d0 d1 d2 d3
      obtain ⟨d0, d1, d2, d3⟩ := HD.out _ g2
      clear g2
      go_wp2_with fail
      go_ret
      exact ⟨rfl, G2.out⟩
end Go.Proofs.YtfaiehjomcgjgaaDoor
