/- CompletionsOf: both functions. -/
import Derived.Test.YtkbdblaciphmnaaComps
namespace Go.Proofs.Ytkbdblaciphmnaa
set_option linter.unusedVariables false
open Go.RowKit
attribute [local go_sem] Oper.semAt_some
def compL (k l s : Int) (ss : List ByteArray) (q : List Int) : List Int := if validBk k l s ss && plainH q then complTo (meansOf k l s) q ss.length else []
def compC (k l s : Int) (ss : List ByteArray) (q : List Int) : Int := if validBk k l s ss && plainH q then 0 else 1
theorem comp_no {k l s : Int} {ss : List ByteArray} {q : List Int} (h : (validBk k l s ss && plainH q) = false) : compL k l s ss q = [] ∧ compC k l s ss q = 1 := by unfold compL compC; rw [h]; exact ⟨rfl, rfl⟩
theorem comp_yes {k l s : Int} {ss : List ByteArray} {q : List Int} (h : (validBk k l s ss && plainH q) = true) : compL k l s ss q = complTo (meansOf k l s) q ss.length ∧ compC k l s ss q = 0 := by unfold compL compC; rw [h]; exact ⟨rfl, rfl⟩
theorem validBk_lens {k l s : Int} {ss : List ByteArray} (h : validBk k l s ss = true) : ss.length ≤ 100 ∧ ss.length ≤ (meansOf k l s).length := by
  unfold validBk at h
  simp only [Bool.and_eq_true, decide_eq_true_eq] at h
  exact ⟨h.2.1, h.2.2.2⟩
theorem compL_len (k l s : Int) (ss : List ByteArray) (q : List Int) : (compL k l s ss q).length ≤ 1048576 := by
  cases h : (validBk k l s ss && plainH q)
  · rw [(comp_no h).1]; simp
  · rw [(comp_yes h).1]
    rw [Bool.and_eq_true] at h
    have := complTo_len (meansOf k l s) q ss.length
    have := (validBk_lens h.1).1
    omega
set_option maxRecDepth 100000 in
set_option maxHeartbeats 2000000 in
theorem spec_CompletionsOf_any (k l s : Int) (hw : Wf3 k l s) (a : Option Addr) (cap n : Nat) (ss : List ByteArray) (hl : n = ss.length) (hn : n ≤ 1048576) (hz : SizesOk ss) (b : Option Addr) (cb : Nat) (m : List Int) (hm : m.length ≤ 1048576) (_hcb : m.length ≤ cb) (hf : Fits .i8 m) (w : World) (hs : StrsOf w a ss) (ht : SliceOf .i8 w b m) :
    Calls Try.prog 33 #[bookV k l s (.slice a n cap), .slice b m.length cb] w (RetOwn .i64 2 (withCode (compC k l s ss m)) (compL k l s ss m) w) := by
  obtain ⟨W, hW⟩ : ∃ W, W = w.alloc (.cells (bookC k l s (.slice a n cap)) 29) := ⟨_, rfl⟩
  have G0 : Hid (Gr w W) := hid (by rw [hW]; exact (Gr.refl w).alloc _)
  have B0 : Hid (W.heap[w.heap.size]? = some (.cells (bookC k l s (.slice a n cap)) 29 (0, 0))) := hid (by rw [hW]; exact heap_new rfl)
  have HD := hid (fun V (g : Gr W V) => bk_cells (k := k) (l := l) (s := s) (v := .slice a n cap) (g.heap B0.out))
  have hb := bookAt_block B0.out hl (hs.gr G0.out)
  have HVB := hid (fun V (g : Gr W V) => l03Ok_any w.heap.size k l s a n cap ss hw hn hz V (hb.gr g))
  have HV := hid (fun V (g : Gr w V) => spec_ValidMeaning_cap b m.length cb m rfl hm hf V (ht.gr g))
  have HW := hid hW
  clear hW
  cases h : validBk k l s ss with
  | false =>
    obtain ⟨e1, e2⟩ := comp_no (q := m) (show (validBk k l s ss && plainH m) = false by rw [h]; rfl)
    rw [e1, e2]
    rw [h] at HVB
    clear h e1 e2 hs hl hz hw ht hb HV hf hm
    generalize m.length = q at *
    go_enter Try.func33, Try.ntmps33
    go_wp2_with fail
    rw [← HW.out]
    refine (HVB.out _ (Gr.refl W)).mono ?_
    rintro e w2 ⟨rfl, g2⟩
    have GB2 := hid g2
    have G2 := hid (G0.out.trans g2)
    clear g2
    clear GB2
    go_wp2_with fail
    go_ret2
    exact ret_empty G2.out _
  | true =>
    rw [h] at HVB
    cases hv : plainH m with
    | false =>
      obtain ⟨e1, e2⟩ := comp_no (q := m) (show (validBk k l s ss && plainH m) = false by rw [hv, Bool.and_false])
      rw [e1, e2]
      rw [hv] at HV
      clear h e1 e2 hs hl hz hw ht hb hv hf hm
      generalize m.length = q at *
      go_enter Try.func33, Try.ntmps33
      go_wp2_with fail
      rw [← HW.out]
      refine (HVB.out _ (Gr.refl W)).mono ?_
      rintro e w2 ⟨rfl, g2⟩
      have GB2 := hid g2
      have G2 := hid (G0.out.trans g2)
      clear g2
      have HV2 := hid (HV.out _ G2.out)
      clear HV
      go_wp2_with fail
      refine HV2.out.mono ?_
      rintro e w3 ⟨rfl, g3⟩
      have G3 := hid (G2.out.trans g3)
      clear g3 HV2
      go_wp2_with fail
      go_ret2
      exact ret_empty G3.out _
    | true =>
      rw [hv] at HV
      obtain ⟨e1, e2⟩ := comp_yes (show (validBk k l s ss && plainH m) = true by rw [h, hv]; rfl)
      rw [e1, e2]
      obtain ⟨K, L, B, rfl, rfl, rfl, k1, k2, l1, l2, b2⟩ := sizedB_yes (validBk_sizedT h)
      obtain ⟨-, -, e3⟩ := room_yes (validBk_sizedT h)
      have hnl := validBk_lens h
      rw [e3, ← hl] at hnl
      rw [e3, ← hl]
      have hbd := book_bd (B := B) k2 l2
      have HM := hid (fun V (g : Gr W V) => l03Meanings_any w.heap.size K L B a n cap ss k2 l2 b2 V (hb.gr g))
      have HCO := hid (fun lo g c q0 (vs : List Value) (hq0 : q0 = (bookL K B L).length) (V : World) (gw : Gr W V) (gv : Gr w V) (hr : RowQ V lo (.slice (some ⟨g, 0, none⟩) q0 c) vs (bookL K B L)) => l03Completions_any w.heap.size K L B a n cap ss g q0 c lo vs (bookL K B L) hq0 hnl.2 (by omega) (book_lens l2) b m.length cb m rfl hm V (hb.gr gw) hr (ht.gr gv))
      clear h e1 e2 hs hl hz hw ht hb hv e3 hnl hbd hf hm
      generalize complTo (bookL K B L) m n = xs at *
      generalize bookL K B L = X at *
      generalize m.length = q at *
      go_enter Try.func33, Try.ntmps33
      go_wp2_with fail
      rw [← HW.out]
      refine (HVB.out _ (Gr.refl W)).mono ?_
      rintro e w2 ⟨rfl, g2⟩
      have GB2 := hid g2
      have G2 := hid (G0.out.trans g2)
      clear g2
      have HV2 := hid (HV.out _ G2.out)
      clear HV
      go_wp2_with fail
      refine HV2.out.mono ?_
      rintro e w3 ⟨rfl, g3⟩
      have GB3 := hid (GB2.out.trans g3)
      have G3 := hid (G2.out.trans g3)
      clear g3 HV2
      go_wp2_with fail
      refine (HM.out _ GB3.out).mono ?_
      rintro e w4 ⟨g, c, vs, rfl, hrow, g4⟩
      have G4 := hid (G3.out.trans g4)
      have HC4 := hid (HCO.out _ g c _ vs rfl w4 (GB3.out.trans g4) G4.out hrow)
      clear hrow g4 HCO HM
      go_wp2_with fail
      refine HC4.out.mono ?_
      rintro e w5 ⟨v, rfl, o, g5⟩
      obtain ⟨pm, cm, rfl⟩ := o.shape
      have O := hid (o.widen G4.out.size (Nat.le_refl _))
      have G5 := hid (G4.out.trans g5)
      clear o g5 HC4
      go_wp2_with fail
      go_ret2
      exact ⟨_, rfl, O.out, G5.out⟩
set_option maxRecDepth 100000 in
set_option maxHeartbeats 2000000 in
theorem impl_CompletionsOf_any (k l s : Int) (hw : Wf3 k l s) (a : Option Addr) (cap n : Nat) (ss : List ByteArray) (hl : n = ss.length) (hn : n ≤ 1048576) (hz : SizesOk ss) (b : Option Addr) (cb : Nat) (m : List Int) (hm : m.length ≤ 1048576) (hcb : m.length ≤ cb) (hf : Fits .i8 m) (w : World) (hs : StrsOf w a ss) (ht : SliceOf .i8 w b m) :
    Calls Try.prog 34 #[bookV k l s (.slice a n cap), .slice b m.length cb] w (RetOwn .i64 2 (withCode (compC k l s ss m)) (compL k l s ss m) w) := by
  obtain ⟨W, hW⟩ : ∃ W, W = w.alloc (.cells (bookC k l s (.slice a n cap)) 29) := ⟨_, rfl⟩
  have G0 : Hid (Gr w W) := hid (by rw [hW]; exact (Gr.refl w).alloc _)
  have B0 : Hid (W.heap[w.heap.size]? = some (.cells (bookC k l s (.slice a n cap)) 29 (0, 0))) := hid (by rw [hW]; exact heap_new rfl)
  have HD := hid (fun V (g : Gr W V) => bk_cells (k := k) (l := l) (s := s) (v := .slice a n cap) (g.heap B0.out))
  have HVB := hid (fun V (g : Gr W V) => impl_ValidBook_any k l s hw a cap n ss hl hn hz V (hs.gr (G0.out.trans g)))
  have HV := hid (fun V (g : Gr w V) => impl_ValidMeaning_cap b m.length cb m rfl hm hcb hf V (ht.gr g))
  have HW := hid hW
  clear hW
  cases h : validBk k l s ss with
  | false =>
    obtain ⟨e1, e2⟩ := comp_no (q := m) (show (validBk k l s ss && plainH m) = false by rw [h]; rfl)
    rw [e1, e2]
    rw [h] at HVB
    clear h e1 e2 hs hl hz hw ht HV hf hm
    generalize m.length = q at *
    go_enter Try.func34, Try.ntmps34
    go_wp2_with fail
    rw [← HW.out]
    obtain ⟨d0, d1, d2, d3⟩ := HD.out _ (Gr.refl W)
    go_wp2_with fail
    refine (HVB.out _ (Gr.refl W)).mono ?_
    rintro e w2 ⟨rfl, g2⟩
    have GB2 := hid g2
    have G2 := hid (G0.out.trans g2)
    clear g2 d0 d1 d2 d3
    clear GB2
    go_wp2_with fail
    go_ret2
    exact ⟨_, rfl, Own.nil _ _ _, G2.out⟩
  | true =>
    rw [h] at HVB
    cases hv : plainH m with
    | false =>
      obtain ⟨e1, e2⟩ := comp_no (q := m) (show (validBk k l s ss && plainH m) = false by rw [hv, Bool.and_false])
      rw [e1, e2]
      rw [hv] at HV
      clear h e1 e2 hs hl hz hw ht hv hf hm
      generalize m.length = q at *
      go_enter Try.func34, Try.ntmps34
      go_wp2_with fail
      rw [← HW.out]
      obtain ⟨d0, d1, d2, d3⟩ := HD.out _ (Gr.refl W)
      go_wp2_with fail
      refine (HVB.out _ (Gr.refl W)).mono ?_
      rintro e w2 ⟨rfl, g2⟩
      have GB2 := hid g2
      have G2 := hid (G0.out.trans g2)
      clear g2 d0 d1 d2 d3
      have HV2 := hid (HV.out _ G2.out)
      clear HV
      go_wp2_with fail
      refine HV2.out.mono ?_
      rintro e w3 ⟨rfl, g3⟩
      have G3 := hid (G2.out.trans g3)
      clear g3 HV2
      go_wp2_with fail
      go_ret2
      exact ⟨_, rfl, Own.nil _ _ _, G3.out⟩
    | true =>
      rw [hv] at HV
      obtain ⟨e1, e2⟩ := comp_yes (show (validBk k l s ss && plainH m) = true by rw [h, hv]; rfl)
      rw [e1, e2]
      obtain ⟨K, L, B, rfl, rfl, rfl, k1, k2, l1, l2, b2⟩ := sizedB_yes (validBk_sizedT h)
      obtain ⟨-, -, e3⟩ := room_yes (validBk_sizedT h)
      have hnl := validBk_lens h
      rw [e3, ← hl] at hnl
      rw [e3, ← hl]
      have hbd := book_bd (B := B) k2 l2
      have HM := hid (fun V => meaningsIn_any K L B k1 k2 l2 b2 a cap n hnl.2 V)
      have HCO := hid (fun lo aa c (vs : List Value) (V : World) (gv : Gr w V) (hr : RowQ V lo (.slice aa n c) vs ((bookL K B L).take n)) => by
        have h1 := completions_any aa n c lo vs ((bookL K B L).take n) (by rw [List.length_take]; omega) hn (fun x hx => book_lens l2 x (List.mem_of_mem_take hx)) b m.length cb m rfl hm V hr (ht.gr gv)
        rw [complTo_take _ _ n n (Nat.le_refl _)] at h1
        exact h1)
      clear h e1 e2 hs hl hz hw ht hv e3 hnl hbd hf hm
      generalize complTo (bookL K B L) m n = xs at *
      generalize bookL K B L = X at *
      generalize m.length = q at *
      go_enter Try.func34, Try.ntmps34
      go_wp2_with fail
      rw [← HW.out]
      obtain ⟨d0, d1, d2, d3⟩ := HD.out _ (Gr.refl W)
      go_wp2_with fail
      refine (HVB.out _ (Gr.refl W)).mono ?_
      rintro e w2 ⟨rfl, g2⟩
      have GB2 := hid g2
      have G2 := hid (G0.out.trans g2)
      clear g2 d0 d1 d2 d3
      have HV2 := hid (HV.out _ G2.out)
      clear HV
      go_wp2_with fail
      refine HV2.out.mono ?_
      rintro e w3 ⟨rfl, g3⟩
      have GB3 := hid (GB2.out.trans g3)
      obtain ⟨d0, d1, d2, d3⟩ := HD.out _ GB3.out
      have G3 := hid (G2.out.trans g3)
      clear g3 HV2
      go_wp2_with fail
      refine (HM.out _).mono ?_
      rintro e w4 ⟨aa, c, vs, rfl, hrow, g4⟩
      have G4 := hid (G3.out.trans g4)
      have HC4 := hid (HCO.out _ aa c vs w4 G4.out hrow)
      clear hrow g4 HCO HM d0 d1 d2 d3
      go_wp2_with fail
      refine HC4.out.mono ?_
      rintro e w5 ⟨v, rfl, o, g5⟩
      obtain ⟨pm, cm, rfl⟩ := o.shape
      have O := hid (o.widen G4.out.size (Nat.le_refl _))
      have G5 := hid (G4.out.trans g5)
      clear o g5 HC4
      go_wp2_with fail
      go_ret2
      exact ⟨_, rfl, O.out, G5.out⟩
end Go.Proofs.Ytkbdblaciphmnaa
