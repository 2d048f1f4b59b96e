/- FlagsFor: both functions. -/
import Derived.Test.YtfaiehjomcgjgaaDoorUses
import Derived.Test.YtfaiehjomcgjgaaDoorHoistOf
namespace Go.Proofs.YtfaiehjomcgjgaaDoor
set_option linter.unusedVariables false
open Go.RowKit
def flagsPost (v c : Int) (w : World) (e : Ending) (w' : World) : Prop := e = .returned (.tuple #[.int .i64 v, .int .i64 c]) ∧ Gr w w'
set_option maxRecDepth 100000 in
set_option maxHeartbeats 2000000 in
theorem spec_FlagsFor_any (k l s : Int) (hw : Wf3 k l s) (a : Option Addr) (cap n : Nat) (ss : List ByteArray) (hl : n = ss.length) (hn : n ≤ 1048576) (hz : SizesOk ss) (b : Option Addr) (cb : Nat) (cs : List Int) (hm : cs.length ≤ 1048576) (_hcb : cs.length ≤ cb) (_hf : Fits .i64 cs) (w : World) (hs : StrsOf w a ss) (ht : SliceOf .i64 w b cs) :
    Calls Tryd.prog 19 #[bookV k l s (.slice a n cap), .slice b cs.length cb] w fun e w' => e = .returned (.tuple #[.int .i64 (flagsV k l s ss cs), .int .i64 (usesC k l s ss cs)]) ∧ Gr w w' := by
  have gr : Gr w (w.alloc (.cells (bookC k l s (.slice a n cap)) 31)) := (Gr.refl _).alloc _
  have hb := bookAt_block (heap_new (w := w) (o := .cells (bookC k l s (.slice a n cap)) 31) rfl) hl (hs.gr gr)
  have HB := hid (l03Uses_any w.heap.size k l s a n cap ss hw hn hz b cs.length cb cs rfl hm _ hb (ht.gr gr))
  have GR := hid gr
  by_cases h : usesC k l s ss cs = 0
  · obtain ⟨hv, hlen, hall⟩ := uses_zero h
    rw [flagsV_yes h]
    obtain ⟨K, L, B, rfl, rfl, rfl, k1, k2, l1, l2, b2⟩ := sizedB_yes (validBk_sizedT hv)
    obtain ⟨-, -, e3⟩ := room_yes (validBk_sizedT hv)
    have hnl := validBk_lens hv
    rw [h] at HB ⊢
    rw [e3] at hnl ⊢
    have HM := hid (fun V (g : Gr (w.alloc (.cells (bookC K L B (.slice a n cap)) 31)) V) => l03Meanings_any w.heap.size K L B a n cap ss k2 l2 b2 V (hb.gr g))
    have HL3 := hid (fun j (hj : j < cs.length) => (book_len3 (K := K) (B := B) l2 (show j < (bookL K B L).length by omega)).2)
    have HUS := hid (fun j (hj : j < cs.length) => betB_iff.1 (allTo_at hall j hj))
    have HBD := hid (fun j (hj : j ≤ cs.length) => flagsTo_bd (fun i hi => HL3.out i hi) (fun i hi => allTo_at hall i hi) j hj)
    have HST := hid (fun j => show flagsTo (bookL K B L) cs (j + 1) = flagsTo (bookL K B L) cs j + cs.getD j 0 * (((bookL K B L).getD j []).length : Int) from rfl)
    have HJX := hid (fun j (hj : j < cs.length) => show j < (bookL K B L).length by omega)
    have HT := hid ht
    have h100 : cs.length ≤ 100 := by omega
    obtain ⟨q, hq⟩ : ∃ q, q = cs.length := ⟨_, rfl⟩
    rw [← hq] at HB HL3 HUS HBD HJX h100 ⊢
    have HQ := hid hq
    clear h hv hs hl gr hz hw hb e3 hnl hlen hall ht hq hm
    generalize bookL K B L = xss at *
    go_enter Tryd.func19, Tryd.ntmps19
    go_wp2_with fail
    refine HB.out.mono ?_
    rintro e w2 ⟨rfl, g2⟩
    have GB2 := hid g2
    have G2 := hid (GR.out.trans g2)
    clear g2
    have HM2 := hid (HM.out _ GB2.out)
    clear HM
    go_wp2_with fail
    refine HM2.out.mono ?_
    rintro e w3 ⟨g, cc, vs, rfl, hrow, g3⟩
    have G3 := hid (G2.out.trans g3)
    have HR := hid hrow
    clear hrow g3 HM2
    obtain ⟨lo, hlo⟩ : ∃ lo, lo = w2.heap.size := ⟨_, rfl⟩
    rw [← hlo] at HR
    clear hlo
    obtain ⟨p0, hp0⟩ : ∃ p0, p0 = xss.length := ⟨_, rfl⟩
    rw [← hp0] at HR HJX ⊢
    have HP0 := hid hp0
    clear hp0
    go_wp2_with fail
    go_loopw [8, 9] (fun t i wr => ∃ j : Nat, j ≤ q ∧ i = .int .i64 j ∧ t = .int .i64 (flagsTo xss cs j) ∧ Hid (Gr w wr ∧ RowQ wr lo (.slice (some ⟨g, 0, none⟩) p0 cc) vs xss)) (fun _ i _ => q - (intOf i).toNat)
    case atStart => exact ⟨0, Nat.zero_le _, rfl, rfl, hid ⟨G3.out, HR.out⟩⟩
    case round =>
      obtain ⟨j, hj, rfl, rfl, hgr⟩ := hrel
      by_cases hlt : j < q
      · obtain ⟨g0, g', c', e0, hcc, ho⟩ := hgr.out.2.at_ (by rw [← HP0.out]; exact HJX.out j hlt)
        simp only [Option.some.injEq, Addr.mk.injEq, and_true] at e0
        subst e0
        obtain ⟨b1, o1, rfl, hc⟩ := (HT.out.gr hgr.out.1) j (by rw [← HQ.out]; exact hlt)
        have hl3 := HL3.out j hlt
        have hu := HUS.out j hlt
        have hbd := HBD.out j (by omega)
        have HN := hid (HST.out j)
        have hjx := HJX.out j hlt
        have HGD : Hid (Gr w wr.drew ∧ RowQ wr.drew lo (.slice (some ⟨g, 0, none⟩) p0 cc) vs xss) := hid ⟨hgr.out.1.drew, hgr.out.2.gr (Gr.refl wr).drew⟩
        clear ho HST HL3 HUS HBD HJX
        generalize xss.getD j [] = x at *
        obtain ⟨p, hp⟩ : ∃ p, p = x.length := ⟨_, rfl⟩
        rw [← hp] at hcc hl3 HN
        clear hp
        generalize cs.getD j 0 = y at *
        generalize flagsTo xss cs j = f0 at *
        have hpb := prod_bd hu.1 hu.2 hl3
        have hw1 : IntKind.i64.wrap (y * (p : Int)) = y * (p : Int) := IntWalk.i64_in _ (by omega)
        have hw2 : IntKind.i64.wrap (f0 + y * (p : Int)) = f0 + y * (p : Int) := IntWalk.i64_in _ (by omega)
        have HFF := hid (hw2.trans HN.out.symm)
        clear hpb hbd hu hw2
        go_wp2_with fail
        have gd : Gr wr wr.drew := (Gr.refl wr).drew
        have p0' := gd.cell hc
        have p1' := gd.cell hcc
        go_region_held3 (fun V => V.cell? ⟨b1, o1 + j, none⟩ = some (.int .i64 y) ∧ V.cell? ⟨g, j, none⟩ = some (.slice (some ⟨g', 0, none⟩) p c') ∧ Gr wr V)
          (first | exact ⟨p0', p1', gd⟩ | go_keep)
          (fail)
        go_wp2_with fail
        go_roundw
        case rel => exact ⟨j + 1, by omega, by go_num, congrArg (Value.int .i64) HFF.out, HGD⟩
        case measure => simp [intOf] <;> omega
      · have hjq : j = q := by omega
        have HK := hid hjq
        clear hjq
        go_wp2_with fail
        go_ret2
        exact ⟨by rw [HK.out]; rfl, hgr.out.1⟩
  · rw [flagsV_no h]
    have hcb : (usesC k l s ss cs != 0) = true := by rw [bne_iff_ne]; exact h
    clear h hs hl gr hz hw hb ht
    generalize usesC k l s ss cs = c at *
    generalize cs.length = q at *
    go_enter Tryd.func19, Tryd.ntmps19
    go_wp2_with fail
    refine HB.out.mono ?_
    rintro e w2 ⟨rfl, g2⟩
    have G2 := hid (GR.out.trans g2)
    clear g2
    go_wp2_with fail
    go_ret2
    exact ⟨rfl, G2.out⟩
set_option maxRecDepth 100000 in
set_option maxHeartbeats 2000000 in
theorem impl_FlagsFor_any (k l s : Int) (hw : Wf3 k l s) (a : Option Addr) (cap n : Nat) (ss : List ByteArray) (hl : n = ss.length) (hn : n ≤ 1048576) (hz : SizesOk ss) (b : Option Addr) (cb : Nat) (cs : List Int) (hm : cs.length ≤ 1048576) (_hcb : cs.length ≤ cb) (_hf : Fits .i64 cs) (b0 b1 b2 : Addr) (w : World) (hs : StrsOf w a ss) (ht : SliceOf .i64 w b cs) (hS : SentAt w b0 b1 b2) :
    Calls Tryd.prog 21 #[bookV k l s (.slice a n cap), .slice b cs.length cb] w fun e w' => e = .returned (.tuple #[.int .i64 (flagsV k l s ss cs), .int .i64 (usesC k l s ss cs)]) ∧ Gr w w' := by
  obtain ⟨W, hW⟩ : ∃ W, W = w.alloc (.cells (bookC k l s (.slice a n cap)) 31) := ⟨_, rfl⟩
  have G0 : Hid (Gr w W) := hid (by rw [hW]; exact (Gr.refl w).alloc _)
  have B0 : Hid (W.heap[w.heap.size]? = some (.cells (bookC k l s (.slice a n cap)) 31 (0, 0))) := hid (by rw [hW]; exact heap_new rfl)
  have HD := hid (fun V (g : Gr W V) => bk_cells (k := k) (l := l) (s := s) (v := .slice a n cap) (g.heap B0.out))
  have HCI := hid (fun V (g : Gr W V) => checkUses_any k l s hw a cap n ss hl hn hz b cs.length cb cs rfl hm b0 b1 b2 V (hs.gr (G0.out.trans g)) (ht.gr (G0.out.trans g)) (hS.gr (G0.out.trans g)))
  have HSE := hid (fun V (g : Gr W V) => hS.gr (G0.out.trans g))
  have HW := hid hW
  clear hW hS
  by_cases h : usesC k l s ss cs = 0
  · obtain ⟨hv, hlen, hall⟩ := uses_zero h
    rw [flagsV_yes h]
    obtain ⟨K, L, B, rfl, rfl, rfl, k1, k2, l1, l2, b2'⟩ := sizedB_yes (validBk_sizedT hv)
    obtain ⟨-, -, e3⟩ := room_yes (validBk_sizedT hv)
    have hnl := validBk_lens hv
    rw [h] at HCI ⊢
    rw [errE_zero] at HCI
    rw [e3, ← hl] at hnl
    rw [e3]
    rw [← hl] at hlen
    have HM := hid (fun V => meaningsIn_any K L B k1 k2 l2 b2' a cap n hnl.2 V)
    have HL3 := hid (fun j (hj : j < cs.length) => (book_len3 (K := K) (B := B) l2 (show j < (bookL K B L).length by omega)).2)
    have HUS := hid (fun j (hj : j < cs.length) => betB_iff.1 (allTo_at hall j hj))
    have HBD := hid (fun j (hj : j ≤ cs.length) => flagsTo_bd (fun i hi => HL3.out i hi) (fun i hi => allTo_at hall i hi) j hj)
    have HST := hid (fun j => show flagsTo (bookL K B L) cs (j + 1) = flagsTo (bookL K B L) cs j + cs.getD j 0 * (((bookL K B L).getD j []).length : Int) from rfl)
    have HTK := hid (fun j (hj : j < cs.length) => show ((bookL K B L).take n).getD j [] = (bookL K B L).getD j [] by simp [List.getD, show j < n by omega])
    have HTL : Hid (((bookL K B L).take n).length = cs.length) := hid (by rw [List.length_take]; omega)
    have HT := hid ht
    have h100 : cs.length ≤ 100 := by omega
    have hnq : n = cs.length := hlen.symm
    clear h hv hs hl hz hw e3 hnl hlen hall ht hm
    subst hnq
    obtain ⟨q, hq⟩ : ∃ q, q = cs.length := ⟨_, rfl⟩
    rw [← hq] at HD HCI HM HL3 HUS HBD HTK HTL B0 HW h100 ⊢
    have HQ := hid hq
    clear hq
    generalize bookL K B L = xss at *
    go_enter Tryd.func21, Tryd.ntmps21
    go_wp2_with fail
    rw [← HW.out]
    obtain ⟨d0, d1, d2, d3⟩ := HD.out _ (Gr.refl W)
    go_wp2_with fail
    refine (HCI.out _ (Gr.refl W)).mono ?_
    rintro e w2 ⟨rfl, g2⟩
    have GB2 := hid g2
    have G2 := hid (G0.out.trans g2)
    clear d0 d1 d2 d3
    obtain ⟨d0, d1, d2, d3⟩ := HD.out _ g2
    clear g2
    go_wp2_with fail
    refine (HM.out _).mono ?_
    rintro e w4 ⟨aa, c, vs, rfl, hrow, g4⟩
    have G4 := hid (G2.out.trans g4)
    have HR := hid hrow
    clear hrow g4 HM d0 d1 d2 d3
    obtain ⟨lo, hlo⟩ : ∃ lo, lo = w2.heap.size := ⟨_, rfl⟩
    rw [← hlo] at HR
    clear hlo
    go_wp2_with fail
    go_loopw [7, 8, 9, 20] (fun t _ _ i wr => ∃ j : Nat, j ≤ q ∧ i = .int .i64 j ∧ t = .int .i64 (flagsTo xss cs j) ∧ Hid (Gr w wr ∧ RowQ wr lo (.slice aa q c) vs (xss.take q))) (fun _ _ _ i _ => q - (intOf i).toNat)
    case atStart => exact ⟨0, Nat.zero_le _, rfl, rfl, hid ⟨G4.out, HR.out⟩⟩
    case round =>
      obtain ⟨j, hj, rfl, rfl, hgr⟩ := hrel
      by_cases hlt : j < q
      · obtain ⟨g0, g', c', e0, hcc, ho⟩ := hgr.out.2.at_ (by rw [HTL.out]; exact hlt)
        rw [HTK.out j hlt] at hcc
        subst e0
        obtain ⟨b3, o3, rfl, hc⟩ := (HT.out.gr hgr.out.1) j (by rw [← HQ.out]; exact hlt)
        have hl3 := HL3.out j hlt
        have hu := HUS.out j hlt
        have hbd := HBD.out j (by omega)
        have HN := hid (HST.out j)
        clear ho HST HL3 HUS HBD HTK
        generalize xss.getD j [] = x at *
        obtain ⟨p, hp⟩ : ∃ p, p = x.length := ⟨_, rfl⟩
        rw [← hp] at hcc hl3 HN
        clear hp
        generalize cs.getD j 0 = y at *
        generalize flagsTo xss cs j = f0 at *
        have hpb := prod_bd hu.1 hu.2 hl3
        have hw1 : IntKind.i64.wrap (y * (p : Int)) = y * (p : Int) := IntWalk.i64_in _ (by omega)
        have hw2 : IntKind.i64.wrap (f0 + y * (p : Int)) = f0 + y * (p : Int) := IntWalk.i64_in _ (by omega)
        clear hpb hbd hu
        go_wp2_with fail
        go_roundw
        case rel => exact ⟨j + 1, by omega, by go_num, congrArg (Value.int .i64) HN.out.symm, hgr⟩
        case measure => simp [intOf] <;> omega
      · have hjq : j = q := by omega
        have HK := hid hjq
        clear hjq
        go_wp2_with fail
        go_ret2
        exact ⟨by rw [HK.out]; rfl, hgr.out.1⟩
  · rw [flagsV_no h]
    have hc3 : usesC k l s ss cs = 1 ∨ usesC k l s ss cs = 2 ∨ usesC k l s ss cs = 4 := (uses_cases k l s ss cs).elim (fun e => absurd e h) (fun e => e.elim .inl (fun e => .inr (.inl e)))
    rw [errE_ne h] at HCI
    have HCO := hid (fun V (g : Gr W V) => codeOf_any b0 b1 b2 _ hc3 V (HSE.out V g))
    clear h hs hl hz hw hc3 HSE ht
    generalize usesC k l s ss cs = c at *
    generalize errB b0 b1 b2 c = eb at *
    generalize cs.length = q at *
    unfold sentV at HCI HCO
    go_enter Tryd.func21, Tryd.ntmps21
    go_wp2_with fail
    rw [← HW.out]
    obtain ⟨d0, d1, d2, d3⟩ := HD.out _ (Gr.refl W)
    go_wp2_with fail
    refine (HCI.out _ (Gr.refl W)).mono ?_
    rintro e w2 ⟨rfl, g2⟩
    have GB2 := hid g2
    have G2 := hid (G0.out.trans g2)
    clear g2 d0 d1 d2 d3
    go_wp2_with fail
    refine (HCO.out _ GB2.out).mono ?_
    rintro e w3 ⟨rfl, rfl⟩
    go_wp2_with fail
    go_ret2
    exact ⟨rfl, G2.out⟩
end Go.Proofs.YtfaiehjomcgjgaaDoor
