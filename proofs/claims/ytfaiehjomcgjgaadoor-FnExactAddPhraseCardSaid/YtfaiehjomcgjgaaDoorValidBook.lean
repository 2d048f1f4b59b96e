/- ValidBook: the program's function. -/
import Derived.Test.YtfaiehjomcgjgaaDoorGBk
namespace Go.Proofs.YtfaiehjomcgjgaaDoor
set_option linter.unusedVariables false
open Go.RowKit Go.Maps
theorem okPh_parts {k l s : Int} {ss : List ByteArray} {n : Nat} (hl : n = ss.length) (h : sizedB k l s = true) (h1 : n ≤ 100) (h2 : (n : Int) ≤ roomV k l s) : validBk k l s ss = (phAll ss n && decide (cntD ss n = n)) := by
  subst hl
  unfold roomV at h2
  have e : decide (cntD ss ss.length = ss.length) = allTo (freshB ss) ss.length := by
    rw [Bool.eq_iff_iff, decide_eq_true_iff]; exact cntD_eq
  unfold validBk phAll
  rw [h, decide_eq_true h1, okPh_all, decide_eq_true (show ss.length ≤ (meansOf k l s).length by omega), e, Bool.and_true, Bool.true_and, Bool.true_and]
theorem validBk_room {k l s : Int} {ss : List ByteArray} {n : Nat} (hl : n = ss.length) (h : ¬ ((n : Int) ≤ roomV k l s ∧ n ≤ 100)) : validBk k l s ss = false := by
  subst hl
  unfold roomV at h
  by_cases h1 : ss.length ≤ 100
  · unfold validBk
    rw [decide_eq_false (show ¬ ss.length ≤ (meansOf k l s).length by omega)]
    simp
  · exact validBk_long h1
theorem roomV_bd (k l s : Int) : 0 ≤ roomV k l s ∧ roomV k l s ≤ 3000 := by
  cases h : sizedB k l s with
  | false => rw [(room_no h).1]; omega
  | true =>
    obtain ⟨K, L, B, rfl, rfl, rfl, k1, k2, l1, l2, b2⟩ := sizedB_yes h
    rw [(room_yes h).1]
    have := book_bd (B := B) k2 l2
    omega
set_option maxHeartbeats 4000000 in
set_option maxRecDepth 100000 in
theorem impl_ValidBook_any (k l s : Int) (hw : Wf3 k l s) (a : Option Addr) (cap n : Nat) (ss : List ByteArray) (hl : n = ss.length) (hn : n ≤ 1048576) (hz : SizesOk ss) (w : World) (hs : StrsOf w a ss) :
    Calls Tryd.prog 59 #[bookV k l s (.slice a n cap)] w fun e w' => e = .returned (.bool (validBk k l s ss)) ∧ Gr w w' := by
  have HR := hid (fun V => roomOf_any k l s (.slice a n cap) hw V)
  have hrb := roomV_bd k l s
  have b0 := hid (heap_new (w := w) (o := .cells (bookC k l s (.slice a n cap)) 31) rfl)
  have G := hid ((Gr.refl w).alloc (.cells (bookC k l s (.slice a n cap)) 31))
  have HC := hid (fun V (g : Gr (w.alloc (.cells (bookC k l s (.slice a n cap)) 31)) V) => bk_cells (g.heap b0.out))
  cases h : sizedB k l s with
  | false =>
    rw [validBk_sized h]
    obtain ⟨e1, e2⟩ := room_no h
    rw [e1, e2] at HR
    clear h hw e1 e2 hrb hs hl hz
    go_enter Tryd.func59, Tryd.ntmps59
    go_wp2_with fail
    with_reducible refine (HR.out _).mono ?_
    rintro e w1 ⟨rfl, g1⟩
    have G1 := hid (G.out.trans g1)
    clear g1
    go_wp2_with fail
    go_ret
    exact ⟨rfl, G1.out⟩
  | true =>
    have e2 : roomC k l s = 0 := by unfold roomC; rw [h]; rfl
    rw [e2] at HR
    have HP := hid (fun h1 h2 => okPh_parts (k := k) (l := l) (s := s) hl h h1 h2)
    have HNO := hid (fun h => validBk_room (k := k) (l := l) (s := s) hl h)
    have HALL := hid (fun V (g : Gr w V) => allPhrases_any a cap n ss hl hn hz V (hs.gr g))
    have HIX := hid (fun V (g : Gr w V) => indicesOf_any a cap n ss hl hn hz V (hs.gr g))
    generalize validBk k l s ss = r at *
    generalize roomV k l s = R at *
    generalize phAll ss n = ph at *
    clear h hw e2 hs hl hz
    obtain ⟨R, rfl⟩ := Int.eq_ofNat_of_zero_le hrb.1
    by_cases h1 : (n : Int) ≤ (R : Int) ∧ n ≤ 100
    · obtain ⟨h1, h2⟩ := h1
      have HV := hid (HP.out h2 h1)
      have hmin : ¬ (min (R : Int) 100 < (n : Int)) := by omega
      clear HP HNO
      by_cases hR : (100 : Int) < (R : Int)
      all_goals
        go_enter Tryd.func59, Tryd.ntmps59
        go_wp2_with fail
        with_reducible refine (HR.out _).mono ?_
        rintro e w1 ⟨rfl, g1⟩
        have GX := hid g1
        have G1 := hid (G.out.trans g1)
        clear g1
        obtain ⟨c0, c1, c2, c3⟩ := HC.out _ GX.out
        clear c0 c1 c2
        go_wp2_with fail
        have gd : Gr w1 w1.drew := (Gr.refl w1).drew
        have p3 : w1.drew.cell? ⟨w.heap.size, 3, none⟩ = some (.slice a n cap) := c3
        cases ph with
        | false =>
          clear gd p3
          go_quiet ((go_at_call 78; exact Calls.quiet_of_same ((HALL.out _ (G1.out.drewN _)).mono fun _ _ h => ⟨h.1, h.2.symm⟩)))
          go_wp2_with fail
          go_ret
          exact ⟨ret_bool (by rw [HV.out]; rfl), G1.out.drewN _⟩
        | true =>
          --R0
          clear gd p3
          refine wp_region_held_drew (S := fun V => Gr w1 V) (by kernel_rfl) (Gr.refl w1).drew (fun hH => ?_)
          have HH := hid hH
          clear hH
          refine wpAnyH_take (i := 0) (v := .pointer (some ⟨w.heap.size, 3, none⟩)) rfl (by kernel_rfl) (by kernel_rfl) (by kernel_rfl) (fun _ _ _ h => h) (Or.inl ⟨by rfl, fun _ _ => by first | rfl | (go_simp; done) | (go_simp; rfl) | (go_simp; intro h; exfalso; omega)⟩) HH.out ?_
          simp only [Act.put, List.getElem_toArray, List.getElem_cons_zero, List.setIfInBounds_toArray, List.set_cons_zero, List.set_cons_succ]
          refine wpAnyH_take (i := 1) (v := .slice a n cap) rfl (by kernel_rfl) (by kernel_rfl) (by kernel_rfl) (fun _ _ _ h => h) (Or.inl ⟨by rfl, fun V hV => by (have hc := hV.cell c3; first | (go_simp; done) | (go_simp; rfl))⟩) HH.out ?_
          simp only [Act.put, List.getElem_toArray, List.getElem_cons_zero, List.getElem_cons_succ, List.setIfInBounds_toArray, List.set_cons_zero, List.set_cons_succ]
          refine wpAnyH_ready (rs := [2]) (by kernel_rfl) (by simp) (AllReadyH.cons rfl (fun KK hKK => ?_) AllReadyH.nil)
          rw [if_pos (by rfl)]
          go_simp
          refine (HALL.out _ (G1.out.trans HH.out)).mono ?_
          rintro e V1 ⟨rfl, rfl⟩
          dsimp only
          refine hKK.out _ _ HH.out (fun hH => ?_)
          clear HH hKK KK
          have HH := hid hH
          clear hH
          refine wpAnyH_take (i := 3) (v := .bool true) rfl (by kernel_rfl) (by kernel_rfl) (by kernel_rfl) (fun _ _ _ h => h) (Or.inl ⟨by rfl, fun _ _ => by first | rfl | (go_simp; done) | (go_simp; rfl) | (go_simp; intro h; exfalso; omega)⟩) HH.out ?_
          simp only [Act.put, List.getElem_toArray, List.getElem_cons_zero, List.getElem_cons_succ, List.setIfInBounds_toArray, List.set_cons_zero, List.set_cons_succ]
          refine wpAnyH_take (i := 4) (v := .pointer (some ⟨w.heap.size, 3, none⟩)) rfl (by kernel_rfl) (by kernel_rfl) (by kernel_rfl) (fun _ _ _ h => h) (Or.inl ⟨by rfl, fun _ _ => by first | rfl | (go_simp; done) | (go_simp; rfl) | (go_simp; intro h; exfalso; omega)⟩) HH.out ?_
          simp only [Act.put, List.getElem_toArray, List.getElem_cons_zero, List.getElem_cons_succ, List.setIfInBounds_toArray, List.set_cons_zero, List.set_cons_succ]
          refine wpAnyH_take (i := 5) (v := .slice a n cap) rfl (by kernel_rfl) (by kernel_rfl) (by kernel_rfl) (fun _ _ _ h => h) (Or.inl ⟨by rfl, fun V hV => by (have hc := hV.cell c3; first | (go_simp; done) | (go_simp; rfl))⟩) HH.out ?_
          simp only [Act.put, List.getElem_toArray, List.getElem_cons_zero, List.getElem_cons_succ, List.setIfInBounds_toArray, List.set_cons_zero, List.set_cons_succ]
          refine wpAnyH_take (i := 8) (v := .pointer (some ⟨w.heap.size, 3, none⟩)) rfl (by kernel_rfl) (by kernel_rfl) (by kernel_rfl) (fun _ _ _ h => h) (Or.inl ⟨by rfl, fun _ _ => by first | rfl | (go_simp; done) | (go_simp; rfl) | (go_simp; intro h; exfalso; omega)⟩) HH.out ?_
          simp only [Act.put, List.getElem_toArray, List.getElem_cons_zero, List.getElem_cons_succ, List.setIfInBounds_toArray, List.set_cons_zero, List.set_cons_succ]
          refine wpAnyH_take (i := 9) (v := .slice a n cap) rfl (by kernel_rfl) (by kernel_rfl) (by kernel_rfl) (fun _ _ _ h => h) (Or.inl ⟨by rfl, fun V hV => by (have hc := hV.cell c3; first | (go_simp; done) | (go_simp; rfl))⟩) HH.out ?_
          simp only [Act.put, List.getElem_toArray, List.getElem_cons_zero, List.getElem_cons_succ, List.setIfInBounds_toArray, List.set_cons_zero, List.set_cons_succ]
          refine wpAnyH_take (i := 10) (v := .int .i64 (n : Int)) rfl (by kernel_rfl) (by kernel_rfl) (by kernel_rfl) (fun _ _ _ h => h) (Or.inl ⟨by rfl, fun _ _ => by first | rfl | (go_simp; done) | (go_simp; rfl) | (go_simp; intro h; exfalso; omega)⟩) HH.out ?_
          simp only [Act.put, List.getElem_toArray, List.getElem_cons_zero, List.getElem_cons_succ, List.setIfInBounds_toArray, List.set_cons_zero, List.set_cons_succ]
          refine wpAnyH_ready (rs := [6]) (by kernel_rfl) (by simp) (AllReadyH.cons rfl (fun KK hKK => ?_) AllReadyH.nil)
          rw [if_pos (by rfl)]
          go_simp
          refine (HIX.out _ (G1.out.trans HH.out)).mono ?_
          rintro e V2 ⟨rfl, D, I⟩
          dsimp only
          have HI := hid I
          refine hKK.out _ _ (HH.out.trans I.gr) (fun hH => ?_)
          clear I
          clear HH hKK KK
          have HH := hid hH
          clear hH
          refine wpAnyH_ready (rs := [7]) (by kernel_rfl) (by simp) (AllReadyH.cons rfl (fun KK hKK => ?_) AllReadyH.nil)
          rw [if_pos (by rfl)]
          have hx : (Builtin.len_ #[107] 3 #[.map (some w1.heap.size)]).run Tryd.prog V2 = .ok (.int .i64 (cntD ss n : Nat)) V2 := by (have hy := HI.out.map.len Tryd.underlying107 3; rw [HI.out.rep.size] at hy; exact hy)
          go_simp
          refine hKK.out _ _ HH.out (fun hH => ?_)
          clear HH hKK KK hx
          have HH := hid hH
          clear hH
          refine wpAnyH_take (i := 11) (v := .bool (((cntD ss n : Nat) : Int) == (n : Int))) rfl (by kernel_rfl) (by kernel_rfl) (by kernel_rfl) (fun _ _ _ h => h) (Or.inl ⟨by rfl, fun _ _ => by first | rfl | (go_simp; done) | (go_simp; rfl) | (go_simp; intro h; exfalso; omega)⟩) HH.out ?_
          simp only [Act.put, List.getElem_toArray, List.getElem_cons_zero, List.getElem_cons_succ, List.setIfInBounds_toArray, List.set_cons_zero, List.set_cons_succ]
          refine wpAnyH_take (i := 12) (v := .bool (((cntD ss n : Nat) : Int) == (n : Int))) rfl (by kernel_rfl) (by kernel_rfl) (by kernel_rfl) (fun _ _ _ h => h) (Or.inl ⟨by rfl, fun _ _ => by first | rfl | (go_simp; done) | (go_simp; rfl) | (go_simp; intro h; exfalso; omega)⟩) HH.out ?_
          simp only [Act.put, List.getElem_toArray, List.getElem_cons_zero, List.getElem_cons_succ, List.setIfInBounds_toArray, List.set_cons_zero, List.set_cons_succ]
          refine wpAnyH_take (i := 13) (v := .bool (((cntD ss n : Nat) : Int) == (n : Int))) rfl (by kernel_rfl) (by kernel_rfl) (by kernel_rfl) (fun _ _ _ h => h) (Or.inl ⟨by rfl, fun _ _ => by first | rfl | (go_simp; done) | (go_simp; rfl) | (go_simp; intro h; exfalso; omega)⟩) HH.out ?_
          simp only [Act.put, List.getElem_toArray, List.getElem_cons_zero, List.getElem_cons_succ, List.setIfInBounds_toArray, List.set_cons_zero, List.set_cons_succ]
          refine wpAnyH_done (by kernel_rfl) ?_ _
          --R1
          have hdec : decide (cntD ss n = n) = (((cntD ss n : Nat) : Int) == (n : Int)) := by rw [Bool.eq_iff_iff]; simp; omega
          have HV2 := hid (show r = (((cntD ss n : Nat) : Int) == (n : Int)) by rw [HV.out, hdec]; rfl)
          go_wp2_with fail
          go_ret
          exact ⟨ret_bool (by rw [HV2.out]), G1.out.trans HH.out⟩
    · have HV := hid (HNO.out h1)
      have hmin : min (R : Int) 100 < (n : Int) := by omega
      clear HP HNO
      by_cases hR : (100 : Int) < (R : Int)
      all_goals
        go_enter Tryd.func59, Tryd.ntmps59
        go_wp2_with fail
        refine (HR.out _).mono ?_
        rintro e w1 ⟨rfl, g1⟩
        have GX := hid g1
        have G1 := hid (G.out.trans g1)
        clear g1
        obtain ⟨c0, c1, c2, c3⟩ := HC.out _ GX.out
        clear c0 c1 c2
        go_wp2_with fail
        go_ret
        exact ⟨ret_bool HV.out.symm, G1.out⟩
end Go.Proofs.YtfaiehjomcgjgaaDoor
