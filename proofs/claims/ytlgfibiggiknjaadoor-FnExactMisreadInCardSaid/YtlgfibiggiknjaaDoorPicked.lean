/- Entries that have been missed or misread: the model's functions. -/
import Derived.Test.YtlgfibiggiknjaaDoorStoryS
import Derived.Test.YtlgfibiggiknjaaDoorFlown
namespace Go.Proofs.YtlgfibiggiknjaaDoor
set_option linter.unusedVariables false
open Go.RowKit
theorem st_at {w : World} {a : Option Addr} {F : List (Int × Int)} {i : Nat} (h : CellsOf w a (flCells F)) (hi : i < F.length) : ∃ b off, a = some ⟨b, off, none⟩ ∧ w.rangeAt b (off + i * 2) [.int .i64 (flAt F i).1, .int .i64 (flAt F i).2] := by
  obtain ⟨b, off, rfl, _⟩ := h (i * 2) (by rw [flCells_length]; omega)
  have hr := h.range (i * 2) 2 (by rw [flCells_length]; omega)
  rw [flCells_elem F i hi] at hr
  exact ⟨b, off, rfl, hr⟩
theorem storyL_at (es fs : List En) (N : Nat) : ∀ (i k : Nat), (es.length - i) + (fs.length - k) = N → ∀ x ∈ storyL es fs i k, ∃ i' k', AccAt es fs i' k' x := by
  induction N using Nat.strongRecOn with
  | ind N ih =>
    intro i k h x hx
    by_cases hc : i < es.length ∨ k < fs.length
    · rw [storyL_go hc] at hx
      have h1 := pick_on es fs i k hc
      rcases List.mem_cons.1 hx with rfl | hx
      · exact ⟨i, k, pickA_at hc⟩
      · exact ih ((es.length - (pickA es fs i k).ni i) + (fs.length - (pickA es fs i k).nk k)) (by omega) _ _ rfl x hx
    · rw [storyL_end hc] at hx; cases hx
theorem both_0 {x y : En} (h : bothC x y = 0) : x.s = y.s := by
  unfold bothC at h
  split at h
  · split at h
    · assumption
    · omega
  · omega
theorem both_1 {x y : En} (h : bothC x y = 1) : ¬ x.s = y.s := by
  unfold bothC at h
  split at h
  · split at h
    · omega
    · assumption
  · omega
set_option maxRecDepth 100000 in
set_option maxHeartbeats 8000000 in
theorem l07Picked_any (a : Option Addr) (n ca : Nat) (es : List En) (hn0 : n = es.length) (hn : n ≤ 1048576) (hf : EnFits es) (b : Option Addr) (m cb : Nat) (fs : List En) (hm0 : m = fs.length) (hm : m ≤ 1048576) (hg : EnFits fs) (w : World) (ha : CellsOf w a (enCells es)) (hb : CellsOf w b (enCells fs)) (mi : Bool) :
    Calls Tryd.prog 113 #[.slice a n ca, .slice b m cb, .bool mi] w (RetOwn .i64 2 (withCode (code2 es fs)) (pickV (if mi then dropB else misB) es fs) w) := by
  obtain ⟨i0, hi0, hz0, hz1, hz2⟩ := info_parts info64u
  have h2 : Logs2 w a b n m es fs := ⟨ha, hb, hn0, hm0, hn, hm⟩
  have HO1 := hid (fun V (g : Gr w V) => l07Ok_any a n ca es hn0 hn V (ha.gr g))
  have HO2 := hid (fun V (g : Gr w V) => l07Ok_any b m cb fs hm0 hm V (hb.gr g))
  cases hv : valid2 es fs with
  | false =>
    rw [show code2 es fs = 1 by unfold code2; rw [hv]; rfl, show pickV (if mi then dropB else misB) es fs = [] by unfold pickV; rw [hv]; rfl]
    cases hv1 : validE es with
    | false =>
      rw [hv1] at HO1
      clear h2 ha hb hf hg hn0 hm0 hv hv1
      go_enter Tryd.func113, Tryd.ntmps113
      go_wp2_with fail
      refine (HO1.out _ (Gr.refl _)).mono ?_
      rintro e w1 ⟨rfl, g1⟩
      have GF := hid g1
      clear g1
      go_wp2_with fail
      go_ret2
      exact ⟨_, rfl, (Own.ofBlock (k := .i64) (e := 2) (xs := []) (heap_new (o := .cells #[] 2) rfl) (by unfold maxLen; simp)).widen GF.out.size (by simp), GF.out.alloc _⟩
    | true =>
      have hv2 : validE fs = false := by unfold valid2 at hv; rw [hv1, Bool.true_and] at hv; exact hv
      rw [hv1] at HO1
      rw [hv2] at HO2
      clear h2 ha hb hf hg hn0 hm0 hv hv1 hv2
      go_enter Tryd.func113, Tryd.ntmps113
      go_wp2_with fail
      refine (HO1.out _ (Gr.refl _)).mono ?_
      rintro e w1 ⟨rfl, g1⟩
      have G1 := hid g1
      clear g1
      go_wp2_with fail
      refine (HO2.out _ G1.out).mono ?_
      rintro e w2 ⟨rfl, g2⟩
      have GF := hid (G1.out.trans g2)
      clear g2
      go_wp2_with fail
      go_ret2
      exact ⟨_, rfl, (Own.ofBlock (k := .i64) (e := 2) (xs := []) (heap_new (o := .cells #[] 2) rfl) (by unfold maxLen; simp)).widen GF.out.size (by simp), GF.out.alloc _⟩
  | true =>
    obtain ⟨h1, h2'⟩ := valid2_split hv
    have h60 := valid2_60 hv
    rw [h1] at HO1
    rw [h2'] at HO2
    have HT := hid (fun V (g : Gr w V) => l07Story_any a b n m ca cb es fs (by rw [hn0]; exact h60.1) (by rw [hm0]; exact h60.2) V (h2.gr g))
    have HAT := hid (fun x (h : x ∈ storyL es fs 0 0) => storyL_at es fs _ 0 0 rfl x h)
    have H2 := hid h2
    have hll := storyL_length es fs _ 0 0 rfl
    rw [show code2 es fs = 0 by unfold code2; rw [hv]; rfl, show pickV (if mi then dropB else misB) es fs = ((storyL es fs 0 0).filter (if mi then dropB else misB)).map Acct.fl by unfold pickV; rw [hv]; rfl]
    generalize storyL es fs 0 0 = L at *
    have hl2 : L.length ≤ 120 := by omega
    clear h2 ha hb hf hg hv h1 h2' hll h60
    have HN := hid hn0
    have HM := hid hm0
    clear hn0 hm0
    generalize hpp : (if mi then dropB else misB) = p at *
    have HPQ := hid hpp
    clear hpp
    go_enter Tryd.func113, Tryd.ntmps113
    go_wp2_with fail
    refine (HO1.out _ (Gr.refl _)).mono ?_
    rintro e w1 ⟨rfl, g1⟩
    have G1 := hid g1
    clear g1
    go_wp2_with fail
    refine (HO2.out _ G1.out).mono ?_
    rintro e w2 ⟨rfl, g2⟩
    have G2 := hid (G1.out.trans g2)
    clear g2
    go_wp2_with fail
    refine (HT.out _ G2.out).mono ?_
    rintro e w3 ⟨v, rfl, o3, g3⟩
    have G3 := hid (G2.out.trans g3)
    obtain ⟨av, cv, rfl⟩ := o3.shape
    have O3 := hid o3
    clear g3 o3 HT HO1 HO2
    go_wp2_with fail
    go_loopw [9, 10] (fun v jv wr => ∃ j : Nat, j ≤ L.length ∧ jv = .int .i64 j ∧ Hid (Own .i64 2 wr w3.heap.size wr.heap.size v (pickTo p L j)) ∧ Hid (Gr w3 wr)) (fun _ jv _ => L.length - (intOf jv).toNat)
    case atStart => exact ⟨0, Nat.zero_le _, rfl, hid ((Own.ofBlock (k := .i64) (e := 2) (xs := []) (heap_new (o := .cells #[] 2) rfl) (by unfold maxLen; simp)).widen (Nat.le_refl _) (by simp)), hid ((Gr.refl _).alloc _)⟩
    case round =>
      obtain ⟨j, hj, rfl, O, G⟩ := hrel
      obtain ⟨vv, vc, rfl⟩ := O.out.shape
      by_cases hlt : j < L.length
      · obtain ⟨x, hx⟩ : ∃ x, L[j]? = some x := ⟨_, List.getElem?_eq_getElem hlt⟩
        have hfl : flAt (L.map stepP) j = (x.fl, x.se) := by simp [flAt, List.getD, hx, stepP]
        obtain ⟨sb, so, rfl, rg⟩ := st_at ((O3.out.gr G.out).reads) (i := j) (by rw [List.length_map]; exact hlt)
        rw [hfl] at rg
        have RG := hid rg
        have HY := hid (fun (h : p x = true) => pickTo_yes hx h)
        have HNO := hid (fun (h : p x = false) => pickTo_no hx h)
        have hxl := pickTo_length p L j
        obtain ⟨i', k', hat⟩ := HAT.out x (List.mem_of_getElem? hx)
        have HPX := hid (show p x = (if mi then dropB x else misB x) by rw [← HPQ.out]; cases mi <;> rfl)
        have HE := hid (fun V (g : Gr w V) (h : i' < n) => en_at (H2.out.gr g).fst (i := i') (by rw [← HN.out]; exact h))
        have HF := hid (fun V (g : Gr w V) (h : k' < m) => en_at (H2.out.gr g).snd (i := k') (by rw [← HM.out]; exact h))
        unfold AccAt at hat
        rw [← HN.out, ← HM.out] at hat
        generalize pickTo p L j = xs at *
        generalize p x = q at *
        have hb0 : (0 : Int) ≤ j := by omega
        have hb1 : (j : Int) < L.length := by omega
        clear hx hfl rg HAT
        obtain ⟨W5, hW5⟩ : ∃ W5, W5 = wr.alloc (.cells #[.int .i64 x.fl, .int .i64 x.se] 112) := ⟨_, rfl⟩
        have G5 := hid (show Gr wr W5 by rw [hW5]; exact (Gr.refl wr).alloc _)
        have B5 : W5.heap[wr.heap.size]? = some (.cells #[.int .i64 x.fl, .int .i64 x.se] 112 (0, 0)) := by rw [hW5]; exact heap_new rfl
        have e0 : W5.cell? ⟨wr.heap.size, 0, none⟩ = some (.int .i64 x.fl) := by rw [cell_of_row _ _ _ _ _ _ B5]; rfl
        have e1 : W5.cell? ⟨wr.heap.size, 1, none⟩ = some (.int .i64 x.se) := by rw [cell_of_row _ _ _ _ _ _ B5]; rfl
        have HW5 := hid hW5
        clear hW5 B5
        go_upto_region 9 with (refine wpList_load_mid rfl 112 _ rfl sb (so + j * 2) rfl _ _ RG.out Tryd.underlying112 rfl (by kernel_rfl) ?_)
        rw [← HW5.out]
        have GA := hid (G3.out.trans (G.out.trans G5.out))
        replace O := hid ((O.out.gr G5.out).widen (Nat.le_refl _) G5.out.size)
        have G6 := hid (G.out.trans G5.out)
        rcases hat with ⟨rfl, h1, h2, hc⟩ | ⟨rfl, h1, h2, hc⟩ | ⟨rfl, h1⟩ | ⟨rfl, h1⟩
        · simp only [Acct.fl] at e0 HY
          simp only [Acct.se] at e1
          clear RG HW5
          obtain ⟨b0, o0, rfl, -, s0, -⟩ := HE.out W5 GA.out h1
          obtain ⟨b1, o1, rfl, -, s1, -⟩ := HF.out W5 GA.out h2
          have hi0' : (0 : Int) ≤ i' := by omega
          have hi1' : (i' : Int) < n := by omega
          have hk0' : (0 : Int) ≤ k' := by omega
          have hk1' : (k' : Int) < m := by omega
          have hs := both_0 hc
          generalize (enAt es i').s = sx at *
          generalize (enAt fs k').s = sy at *
          subst hs
          have hb2 : (sx != sx) = false := by simp
          clear hc HE HF
          cases mi
          · have HQ := hid (HNO.out HPX.out)
            clear HY HNO
            go_wp2_with fail
            go_quiet (fail)
            generalize hw7 : World.drewN _ _ = w7 at *
            have G7 := hid (show Gr W5 w7 by rw [← hw7]; exact (Gr.refl _).drewN _)
            have O7 := hid ((O.out.gr G7.out).widen (Nat.le_refl _) G7.out.size)
            have G8 := hid (G6.out.trans G7.out)
            clear hw7
            go_wp2_with fail
            go_roundw
            case rel => exact ⟨j + 1, by omega, by go_num, by rw [HQ.out]; exact O7, G8⟩
            case measure => simp [intOf]; omega
          · have HQ := hid (HNO.out HPX.out)
            clear HY HNO
            go_wp2_with fail
            go_quiet (fail)
            generalize hw7 : World.drewN _ _ = w7 at *
            have G7 := hid (show Gr W5 w7 by rw [← hw7]; exact (Gr.refl _).drewN _)
            have O7 := hid ((O.out.gr G7.out).widen (Nat.le_refl _) G7.out.size)
            have G8 := hid (G6.out.trans G7.out)
            clear hw7
            go_wp2_with fail
            go_roundw
            case rel => exact ⟨j + 1, by omega, by go_num, by rw [HQ.out]; exact O7, G8⟩
            case measure => simp [intOf]; omega
        · simp only [Acct.fl] at e0 HY
          simp only [Acct.se] at e1
          clear RG HW5
          obtain ⟨b0, o0, rfl, -, s0, -⟩ := HE.out W5 GA.out h1
          obtain ⟨b1, o1, rfl, -, s1, -⟩ := HF.out W5 GA.out h2
          have hi0' : (0 : Int) ≤ i' := by omega
          have hi1' : (i' : Int) < n := by omega
          have hk0' : (0 : Int) ≤ k' := by omega
          have hk1' : (k' : Int) < m := by omega
          have hs := both_1 hc
          generalize (enAt es i').s = sx at *
          generalize (enAt fs k').s = sy at *
          have hb2 : (sx != sy) = true := by simpa using hs
          have hb3 : (sx == sy) = false := by simpa using hs
          clear hs
          clear hc HE HF
          cases mi
          · have HQ := hid (HY.out HPX.out)
            have O6 := hid O.out.row
            clear HY HNO
            go_wp2_with fail
            go_quiet (fail)
            generalize hw7 : World.drewN _ _ = w7 at *
            have G7 := hid (show Gr W5 w7 by rw [← hw7]; exact (Gr.refl _).drewN _)
            have c0 := G7.out.cell e0
            have O7 := hid ((O.out.gr G7.out).widen (Nat.le_refl _) G7.out.size).row
            have SZ := hid (G6.out.trans G7.out).size
            clear hw7
            go_wp2_with (at_builtin; refine wpList_append_own _ rfl _ _ 52 rfl w3.heap.size 2 i0 (.int .i64 0) 1 8 Tryd.underlying52 hi0 hz0 hz1 hz2 rfl (by decide) _ _ _ rfl (O7.out.alloc _) ⟨w7.heap.size, 0, none⟩ 1 1 [.int .i64 (i' : Int)] rfl rfl (news_int1 (heap_new rfl)) (by simp [Value.oneCell']) (by unfold maxLen; omega) (by omega) (by have := SZ.out; simp <;> omega) ?_; intro v5 w8 hown5 hgrow5 _)
            have G8 := hid (((G6.out.trans G7.out).alloc (.cells #[.int .i64 (i' : Int)] 2)).by_ hgrow5 (fun b e => (O7.out.lt b e).1))
            have O8 := hid (show Own .i64 2 w8 w3.heap.size w8.heap.size v5 (xs ++ [(i' : Int)]) from Own.ofRow hown5 (by simp) (by simp))
            clear hown5 hgrow5
            go_wp2_with fail
            go_roundw
            case rel => exact ⟨j + 1, by omega, by go_num, by rw [HQ.out]; exact O8, G8⟩
            case measure => simp [intOf]; omega
          · have HQ := hid (HNO.out HPX.out)
            clear HY HNO
            go_wp2_with fail
            go_quiet (fail)
            generalize hw7 : World.drewN _ _ = w7 at *
            have G7 := hid (show Gr W5 w7 by rw [← hw7]; exact (Gr.refl _).drewN _)
            have O7 := hid ((O.out.gr G7.out).widen (Nat.le_refl _) G7.out.size)
            have G8 := hid (G6.out.trans G7.out)
            clear hw7
            go_wp2_with fail
            go_roundw
            case rel => exact ⟨j + 1, by omega, by go_num, by rw [HQ.out]; exact O7, G8⟩
            case measure => simp [intOf]; omega
        · simp only [Acct.fl] at e0 HY
          simp only [Acct.se] at e1
          clear RG HW5
          have hi0' : (0 : Int) ≤ i' := by omega
          clear HE HF
          cases mi
          · have HQ := hid (HNO.out HPX.out)
            clear HY HNO
            go_wp2_with fail
            go_quiet (fail)
            generalize hw7 : World.drewN _ _ = w7 at *
            have G7 := hid (show Gr W5 w7 by rw [← hw7]; exact (Gr.refl _).drewN _)
            have O7 := hid ((O.out.gr G7.out).widen (Nat.le_refl _) G7.out.size)
            have G8 := hid (G6.out.trans G7.out)
            clear hw7
            go_wp2_with fail
            go_roundw
            case rel => exact ⟨j + 1, by omega, by go_num, by rw [HQ.out]; exact O7, G8⟩
            case measure => simp [intOf]; omega
          · have HQ := hid (HY.out HPX.out)
            have O6 := hid O.out.row
            clear HY HNO
            go_wp2_with fail
            go_quiet (fail)
            generalize hw7 : World.drewN _ _ = w7 at *
            have G7 := hid (show Gr W5 w7 by rw [← hw7]; exact (Gr.refl _).drewN _)
            have c0 := G7.out.cell e0
            have O7 := hid ((O.out.gr G7.out).widen (Nat.le_refl _) G7.out.size).row
            have SZ := hid (G6.out.trans G7.out).size
            clear hw7
            go_wp2_with (at_builtin; refine wpList_append_own _ rfl _ _ 52 rfl w3.heap.size 2 i0 (.int .i64 0) 1 8 Tryd.underlying52 hi0 hz0 hz1 hz2 rfl (by decide) _ _ _ rfl (O7.out.alloc _) ⟨w7.heap.size, 0, none⟩ 1 1 [.int .i64 (i' : Int)] rfl rfl (news_int1 (heap_new rfl)) (by simp [Value.oneCell']) (by unfold maxLen; omega) (by omega) (by have := SZ.out; simp <;> omega) ?_; intro v5 w8 hown5 hgrow5 _)
            have G8 := hid (((G6.out.trans G7.out).alloc (.cells #[.int .i64 (i' : Int)] 2)).by_ hgrow5 (fun b e => (O7.out.lt b e).1))
            have O8 := hid (show Own .i64 2 w8 w3.heap.size w8.heap.size v5 (xs ++ [(i' : Int)]) from Own.ofRow hown5 (by simp) (by simp))
            clear hown5 hgrow5
            go_wp2_with fail
            go_roundw
            case rel => exact ⟨j + 1, by omega, by go_num, by rw [HQ.out]; exact O8, G8⟩
            case measure => simp [intOf]; omega
        · simp only [Acct.fl] at e0 HY
          simp only [Acct.se] at e1
          clear RG HW5
          have hk0' : (0 : Int) ≤ k' := by omega
          clear HE HF
          cases mi
          · have HQ := hid (HNO.out HPX.out)
            clear HY HNO
            go_wp2_with fail
            go_quiet (fail)
            generalize hw7 : World.drewN _ _ = w7 at *
            have G7 := hid (show Gr W5 w7 by rw [← hw7]; exact (Gr.refl _).drewN _)
            have O7 := hid ((O.out.gr G7.out).widen (Nat.le_refl _) G7.out.size)
            have G8 := hid (G6.out.trans G7.out)
            clear hw7
            go_wp2_with fail
            go_roundw
            case rel => exact ⟨j + 1, by omega, by go_num, by rw [HQ.out]; exact O7, G8⟩
            case measure => simp [intOf]; omega
          · have HQ := hid (HNO.out HPX.out)
            clear HY HNO
            go_wp2_with fail
            go_quiet (fail)
            generalize hw7 : World.drewN _ _ = w7 at *
            have G7 := hid (show Gr W5 w7 by rw [← hw7]; exact (Gr.refl _).drewN _)
            have O7 := hid ((O.out.gr G7.out).widen (Nat.le_refl _) G7.out.size)
            have G8 := hid (G6.out.trans G7.out)
            clear hw7
            go_wp2_with fail
            go_roundw
            case rel => exact ⟨j + 1, by omega, by go_num, by rw [HQ.out]; exact O7, G8⟩
            case measure => simp [intOf]; omega
      · obtain rfl : j = L.length := by omega
        have OE := hid (show Own .i64 2 wr w3.heap.size wr.heap.size (.slice vv (pickTo p L L.length).length vc) ((L.filter p).map Acct.fl) by have h := O.out; unfold pickTo at h ⊢; rw [List.take_length] at h ⊢; exact h)
        go_wp2_with fail
        go_ret2
        exact ⟨_, rfl, OE.out.widen G3.out.size (Nat.le_refl _), G3.out.trans G.out⟩
set_option maxRecDepth 100000 in
set_option maxHeartbeats 1000000 in
theorem spec_MissedIn_law (a : Option Addr) (n ca : Nat) (es : List En) (hn0 : n = es.length) (hn : n ≤ 1048576) (hf : EnFits es) (b : Option Addr) (m cb : Nat) (fs : List En) (hm0 : m = fs.length) (hm : m ≤ 1048576) (hg : EnFits fs) (w : World) (ha : CellsOf w a (enCells es)) (hb : CellsOf w b (enCells fs)) :
    Calls Tryd.prog 42 #[.slice a n ca, .slice b m cb] w (RetOwn .i64 2 (withCode (code2 es fs)) (pickV dropB es fs) w) := by
  have HA := hid (show Calls Tryd.prog 113 #[.slice a n ca, .slice b m cb, .bool true] w (RetOwn .i64 2 (withCode (code2 es fs)) (pickV dropB es fs) w) from l07Picked_any a n ca es hn0 hn hf b m cb fs hm0 hm hg w ha hb true)
  generalize pickV dropB es fs = ys at *
  generalize code2 es fs = cd at *
  clear ha hb hf hg hn0 hm0
  go_enter Tryd.func42, Tryd.ntmps42
  go_wp2_with fail
  refine HA.out.mono ?_
  rintro e w1 ⟨v, rfl, o1, g1⟩
  have G1 := hid g1
  have O1 := hid o1
  clear g1 o1
  unfold withCode
  go_wp2_with fail
  go_ret2
  exact ⟨_, rfl, O1.out, G1.out⟩
set_option maxRecDepth 100000 in
set_option maxHeartbeats 1000000 in
theorem spec_MisreadIn_law (a : Option Addr) (n ca : Nat) (es : List En) (hn0 : n = es.length) (hn : n ≤ 1048576) (hf : EnFits es) (b : Option Addr) (m cb : Nat) (fs : List En) (hm0 : m = fs.length) (hm : m ≤ 1048576) (hg : EnFits fs) (w : World) (ha : CellsOf w a (enCells es)) (hb : CellsOf w b (enCells fs)) :
    Calls Tryd.prog 47 #[.slice a n ca, .slice b m cb] w (RetOwn .i64 2 (withCode (code2 es fs)) (pickV misB es fs) w) := by
  have HA := hid (show Calls Tryd.prog 113 #[.slice a n ca, .slice b m cb, .bool false] w (RetOwn .i64 2 (withCode (code2 es fs)) (pickV misB es fs) w) from l07Picked_any a n ca es hn0 hn hf b m cb fs hm0 hm hg w ha hb false)
  generalize pickV misB es fs = ys at *
  generalize code2 es fs = cd at *
  clear ha hb hf hg hn0 hm0
  go_enter Tryd.func47, Tryd.ntmps47
  go_wp2_with fail
  refine HA.out.mono ?_
  rintro e w1 ⟨v, rfl, o1, g1⟩
  have G1 := hid g1
  have O1 := hid o1
  clear g1 o1
  unfold withCode
  go_wp2_with fail
  go_ret2
  exact ⟨_, rfl, O1.out, G1.out⟩
end Go.Proofs.YtlgfibiggiknjaaDoor
