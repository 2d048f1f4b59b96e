/- GreedyWords of the program. -/
import Derived.Test.YtojdbeebgllhhabGreedyM
namespace Go.Proofs.Ytojdbeebgllhhab
open Go.RowKit
set_option maxRecDepth 100000 in
set_option maxHeartbeats 500000 in
theorem impl_GreedyWords_any (p : Int) (hp : (Lit.int .i64 p).wf = true) (l : Int) (hl : (Lit.int .i64 l).wf = true) (ap : Int) (hap : (Lit.int .i64 ap).wf = true) (q : Int) (hq : (Lit.int .i64 q).wf = true) (w : World) :
    Calls Try.prog 18 #[.int .i64 p, .int .i64 l, .int .i64 ap, .int .i64 q] w (RetOwnW (greedC p l ap q) (greedL p l ap q) w) := by
  have HQ := hid (show greedB p l ap q = (askedB p l && (betB ap 1 l && betB q 0 60)) from rfl)
  have HNO := hid (greed_no (p := p) (l := l) (ap := ap) (q := q))
  have HBG := hid (greed_big (p := p) (l := l) (ap := ap) (q := q))
  have HOK := hid (greed_ok (p := p) (l := l) (ap := ap) (q := q))
  have HINV := hid (greed_inv (p := p) (l := l) (ap := ap) (q := q))
  have HAS := hid (fun V => areSizes_any p l V)
  clear hp hl hap hq
  cases ha : askedB p l
  · rw [ha] at HQ HAS
    obtain ⟨e1, e2⟩ := HNO.out HQ.out
    rw [e1, e2]
    clear e1 e2 HQ HNO HBG HOK HINV ha
    go_enter Try.func18, Try.ntmps18
    go_wp2_with fail
    refine (HAS.out _).mono ?_
    rintro e w' ⟨rfl, rfl⟩
    go_wp2_with fail
    go_ret2
    exact RetOwnW_nil (Gr.refl _)
  · rw [ha, Bool.true_and] at HQ
    rw [ha] at HAS
    clear ha
    cases hb : betB ap 1 l
    · have HB1 := hid hb
      rw [hb] at HQ
      obtain ⟨e1, e2⟩ := HNO.out HQ.out
      rw [e1, e2]
      clear e1 e2 HQ HNO HBG HOK HINV hb
      go_enter Try.func18, Try.ntmps18
      go_wp2_with fail
      refine (HAS.out _).mono ?_
      rintro e w' ⟨rfl, rfl⟩
      go_wp2_with fail
      go_at_call 75
      refine (isBetween_any _ _ _ _).mono ?_
      rintro e w' ⟨rfl, rfl⟩
      rw [HB1.out]
      go_wp2_with fail
      go_ret2
      exact RetOwnW_nil (Gr.refl _)
    · have HB1 := hid hb
      rw [hb, Bool.true_and] at HQ
      clear hb
      cases hb : betB q 0 60
      · have HB2 := hid hb
        rw [hb] at HQ
        obtain ⟨e1, e2⟩ := HNO.out HQ.out
        rw [e1, e2]
        clear e1 e2 HQ HNO HBG HOK HINV hb
        go_enter Try.func18, Try.ntmps18
        go_wp2_with fail
        refine (HAS.out _).mono ?_
        rintro e w' ⟨rfl, rfl⟩
        go_wp2_with fail
        go_at_call 75
        refine (isBetween_any _ _ _ _).mono ?_
        rintro e w' ⟨rfl, rfl⟩
        rw [HB1.out]
        go_wp2_with fail
        go_at_call 75
        refine (isBetween_any _ _ _ _).mono ?_
        rintro e w' ⟨rfl, rfl⟩
        rw [HB2.out]
        go_wp2_with fail
        go_ret2
        exact RetOwnW_nil (Gr.refl _)
      · have HB2 := hid hb
        rw [hb] at HQ
        clear hb
        obtain ⟨⟨p2, p37⟩, ⟨l1, l8⟩, ⟨a1, a8⟩, q0, q60⟩ := HINV.out HQ.out
        obtain ⟨n, rfl⟩ : ∃ n : Nat, l = n := ⟨l.toNat, by omega⟩
        have HPW := hid (fun V => power_any p (by omega) p37 n (by omega) V)
        obtain ⟨w0, w9⟩ := pow_bd8 (b := p) (by omega) p37 (show n ≤ 8 by omega)
        rw [Int.toNat_natCast] at HBG HOK
        obtain ⟨N, hN⟩ : ∃ N : Nat, p ^ n = N := ⟨(p ^ n).toNat, by omega⟩
        rw [hN] at HBG HOK HPW w9 w0
        rw [Int.toNat_natCast] at HOK
        clear hN
        by_cases h5 : (5000 : Int) < N
        · obtain ⟨e1, e2⟩ := HBG.out HQ.out h5
          rw [e1, e2]
          clear e1 e2 HQ HNO HBG HOK HINV
          go_enter Try.func18, Try.ntmps18
          go_wp2_with fail
          refine (HAS.out _).mono ?_
          rintro e w' ⟨rfl, rfl⟩
          go_wp2_with fail
          go_at_call 75
          refine (isBetween_any _ _ _ _).mono ?_
          rintro e w' ⟨rfl, rfl⟩
          rw [HB1.out]
          go_wp2_with fail
          go_at_call 75
          refine (isBetween_any _ _ _ _).mono ?_
          rintro e w' ⟨rfl, rfl⟩
          rw [HB2.out]
          go_wp2_with fail
          refine (HPW.out _).mono ?_
          rintro e w' ⟨rfl, rfl⟩
          go_wp2_with fail
          go_ret2
          exact RetOwnW_nil (Gr.refl _)
        · obtain ⟨e1, e2⟩ := HOK.out HQ.out h5
          rw [e1, e2]
          clear e1 e2 HQ HNO HBG HOK HINV
          have HAT := hid (fun (r : Nat) (hr : r ≤ 5000) V => ranked_any p r p2 p37 n (by omega) (by omega) (by omega) V)
          have HTK := hid (fun r h h2 => greed_take (p := p) (l := n) (ap := ap) (q := q) (r := r) h h2)
          have HSK := hid (fun r h2 => greed_skip (p := p) (l := n) (ap := ap) (q := q) (r := r) h2)
          have HFL := hid (fun r h => greed_full (p := p) (l := n) (ap := ap) (q := q) (r := r) h)
          have HLN := hid (greed_len p n ap q q0)
          have HEA := hid (greed_each p n ap q)
          have H0 := hid (show greedTo p n ap q 0 = [] from rfl)
          generalize greedTo p n ap q = gt at *
          obtain ⟨i0, hi, hz0, hz1, hz2⟩ := info_parts infoWdG
          go_enter Try.func18, Try.ntmps18
          go_wp2_with fail
          refine (HAS.out _).mono ?_
          rintro e w' ⟨rfl, rfl⟩
          go_wp2_with fail
          go_at_call 75
          refine (isBetween_any _ _ _ _).mono ?_
          rintro e w' ⟨rfl, rfl⟩
          rw [HB1.out]
          go_wp2_with fail
          go_at_call 75
          refine (isBetween_any _ _ _ _).mono ?_
          rintro e w' ⟨rfl, rfl⟩
          rw [HB2.out]
          go_wp2_with fail
          refine (HPW.out _).mono ?_
          rintro e w' ⟨rfl, rfl⟩
          go_wp2_with fail
          go_loopw [11, 12] (fun v i wr => ∃ (r : Nat) (vs : List Value), r ≤ N ∧ i = .int .i64 r ∧ Hid (OwnW wr w.heap.size wr.heap.size v vs (gt r)) ∧ Hid (Gr w wr)) (fun _ i _ => N - (intOf i).toNat)
          case atStart => exact ⟨0, [], Nat.zero_le _, rfl, hid (by rw [H0.out]; exact OwnW.nil _ _ _), hid (Gr.refl _)⟩
          case round =>
            obtain ⟨r, vs, hr, rfl, OW, hg⟩ := hrel
            obtain ⟨av, cv, rfl⟩ := OW.out.shape
            have hlen := HLN.out r
            obtain ⟨m, hm⟩ : ∃ m, m = (gt r).length := ⟨_, rfl⟩
            have HM := hid hm.symm
            rw [← hm] at hlen OW ⊢
            have HMM := hid hm
            clear hm
            by_cases hlt : r < N
            · by_cases hmq : (m : Int) < q
              · have HT := hid (fun h2 => HTK.out r (by rw [← HMM.out]; exact hmq) h2)
                have HS := hid (HSK.out r)
                have HFN := hid (fits_near (l := n) (ap := ap) (L := gt r) (w := atTo p r n n) (atTo_length _ _ _ _))
                have HL2 := hid (fun i (hi : i < m) => HEA.out r _ (getD_mem (L := gt r) (i := i) (by rw [← HMM.out]; exact hi)))
                have HNR := hid (fun V p0 c0 (sl : SlicesOf .u8 V av (gt r)) (s0 : SliceOf .u8 V p0 (atTo p r n n)) => near_any av m cv (gt r) HMM.out (by omega) p0 n c0 (atTo p r n n) (atTo_length _ _ _ _).symm (by omega) (fun i hi => HL2.out i hi) (ap - 1) V sl s0)
                have HLA := hid (atTo_length p r n n)
                generalize fitsB n ap (gt r) (atTo p r n n) = fb at *
                have e1 : IntKind.i64.wrap (ap - 1) = ap - 1 := IntWalk.i64_in _ (by omega)
                go_wp2_with fail
                refine (HAT.out r (by omega) _).mono ?_
                rintro e w1 ⟨u, rfl, ou, g1⟩
                obtain ⟨au, cu, rfl⟩ := ou.shape
                have OU0 := hid ou
                have G1 := hid (hg.out.trans g1)
                have OWa := hid (OW.out.gr g1)
                have LOHI := hid hg.out.size
                have z1 := hid g1.size
                clear ou g1
                rw [HLA.out] at OU0 ⊢
                dsimp only
                go_wp2_with fail
                with_reducible refine (HNR.out _ _ _ OWa.out.reads OU0.out.reads).mono ?_
                rintro e w2 ⟨x, rfl, ox, g2⟩
                obtain ⟨ax, cx, rfl⟩ := ox.shape
                have G2 := hid (G1.out.trans g2)
                have OW1 := hid (OWa.out.gr g2)
                have OU := hid (OU0.out.gr g2)
                have z2 := hid g2.size
                clear ox g2 OWa OU0
                cases fb
                · have HE := hid (HS.out rfl)
                  have hne : ¬ nearTo (nearB (gt r) (atTo p r n n) (ap - 1)) m = [] := fun h => by have := HFN.out.1 (by rw [← HMM.out]; exact h); cases this
                  have hl0 : (((nearTo (nearB (gt r) (atTo p r n n) (ap - 1)) m).length : Int) == 0) = false := by rw [beq_eq_false_iff_ne]; intro h; exact hne (List.length_eq_zero_iff.1 (by omega))
                  generalize (nearTo (nearB (gt r) (atTo p r n n) (ap - 1)) m).length = ll at *
                  clear hne HS HT HFN
                  go_wp2_with fail
                  go_roundw
                  case rel => exact ⟨r + 1, vs, by omega, by go_num, hid (by rw [HE.out]; have h := OW1.out.widen (Nat.le_trans z1.out z2.out); exact h), G2⟩
                  case measure => simp [intOf]; omega
                · have HE := hid (HT.out rfl)
                  have hne : nearTo (nearB (gt r) (atTo p r n n) (ap - 1)) m = [] := by rw [HMM.out]; exact HFN.out.2 rfl
                  rw [hne]
                  clear hne HS HT HFN
                  have OW2 := hid (OW1.out.gr ((Gr.refl _).alloc (.cells #[.slice au n cu] 82)))
                  have ROW2 := hid OW2.out.row
                  rw [HM.out] at ROW2
                  have CN := hid (cell_oneW w2 (.slice au n cu) 82)
                  go_wp2_with (at_builtin; refine wpList_append_own _ rfl _ _ 29 rfl w.heap.size 82 i0 (.slice none 0 0) 1 24 Try.underlying29 hi hz0 hz1 hz2 rfl (by decide) _ _ _ rfl ROW2.out ⟨w2.heap.size, 0, none⟩ 1 1 [.slice au n cu] rfl rfl CN.out (by simp [Value.oneCell']) (by unfold maxLen; omega) (by omega) (by have := G2.out.size; simp; omega) ?_; intro v3 w3 hown3 hgrow3 _)
                  have OW3 := hid (OwnW.snoc OW2.out LOHI.out (OU.out.gr ((Gr.refl _).alloc _)) (by rw [HM.out]; exact hown3) hgrow3)
                  have GW3 := hid ((G2.out.alloc _).by_ hgrow3 (fun b e => (OW2.out.row.lt b e).1))
                  clear hown3 hgrow3
                  go_wp2_with fail
                  go_roundw
                  case rel => exact ⟨r + 1, _, by omega, by go_num, hid (by rw [HE.out]; exact OW3.out), GW3⟩
                  case measure => simp [intOf]; omega
              · have HE := hid (HFL.out r (by rw [← HMM.out]; omega) N hr)
                go_wp2_with fail
                go_ret2
                exact ⟨_, vs, rfl, by rw [HE.out]; exact OW.out, hg.out⟩
            · obtain rfl : r = N := by omega
              go_wp2_with fail
              go_ret2
              exact ⟨_, vs, rfl, OW.out, hg.out⟩
end Go.Proofs.Ytojdbeebgllhhab
