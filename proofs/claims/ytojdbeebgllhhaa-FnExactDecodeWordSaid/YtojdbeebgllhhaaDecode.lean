/- DecodeWord: the functions. -/
import Derived.Test.YtojdbeebgllhhaaNear
namespace Go.Proofs.Ytojdbeebgllhhaa
open Go.RowKit
def decN (xss : List (List Int)) (ys : List Int) (q : Int) : List Int := nearTo (nearB xss ys q) xss.length
def lastC : List Int → Int
  | [] => 6
  | [_] => 0
  | _ :: _ :: _ => 8
def lastV : List Int → Int
  | [j] => j
  | _ => 0
theorem last_two {L : List Int} (h : 2 ≤ L.length) : lastV L = 0 ∧ lastC L = 8 := by
  match L, h with
  | _ :: _ :: _, _ => exact ⟨rfl, rfl⟩
def decC (xss : List (List Int)) (ys : List Int) (q : Int) : Int := if wordsB (xss ++ [ys]) then (if 60 < xss.length then 3 else (if betB q 0 8 then lastC (decN xss ys q) else 2)) else 1
def decV (xss : List (List Int)) (ys : List Int) (q : Int) : Int := if wordsB (xss ++ [ys]) then (if 60 < xss.length then 0 else (if betB q 0 8 then lastV (decN xss ys q) else 0)) else 0
theorem dec_bad {xss : List (List Int)} {ys : List Int} {q : Int} (h : wordsB (xss ++ [ys]) = false) : decV xss ys q = 0 ∧ decC xss ys q = 1 := by unfold decV decC; rw [h]; exact ⟨rfl, rfl⟩
theorem dec_many {xss : List (List Int)} {ys : List Int} {q : Int} (h : wordsB (xss ++ [ys]) = true) (h2 : 60 < xss.length) : decV xss ys q = 0 ∧ decC xss ys q = 3 := by unfold decV decC; rw [h, if_pos h2, if_pos h2]; exact ⟨rfl, rfl⟩
theorem dec_far {xss : List (List Int)} {ys : List Int} {q : Int} (h : wordsB (xss ++ [ys]) = true) (h2 : ¬ 60 < xss.length) (h3 : betB q 0 8 = false) : decV xss ys q = 0 ∧ decC xss ys q = 2 := by unfold decV decC; rw [h, if_neg h2, if_neg h2, h3]; exact ⟨rfl, rfl⟩
theorem dec_ok {xss : List (List Int)} {ys : List Int} {q : Int} (h : wordsB (xss ++ [ys]) = true) (h2 : ¬ 60 < xss.length) (h3 : betB q 0 8 = true) : decV xss ys q = lastV (decN xss ys q) ∧ decC xss ys q = lastC (decN xss ys q) := by unfold decV decC; rw [h, if_neg h2, if_neg h2, h3]; exact ⟨rfl, rfl⟩
def bestOf : List Int → Int
  | [] => -1
  | j :: _ => j
theorem like_lens {xss : List (List Int)} {ys : List Int} (h : wordsB (xss ++ [ys]) = true) : (∀ i, i < xss.length → (xss.getD i []).length = ys.length) ∧ 1 ≤ ys.length ∧ ys.length ≤ 8 := by
  rw [wordsB_snoc] at h
  simp only [Bool.and_eq_true, Bool.or_eq_true, decide_eq_true_eq] at h
  obtain ⟨h1, h2, h3⟩ := h
  have hy := wordB_len h2
  refine ⟨fun i hi => ?_, hy.1, hy.2⟩
  have := (wordsB_len h1 hi).2.1
  rcases h3 with h3 | h3
  · omega
  · omega
set_option maxRecDepth 100000 in
set_option maxHeartbeats 600000 in
theorem spec_DecodeWord_any (ad : Addr) (n : Nat) (xss : List (List Int)) (hn : n = xss.length) (hm : n ≤ 1048576) (hz : ∀ i, (xss.getD i []).length ≤ 1048576) (hf : ∀ i, Fits .u8 (xss.getD i [])) (p : Option Addr) (l : Nat) (ys : List Int) (hl : l = ys.length) (hl2 : l ≤ 1048576) (hfy : Fits .u8 ys) (q : Int) (w : World) (hs : SlicesOf .u8 w (some ad) xss) (ht : SliceOf .u8 w p ys) :
    Calls Try.prog 47 #[.slice (some ad) n n, .slice p l l, .int .i64 q] w fun e w' => e = .returned (.tuple #[.int .i64 (decV xss ys q), .int .i64 (decC xss ys q)]) ∧ Gr w w' := by
  have HWS := hid (l05Words_any (some ad) n n xss hn hm (fun i _ => hz i) hf w hs)
  have HWW := hid (fun V (g : Gr w V) => l05Word_same p l l ys hl hl2 hfy V (ht.gr g))
  have HSN := hid (wordsB_snoc xss ys)
  have HBAD := hid (fun h => dec_bad (xss := xss) (ys := ys) (q := q) h)
  have HMNY := hid (fun h h2 => dec_many (xss := xss) (ys := ys) (q := q) h h2)
  have HFAR := hid (fun h h2 h3 => dec_far (xss := xss) (ys := ys) (q := q) h h2 h3)
  have HOK := hid (fun h h2 h3 => dec_ok (xss := xss) (ys := ys) (q := q) h h2 h3)
  have HLL := hid (fun h => like_lens (xss := xss) (ys := ys) h)
  have HNN := hid (show decN xss ys q = nearTo (nearB xss ys q) n by unfold decN; rw [hn])
  have HAP := hid (fun p0 c0 (xs : List Int) (hx : xs.length = l) (h8 : l ≤ 8) V (s0 : SliceOf .u8 V p0 xs) (s1 : SliceOf .u8 V p ys) => l05Apart_any p0 p c0 l l xs ys hx hl.symm (by omega) V s0 s1)
  have HNB := hid (show ∀ k, nearB xss ys q k = decide (diffTo (xss.getD k []) ys l ≤ q) from fun k => by unfold nearB; rw [hl])
  have HY := hid (fun k => nearTo_yes (p := nearB xss ys q) (k := k))
  have HO := hid (fun k => nearTo_no (p := nearB xss ys q) (k := k))
  have HIN := hid (nearTo_in (nearB xss ys q))
  have HMO := hid (fun k n (h : k ≤ n) => nearTo_mono (nearB xss ys q) h)
  have HT0 := hid (show nearTo (nearB xss ys q) 0 = [] from rfl)
  generalize decV xss ys q = rv at *
  generalize decC xss ys q = rc at *
  generalize decN xss ys q = dn at *
  generalize wordsB (xss ++ [ys]) = ww at *
  generalize wordsB xss = bW at *
  generalize wordB ys = bw at *
  generalize nearB xss ys q = nb at *
  generalize nearTo nb = nt at *
  rw [← hn] at HSN HMNY HFAR HOK HLL
  rw [← hl] at HSN HLL
  have SX := hid hs
  have SY := hid ht
  have HN := hid hn
  clear hs ht hn hl hz hf hfy
  cases bW
  · have HW := hid (show ww = false by rw [HSN.out]; rfl)
    obtain ⟨e1, e2⟩ := HBAD.out HW.out
    subst e1 e2
    clear HBAD HMNY HFAR HOK HLL
    go_enter Try.func47, Try.ntmps47
    go_wp2_with fail
    refine HWS.out.mono ?_
    rintro e w1 ⟨rfl, g1⟩
    have G1 := hid g1
    clear g1
    go_wp2_with fail
    go_ret2
    exact ⟨rfl, G1.out⟩
  · cases bw
    · have HW := hid (show ww = false by rw [HSN.out]; rfl)
      obtain ⟨e1, e2⟩ := HBAD.out HW.out
      subst e1 e2
      clear HBAD HMNY HFAR HOK HLL
      go_enter Try.func47, Try.ntmps47
      go_wp2_with fail
      refine HWS.out.mono ?_
      rintro e w1 ⟨rfl, g1⟩
      have G1 := hid g1
      clear g1
      go_wp2_with fail
      refine (HWW.out _ G1.out).mono ?_
      rintro e w2 ⟨rfl, rfl⟩
      go_wp2_with fail
      go_ret2
      exact ⟨rfl, G1.out⟩
    · by_cases h00 : n = 0
      · have HW := hid (show ww = true by rw [HSN.out, decide_eq_true h00]; rfl)
        have hn0 : ¬ (0 : Int) < n := by omega
        clear h00
        have HW2 := HW.out
        by_cases h60 : 60 < n
        · exfalso; omega
        · have t60 : ¬ (60 : Int) < n := by omega
          cases hb : betB q 0 8
          · have HBV := hid hb
            obtain ⟨e1, e2⟩ := HFAR.out HW2 h60 hb
            subst e1 e2
            clear HBAD HMNY HFAR HOK HLL hb
            go_enter Try.func47, Try.ntmps47
            go_wp2_with fail
            refine HWS.out.mono ?_
            rintro e w1 ⟨rfl, g1⟩
            have G1 := hid g1
            clear g1
            go_wp2_with fail
            refine (HWW.out _ G1.out).mono ?_
            rintro e w2 ⟨rfl, rfl⟩
            go_wp2_with (go_at_call 49; refine (l00In_b _ _ _ _).mono ?_; rintro e w' ⟨rfl, rfl⟩; rw [HBV.out])
            go_ret2
            exact ⟨rfl, G1.out⟩
          · have HBV := hid hb
            obtain ⟨e1, e2⟩ := HOK.out HW2 h60 hb
            have RV := hid (e1.trans (by rw [HNN.out]))
            have RC := hid (e2.trans (by rw [HNN.out]))
            obtain ⟨hlen, -, h8⟩ := HLL.out HW2
            have HLN := hid hlen
            clear HBAD HMNY HFAR HOK HLL hb e1 e2 hlen
            go_enter Try.func47, Try.ntmps47
            go_wp2_with fail
            refine HWS.out.mono ?_
            rintro e w1 ⟨rfl, g1⟩
            have G1 := hid g1
            clear g1
            go_wp2_with fail
            refine (HWW.out _ G1.out).mono ?_
            rintro e w2 ⟨rfl, rfl⟩
            go_wp2_with (go_at_call 49; refine (l00In_b _ _ _ _).mono ?_; rintro e w' ⟨rfl, rfl⟩; rw [HBV.out])
            go_loopw [8, 9] (fun v i wr => ∃ k : Nat, k ≤ n ∧ i = .int .i64 k ∧ v = .int .i64 (bestOf (nt k)) ∧ Hid ((nt k).length ≤ 1) ∧ Hid (Gr w wr)) (fun _ i _ => n - (intOf i).toNat)
            case atStart => exact ⟨0, Nat.zero_le _, rfl, by rw [HT0.out]; rfl, hid (by rw [HT0.out]; exact Nat.zero_le _), G1⟩
            case round =>
              obtain ⟨k, hk, rfl, rfl, H1, hg⟩ := hrel
              by_cases hlt : k < n
              · exfalso; omega
              · obtain rfl : k = n := by omega
                match hL : nt k, H1.out with
                | [], _ =>
                  rw [hL] at RV RC
                  rw [show bestOf ([] : List Int) = -1 from rfl]
                  go_wp2_with fail
                  go_ret2
                  exact ⟨by rw [RV.out, RC.out]; rfl, hg.out⟩
                | [j], _ =>
                  have hj : 0 ≤ j := (HIN.out k j (by rw [hL]; exact List.mem_cons_self)).1
                  rw [hL] at RV RC
                  rw [show bestOf [j] = j from rfl]
                  go_wp2_with fail
                  go_ret2
                  exact ⟨by rw [RV.out, RC.out]; rfl, hg.out⟩
                | _ :: _ :: _, h => simp at h
      · have hn0 : (0 : Int) < n := by omega
        obtain ⟨b1, o1, p1, c1, e1, hc0, -⟩ := SX.out 0 (by rw [← HN.out]; omega)
        cases e1
        rw [Nat.add_zero] at hc0
        by_cases hll : (xss.getD 0 []).length = l
        · have HW := hid (show ww = true by rw [HSN.out, decide_eq_true hll, Bool.or_true]; rfl)
          rw [hll] at hc0
          clear hll h00
          have HW2 := HW.out
          by_cases h60 : 60 < n
          · obtain ⟨e1, e2⟩ := HMNY.out HW2 h60
            subst e1 e2
            clear HBAD HMNY HFAR HOK HLL
            have t60 : (60 : Int) < n := by omega
            go_enter Try.func47, Try.ntmps47
            go_wp2_with fail
            refine HWS.out.mono ?_
            rintro e w1 ⟨rfl, g1⟩
            have G1 := hid g1
            clear g1
            go_wp2_with fail
            refine (HWW.out _ G1.out).mono ?_
            rintro e w2 ⟨rfl, rfl⟩
            have h0' := G1.out.cell hc0
            go_wp2_with fail
            go_ret2
            exact ⟨rfl, G1.out⟩
          · have t60 : ¬ (60 : Int) < n := by omega
            cases hb : betB q 0 8
            · have HBV := hid hb
              obtain ⟨e1, e2⟩ := HFAR.out HW2 h60 hb
              subst e1 e2
              clear HBAD HMNY HFAR HOK HLL hb
              go_enter Try.func47, Try.ntmps47
              go_wp2_with fail
              refine HWS.out.mono ?_
              rintro e w1 ⟨rfl, g1⟩
              have G1 := hid g1
              clear g1
              go_wp2_with fail
              refine (HWW.out _ G1.out).mono ?_
              rintro e w2 ⟨rfl, rfl⟩
              have h0' := G1.out.cell hc0
              go_wp2_with (go_at_call 49; refine (l00In_b _ _ _ _).mono ?_; rintro e w' ⟨rfl, rfl⟩; rw [HBV.out])
              go_ret2
              exact ⟨rfl, G1.out⟩
            · have HBV := hid hb
              obtain ⟨e1, e2⟩ := HOK.out HW2 h60 hb
              have RV := hid (e1.trans (by rw [HNN.out]))
              have RC := hid (e2.trans (by rw [HNN.out]))
              obtain ⟨hlen, -, h8⟩ := HLL.out HW2
              have HLN := hid hlen
              clear HBAD HMNY HFAR HOK HLL hb e1 e2 hlen
              go_enter Try.func47, Try.ntmps47
              go_wp2_with fail
              refine HWS.out.mono ?_
              rintro e w1 ⟨rfl, g1⟩
              have G1 := hid g1
              clear g1
              go_wp2_with fail
              refine (HWW.out _ G1.out).mono ?_
              rintro e w2 ⟨rfl, rfl⟩
              have h0' := G1.out.cell hc0
              go_wp2_with (go_at_call 49; refine (l00In_b _ _ _ _).mono ?_; rintro e w' ⟨rfl, rfl⟩; rw [HBV.out])
              go_loopw [8, 9] (fun v i wr => ∃ k : Nat, k ≤ n ∧ i = .int .i64 k ∧ v = .int .i64 (bestOf (nt k)) ∧ Hid ((nt k).length ≤ 1) ∧ Hid (Gr w wr)) (fun _ i _ => n - (intOf i).toNat)
              case atStart => exact ⟨0, Nat.zero_le _, rfl, by rw [HT0.out]; rfl, hid (by rw [HT0.out]; exact Nat.zero_le _), G1⟩
              case round =>
                obtain ⟨k, hk, rfl, rfl, H1, hg⟩ := hrel
                by_cases hlt : k < n
                · obtain ⟨b0, o0, p0, c0, e0, h0, s0⟩ := (SX.out.gr hg.out) k (by rw [← HN.out]; exact hlt)
                  cases e0
                  have HC := hid (HAP.out p0 c0 (xss.getD k []) (HLN.out k hlt) h8 wr s0 (SY.out.gr hg.out))
                  have HYK := hid (HY.out k)
                  have HOK := hid (HO.out k)
                  have HBK := hid (HNB.out k)
                  have HIK := hid (HIN.out k)
                  have HMK := hid (HMO.out (k + 1) n (by omega))
                  rw [HLN.out k hlt] at h0
                  clear s0
                  generalize diffTo (xss.getD k []) ys l = d at *
                  have hb0 : (0 : Int) ≤ k := by omega
                  have hb1 : (k : Int) < n := by omega
                  by_cases hd : d ≤ q
                  · have HS := hid (HYK.out (by rw [HBK.out]; exact decide_eq_true hd))
                    have hd' : ¬ q < d := by omega
                    clear HYK HOK HBK
                    match hL : nt k, H1.out with
                    | [], _ =>
                      have HS2 := hid (show nt (k + 1) = [(k : Int)] by rw [HS.out, hL]; rfl)
                      rw [show bestOf ([] : List Int) = -1 from rfl]
                      clear hL HS HIK HMK H1
                      go_wp2_with fail
                      refine HC.out.mono ?_
                      rintro e w3 ⟨rfl, d3⟩
                      have G3 := hid (hg.out.trans d3.gr)
                      clear d3
                      go_wp2_with fail
                      go_roundw
                      case rel => exact ⟨k + 1, by omega, by go_num, by rw [HS2.out]; rfl, hid (by rw [HS2.out]; exact Nat.le_refl _), G3⟩
                      case measure => simp [intOf] <;> omega
                    | [j], _ =>
                      have hj : 0 ≤ j := (HIK.out j (by rw [hL]; exact List.mem_cons_self)).1
                      have h2 : 2 ≤ (nt n).length := Nat.le_trans (by rw [HS.out, hL]; exact Nat.le_refl _) HMK.out
                      obtain ⟨v1, v2⟩ := last_two h2
                      have RV2 := hid (RV.out.trans v1)
                      have RC2 := hid (RC.out.trans v2)
                      rw [show bestOf [j] = j from rfl]
                      clear hL HS HIK HMK H1 v1 v2 h2
                      go_wp2_with fail
                      refine HC.out.mono ?_
                      rintro e w3 ⟨rfl, d3⟩
                      have G3 := hid (hg.out.trans d3.gr)
                      clear d3
                      go_wp2_with fail
                      go_ret2
                      exact ⟨by rw [RV2.out, RC2.out]; rfl, G3.out⟩
                    | _ :: _ :: _, h => simp at h
                  · have HS := hid (HOK.out (by rw [HBK.out]; exact decide_eq_false hd))
                    have hd' : q < d := by omega
                    clear HYK HOK HBK HIK HMK
                    generalize hbb : bestOf (nt k) = bb at *
                    have HBB := hid hbb
                    clear hbb
                    go_wp2_with fail
                    refine HC.out.mono ?_
                    rintro e w3 ⟨rfl, d3⟩
                    have G3 := hid (hg.out.trans d3.gr)
                    clear d3
                    go_wp2_with fail
                    go_roundw
                    case rel => exact ⟨k + 1, by omega, by go_num, by rw [HS.out, HBB.out], hid (by rw [HS.out]; exact H1.out), G3⟩
                    case measure => simp [intOf] <;> omega
                · obtain rfl : k = n := by omega
                  match hL : nt k, H1.out with
                  | [], _ =>
                    rw [hL] at RV RC
                    rw [show bestOf ([] : List Int) = -1 from rfl]
                    go_wp2_with fail
                    go_ret2
                    exact ⟨by rw [RV.out, RC.out]; rfl, hg.out⟩
                  | [j], _ =>
                    have hj : 0 ≤ j := (HIN.out k j (by rw [hL]; exact List.mem_cons_self)).1
                    rw [hL] at RV RC
                    rw [show bestOf [j] = j from rfl]
                    go_wp2_with fail
                    go_ret2
                    exact ⟨by rw [RV.out, RC.out]; rfl, hg.out⟩
                  | _ :: _ :: _, h => simp at h
        · have HW := hid (show ww = false by rw [HSN.out, decide_eq_false hll, decide_eq_false h00]; rfl)
          generalize (xss.getD 0 []).length = l1 at *
          have t1 : ((l1 : Int) != (l : Int)) = true := by simp; omega
          obtain ⟨e1, e2⟩ := HBAD.out HW.out
          subst e1 e2
          clear HBAD HMNY HFAR HOK HLL
          go_enter Try.func47, Try.ntmps47
          go_wp2_with fail
          refine HWS.out.mono ?_
          rintro e w1 ⟨rfl, g1⟩
          have G1 := hid g1
          clear g1
          go_wp2_with fail
          refine (HWW.out _ G1.out).mono ?_
          rintro e w2 ⟨rfl, rfl⟩
          have h0' := G1.out.cell hc0
          go_wp2_with fail
          go_ret2
          exact ⟨rfl, G1.out⟩
end Go.Proofs.Ytojdbeebgllhhaa
