/- LeastApart of the model. -/
import Derived.Test.YtojdbeebgllhhaaLeastA
namespace Go.Proofs.Ytojdbeebgllhhaa
open Go.RowKit
set_option maxRecDepth 100000 in
theorem l00MinW_any (a b : Int) (w : World) :
    Calls Try.prog 82 #[.int .i64 a, .int .i64 b] w fun e w' => e = .returned (.int .i64 (if a < b then a else b)) ∧ w' = w := by
  by_cases h : a < b
  · have HR := hid (show (if a < b then a else b) = a from if_pos h)
    go_enter Try.func82, Try.ntmps82
    go_wp2
    go_ret
    first | exact ⟨ret_int HR.out.symm, rfl⟩ | exact ⟨rfl, rfl⟩
  · have HR := hid (show (if a < b then a else b) = b from if_neg h)
    go_enter Try.func82, Try.ntmps82
    go_wp2
    go_ret
    first | exact ⟨ret_int HR.out.symm, rfl⟩ | exact ⟨rfl, rfl⟩
set_option maxRecDepth 100000 in
set_option maxHeartbeats 800000 in
theorem spec_LeastApart_any (a : Option Addr) (n : Nat) (xss : List (List Int)) (hn : n = xss.length) (hm : n ≤ 1048576) (hz : ∀ i, (xss.getD i []).length ≤ 1048576) (hf : ∀ i, Fits .u8 (xss.getD i [])) (w : World) (hs : SlicesOf .u8 w a xss) :
    Calls Try.prog 45 #[.slice a n n] w fun e w' => e = .returned (.tuple #[.int .i64 (leastV xss), .int .i64 (leastC xss)]) ∧ Gr w w' := by
  have HL := hid (l05Listed_any a n n xss hn hm (fun i _ => hz i) hf w hs)
  have HQ := hid (show listedC xss [] = if wordsB xss then (if 60 < n then 3 else 0) else 1 by unfold listedC; rw [List.append_nil, hn])
  have HBAD := hid (least_bad (xss := xss))
  have HMNY := hid (least_many (xss := xss))
  have HFEW := hid (least_few (xss := xss))
  have HOK := hid (least_ok (xss := xss))
  have HWL := hid (fun h i (hi : i < n) => (wordsB_len (xss := xss) h (i := i) (by omega)))
  have S := hid hs
  have HN := hid hn
  rw [← hn] at HMNY HFEW HOK
  generalize listedC xss [] = lc at *
  generalize leastV xss = rv at *
  generalize leastC xss = rc at *
  generalize wordsB xss = b at *
  clear hs hn hz hf
  cases b
  · obtain ⟨e1, e2⟩ := HBAD.out rfl
    have hl1 : lc = 1 := HQ.out
    subst e1 e2 hl1
    clear HBAD HMNY HFEW HOK HQ HWL
    go_enter Try.func45, Try.ntmps45
    go_wp2_with fail
    refine HL.out.mono ?_
    rintro e w1 ⟨rfl, g1⟩
    have G := hid g1
    clear g1
    go_wp2_with fail
    go_ret2
    exact ⟨rfl, G.out⟩
  · by_cases h60 : 60 < n
    · obtain ⟨e1, e2⟩ := HMNY.out rfl h60
      have hl1 : lc = 3 := by rw [HQ.out, if_pos rfl, if_pos h60]
      subst e1 e2 hl1
      clear HBAD HMNY HFEW HOK HQ HWL
      go_enter Try.func45, Try.ntmps45
      go_wp2_with fail
      refine HL.out.mono ?_
      rintro e w1 ⟨rfl, g1⟩
      have G := hid g1
      clear g1
      go_wp2_with fail
      go_ret2
      exact ⟨rfl, G.out⟩
    · have hl1 : lc = 0 := by rw [HQ.out, if_pos rfl, if_neg h60]
      subst hl1
      by_cases h2 : n < 2
      · obtain ⟨e1, e2⟩ := HFEW.out rfl h60 h2
        have t2 : (n : Int) < 2 := by omega
        subst e1 e2
        clear HBAD HMNY HFEW HOK HQ HWL
        go_enter Try.func45, Try.ntmps45
        go_wp2_with fail
        refine HL.out.mono ?_
        rintro e w1 ⟨rfl, g1⟩
        have G := hid g1
        clear g1
        go_wp2_with fail
        go_ret2
        exact ⟨rfl, G.out⟩
      · obtain ⟨e1, e2⟩ := HOK.out rfl h60 h2
        have t2 : ¬ (n : Int) < 2 := by omega
        have HW2 := hid (HWL.out rfl)
        have h8 : (xss.getD 0 []).length ≤ 8 := (HW2.out 0 (by omega)).2.2.2
        have HEQ := hid (fun i hi => (HW2.out i hi).2.1)
        subst e2
        have RV := hid e1
        generalize (xss.getD 0 []).length = l at *
        clear HBAD HMNY HFEW HOK HQ HWL HW2 e1
        go_enter Try.func45, Try.ntmps45
        go_wp2_with fail
        refine HL.out.mono ?_
        rintro e w1 ⟨rfl, g1⟩
        have G := hid g1
        clear g1
        go_wp2_with fail
        go_loopw [5, 6] (fun m i wr => ∃ k : Nat, k ≤ n ∧ i = .int .i64 k ∧ m = .int .i64 (leastTo xss l k) ∧ Hid (Gr w wr)) (fun _ i _ => n - (intOf i).toNat)
        case atStart => exact ⟨0, Nat.zero_le _, rfl, rfl, G⟩
        case round =>
          clear G
          obtain ⟨k, hk, rfl, rfl, hg⟩ := hrel
          by_cases hlt : k < n
          · have HNX := hid (show leastTo xss l (k + 1) = minTo (dd xss l k) (leastTo xss l k) k from rfl)
            have HZ0 := hid (show minTo (dd xss l k) (leastTo xss l k) 0 = leastTo xss l k from rfl)
            generalize leastTo xss l k = s at *
            go_wp2_with fail
            go_loopw [5, 7] (fun m j wr => ∃ q : Nat, q ≤ k ∧ j = .int .i64 q ∧ m = .int .i64 (minTo (dd xss l k) s q) ∧ Hid (Gr w wr)) (fun _ j _ => k - (intOf j).toNat)
            case atStart => exact ⟨0, Nat.zero_le _, rfl, by rw [HZ0.out], hg⟩
            case round =>
              clear hg
              obtain ⟨q, hq, rfl, rfl, hg⟩ := hrel
              by_cases hlq : q < k
              · obtain ⟨b0, o0, p0, c0, rfl, h0, s0⟩ := (S.out.gr hg.out) k (by rw [← HN.out]; exact hlt)
                obtain ⟨b1, o1, p1, c1, e1, h1, s1⟩ := (S.out.gr hg.out) q (by rw [← HN.out]; omega)
                cases e1
                rw [HEQ.out k hlt] at h0
                rw [HEQ.out q (by omega)] at h1
                have S0 := hid s0
                have S1 := hid s1
                have HC := hid (fun V (s0 : SliceOf .u8 V p0 (xss.getD k [])) (s1 : SliceOf .u8 V p1 (xss.getD q [])) => l05Apart_any p0 p1 c0 c1 l (xss.getD k []) (xss.getD q []) (HEQ.out k hlt) (HEQ.out q (by omega)) (by omega) V s0 s1)
                have HST := hid (show minTo (dd xss l k) s (q + 1) = if minTo (dd xss l k) s q < diffTo (xss.getD k []) (xss.getD q []) l then minTo (dd xss l k) s q else diffTo (xss.getD k []) (xss.getD q []) l from rfl)
                clear s0 s1
                generalize minTo (dd xss l k) s q = m0 at *
                generalize diffTo (xss.getD k []) (xss.getD q []) l = d at *
                have hb0 : (0 : Int) ≤ k := by omega
                have hb1 : (k : Int) < n := by omega
                have hb2 : (0 : Int) ≤ q := by omega
                have hb3 : (q : Int) < n := by omega
                go_wp2_with fail
                go_quiet (first | (go_at_call 58; exact Calls.quiet_of (HC.out _ (S0.out.drewN _) (S1.out.drewN _))) | (go_at_call 82; exact Calls.quiet_of_same (l00MinW_any _ _ _)))
                go_wp2_with fail
                go_roundw
                case rel => exact ⟨q + 1, by omega, by go_num, by rw [HST.out], hid (hg.out.drewN _)⟩
                case measure => simp [intOf]; omega
              · obtain rfl : q = k := by omega
                go_wp2_with fail
                go_roundw
                case rel => exact ⟨q + 1, by omega, by go_num, by rw [HNX.out], hg⟩
                case measure => simp [intOf]; omega
          · obtain rfl : k = n := by omega
            go_wp2_with fail
            go_ret2
            exact ⟨by rw [RV.out]; rfl, hg.out⟩
end Go.Proofs.Ytojdbeebgllhhaa
