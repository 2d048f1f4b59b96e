/- LeastApart of the program: nearestPair, LeastApart. -/
import Derived.Test.YtojdbeebgllhhaaLeastC
namespace Go.Proofs.Ytojdbeebgllhhaa
open Go.RowKit
/-- The list from a place on. -/
theorem slices_part {w : World} {b off : Nat} {xss : List (List Int)} (h : SlicesOf .u8 w (some ⟨b, off, none⟩) xss) (s : Nat) : SlicesOf .u8 w (some ⟨b, off + s, none⟩) (xss.drop s) := by
  intro i hi
  rw [List.length_drop] at hi
  obtain ⟨b', off', a', c', e, hc, hs⟩ := h (s + i) (by omega)
  cases e
  have hg : (xss.drop s).getD i [] = xss.getD (s + i) [] := by simp [List.getD]
  refine ⟨b, off + s, a', c', rfl, ?_, ?_⟩
  · rw [hg, Nat.add_assoc]; exact hc
  · rw [hg]; exact hs
/-- What nearestPair has found behind k rounds. -/
def PairSt (xss : List (List Int)) (l n k : Nat) (m : Int) : Prop := (k = 0 ∧ m = 0) ∨ (1 ≤ k ∧ (∀ i j, i < k → i < j → j < n → m ≤ dd xss l j i) ∧ ∃ i j, i < k ∧ i < j ∧ j < n ∧ m = dd xss l j i)
/-- The least distance of one round. -/
def roundM (xss : List (List Int)) (l n k : Nat) : Int := minTo (fun j => dd xss l (k + 1 + j) k) (dd xss l (k + 1) k) (n - k - 1)
theorem roundM_le {xss : List (List Int)} {l n k : Nat} {j : Nat} (h1 : k < j) (h2 : j < n) : roundM xss l n k ≤ dd xss l j k := by
  have h := (minTo_le (fun j => dd xss l (k + 1 + j) k) (dd xss l (k + 1) k) (n - k - 1)).2 (j - k - 1) (by omega)
  rw [show k + 1 + (j - k - 1) = j by omega] at h
  exact h
theorem roundM_is {xss : List (List Int)} {l n k : Nat} (h : k + 1 < n) : ∃ j, k < j ∧ j < n ∧ roundM xss l n k = dd xss l j k := by
  rcases minTo_is (fun j => dd xss l (k + 1 + j) k) (dd xss l (k + 1) k) (n - k - 1) with e | ⟨i, hi, e⟩
  · exact ⟨k + 1, by omega, h, e⟩
  · exact ⟨k + 1 + i, by omega, by omega, e⟩
theorem pairSt_new {xss : List (List Int)} {l n k : Nat} {m : Int} (h : PairSt xss l n k m) (hk : k + 1 < n) (hc : k = 0 ∨ roundM xss l n k < m) : PairSt xss l n (k + 1) (roundM xss l n k) := by
  refine .inr ⟨by omega, fun i j hi hij hj => ?_, ?_⟩
  · by_cases e : i = k
    · subst e; exact roundM_le hij hj
    · rcases h with ⟨h0, _⟩ | ⟨_, h2, _⟩
      · omega
      · have := h2 i j (by omega) hij hj
        rcases hc with hc | hc
        · omega
        · omega
  · obtain ⟨j, h1, h2, e⟩ := roundM_is (xss := xss) (l := l) hk
    exact ⟨k, j, by omega, h1, h2, e⟩
theorem pairSt_old {xss : List (List Int)} {l n k : Nat} {m : Int} (h : PairSt xss l n k m) (h1 : 1 ≤ k) (hc : ¬ roundM xss l n k < m) : PairSt xss l n (k + 1) m := by
  rcases h with ⟨h0, _⟩ | ⟨_, h2, i, j, hi, hij, hj, e⟩
  · omega
  · refine .inr ⟨by omega, fun i j hi hij hj => ?_, i, j, by omega, hij, hj, e⟩
    by_cases e2 : i = k
    · subst e2
      have := roundM_le (xss := xss) (l := l) hij hj
      omega
    · exact h2 i j (by omega) hij hj
def PairOut (m : Int) (w : World) (e : Ending) (w' : World) : Prop := (∃ x y : Int, e = .returned (.tuple #[.int .i64 x, .int .i64 y, .int .i64 m, .int .i64 0])) ∧ Gr w w'
set_option maxRecDepth 100000 in
theorem nearestPair_few (a : Option Addr) (n cap : Nat) (h : n < 2) (w : World) :
    Calls Try.prog 84 #[.slice a n cap] w fun e w' => e = .returned (.tuple #[.int .i64 0, .int .i64 0, .int .i64 0, .int .i64 6]) ∧ Gr w w' := by
  have t2 : (n : Int) < 2 := by omega
  go_enter Try.func84, Try.ntmps84
  go_wp2_with fail
  exact bodyPost_ret (v := .tuple #[.int .i64 0, .int .i64 0, .int .i64 0, .int .i64 6]) (by simp [results, Try.results84, go_sem]) rfl ⟨rfl, Gr.refl _⟩
set_option maxRecDepth 100000 in
set_option maxHeartbeats 800000 in
theorem nearestPair_any (a : Option Addr) (n cap : Nat) (xss : List (List Int)) (hn : n = xss.length) (h2 : 2 ≤ n) (hm : n ≤ 60) (hcap : n ≤ cap) (l : Nat) (h8 : l ≤ 8) (hlen : ∀ i, i < n → (xss.getD i []).length = l) (w : World) (hs : SlicesOf .u8 w a xss) :
    Calls Try.prog 84 #[.slice a n cap] w (PairOut (leastTo xss l n) w) := by
  obtain ⟨ba, oa, _, _, rfl, _, _⟩ := hs 0 (by omega)
  have S := hid hs
  have HN := hid hn
  have HLN := hid hlen
  have HNE := hid (fun k (hk : k + 1 < n) p0 c0 (V : World) (s0 : SliceOf .u8 V p0 (xss.getD k [])) (sl : SlicesOf .u8 V (some ⟨ba, oa + (k + 1), none⟩) (xss.drop (k + 1))) => nearest_any (some ⟨ba, oa + (k + 1), none⟩) (n - (k + 1)) (n - (k + 1)) (xss.drop (k + 1)) (by rw [List.length_drop, ← hn]) (by omega) (by omega) p0 l c0 (xss.getD k []) (hlen k (by omega)).symm h8 (fun i hi => by rw [show (xss.drop (k + 1)).getD i [] = xss.getD (k + 1 + i) [] by simp [List.getD]]; exact hlen _ (by omega)) V sl s0)
  have HRM := hid (fun k (hk : k + 1 < n) => show minTo (fun j => diffTo ((xss.drop (k + 1)).getD j []) (xss.getD k []) l) (diffTo ((xss.drop (k + 1)).getD 0 []) (xss.getD k []) l) (n - (k + 1)) = roundM xss l n k by
    have e : (fun j => diffTo ((xss.drop (k + 1)).getD j []) (xss.getD k []) l) = fun j => dd xss l (k + 1 + j) k := by
      funext j
      show diffTo ((xss.drop (k + 1)).getD j []) (xss.getD k []) l = diffTo (xss.getD (k + 1 + j) []) (xss.getD k []) l
      rw [show (xss.drop (k + 1)).getD j [] = xss.getD (k + 1 + j) [] by simp [List.getD]]
    have e0 := congrFun e 0
    rw [e, show diffTo ((xss.drop (k + 1)).getD 0 []) (xss.getD k []) l = dd xss l (k + 1 + 0) k from e0]
    unfold roundM
    rw [show n - (k + 1) = n - k - 1 by omega])
  have HEND := hid (fun m (h : PairSt xss l n (n - 1) m) => show leastTo xss l n = m by
    rcases h with ⟨h0, _⟩ | ⟨_, a1, i, j, hi, hij, hj, e⟩
    · omega
    · exact leastTo_eq h2 h8 (fun x y hx hy => a1 y x (by omega) hy hx) ⟨j, i, hj, hij, e⟩)
  have HNW := hid (fun k m (h : PairSt xss l n k m) hk hc => pairSt_new h hk hc)
  have HOL := hid (fun k m (h : PairSt xss l n k m) h1 hc => pairSt_old h h1 hc)
  clear hs hn hlen
  generalize leastTo xss l n = lt at *
  generalize hPS : PairSt xss l n = ps at *
  have HP0 : Hid (ps 0 0) := hid (by rw [← hPS]; exact .inl ⟨rfl, rfl⟩)
  clear hPS
  have t2 : ¬ (n : Int) < 2 := by omega
  obtain ⟨N, hN⟩ : ∃ N : Nat, n = N + 1 := ⟨n - 1, by omega⟩
  subst hN
  go_enter Try.func84, Try.ntmps84
  go_wp2_with fail
  go_loopw [6, 7, 8, 20] (fun t6 t7 t8 i wr => ∃ k : Nat, k ≤ N ∧ i = .int .i64 k ∧ (∃ x y m : Int, t6 = .int .i64 x ∧ t7 = .int .i64 y ∧ t8 = .int .i64 m ∧ Hid (ps k m)) ∧ Hid (Gr w wr)) (fun _ _ _ i _ => N - (intOf i).toNat)
  case atStart => exact ⟨0, Nat.zero_le _, rfl, ⟨0, 0, 0, rfl, rfl, rfl, HP0⟩, hid (Gr.refl _)⟩
  case round =>
    obtain ⟨k, hk, rfl, ⟨x, y, m, rfl, rfl, rfl, HS⟩, hg⟩ := hrel
    by_cases hlt : k < N
    · obtain ⟨b0, o0, p0, c0, e0, h0, s0⟩ := (S.out.gr hg.out) k (by rw [← HN.out]; omega)
      cases e0
      have HC := hid (HNE.out k (by omega) p0 c0 wr s0 (slices_part (S.out.gr hg.out) (k + 1)))
      unfold NearOut at HC
      have hrm := HRM.out k (by omega)
      have hnk : N + 1 - (k + 1) = N - k := by omega
      dsimp only at HC
      rw [hnk] at HC hrm
      rw [hrm] at HC
      rw [HLN.out k (by omega)] at h0
      have HNK := hid (fun hc => HNW.out k m HS.out (by omega) hc)
      have HOK := hid (fun h1 hc => HOL.out k m HS.out h1 hc)
      clear s0 hrm hnk
      generalize roundM xss l (N + 1) k = rm at *
      have hb0 : (0 : Int) ≤ k := by omega
      have hb1 : (k : Int) < N + 1 := by omega
      by_cases hk0 : k = 0
      · have HQ := hid (HNK.out (.inl hk0))
        clear HNK HOK HS
        subst hk0
        rw [Nat.zero_add, Nat.sub_zero] at HC
        rw [Nat.add_zero] at h0
        go_wp2_with fail
        refine HC.out.mono ?_
        rintro e w1 ⟨⟨at_, cnt, rfl, ha0, ha1⟩, g1⟩
        have G1 := hid (hg.out.trans g1)
        have ha2 : at_ < (N : Int) := by omega
        clear g1 ha1
        go_wp2_with fail
        go_roundw
        case rel => exact ⟨1, by omega, by go_num, ⟨_, _, rm, rfl, rfl, rfl, HQ⟩, G1⟩
        case measure => simp [intOf] <;> omega
      · have tk : ((k : Int) == 0) = false := by rw [beq_eq_false_iff_ne]; omega
        by_cases hlt2 : rm < m
        · have HQ := hid (HNK.out (.inr hlt2))
          clear HNK HOK HS
          go_wp2_with fail
          refine HC.out.mono ?_
          rintro e w1 ⟨⟨at_, cnt, rfl, ha0, ha1⟩, g1⟩
          have G1 := hid (hg.out.trans g1)
          have ha2 : at_ < (N : Int) - k := by omega
          clear g1 ha1
          go_wp2_with fail
          go_roundw
          case rel => exact ⟨k + 1, by omega, by go_num, ⟨k, (k : Int) + 1 + at_, rm, rfl, rfl, rfl, HQ⟩, G1⟩
          case measure => simp [intOf] <;> omega
        · have HQ := hid (HOK.out (by omega) (by omega))
          clear HNK HOK HS
          go_wp2_with fail
          refine HC.out.mono ?_
          rintro e w1 ⟨⟨at_, cnt, rfl, ha0, ha1⟩, g1⟩
          have G1 := hid (hg.out.trans g1)
          clear g1 ha1 ha0
          go_wp2_with fail
          go_roundw
          case rel => exact ⟨k + 1, by omega, by go_num, ⟨x, y, m, rfl, rfl, rfl, HQ⟩, G1⟩
          case measure => simp [intOf] <;> omega
    · obtain rfl : k = N := by omega
      have HR := hid (HEND.out m (by rw [show k + 1 - 1 = k by omega]; exact HS.out))
      clear HS HEND
      go_wp2_with fail
      refine bodyPost_ret (v := .tuple #[.int .i64 x, .int .i64 y, .int .i64 m, .int .i64 0]) (by simp [results, Try.results84, go_sem]) rfl ⟨⟨x, y, ?_⟩, hg.out⟩
      rw [HR.out]
set_option maxRecDepth 100000 in
set_option maxHeartbeats 800000 in
theorem impl_LeastApart_any (ad : Addr) (n : Nat) (xss : List (List Int)) (hn : n = xss.length) (hm : n ≤ 1048576) (hz : ∀ i, (xss.getD i []).length ≤ 1048576) (hf : ∀ i, Fits .u8 (xss.getD i [])) (w : World) (hs : SlicesOf .u8 w (some ad) xss) :
    Calls Try.prog 46 #[.slice (some ad) n n] w fun e w' => e = .returned (.tuple #[.int .i64 (leastV xss), .int .i64 (leastC xss)]) ∧ Gr w w' := by
  have HL := hid (checkWords_any (some ad) none n 0 n 0 xss [] hn rfl hm (by omega) (fun h => by cases h) (fun _ => ⟨rfl, rfl⟩) hz (fun i => by simp) hf (fun i x hx => by simp at hx) w hs (fun i hi => by simp at hi))
  have HQ := hid (show listedC xss [] = if wordsB xss then (if 60 < n then 3 else 0) else 1 by unfold listedC; rw [List.append_nil, hn])
  have HBAD := hid (least_bad (xss := xss))
  have HMNY := hid (least_many (xss := xss))
  have HFEW := hid (least_few (xss := xss))
  have HOK := hid (least_ok (xss := xss))
  have HWL := hid (fun h i (hi : i < n) => (wordsB_len (xss := xss) h (i := i) (by omega)))
  have HNP := hid (fun h2 h60 l h8 hlen V (g : Gr w V) => nearestPair_any (some ad) n n xss hn h2 h60 (Nat.le_refl _) l h8 hlen V (hs.gr g))
  rw [← hn] at HMNY HFEW HOK
  generalize listedC xss [] = lc at *
  generalize leastV xss = rv at *
  generalize leastC xss = rc at *
  generalize wordsB xss = b at *
  clear hs hn hz hf
  cases b
  · obtain ⟨e1, e2⟩ := HBAD.out rfl
    have hl1 : lc = 1 := HQ.out
    subst e1 e2 hl1
    clear HBAD HMNY HFEW HOK HQ HWL HNP
    go_enter Try.func46, Try.ntmps46
    go_wp2_with fail
    refine HL.out.mono ?_
    rintro e w1 ⟨rfl, g1⟩
    have G := hid g1
    clear g1
    go_wp2_with fail
    go_ret2
    exact ⟨rfl, G.out⟩
  · by_cases h60 : 60 < n
    · obtain ⟨e1, e2⟩ := HMNY.out rfl h60
      have hl1 : lc = 3 := by rw [HQ.out, if_pos rfl, if_pos h60]
      subst e1 e2 hl1
      clear HBAD HMNY HFEW HOK HQ HWL HNP
      go_enter Try.func46, Try.ntmps46
      go_wp2_with fail
      refine HL.out.mono ?_
      rintro e w1 ⟨rfl, g1⟩
      have G := hid g1
      clear g1
      go_wp2_with fail
      go_ret2
      exact ⟨rfl, G.out⟩
    · have hl1 : lc = 0 := by rw [HQ.out, if_pos rfl, if_neg h60]
      subst hl1
      by_cases h2 : n < 2
      · obtain ⟨e1, e2⟩ := HFEW.out rfl h60 h2
        have HFW := hid (fun V => nearestPair_few (some ad) n n h2 V)
        subst e1 e2
        clear HBAD HMNY HFEW HOK HQ HWL HNP
        go_enter Try.func46, Try.ntmps46
        go_wp2_with fail
        refine HL.out.mono ?_
        rintro e w1 ⟨rfl, g1⟩
        have G := hid g1
        clear g1
        go_wp2_with fail
        refine (HFW.out _).mono ?_
        rintro e w2 ⟨rfl, g2⟩
        have G2 := hid (G.out.trans g2)
        clear g2
        go_wp2_with fail
        go_ret2
        exact ⟨rfl, G2.out⟩
      · obtain ⟨e1, e2⟩ := HOK.out rfl h60 h2
        have HW2 := hid (HWL.out rfl)
        have HN2 := hid (HNP.out (by omega) (by omega) (xss.getD 0 []).length (HW2.out 0 (by omega)).2.2.2 (fun i hi => (HW2.out i hi).2.1))
        subst e2
        have RV := hid e1
        generalize leastTo xss (xss.getD 0 []).length n = lt at *
        clear HBAD HMNY HFEW HOK HQ HWL HW2 HNP e1
        go_enter Try.func46, Try.ntmps46
        go_wp2_with fail
        refine HL.out.mono ?_
        rintro e w1 ⟨rfl, g1⟩
        have G := hid g1
        clear g1
        go_wp2_with fail
        refine (HN2.out _ G.out).mono ?_
        rintro e w2 ⟨⟨x, y, rfl⟩, g2⟩
        have G2 := hid (G.out.trans g2)
        clear g2
        go_wp2_with fail
        go_ret2
        exact ⟨by rw [RV.out]; rfl, G2.out⟩
end Go.Proofs.Ytojdbeebgllhhaa
