/- checkWords of the program. -/
import Derived.Test.YtojdbeebgllhhaaWordL
namespace Go.Proofs.Ytojdbeebgllhhaa
open Go.RowKit
set_option maxRecDepth 100000 in
set_option maxHeartbeats 600000 in
theorem checkW1_any (p : Option Addr) (l c : Nat) (xs : List Int) (hl : l = xs.length) (hm : l ≤ 1048576) (hf : Fits .u8 xs) (bt g off nn cc : Nat) (q : Option Addr) (l1 c1 : Nat) (h1 : 1 ≤ nn) (w : World) (hs : SliceOf .u8 w p xs) (ht : w.cell? ⟨bt, 0, none⟩ = some (.slice (some ⟨g, off, none⟩) nn cc)) (h0 : w.cell? ⟨g, off, none⟩ = some (.slice q l1 c1)) :
    Calls Try.prog 97 #[.slice p l c, .pointer (some ⟨bt, 0, none⟩)] w fun e w' => e = .returned (.bool (wordB xs && decide (l = l1))) ∧ Gr w w' := by
  have HV := hid (isValid_any p l c xs hl hm hf w hs)
  have HT := hid ht
  have H0 := hid h0
  generalize wordB xs = b at *
  clear hs hf hl ht h0
  have hb2 : (0 : Int) < nn := by omega
  cases b
  · go_enter Try.func97, Try.ntmps97
    go_wp2_with fail
    refine HV.out.mono ?_
    rintro e w1 ⟨rfl, g1⟩
    have G := hid g1
    clear g1
    go_wp2_with fail
    go_ret
    exact ⟨rfl, G.out⟩
  · by_cases hll : l = l1
    · subst hll
      go_enter Try.func97, Try.ntmps97
      go_wp2_with fail
      refine HV.out.mono ?_
      rintro e w1 ⟨rfl, g1⟩
      have G := hid g1
      have ht := g1.cell HT.out
      have h0 := g1.cell H0.out
      clear g1
      go_wp2_with fail
      go_ret
      exact ⟨ret_bool (by simp), G.out⟩
    · have t1 : ((l : Int) == (l1 : Int)) = false := by rw [beq_eq_false_iff_ne]; omega
      have HD := hid (decide_eq_false hll)
      go_enter Try.func97, Try.ntmps97
      go_wp2_with fail
      refine HV.out.mono ?_
      rintro e w1 ⟨rfl, g1⟩
      have G := hid g1
      have ht := g1.cell HT.out
      have h0 := g1.cell H0.out
      clear g1
      go_wp2_with fail
      go_ret
      exact ⟨ret_bool (by rw [HD.out]; rfl), G.out⟩
set_option maxRecDepth 100000 in
set_option maxHeartbeats 600000 in
theorem allLike_any (a : Option Addr) (n cap : Nat) (xss : List (List Int)) (hn : n = xss.length) (hm : n ≤ 4194304) (hz : ∀ i, i < n → (xss.getD i []).length ≤ 1048576) (hf : ∀ i, Fits .u8 (xss.getD i [])) (bt cc : Nat) (w : World) (hs : SlicesOf .u8 w a xss) (ht : w.cell? ⟨bt, 0, none⟩ = some (.slice a n cc)) :
    Calls Try.prog 96 #[.slice a n cap, .func (.func 97) #[] #[.pointer (some ⟨bt, 0, none⟩)]] w fun e w' => e = .returned (.bool (wordsB xss)) ∧ Gr w w' := by
  have S := hid hs
  have HN := hid hn
  have HF := hid hf
  have HZ := hid hz
  have HT := hid ht
  have HNO := hid (fun k (hk : k < n) h => allTo_no (p := likeB xss) (k := xss.length) (by rw [← hn]; exact hk) h)
  have HALL := hid (show wordsB xss = allTo (likeB xss) n by unfold wordsB; rw [hn])
  have HLK := hid (show ∀ k, likeB xss k = (wordB (xss.getD k []) && decide ((xss.getD k []).length = (xss.getD 0 []).length)) from fun _ => rfl)
  have HST := hid (fun k (h : allTo (likeB xss) k = true) (hp : likeB xss k = true) => allTo_step h hp)
  clear hs hn hz hf ht
  generalize hLK : likeB xss = lk at *
  clear hLK
  generalize wordsB xss = r at *
  go_enter Try.func96, Try.ntmps96
  go_wp2_with fail
  go_loopw [9] (fun i wr => ∃ k : Nat, k ≤ n ∧ i = .int .i64 k ∧ Hid (allTo lk k = true) ∧ Hid (Gr w wr)) (fun i _ => n - (intOf i).toNat)
  case atStart => exact ⟨0, Nat.zero_le _, rfl, hid rfl, hid (Gr.refl _)⟩
  case round =>
    obtain ⟨k, hk, rfl, hok, hg⟩ := hrel
    by_cases hlt : k < n
    · obtain ⟨b0, o0, p0, c0, rfl, h0, s0⟩ := (S.out.gr hg.out) k (by rw [← HN.out]; exact hlt)
      obtain ⟨b1, o1, p1, c1, e1, h1, s1⟩ := (S.out.gr hg.out) 0 (by rw [← HN.out]; omega)
      cases e1
      rw [Nat.add_zero] at h1
      have HC := hid (checkW1_any p0 _ c0 (xss.getD k []) rfl (HZ.out k hlt) (HF.out k) bt b0 o0 n cc p1 _ c1 (by omega) wr s0 (hg.out.cell HT.out) h1)
      rw [← HLK.out k] at HC
      have HS := hid (HST.out k hok.out)
      have HNK := hid (fun (h : lk k = false) => (show r = false by rw [HALL.out, HN.out]; exact HNO.out k hlt h))
      clear s0 s1 h1 hok
      generalize (xss.getD k []).length = l0 at *
      generalize lk k = q at *
      cases q
      · have HR := hid (HNK.out rfl)
        clear HS HNK
        go_wp2_with fail
        refine HC.out.mono ?_
        rintro e w1 ⟨rfl, g1⟩
        have G := hid (hg.out.trans g1)
        clear g1
        go_wp2_with fail
        go_ret
        exact ⟨ret_bool HR.out.symm, G.out⟩
      · have HQ := hid (HS.out rfl)
        clear HS HNK
        go_wp2_with fail
        refine HC.out.mono ?_
        rintro e w1 ⟨rfl, g1⟩
        have G := hid (hg.out.trans g1)
        clear g1
        go_wp2_with fail
        go_roundw
        case rel => exact ⟨k + 1, by omega, by go_num, HQ, G⟩
        case measure => simp [intOf] <;> omega
    · have HT2 := hid (show r = true by rw [HALL.out, show n = k by omega]; exact hok.out)
      go_wp2_with fail
      go_ret
      exact ⟨ret_bool HT2.out.symm, hg.out⟩
/-- What the cells of a list of words hold. -/
theorem vals_of {w : World} {a : Option Addr} {xss : List (List Int)} (h : SlicesOf .u8 w a xss) :
    ∃ vs : List Value, vs.length = xss.length ∧ ValsOf w a vs ∧ OneVals vs ∧ ∀ i, i < xss.length → ∃ a' cap', vs[i]? = some (.slice a' (xss.getD i []).length cap') ∧ SliceOf .u8 w a' (xss.getD i []) := by
  by_cases h0 : xss.length = 0
  · exact ⟨[], by simp [h0], fun ad _ j u hu => by simp at hu, fun u hu => by simp at hu, fun i hi => by omega⟩
  · obtain ⟨b, off, _, _, rfl, _, _⟩ := h 0 (by omega)
    refine ⟨(List.range xss.length).map fun i => (w.cell? ⟨b, off + i, none⟩).getD undef, by simp, fun ad e j u hu => ?_, fun u hu => ?_, fun i hi => ?_⟩
    · cases e
      rw [List.getElem?_map] at hu
      by_cases hj : j < xss.length
      · obtain ⟨b', off', a', c', e, hc, _⟩ := h j hj
        cases e
        have hadd : (⟨b, off, none⟩ : Addr).add j = ⟨b, off + j, none⟩ := by unfold Addr.add; split <;> simp_all
        rw [hadd, hc]
        simp [hj, hc] at hu
        rw [← hu]
        simp [List.getD, List.getElem?_eq_getElem hj]
      · simp [hj] at hu
    · simp only [List.mem_map, List.mem_range] at hu
      obtain ⟨i, hi, rfl⟩ := hu
      obtain ⟨b', off', a', c', e, hc, _⟩ := h i hi
      cases e
      rw [hc]
      rfl
    · obtain ⟨b', off', a', c', e, hc, hs⟩ := h i hi
      cases e
      exact ⟨a', c', by simp [hi, hc], hs⟩
theorem rows_read {w : World} {lo n : Nat} {g cap : Nat} {vs : List Value} {xss : List (List Int)} {e : TypeId} (h : w.ownsRow lo e 1 (.slice (some ⟨g, 0, none⟩) n cap) n vs) (hn : n = xss.length)
    (hv : ∀ i, i < xss.length → ∃ a' cap', vs[i]? = some (.slice a' (xss.getD i []).length cap') ∧ SliceOf .u8 w a' (xss.getD i [])) : SlicesOf .u8 w (some ⟨g, 0, none⟩) xss := by
  intro i hi
  obtain ⟨a', c', e, hs⟩ := hv i hi
  refine ⟨g, 0, a', c', rfl, ?_, hs⟩
  rw [Nat.zero_add, h.cellAt i (by omega)]
  simpa using e
/-- The code of a list of words, and of others beside it. -/
def listedC (xss yss : List (List Int)) : Int := if wordsB (xss ++ yss) then (if 60 < xss.length then 3 else 0) else 1
set_option maxRecDepth 100000 in
set_option maxHeartbeats 800000 in
theorem checkWords_any (a b : Option Addr) (n m ca cb : Nat) (xss yss : List (List Int)) (hn : n = xss.length) (hm : m = yss.length) (hn2 : n ≤ 1048576) (hm2 : m ≤ 1048576) (ha : a = none → n = 0 ∧ ca = 0) (hb : b = none → m = 0 ∧ cb = 0)
    (hz : ∀ i, (xss.getD i []).length ≤ 1048576) (hz2 : ∀ i, (yss.getD i []).length ≤ 1048576) (hf : ∀ i, Fits .u8 (xss.getD i [])) (hf2 : ∀ i, Fits .u8 (yss.getD i [])) (w : World) (hs : SlicesOf .u8 w a xss) (ht : SlicesOf .u8 w b yss) :
    Calls Try.prog 83 #[.slice a n ca, .slice b m cb] w fun e w' => e = .returned (.int .i64 (listedC xss yss)) ∧ Gr w w' := by
  obtain ⟨vs, v1, v2, v3, v4⟩ := vals_of hs
  obtain ⟨us, u1, u2, u3, u4⟩ := vals_of ht
  have HCC := hid (fun V (g : Gr w V) c0 c1 => concat2_any w.heap.size a b n m ca cb vs us (by rw [v1, hn]) (by rw [u1, hm]) hn2 hm2 ha hb v3 u3 V (v2.gr g) (u2.gr g) c0 c1)
  have HGET := hid (show ∀ i, (xss ++ yss).getD i [] = if i < n then xss.getD i [] else yss.getD (i - n) [] from fun i => by
    by_cases h : i < xss.length
    · rw [if_pos (by omega)]; simp [List.getD, List.getElem?_append_left h]
    · rw [if_neg (by omega)]; simp [List.getD, List.getElem?_append_right (show xss.length ≤ i by omega), hn])
  have HVS := hid (fun V (g : Gr w V) i (hi : i < (xss ++ yss).length) => show ∃ a' cap', (vs ++ us)[i]? = some (.slice a' ((xss ++ yss).getD i []).length cap') ∧ SliceOf .u8 V a' ((xss ++ yss).getD i []) by
    rw [HGET.out i]
    by_cases h : i < n
    · rw [if_pos h]
      obtain ⟨a', c', e, s⟩ := v4 i (by omega)
      exact ⟨a', c', by rw [List.getElem?_append_left (by omega)]; exact e, s.gr g⟩
    · rw [if_neg h]
      rw [List.length_append] at hi
      obtain ⟨a', c', e, s⟩ := u4 (i - n) (by omega)
      exact ⟨a', c', by rw [List.getElem?_append_right (by omega), v1, ← hn]; exact e, s.gr g⟩)
  have HZZ := hid (fun i => show ((xss ++ yss).getD i []).length ≤ 1048576 by rw [HGET.out i]; split; exact hz _; exact hz2 _)
  have HFF := hid (fun i => show Fits .u8 ((xss ++ yss).getD i []) by rw [HGET.out i]; split; exact hf _; exact hf2 _)
  have HLEN := hid (show n + m = (xss ++ yss).length by rw [List.length_append, hn, hm])
  have HQ := hid (show listedC xss yss = if wordsB (xss ++ yss) then (if 60 < n then 3 else 0) else 1 by unfold listedC; rw [hn])
  have HAL := hid (fun V q nn cp bt cc h1 h2 (sl : SlicesOf .u8 V q (xss ++ yss)) tt => allLike_any q nn cp (xss ++ yss) h1 h2 (fun i _ => HZZ.out i) HFF.out bt cc V sl tt)
  generalize listedC xss yss = r at *
  clear hs ht hz hz2 hf hf2 v1 v2 v3 v4 u1 u2 u3 u4 ha hb hn hm
  generalize xss ++ yss = zss at *
  go_enter Try.func83, Try.ntmps83
  go_wp2_with fail
  refine (HCC.out _ ((Gr.refl w).alloc _) (by rw [cell_of_row _ _ _ _ _ _ (heap_new rfl)]; rfl) (by rw [cell_of_row _ _ _ _ _ _ (heap_new rfl)]; rfl)).mono ?_
  rintro e w1 ⟨⟨v, rfl, o⟩, g1⟩
  have G1 := hid (((Gr.refl w).alloc (.cells #[.slice a n ca, .slice b m cb] 46)).trans g1)
  obtain ⟨q, cq, rfl⟩ : ∃ q c, v = .slice q (n + m) c := by
    rcases o.2 with ⟨h1, h2⟩ | ⟨g', cap, cur, h1, _⟩
    · exact ⟨none, 0, by rw [h1, h2]⟩
    · exact ⟨_, _, h1⟩
  have SL : Hid (SlicesOf .u8 w1 q zss) := hid (by
    cases q with
    | none =>
      intro i hi
      rw [← HLEN.out] at hi
      rcases o.2 with ⟨h1, h2⟩ | ⟨g', cap, cur, h1, _⟩
      · omega
      · cases h1
    | some ad =>
      rcases o.2 with ⟨h1, _⟩ | ⟨g', cap, cur, h1, _⟩
      · cases h1
      · cases h1
        exact rows_read o HLEN.out (HVS.out w1 G1.out))
  clear o g1 HCC HVS
  have c1 : Hid ((w1.alloc (.cells #[.slice q (n + m) cq] 46)).cell? ⟨w1.heap.size, 0, none⟩ = some (.slice q (n + m) cq)) := hid (by rw [cell_of_row _ _ _ _ _ _ (heap_new rfl)]; rfl)
  have HC2 := hid (HAL.out (w1.alloc (.cells #[.slice q (n + m) cq] 46)) q (n + m) cq w1.heap.size cq HLEN.out (by omega) (SL.out.gr ((Gr.refl w1).alloc _)) c1.out)
  have G2 := hid (G1.out.alloc (.cells #[.slice q (n + m) cq] 46))
  generalize wordsB zss = bb at *
  clear HAL HZZ HFF HGET HLEN SL
  cases bb
  · have HR := hid (show r = 1 from HQ.out)
    clear HQ
    go_wp2_with fail
    refine HC2.out.mono ?_
    rintro e w2 ⟨rfl, g2⟩
    have G3 := hid (G2.out.trans g2)
    clear g2
    go_wp2_with fail
    go_ret
    exact ⟨ret_int HR.out.symm, G3.out⟩
  · by_cases h60 : 60 < n
    · have HR := hid (show r = 3 by rw [HQ.out, if_pos rfl, if_pos h60])
      have t1 : (60 : Int) < n := by omega
      clear HQ
      go_wp2_with fail
      refine HC2.out.mono ?_
      rintro e w2 ⟨rfl, g2⟩
      have G3 := hid (G2.out.trans g2)
      clear g2
      go_wp2_with fail
      go_ret
      exact ⟨ret_int HR.out.symm, G3.out⟩
    · have HR := hid (show r = 0 by rw [HQ.out, if_pos rfl, if_neg h60])
      have t1 : ¬ (60 : Int) < n := by omega
      clear HQ
      go_wp2_with fail
      refine HC2.out.mono ?_
      rintro e w2 ⟨rfl, g2⟩
      have G3 := hid (G2.out.trans g2)
      clear g2
      go_wp2_with fail
      go_ret
      exact ⟨ret_int HR.out.symm, G3.out⟩
end Go.Proofs.Ytojdbeebgllhhaa
