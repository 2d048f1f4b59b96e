/- PhraseFor: both functions. -/
import Derived.Test.YtkbdblaciphmnaaRankOf
import Derived.Test.YtkbdblaciphmnaaGHst
namespace Go.Proofs.Ytkbdblaciphmnaa
set_option linter.unusedVariables false
open Go.RowKit
attribute [local go_sem] Oper.semAt_some
theorem meanL_brk {h : List Int} (hv : validH h = true) {j : Nat} (hj : j < h.length) : (meanL h).getD j 0 = -10 ↔ h.getD j 0 = -10 := by
  constructor
  · intro hm
    by_cases hb : h.getD j 0 = -10
    · exact hb
    · have := (meanTo_kind (validH_all hv) j hj hb).1
      unfold meanL at hm
      omega
  · intro hb; exact meanTo_brk hj hb
/-- What a valid hoist means is a meaning. -/
theorem mean_plain {h : List Int} (hv : validH h = true) : plainH (meanL h) = true := by
  have hlen := meanL_length h
  have hnum : ∀ i, i < h.length → (meanL h).getD i 0 = -10 ∨ (0 ≤ (meanL h).getD i 0 ∧ (meanL h).getD i 0 ≤ 39) := fun i hi => by
    by_cases hb : h.getD i 0 = -10
    · exact .inl ((meanL_brk hv hi).2 hb)
    · exact .inr (meanTo_kind (validH_all hv) i hi hb)
  unfold plainH
  rw [Bool.and_eq_true]
  refine ⟨validH_good ?_ (allTo_iff.2 fun i hi => ?_), allTo_iff.2 fun i hi => ?_⟩
  · exact lenB_iff.2 (by rw [hlen]; exact validH_len hv)
  · rw [hlen] at hi
    by_cases hb : h.getD i 0 = -10
    · have ho := validH_at hv hi
      unfold okAt at ho ⊢
      rw [if_pos (brkI_iff.2 hb)] at ho
      rw [if_pos (brkI_iff.2 ((meanL_brk hv hi).2 hb)), hlen, show startOf (meanL h) i = startOf h i from startOf_congr fun j hj => meanL_brk hv (by omega)]
      exact ho
    · have h1 := meanTo_kind (validH_all hv) i hi hb
      have h2 : 0 ≤ (meanL h).getD i 0 ∧ (meanL h).getD i 0 ≤ 39 := h1
      unfold okAt
      rw [if_neg (by simp only [brkI, decide_eq_true_eq]; omega), if_neg (by simp only [subI, Bool.and_eq_true, decide_eq_true_eq]; omega)]
      exact kindI_iff.2 h2
  · rw [hlen] at hi
    unfold ownAt
    have := hnum i hi
    simp only [subI, Bool.not_eq_true', Bool.and_eq_false_iff, decide_eq_false_iff_not]
    omega
theorem mean_fits {h : List Int} (hv : validH h = true) : Fits .i8 (meanL h) := by
  intro x hx
  obtain ⟨i, hi, rfl⟩ := List.getElem_of_mem hx
  have hp := plain_nums (mean_plain hv) i hi
  have e : (meanL h).getD i 0 = (meanL h)[i] := by simp [List.getD, List.getElem?_eq_getElem hi]
  rw [e] at hp
  generalize (meanL h)[i] = x at *
  simp [Lit.wf, IntKind.min, IntKind.max, IntKind.signed, IntKind.bits]
  omega
def phraseV (k l s : Int) (ss : List ByteArray) (h : List Int) : Int :=
  if validBk k l s ss && validH h then (if 0 ≤ rankI (meansOf k l s) (meanL h) ∧ rankI (meansOf k l s) (meanL h) < (ss.length : Int) then rankI (meansOf k l s) (meanL h) else 0) else 0
def phraseC (k l s : Int) (ss : List ByteArray) (h : List Int) : Int :=
  if validBk k l s ss && validH h then (if 0 ≤ rankI (meansOf k l s) (meanL h) ∧ rankI (meansOf k l s) (meanL h) < (ss.length : Int) then 0 else 6) else 1
theorem phrase_no {k l s : Int} {ss : List ByteArray} {h : List Int} (e : (validBk k l s ss && validH h) = false) : phraseV k l s ss h = 0 ∧ phraseC k l s ss h = 1 := by unfold phraseV phraseC; rw [e]; exact ⟨rfl, rfl⟩
theorem phrase_lost {k l s : Int} {ss : List ByteArray} {h : List Int} (e : (validBk k l s ss && validH h) = true) (h2 : ¬ (0 ≤ rankI (meansOf k l s) (meanL h) ∧ rankI (meansOf k l s) (meanL h) < (ss.length : Int))) : phraseV k l s ss h = 0 ∧ phraseC k l s ss h = 6 := by
  unfold phraseV phraseC; rw [e, if_pos rfl, if_pos rfl, if_neg h2, if_neg h2]; exact ⟨rfl, rfl⟩
theorem phrase_found {k l s : Int} {ss : List ByteArray} {h : List Int} (e : (validBk k l s ss && validH h) = true) (h2 : 0 ≤ rankI (meansOf k l s) (meanL h) ∧ rankI (meansOf k l s) (meanL h) < (ss.length : Int)) : phraseV k l s ss h = rankI (meansOf k l s) (meanL h) ∧ phraseC k l s ss h = 0 := by
  unfold phraseV phraseC; rw [e, if_pos rfl, if_pos rfl, if_pos h2, if_pos h2]; exact ⟨rfl, rfl⟩
set_option maxRecDepth 100000 in
set_option maxHeartbeats 1000000 in
theorem spec_MeaningOf_cap (a : Option Addr) (n cap : Nat) (xs : List Int) (hn : n = xs.length) (hm : n ≤ 1048576) (hf : Fits .i8 xs) (hv : validH xs = true) (w : World) (hs : SliceOf .i8 w a xs) :
    Calls Try.prog 61 #[.slice a n cap] w (RetOwn .i8 22 (withCode 0) (meanL xs) w) := by
  have h := hid (l02Read_any a n cap xs hn hm hf w hs)
  rw [hv, readL_yes hv] at h
  clear hs hf hv hn
  generalize meanL xs = ys at *
  go_enter Try.func61, Try.ntmps61
  go_wp2_with fail
  refine h.out.mono ?_
  rintro e w' ⟨v, rfl, o, g⟩
  have G := hid g
  have O := hid o
  clear g o
  unfold withOk
  go_wp2_with fail
  go_ret2
  exact ⟨_, rfl, O.out, G.out⟩
set_option maxRecDepth 100000 in
set_option maxHeartbeats 2000000 in
theorem spec_PhraseFor_any (k l s : Int) (hw : Wf3 k l s) (a : Option Addr) (cap n : Nat) (ss : List ByteArray) (hl : n = ss.length) (hn : n ≤ 1048576) (hz : SizesOk ss) (b : Option Addr) (cb : Nat) (m : List Int) (hm : m.length ≤ 1048576) (_hcb : m.length ≤ cb) (hf : Fits .i8 m) (w : World) (hs : StrsOf w a ss) (ht : SliceOf .i8 w b m) :
    Calls Try.prog 29 #[bookV k l s (.slice a n cap), .slice b m.length cb] w fun e w' => e = .returned (.tuple #[.int .i64 (phraseV k l s ss m), .int .i64 (phraseC k l s ss m)]) ∧ Gr w w' := by
  have gr : Gr w (w.alloc (.cells (bookC k l s (.slice a n cap)) 29)) := (Gr.refl _).alloc _
  have hb := bookAt_block (heap_new (w := w) (o := .cells (bookC k l s (.slice a n cap)) 29) rfl) hl (hs.gr gr)
  have HB := hid (l03Ok_any w.heap.size k l s a n cap ss hw hn hz _ hb)
  have HV := hid (fun V (g : Gr w V) => spec_ValidHoist_cap b m.length cb m rfl hm hf V (ht.gr g))
  have GR := hid gr
  cases h : validBk k l s ss with
  | false =>
    obtain ⟨e1, e2⟩ := phrase_no (h := m) (show (validBk k l s ss && validH m) = false by rw [h]; rfl)
    rw [e1, e2]
    rw [h] at HB
    clear h e1 e2 hs hl gr hz hw hb ht HV
    generalize m.length = q at *
    go_enter Try.func29, Try.ntmps29
    go_wp2_with fail
    refine HB.out.mono ?_
    rintro e w2 ⟨rfl, g2⟩
    have GB2 := hid g2
    have G2 := hid (GR.out.trans g2)
    clear g2 GB2
    go_wp2_with fail
    go_ret2
    exact ⟨rfl, G2.out⟩
  | true =>
    rw [h] at HB
    cases hv : validH m with
    | false =>
      obtain ⟨e1, e2⟩ := phrase_no (h := m) (show (validBk k l s ss && validH m) = false by rw [hv, Bool.and_false])
      rw [e1, e2]
      rw [hv] at HV
      clear h hv e1 e2 hs hl gr hz hw hb ht
      generalize m.length = q at *
      go_enter Try.func29, Try.ntmps29
      go_wp2_with fail
      refine HB.out.mono ?_
      rintro e w2 ⟨rfl, g2⟩
      have GB2 := hid g2
      have G2 := hid (GR.out.trans g2)
      have HV2 := hid (HV.out _ G2.out)
      clear g2 HV GB2
      go_wp2_with fail
      refine HV2.out.mono ?_
      rintro e w3 ⟨rfl, g3⟩
      have G3 := hid (G2.out.trans g3)
      clear g3 HV2
      go_wp2_with fail
      go_ret2
      exact ⟨rfl, G3.out⟩
    | true =>
      rw [hv] at HV
      have hbp : (validBk k l s ss && validH m) = true := by rw [h, hv]; rfl
      have HMO := hid (fun V (g : Gr w V) => spec_MeaningOf_cap b m.length cb m rfl hm hf hv V (ht.gr g))
      have hplain := mean_plain hv
      have hml : (meanL m).length ≤ 1048576 := by rw [meanL_length]; exact hm
      obtain ⟨K, L, B, rfl, rfl, rfl, k1, k2, l1, l2, b2⟩ := sizedB_yes (validBk_sizedT h)
      obtain ⟨-, -, e3⟩ := room_yes (validBk_sizedT h)
      have HM := hid (fun V (g : Gr (w.alloc (.cells (bookC K L B (.slice a n cap)) 29)) V) => l03Meanings_any w.heap.size K L B a n cap ss k2 l2 b2 V (hb.gr g))
      have HD := hid (fun V (g : Gr (w.alloc (.cells (bookC K L B (.slice a n cap)) 29)) V) => bk_cells (g.heap (heap_new (w := w) (o := .cells (bookC K L B (.slice a n cap)) 29) rfl)))
      have hbd := book_bd (B := B) k2 l2
      have HRK := hid (fun lo g c q (vs : List Value) (pm : Option Addr) (cm : Nat) (hq : q = (bookL K B L).length) (V : World) (ho : SliceOf .i8 V pm (meanL m)) (hr : RowQ V lo (.slice (some ⟨g, 0, none⟩) q c) vs (bookL K B L)) => l03Rank_any lo g c q vs (bookL K B L) hq (by omega) (book_lens l2) pm (meanL m).length cm (meanL m) rfl hml V hr ho)
      have hrb := rankI_bd (bookL K B L) (meanL m)
      have HIN := hid (fun r V => l00In_b r 0 ((n : Int) - 1) V)
      have hnI : (n : Int) ≤ 1048576 := by omega
      have hnW : IntKind.i64.wrap ((n : Int) - 1) = (n : Int) - 1 := IntWalk.i64_in _ (by omega)
      by_cases h2 : 0 ≤ rankI (meansOf K L B) (meanL m) ∧ rankI (meansOf K L B) (meanL m) < (ss.length : Int)
      · obtain ⟨e1, e2⟩ := phrase_found hbp h2
        rw [e1, e2, e3]
        rw [e3, ← hl] at h2
        have HT := hid (show betB (rankI (bookL K B L) (meanL m)) 0 ((n : Int) - 1) = true from betB_iff.2 ⟨h2.1, by omega⟩)
        generalize rankI (bookL K B L) (meanL m) = r at *
        generalize bookL K B L = xss at *
        generalize meanL m = ml at *
        clear h hv e1 e2 hs hl gr hz hw hb ht hbp e3 hrb h2 hplain hf hml hbd
        generalize m.length = q at *
        go_enter Try.func29, Try.ntmps29
        go_wp2_with fail
        refine HB.out.mono ?_
        rintro e w2 ⟨rfl, g2⟩
        have GB2 := hid g2
        have G2 := hid (GR.out.trans g2)
        have HV2 := hid (HV.out _ G2.out)
        clear g2 HV
        go_wp2_with fail
        refine HV2.out.mono ?_
        rintro e w3 ⟨rfl, g3⟩
        have GB3 := hid (GB2.out.trans g3)
        have G3 := hid (G2.out.trans g3)
        clear g3 HV2
        go_wp2_with fail
        refine (HMO.out _ G3.out).mono ?_
        rintro e w4 ⟨v, rfl, o, g4⟩
        obtain ⟨pm, cm, rfl⟩ := o.shape
        unfold withCode
        have O := hid o.reads
        have GB4 := hid (GB3.out.trans g4)
        have G4 := hid (G3.out.trans g4)
        clear g4 o HMO
        have HM4 := hid (HM.out _ GB4.out)
        clear HM
        go_wp2_with fail
        refine HM4.out.mono ?_
        rintro e w5 ⟨g, c, vs, rfl, hrow, g5⟩
        have G5 := hid (G4.out.trans g5)
        have GB5 := hid (GB4.out.trans g5)
        have HR5 := hid (HRK.out _ g c _ vs pm cm rfl w5 (O.out.gr g5) hrow)
        clear hrow g5 HRK HM4
        go_wp2_with fail
        refine HR5.out.mono ?_
        rintro e w6 ⟨rfl, g6⟩
        have G6 := hid (G5.out.trans g6)
        obtain ⟨d0, d1, d2, d3⟩ := HD.out _ (GB5.out.trans g6)
        clear g6 HR5
        go_wp2_with fail
        refine (HIN.out _ _).mono ?_
        rintro e w7 ⟨rfl, rfl⟩
        rw [HT.out]
        clear d0 d1 d2 d3
        go_wp2_with fail
        go_ret2
        exact ⟨rfl, G6.out⟩
      · obtain ⟨e1, e2⟩ := phrase_lost hbp h2
        rw [e1, e2]
        rw [e3, ← hl] at h2
        have HT : Hid (betB (rankI (bookL K B L) (meanL m)) 0 ((n : Int) - 1) = false) := hid (by
          cases hq : betB (rankI (bookL K B L) (meanL m)) 0 ((n : Int) - 1)
          · rfl
          · exact absurd ⟨(betB_iff.1 hq).1, by have := (betB_iff.1 hq).2; omega⟩ h2)
        generalize rankI (bookL K B L) (meanL m) = r at *
        generalize bookL K B L = xss at *
        generalize meanL m = ml at *
        clear h hv e1 e2 hs hl gr hz hw hb ht hbp e3 hrb h2 hplain hf hml hbd
        generalize m.length = q at *
        go_enter Try.func29, Try.ntmps29
        go_wp2_with fail
        refine HB.out.mono ?_
        rintro e w2 ⟨rfl, g2⟩
        have GB2 := hid g2
        have G2 := hid (GR.out.trans g2)
        have HV2 := hid (HV.out _ G2.out)
        clear g2 HV
        go_wp2_with fail
        refine HV2.out.mono ?_
        rintro e w3 ⟨rfl, g3⟩
        have GB3 := hid (GB2.out.trans g3)
        have G3 := hid (G2.out.trans g3)
        clear g3 HV2
        go_wp2_with fail
        refine (HMO.out _ G3.out).mono ?_
        rintro e w4 ⟨v, rfl, o, g4⟩
        obtain ⟨pm, cm, rfl⟩ := o.shape
        unfold withCode
        have O := hid o.reads
        have GB4 := hid (GB3.out.trans g4)
        have G4 := hid (G3.out.trans g4)
        clear g4 o HMO
        have HM4 := hid (HM.out _ GB4.out)
        clear HM
        go_wp2_with fail
        refine HM4.out.mono ?_
        rintro e w5 ⟨g, c, vs, rfl, hrow, g5⟩
        have G5 := hid (G4.out.trans g5)
        have GB5 := hid (GB4.out.trans g5)
        have HR5 := hid (HRK.out _ g c _ vs pm cm rfl w5 (O.out.gr g5) hrow)
        clear hrow g5 HRK HM4
        go_wp2_with fail
        refine HR5.out.mono ?_
        rintro e w6 ⟨rfl, g6⟩
        have G6 := hid (G5.out.trans g6)
        obtain ⟨d0, d1, d2, d3⟩ := HD.out _ (GB5.out.trans g6)
        clear g6 HR5
        go_wp2_with fail
        refine (HIN.out _ _).mono ?_
        rintro e w7 ⟨rfl, rfl⟩
        rw [HT.out]
        clear d0 d1 d2 d3
        go_wp2_with fail
        go_ret2
        exact ⟨rfl, G6.out⟩
theorem bk_keep1 {A B C D I : Prop} (h : A ∧ B ∧ C ∧ D) (i : I) : A ∧ B ∧ C ∧ D ∧ I := ⟨h.1, h.2.1, h.2.2.1, h.2.2.2, i⟩
set_option maxRecDepth 100000 in
set_option maxHeartbeats 4000000 in
theorem impl_PhraseFor_any (k l s : Int) (hw : Wf3 k l s) (a : Option Addr) (cap n : Nat) (ss : List ByteArray) (hl : n = ss.length) (hn : n ≤ 1048576) (hz : SizesOk ss) (b : Option Addr) (cb : Nat) (m : List Int) (hm : m.length ≤ 1048576) (hcb : m.length ≤ cb) (hf : Fits .i8 m) (w : World) (hs : StrsOf w a ss) (ht : SliceOf .i8 w b m) :
    Calls Try.prog 31 #[bookV k l s (.slice a n cap), .slice b m.length cb] w fun e w' => e = .returned (.tuple #[.int .i64 (phraseV k l s ss m), .int .i64 (phraseC k l s ss m)]) ∧ Gr w w' := by
  have HVB := hid (fun V (g : Gr w V) => impl_ValidBook_any k l s hw a cap n ss hl hn hz V (hs.gr g))
  have HV := hid (fun V (g : Gr w V) => impl_ValidHoist_cap b m.length cb m rfl hm hcb hf V (ht.gr g))
  obtain ⟨W, hW⟩ : ∃ W, W = w.alloc (.cells (bookC k l s (.slice a n cap)) 29) := ⟨_, rfl⟩
  have G0 : Hid (Gr w W) := hid (by rw [hW]; exact (Gr.refl w).alloc _)
  have HD := hid (fun V (g : Gr W V) => bk_cells (k := k) (l := l) (s := s) (v := .slice a n cap) (g.heap (show W.heap[w.heap.size]? = some (.cells (bookC k l s (.slice a n cap)) 29 (0, 0)) by rw [hW]; exact heap_new rfl)))
  have HW := hid hW
  clear hW
  cases h : validBk k l s ss with
  | false =>
    obtain ⟨e1, e2⟩ := phrase_no (h := m) (show (validBk k l s ss && validH m) = false by rw [h]; rfl)
    rw [e1, e2]
    rw [h] at HVB
    clear h e1 e2 hs hl hz hw ht HV
    generalize m.length = q at *
    go_enter Try.func31, Try.ntmps31
    go_wp2_with fail
    rw [← HW.out]
    obtain ⟨d0, d1, d2, d3⟩ := HD.out _ (Gr.refl W)
    go_wp2_with fail
    refine (HVB.out _ G0.out).mono ?_
    rintro e w2 ⟨rfl, g2⟩
    have GB2 := hid g2
    have G2 := hid (G0.out.trans g2)
    clear g2 GB2 d0 d1 d2 d3
    go_wp2_with fail
    go_ret2
    exact ⟨rfl, G2.out⟩
  | true =>
    rw [h] at HVB
    cases hv : validH m with
    | false =>
      obtain ⟨e1, e2⟩ := phrase_no (h := m) (show (validBk k l s ss && validH m) = false by rw [hv, Bool.and_false])
      rw [e1, e2]
      rw [hv] at HV
      clear h hv e1 e2 hs hl hz hw ht
      generalize m.length = q at *
      go_enter Try.func31, Try.ntmps31
      go_wp2_with fail
      rw [← HW.out]
      obtain ⟨d0, d1, d2, d3⟩ := HD.out _ (Gr.refl W)
      go_wp2_with fail
      refine (HVB.out _ G0.out).mono ?_
      rintro e w2 ⟨rfl, g2⟩
      have GB2 := hid g2
      have G2 := hid (G0.out.trans g2)
      have HV2 := hid (HV.out _ G2.out)
      clear g2 HV d0 d1 d2 d3 GB2
      go_wp2_with fail
      refine HV2.out.mono ?_
      rintro e w3 ⟨rfl, g3⟩
      have G3 := hid (G2.out.trans g3)
      clear g3 HV2
      go_wp2_with fail
      go_ret2
      exact ⟨rfl, G3.out⟩
    | true =>
      rw [hv] at HV
      have hbp : (validBk k l s ss && validH m) = true := by rw [h, hv]; rfl
      have HMO := hid (fun V (g : Gr w V) => meaning_any b m.length cb m rfl hm hf hv V (ht.gr g))
      have hplain := mean_plain hv
      have hml : (meanL m).length ≤ 1048576 := by rw [meanL_length]; exact hm
      have hbpm : (validBk k l s ss && plainH (meanL m)) = true := by rw [h, hplain]; rfl
      have hmf := mean_fits hv
      have HRK := hid (fun (pm : Option Addr) (cm : Nat) (hc : (meanL m).length ≤ cm) V (g : Gr w V) (ho : SliceOf .i8 V pm (meanL m)) => impl_RankOf_any k l s hw a cap n ss hl hn hz pm cm (meanL m) hml hc hmf V (hs.gr g) ho)
      have hrb := rankI_bd (meansOf k l s) (meanL m)
      by_cases h0 : rankI (meansOf k l s) (meanL m) < 0
      · obtain ⟨e1, e2⟩ := phrase_lost hbp (show ¬ (0 ≤ rankI (meansOf k l s) (meanL m) ∧ rankI (meansOf k l s) (meanL m) < (ss.length : Int)) by omega)
        rw [e1, e2]
        obtain ⟨r1, r2⟩ := rank_none hbpm h0
        rw [r1, r2] at HRK
        clear r1 r2 h0 hrb hl
        clear h hv e1 e2 hs hz hw ht hbp hplain hf hml hmf hbpm
        generalize m.length = q at *
        generalize meanL m = ml at *
        go_enter Try.func31, Try.ntmps31
        go_wp2_with fail
        rw [← HW.out]
        obtain ⟨d0, d1, d2, d3⟩ := HD.out _ (Gr.refl W)
        go_wp2_with fail
        refine (HVB.out _ G0.out).mono ?_
        rintro e w2 ⟨rfl, g2⟩
        have GB2 := hid g2
        have G2 := hid (G0.out.trans g2)
        have HV2 := hid (HV.out _ G2.out)
        clear g2 HV d0 d1 d2 d3
        go_wp2_with fail
        refine HV2.out.mono ?_
        rintro e w3 ⟨rfl, g3⟩
        have GB3 := hid (GB2.out.trans g3)
        have G3 := hid (G2.out.trans g3)
        clear g3 HV2
        go_wp2_with fail
        have gd : Gr w3 w3.drew := (Gr.refl w3).drew
        obtain ⟨d0, d1, d2, d3⟩ := HD.out _ (GB3.out.trans gd)
        go_region_held3 (fun V => V.cell? ⟨w.heap.size, 0, none⟩ = some (.int .i8 k) ∧ V.cell? ⟨w.heap.size, 1, none⟩ = some (.int .i8 l) ∧ V.cell? ⟨w.heap.size, 2, none⟩ = some (.int .i8 s) ∧ V.cell? ⟨w.heap.size, 3, none⟩ = some (.slice a n cap) ∧ Gr w3 V)
          (first | exact ⟨d0, d1, d2, d3, gd⟩ | exact bk_keep1 (HD.out _ (GB3.out.trans gWx)) gWx | go_keep)
          ((first | ((with_reducible refine (HMO.out _ (G3.out.trans (by assumption))).mono ?_); rintro e V ⟨v, rfl, o, gV⟩; obtain ⟨pm, cm, rfl⟩ := o.shape; have gWx : Gr w3 V := Gr.trans (by assumption) gV; have oR := o.reads; have oC := o.capLe) | ((with_reducible refine (HRK.out _ _ oC _ (G3.out.trans gWx) oR).mono ?_); rintro e V9 ⟨rfl, gV⟩; have gWy : Gr w3 V9 := Gr.trans gWx gV; have gWx := gWy)))
        have g9 : Gr w3 V9 := gWx
        have G9 := hid (G3.out.trans g9)
        obtain ⟨d0, d1, d2, d3⟩ := HD.out _ (GB3.out.trans g9)
        go_wp2_with fail
        go_ret2
        exact ⟨rfl, G9.out⟩
      · obtain ⟨r1, r2⟩ := rank_some hbpm h0
        rw [r1, r2] at HRK
        by_cases h2 : rankI (meansOf k l s) (meanL m) < (ss.length : Int)
        · obtain ⟨e1, e2⟩ := phrase_found hbp ⟨by omega, h2⟩
          rw [e1, e2]
          rw [← hl] at h2
          have hge : decide ((n : Int) ≤ rankI (meansOf k l s) (meanL m)) = false := decide_eq_false (by omega)
          generalize rankI (meansOf k l s) (meanL m) = r at *
          clear r1 r2 h0 h2 hrb hl
          clear h hv e1 e2 hs hz hw ht hbp hplain hf hml hmf hbpm
          generalize m.length = q at *
          generalize meanL m = ml at *
          go_enter Try.func31, Try.ntmps31
          go_wp2_with fail
          rw [← HW.out]
          obtain ⟨d0, d1, d2, d3⟩ := HD.out _ (Gr.refl W)
          go_wp2_with fail
          refine (HVB.out _ G0.out).mono ?_
          rintro e w2 ⟨rfl, g2⟩
          have GB2 := hid g2
          have G2 := hid (G0.out.trans g2)
          have HV2 := hid (HV.out _ G2.out)
          clear g2 HV d0 d1 d2 d3
          go_wp2_with fail
          refine HV2.out.mono ?_
          rintro e w3 ⟨rfl, g3⟩
          have GB3 := hid (GB2.out.trans g3)
          have G3 := hid (G2.out.trans g3)
          clear g3 HV2
          go_wp2_with fail
          have gd : Gr w3 w3.drew := (Gr.refl w3).drew
          obtain ⟨d0, d1, d2, d3⟩ := HD.out _ (GB3.out.trans gd)
          go_region_held3 (fun V => V.cell? ⟨w.heap.size, 0, none⟩ = some (.int .i8 k) ∧ V.cell? ⟨w.heap.size, 1, none⟩ = some (.int .i8 l) ∧ V.cell? ⟨w.heap.size, 2, none⟩ = some (.int .i8 s) ∧ V.cell? ⟨w.heap.size, 3, none⟩ = some (.slice a n cap) ∧ Gr w3 V)
            (first | exact ⟨d0, d1, d2, d3, gd⟩ | exact bk_keep1 (HD.out _ (GB3.out.trans gWx)) gWx | go_keep)
            ((first | ((with_reducible refine (HMO.out _ (G3.out.trans (by assumption))).mono ?_); rintro e V ⟨v, rfl, o, gV⟩; obtain ⟨pm, cm, rfl⟩ := o.shape; have gWx : Gr w3 V := Gr.trans (by assumption) gV; have oR := o.reads; have oC := o.capLe) | ((with_reducible refine (HRK.out _ _ oC _ (G3.out.trans gWx) oR).mono ?_); rintro e V9 ⟨rfl, gV⟩; have gWy : Gr w3 V9 := Gr.trans gWx gV; have gWx := gWy)))
          have g9 : Gr w3 V9 := gWx
          have G9 := hid (G3.out.trans g9)
          obtain ⟨d0, d1, d2, d3⟩ := HD.out _ (GB3.out.trans g9)
          go_wp2_with fail
          go_ret2
          exact ⟨rfl, G9.out⟩
        · obtain ⟨e1, e2⟩ := phrase_lost hbp (show ¬ (0 ≤ rankI (meansOf k l s) (meanL m) ∧ rankI (meansOf k l s) (meanL m) < (ss.length : Int)) by omega)
          rw [e1, e2]
          rw [← hl] at h2
          have hge : decide ((n : Int) ≤ rankI (meansOf k l s) (meanL m)) = true := decide_eq_true (by omega)
          generalize rankI (meansOf k l s) (meanL m) = r at *
          clear r1 r2 h0 h2 hrb hl
          clear h hv e1 e2 hs hz hw ht hbp hplain hf hml hmf hbpm
          generalize m.length = q at *
          generalize meanL m = ml at *
          go_enter Try.func31, Try.ntmps31
          go_wp2_with fail
          rw [← HW.out]
          obtain ⟨d0, d1, d2, d3⟩ := HD.out _ (Gr.refl W)
          go_wp2_with fail
          refine (HVB.out _ G0.out).mono ?_
          rintro e w2 ⟨rfl, g2⟩
          have GB2 := hid g2
          have G2 := hid (G0.out.trans g2)
          have HV2 := hid (HV.out _ G2.out)
          clear g2 HV d0 d1 d2 d3
          go_wp2_with fail
          refine HV2.out.mono ?_
          rintro e w3 ⟨rfl, g3⟩
          have GB3 := hid (GB2.out.trans g3)
          have G3 := hid (G2.out.trans g3)
          clear g3 HV2
          go_wp2_with fail
          have gd : Gr w3 w3.drew := (Gr.refl w3).drew
          obtain ⟨d0, d1, d2, d3⟩ := HD.out _ (GB3.out.trans gd)
          go_region_held3 (fun V => V.cell? ⟨w.heap.size, 0, none⟩ = some (.int .i8 k) ∧ V.cell? ⟨w.heap.size, 1, none⟩ = some (.int .i8 l) ∧ V.cell? ⟨w.heap.size, 2, none⟩ = some (.int .i8 s) ∧ V.cell? ⟨w.heap.size, 3, none⟩ = some (.slice a n cap) ∧ Gr w3 V)
            (first | exact ⟨d0, d1, d2, d3, gd⟩ | exact bk_keep1 (HD.out _ (GB3.out.trans gWx)) gWx | go_keep)
            ((first | ((with_reducible refine (HMO.out _ (G3.out.trans (by assumption))).mono ?_); rintro e V ⟨v, rfl, o, gV⟩; obtain ⟨pm, cm, rfl⟩ := o.shape; have gWx : Gr w3 V := Gr.trans (by assumption) gV; have oR := o.reads; have oC := o.capLe) | ((with_reducible refine (HRK.out _ _ oC _ (G3.out.trans gWx) oR).mono ?_); rintro e V9 ⟨rfl, gV⟩; have gWy : Gr w3 V9 := Gr.trans gWx gV; have gWx := gWy)))
          have g9 : Gr w3 V9 := gWx
          have G9 := hid (G3.out.trans g9)
          obtain ⟨d0, d1, d2, d3⟩ := HD.out _ (GB3.out.trans g9)
          go_wp2_with fail
          go_ret2
          exact ⟨rfl, G9.out⟩
end Go.Proofs.Ytkbdblaciphmnaa
