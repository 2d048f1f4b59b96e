/- RankOf: ranks as numbers; the model's function. -/
import Derived.Test.YtkbdblaciphmnaaValidBook
import Derived.Test.YtkbdblaciphmnaaHoistE
import Derived.Test.YtkbdblaciphmnaaGHst
namespace Go.Proofs.Ytkbdblaciphmnaa
set_option linter.unusedVariables false
open Go.RowKit
/-- Where a list is in another one for the first time, -1 standing for nowhere. -/
def rankI (L : List (List Int)) (m : List Int) : Int := if m ∈ L then (L.idxOf m : Int) else -1
theorem rankI_at {L pre rest : List (List Int)} {m : List Int} (h : pre ++ m :: rest = L) (hn : m ∉ pre) : rankI L m = (pre.length : Int) := by
  subst h
  unfold rankI
  rw [if_pos (List.mem_append.2 (.inr List.mem_cons_self)), List.idxOf_append, if_neg hn]
  simp
theorem rankI_no {L : List (List Int)} {m : List Int} (hn : m ∉ L) : rankI L m = -1 := by unfold rankI; rw [if_neg hn]
theorem rankI_bd (L : List (List Int)) (m : List Int) : rankI L m = -1 ∨ (0 ≤ rankI L m ∧ rankI L m < (L.length : Int)) := by
  unfold rankI
  split
  · rename_i h
    have := List.idxOf_lt_length_of_mem h
    exact .inr ⟨by omega, by omega⟩
  · exact .inl rfl
theorem rankI_k {L : List (List Int)} {m : List Int} {k : Nat} (hk : k < L.length) (hn : m ∉ L.take k) (he : L.getD k [] = m) : rankI L m = (k : Int) := by
  have h : L.take k ++ m :: L.drop (k + 1) = L := by
    rw [← he]
    have : L.getD k [] = L[k] := by simp [List.getD, List.getElem?_eq_getElem hk]
    rw [this, ← List.drop_eq_getElem_cons hk, List.take_append_drop]
  rw [rankI_at h hn, List.length_take, Nat.min_eq_left (by omega)]
theorem take_step {L : List (List Int)} {m : List Int} {k : Nat} (hk : k < L.length) (hn : m ∉ L.take k) (he : ¬ L.getD k [] = m) : m ∉ L.take (k + 1) := by
  rw [List.take_succ_eq_append_getElem hk, List.mem_append, List.mem_singleton]
  have : L.getD k [] = L[k] := by simp [List.getD, List.getElem?_eq_getElem hk]
  rw [this] at he
  rintro (h | h)
  · exact hn h
  · exact he h.symm
def rankV (k l s : Int) (ss : List ByteArray) (m : List Int) : Int := if validBk k l s ss && plainH m then (if rankI (meansOf k l s) m < 0 then 0 else rankI (meansOf k l s) m) else 0
def rankC (k l s : Int) (ss : List ByteArray) (m : List Int) : Int := if validBk k l s ss && plainH m then (if rankI (meansOf k l s) m < 0 then 6 else 0) else 1
theorem rank_no {k l s : Int} {ss : List ByteArray} {m : List Int} (h : (validBk k l s ss && plainH m) = false) : rankV k l s ss m = 0 ∧ rankC k l s ss m = 1 := by unfold rankV rankC; rw [h]; exact ⟨rfl, rfl⟩
theorem rank_none {k l s : Int} {ss : List ByteArray} {m : List Int} (h : (validBk k l s ss && plainH m) = true) (h2 : rankI (meansOf k l s) m < 0) : rankV k l s ss m = 0 ∧ rankC k l s ss m = 6 := by
  unfold rankV rankC; rw [h, if_pos rfl, if_pos rfl, if_pos h2, if_pos h2]; exact ⟨rfl, rfl⟩
theorem rank_some {k l s : Int} {ss : List ByteArray} {m : List Int} (h : (validBk k l s ss && plainH m) = true) (h2 : ¬ rankI (meansOf k l s) m < 0) : rankV k l s ss m = rankI (meansOf k l s) m ∧ rankC k l s ss m = 0 := by
  unfold rankV rankC; rw [h, if_pos rfl, if_pos rfl, if_neg h2, if_neg h2]; exact ⟨rfl, rfl⟩
theorem validBk_sizedT {k l s : Int} {ss : List ByteArray} (h : validBk k l s ss = true) : sizedB k l s = true := by
  cases e : sizedB k l s
  · rw [validBk_sized e] at h; cases h
  · rfl
set_option maxRecDepth 100000 in
theorem l03Same_any (a : Option Addr) (n ca : Nat) (xs : List Int) (hn : n = xs.length) (hm : n ≤ 1048576) (b : Option Addr) (m cb : Nat) (ys : List Int) (hn2 : m = ys.length) (hm2 : m ≤ 1048576) (w : World) (hs : SliceOf .i8 w a xs) (ht : SliceOf .i8 w b ys) :
    Calls Try.prog 67 #[.slice a n ca, .slice b m cb] w fun e w' => e = .returned (.bool (eqLB xs ys)) ∧ Gr w w' := by
  have H0 := hid (l02Same_any a n ca xs hn hm b m cb ys hn2 hm2 w hs ht)
  have H : Hid (Calls Try.prog 92 #[.slice a n ca, .slice b m cb] w fun e w' => e = .returned (.bool (eqLB xs ys)) ∧ Gr w w') := hid (by
    clear hs ht hn hn2
    go_enter Try.func92, Try.ntmps92
    go_wp2_with fail
    refine H0.out.mono ?_
    rintro e w1 ⟨rfl, g1⟩
    have G1 := hid g1
    clear g1
    go_wp2_with fail
    go_ret
    exact ⟨rfl, G1.out⟩)
  clear hs ht hn hn2 H0
  go_enter Try.func67, Try.ntmps67
  go_wp2_with fail
  refine H.out.mono ?_
  rintro e w1 ⟨rfl, g1⟩
  have G1 := hid g1
  clear g1
  go_wp2_with fail
  go_ret
  exact ⟨rfl, G1.out⟩
set_option maxRecDepth 100000 in
set_option maxHeartbeats 1000000 in
theorem l03Rank_any (lo g cap n : Nat) (vs : List Value) (L : List (List Int)) (hn : n = L.length) (hL : n ≤ 1048576) (hall : ∀ x ∈ L, x.length ≤ 1048576) (b : Option Addr) (q cb : Nat) (m : List Int) (hq : q = m.length) (hm : q ≤ 1048576) (w : World) (hr : RowQ w lo (.slice (some ⟨g, 0, none⟩) n cap) vs L) (hs : SliceOf .i8 w b m) :
    Calls Try.prog 54 #[.slice (some ⟨g, 0, none⟩) n cap, .slice b q cb] w fun e w' => e = .returned (.int .i64 (rankI L m)) ∧ Gr w w' := by
  have HR := hid hr
  have HS := hid hs
  have HN := hid hn
  have HQ := hid hq
  have HK := hid (fun k h1 h2 h3 => rankI_k (L := L) (m := m) (k := k) h1 h2 h3)
  have HT := hid (fun k h1 h2 h3 => take_step (L := L) (m := m) (k := k) h1 h2 h3)
  have HNO := hid (fun (h : m ∉ L) => rankI_no h)
  have HLN := hid (fun k (hk : k < L.length) => show (L.getD k []).length ≤ 1048576 by
    have : L.getD k [] = L[k] := by simp [List.getD, List.getElem?_eq_getElem hk]
    rw [this]; exact hall _ (List.getElem_mem hk))
  clear hr hs hn hq hall
  generalize rankI L m = r at *
  go_enter Try.func54, Try.ntmps54
  go_wp2_with fail
  go_loopw [5] (fun i wr => ∃ k : Nat, k ≤ n ∧ i = .int .i64 k ∧ Hid (m ∉ L.take k) ∧ Hid (Gr w wr)) (fun i _ => n - (intOf i).toNat)
  case atStart => exact ⟨0, Nat.zero_le _, rfl, hid (by simp), hid (Gr.refl _)⟩
  case round =>
    obtain ⟨k, hk, rfl, hno, gr⟩ := hrel
    by_cases hlt : k < n
    · have hkL : k < L.length := by rw [← HN.out]; exact hlt
      obtain ⟨g0, g', c', e0, hc, ho⟩ := (HR.out.gr gr.out).at_ hkL
      simp only [Option.some.injEq, Addr.mk.injEq, and_true] at e0
      subst e0
      have HKK := hid (HK.out k hkL hno.out)
      have HTT := hid (HT.out k hkL hno.out)
      have hlx := HLN.out k hkL
      have HSX := hid (row_reads ho rfl)
      have HSM := hid (HS.out.gr gr.out)
      clear ho hkL
      generalize L.getD k [] = x at *
      obtain ⟨p, hp⟩ : ∃ p, p = x.length := ⟨_, rfl⟩
      rw [← hp] at hc hlx
      have HEQ := hid (l03Same_any (some ⟨g', 0, none⟩) p c' x hp hlx b q cb m HQ.out hm wr HSX.out HSM.out)
      clear hp
      by_cases he : x = m
      · have HZ := hid (HKK.out he)
        rw [show eqLB x m = true from decide_eq_true he] at HEQ
        clear he HKK HTT
        go_wp2_with fail
        refine HEQ.out.mono ?_
        rintro e w1 ⟨rfl, g1⟩
        have G1 := hid (gr.out.trans g1)
        clear g1
        go_wp2_with fail
        go_ret
        exact ⟨ret_int HZ.out.symm, G1.out⟩
      · have HZ := hid (HTT.out he)
        rw [show eqLB x m = false from decide_eq_false he] at HEQ
        clear he HKK HTT
        go_wp2_with fail
        refine HEQ.out.mono ?_
        rintro e w1 ⟨rfl, g1⟩
        have G1 := hid (gr.out.trans g1)
        clear g1
        go_wp2_with fail
        go_roundw
        case rel => exact ⟨k + 1, by omega, by go_num, HZ, G1⟩
        case measure => simp [intOf]; omega
    · have HZ := hid (HNO.out (by
        have h := hno.out
        rwa [List.take_of_length_le (by rw [← HN.out]; omega)] at h))
      go_wp2_with fail
      go_ret
      exact ⟨ret_int HZ.out.symm, gr.out⟩
theorem book_lens {K B L : Nat} (hL : L ≤ 3) : ∀ x ∈ bookL K B L, x.length ≤ 1048576 := fun x hx => by
  obtain ⟨j, _, h2, h3, _⟩ := mem_bookL hx
  have := (mem_kindsS.1 h3).1
  omega
set_option maxRecDepth 100000 in
set_option maxHeartbeats 1000000 in
theorem spec_RankOf_any (k l s : Int) (hw : Wf3 k l s) (a : Option Addr) (cap n : Nat) (ss : List ByteArray) (hl : n = ss.length) (hn : n ≤ 1048576) (hz : SizesOk ss) (b : Option Addr) (cb : Nat) (m : List Int) (hm : m.length ≤ 1048576) (_hcb : m.length ≤ cb) (hf : Fits .i8 m) (w : World) (hs : StrsOf w a ss) (ht : SliceOf .i8 w b m) :
    Calls Try.prog 20 #[bookV k l s (.slice a n cap), .slice b m.length cb] w fun e w' => e = .returned (.tuple #[.int .i64 (rankV k l s ss m), .int .i64 (rankC k l s ss m)]) ∧ Gr w w' := by
  have gr : Gr w (w.alloc (.cells (bookC k l s (.slice a n cap)) 29)) := (Gr.refl _).alloc _
  have hb := bookAt_block (heap_new (w := w) (o := .cells (bookC k l s (.slice a n cap)) 29) rfl) hl (hs.gr gr)
  have HB := hid (l03Ok_any w.heap.size k l s a n cap ss hw hn hz _ hb)
  have HV := hid (fun V (g : Gr w V) => spec_ValidMeaning_cap b m.length cb m rfl hm hf V (ht.gr g))
  have GR := hid gr
  cases h : validBk k l s ss with
  | false =>
    obtain ⟨e1, e2⟩ := rank_no (m := m) (show (validBk k l s ss && plainH m) = false by rw [h]; rfl)
    rw [e1, e2]
    rw [h] at HB
    clear h e1 e2 hs hl gr hz hw hb ht
    generalize m.length = q at *
    go_enter Try.func20, Try.ntmps20
    go_wp2_with fail
    refine HB.out.mono ?_
    rintro e w2 ⟨rfl, g2⟩
    have G2 := hid (GR.out.trans g2)
    clear g2
    go_wp2_with fail
    go_ret2
    exact ⟨rfl, G2.out⟩
  | true =>
    rw [h] at HB
    cases hp : plainH m with
    | false =>
      obtain ⟨e1, e2⟩ := rank_no (m := m) (show (validBk k l s ss && plainH m) = false by rw [hp, Bool.and_false])
      rw [e1, e2]
      rw [hp] at HV
      clear h hp e1 e2 hs hl gr hz hw hb ht
      generalize m.length = q at *
      go_enter Try.func20, Try.ntmps20
      go_wp2_with fail
      refine HB.out.mono ?_
      rintro e w2 ⟨rfl, g2⟩
      have HV2 := hid (HV.out _ (GR.out.trans g2))
      have G2 := hid (GR.out.trans g2)
      clear g2 HV
      go_wp2_with fail
      refine HV2.out.mono ?_
      rintro e w3 ⟨rfl, g3⟩
      have G3 := hid (G2.out.trans g3)
      clear g3
      go_wp2_with fail
      go_ret2
      exact ⟨rfl, G3.out⟩
    | true =>
      rw [hp] at HV
      have hbp : (validBk k l s ss && plainH m) = true := by rw [h, hp]; rfl
      obtain ⟨K, L, B, rfl, rfl, rfl, k1, k2, l1, l2, b2⟩ := sizedB_yes (validBk_sizedT h)
      obtain ⟨-, -, e3⟩ := room_yes (validBk_sizedT h)
      have HM := hid (fun V (g : Gr (w.alloc (.cells (bookC K L B (.slice a n cap)) 29)) V) => l03Meanings_any w.heap.size K L B a n cap ss k2 l2 b2 V (hb.gr g))
      have hbd := book_bd (B := B) k2 l2
      have HRK := hid (fun lo g c q (vs : List Value) (hq : q = (bookL K B L).length) (V : World) (hg : Gr w V) (hr : RowQ V lo (.slice (some ⟨g, 0, none⟩) q c) vs (bookL K B L)) => l03Rank_any lo g c q vs (bookL K B L) hq (by omega) (book_lens l2) b m.length cb m rfl hm V hr (ht.gr hg))
      have hrb := rankI_bd (bookL K B L) m
      by_cases h2 : rankI (bookL K B L) m < 0
      · obtain ⟨e1, e2⟩ := rank_none hbp (by rw [e3]; exact h2)
        rw [e1, e2]
        generalize rankI (bookL K B L) m = r at *
        generalize bookL K B L = xss at *
        clear h hp e1 e2 hs hl gr hz hw hb ht hbp e3 hrb
        generalize m.length = q at *
        go_enter Try.func20, Try.ntmps20
        go_wp2_with fail
        refine HB.out.mono ?_
        rintro e w2 ⟨rfl, g2⟩
        have GB2 := hid g2
        have G2 := hid (GR.out.trans g2)
        have HV2 := hid (HV.out _ G2.out)
        clear g2 HV
        go_wp2_with fail
        refine HV2.out.mono ?_
        rintro e w3 ⟨rfl, g3⟩
        have HM3 := hid (HM.out _ (GB2.out.trans g3))
        have G3 := hid (G2.out.trans g3)
        clear g3 HM HV2
        go_wp2_with fail
        refine HM3.out.mono ?_
        rintro e w4 ⟨g, c, vs, rfl, hrow, g4⟩
        have G4 := hid (G3.out.trans g4)
        have HR4 := hid (HRK.out _ g c _ vs rfl w4 G4.out hrow)
        clear hrow g4 HRK
        go_wp2_with fail
        refine HR4.out.mono ?_
        rintro e w5 ⟨rfl, g5⟩
        have G5 := hid (G4.out.trans g5)
        clear g5 HR4
        go_wp2_with fail
        go_ret2
        exact ⟨rfl, G5.out⟩
      · obtain ⟨e1, e2⟩ := rank_some hbp (by rw [e3]; exact h2)
        rw [e1, e2, e3]
        generalize rankI (bookL K B L) m = r at *
        generalize bookL K B L = xss at *
        clear h hp e1 e2 hs hl gr hz hw hb ht hbp e3 hrb
        generalize m.length = q at *
        go_enter Try.func20, Try.ntmps20
        go_wp2_with fail
        refine HB.out.mono ?_
        rintro e w2 ⟨rfl, g2⟩
        have GB2 := hid g2
        have G2 := hid (GR.out.trans g2)
        have HV2 := hid (HV.out _ G2.out)
        clear g2 HV
        go_wp2_with fail
        refine HV2.out.mono ?_
        rintro e w3 ⟨rfl, g3⟩
        have HM3 := hid (HM.out _ (GB2.out.trans g3))
        have G3 := hid (G2.out.trans g3)
        clear g3 HM HV2
        go_wp2_with fail
        refine HM3.out.mono ?_
        rintro e w4 ⟨g, c, vs, rfl, hrow, g4⟩
        have G4 := hid (G3.out.trans g4)
        have HR4 := hid (HRK.out _ g c _ vs rfl w4 G4.out hrow)
        clear hrow g4 HRK
        go_wp2_with fail
        refine HR4.out.mono ?_
        rintro e w5 ⟨rfl, g5⟩
        have G5 := hid (G4.out.trans g5)
        clear g5 HR4
        go_wp2_with fail
        go_ret2
        exact ⟨rfl, G5.out⟩
end Go.Proofs.Ytkbdblaciphmnaa
