/- DecodeWord of the program. -/
import Derived.Test.YtojdbeebgllhhaaDecode
namespace Go.Proofs.Ytojdbeebgllhhaa
open Go.RowKit
theorem one_list {w : World} {p : Option Addr} {ys : List Int} {l b : Nat} (h : SliceOf .u8 w p ys) (hl : l = ys.length) (hb : w.heap[b]? = some (.cells #[.slice p l l] 25 (0, 0))) : SlicesOf .u8 w (some ⟨b, 0, none⟩) [ys] := by
  intro i hi
  have hi0 : i = 0 := by simp at hi; omega
  subst hi0
  refine ⟨b, 0, p, l, rfl, ?_, h⟩
  rw [cell_of_row _ _ _ _ _ _ hb]
  simp [hl]
set_option maxRecDepth 100000 in
set_option maxHeartbeats 600000 in
theorem impl_DecodeWord_any (ad : Addr) (n : Nat) (xss : List (List Int)) (hn : n = xss.length) (hm : n ≤ 1048576) (hz : ∀ i, (xss.getD i []).length ≤ 1048576) (hf : ∀ i, Fits .u8 (xss.getD i [])) (p : Option Addr) (l : Nat) (ys : List Int) (hl : l = ys.length) (hl2 : l ≤ 1048576) (hfy : Fits .u8 ys) (q : Int) (w : World) (hs : SlicesOf .u8 w (some ad) xss) (ht : SliceOf .u8 w p ys) :
    Calls Try.prog 48 #[.slice (some ad) n n, .slice p l l, .int .i64 q] w fun e w' => e = .returned (.tuple #[.int .i64 (decV xss ys q), .int .i64 (decC xss ys q)]) ∧ Gr w w' := by
  have HCW := hid (fun (V : World) (g : Gr w V) bq (hq : V.heap[bq]? = some (.cells #[.slice p l l] 25 (0, 0))) => checkWords_any (some ad) (some ⟨bq, 0, none⟩) n 1 n 1 xss [ys] hn rfl hm (by omega) (fun h => by cases h) (fun h => by cases h) hz (fun i => by cases i with | zero => exact (by rw [show ([ys].getD 0 [] : List Int) = ys from rfl, ← hl]; exact hl2) | succ i => exact (by simp [List.getD])) hf (fun i => by cases i with | zero => exact hfy | succ i => exact (fun x hx => by simp [List.getD] at hx)) V (hs.gr g) (one_list (ht.gr g) hl hq))
  have HBAD := hid (fun h => dec_bad (xss := xss) (ys := ys) (q := q) h)
  have HMNY := hid (fun h h2 => dec_many (xss := xss) (ys := ys) (q := q) h h2)
  have HFAR := hid (fun h h2 h3 => dec_far (xss := xss) (ys := ys) (q := q) h h2 h3)
  have HOK := hid (fun h h2 h3 => dec_ok (xss := xss) (ys := ys) (q := q) h h2 h3)
  have HLL := hid (fun h => like_lens (xss := xss) (ys := ys) h)
  have HNN := hid (show decN xss ys q = nearTo (nearB xss ys q) n by unfold decN; rw [hn])
  have HLC := hid (show listedC xss [ys] = if wordsB (xss ++ [ys]) then (if 60 < n then 3 else 0) else 1 by unfold listedC; rw [hn])
  have HNR := hid (fun h60 h8 hlen V (g : Gr w V) => near_any (some ad) n n xss hn h60 p l l ys hl h8 hlen q V (hs.gr g) (ht.gr g))
  generalize decV xss ys q = rv at *
  generalize decC xss ys q = rc at *
  generalize decN xss ys q = dn at *
  generalize listedC xss [ys] = lc at *
  generalize wordsB (xss ++ [ys]) = ww at *
  rw [← hn] at HMNY HFAR HOK HLL
  rw [← hl] at HLL
  clear hs ht hn hl hz hf hfy
  cases ww
  · obtain ⟨e1, e2⟩ := HBAD.out rfl
    have HL := hid (show lc = 1 from HLC.out)
    have hl1 := HL.out
    subst e1 e2 hl1
    clear HBAD HMNY HFAR HOK HLL HLC HL
    go_enter Try.func48, Try.ntmps48
    go_wp2_with fail
    refine (HCW.out _ ((Gr.refl w).alloc _) _ (heap_new rfl)).mono ?_
    rintro e w1 ⟨rfl, g1⟩
    have G1 := hid (((Gr.refl w).alloc (.cells #[.slice p l l] 25)).trans g1)
    clear g1 HCW
    go_wp2_with fail
    go_ret2
    exact ⟨rfl, G1.out⟩
  · by_cases h60 : 60 < n
    · obtain ⟨e1, e2⟩ := HMNY.out rfl h60
      have hl1 : lc = 3 := by rw [HLC.out, if_pos rfl, if_pos h60]
      subst e1 e2 hl1
      clear HBAD HMNY HFAR HOK HLL HLC
      go_enter Try.func48, Try.ntmps48
      go_wp2_with fail
      refine (HCW.out _ ((Gr.refl w).alloc _) _ (heap_new rfl)).mono ?_
      rintro e w1 ⟨rfl, g1⟩
      have G1 := hid (((Gr.refl w).alloc (.cells #[.slice p l l] 25)).trans g1)
      clear g1 HCW
      go_wp2_with fail
      go_ret2
      exact ⟨rfl, G1.out⟩
    · have hl1 : lc = 0 := by rw [HLC.out, if_pos rfl, if_neg h60]
      subst hl1
      cases hb : betB q 0 8
      · have HBV := hid hb
        obtain ⟨e1, e2⟩ := HFAR.out rfl h60 hb
        subst e1 e2
        clear HBAD HMNY HFAR HOK HLL hb HLC
        go_enter Try.func48, Try.ntmps48
        go_wp2_with fail
        refine (HCW.out _ ((Gr.refl w).alloc _) _ (heap_new rfl)).mono ?_
        rintro e w1 ⟨rfl, g1⟩
        have G1 := hid (((Gr.refl w).alloc (.cells #[.slice p l l] 25)).trans g1)
        clear g1 HCW
        go_wp2_with (go_at_call 52; refine (isBetween_any _ _ _ _).mono ?_; rintro e w' ⟨rfl, rfl⟩; rw [HBV.out])
        go_ret2
        exact ⟨rfl, G1.out⟩
      · have HBV := hid hb
        obtain ⟨e1, e2⟩ := HOK.out rfl h60 hb
        obtain ⟨hlen, -, h8⟩ := HLL.out rfl
        have HNR2 := hid (HNR.out (by omega) h8 hlen)
        rw [← HNN.out] at HNR2
        have RV := hid e1
        have RC := hid e2
        clear HBAD HMNY HFAR HOK HLL hb HLC HNR e1 e2 hlen HNN
        match dn, RV, RC, HNR2 with
        | [], RV, RC, HNR2 =>
          go_enter Try.func48, Try.ntmps48
          go_wp2_with fail
          refine (HCW.out _ ((Gr.refl w).alloc _) _ (heap_new rfl)).mono ?_
          rintro e w1 ⟨rfl, g1⟩
          have G1 := hid (((Gr.refl w).alloc (.cells #[.slice p l l] 25)).trans g1)
          clear g1 HCW
          go_wp2_with (go_at_call 52; refine (isBetween_any _ _ _ _).mono ?_; rintro e w' ⟨rfl, rfl⟩; rw [HBV.out])
          refine (HNR2.out _ G1.out).mono ?_
          rintro e w2 ⟨v, rfl, o, g2⟩
          have G2 := hid (G1.out.trans g2)
          obtain ⟨ao, co, rfl⟩ := o.shape
          clear o g2
          go_wp2_with fail
          go_ret2
          exact ⟨by rw [RV.out, RC.out]; rfl, G2.out⟩
        | [j], RV, RC, HNR2 =>
          go_enter Try.func48, Try.ntmps48
          go_wp2_with fail
          refine (HCW.out _ ((Gr.refl w).alloc _) _ (heap_new rfl)).mono ?_
          rintro e w1 ⟨rfl, g1⟩
          have G1 := hid (((Gr.refl w).alloc (.cells #[.slice p l l] 25)).trans g1)
          clear g1 HCW
          go_wp2_with (go_at_call 52; refine (isBetween_any _ _ _ _).mono ?_; rintro e w' ⟨rfl, rfl⟩; rw [HBV.out])
          refine (HNR2.out _ G1.out).mono ?_
          rintro e w2 ⟨v, rfl, o, g2⟩
          have G2 := hid (G1.out.trans g2)
          obtain ⟨ao, co, rfl⟩ := o.shape
          obtain ⟨g, rfl, -, hc, -⟩ := o.at_ (i := 0) (by simp)
          have hc2 : w2.cell? ⟨g, 0, none⟩ = some (.int .i64 j) := hc
          clear o g2 hc
          go_wp2_with fail
          go_ret2
          exact ⟨by rw [RV.out, RC.out]; rfl, G2.out⟩
        | i :: j :: L, RV, RC, HNR2 =>
          go_enter Try.func48, Try.ntmps48
          go_wp2_with fail
          refine (HCW.out _ ((Gr.refl w).alloc _) _ (heap_new rfl)).mono ?_
          rintro e w1 ⟨rfl, g1⟩
          have G1 := hid (((Gr.refl w).alloc (.cells #[.slice p l l] 25)).trans g1)
          clear g1 HCW
          go_wp2_with (go_at_call 52; refine (isBetween_any _ _ _ _).mono ?_; rintro e w' ⟨rfl, rfl⟩; rw [HBV.out])
          refine (HNR2.out _ G1.out).mono ?_
          rintro e w2 ⟨v, rfl, o, g2⟩
          have G2 := hid (G1.out.trans g2)
          obtain ⟨ao, co, rfl⟩ := o.shape
          clear o g2
          have t1 : (1 : Int) < ((i :: j :: L).length : Int) := by simp; omega
          have t2 : (((i :: j :: L).length : Int) == 0) = false := by rw [beq_eq_false_iff_ne]; omega
          generalize (i :: j :: L).length = ll at *
          go_wp2_with fail
          go_ret2
          exact ⟨by rw [RV.out, RC.out]; rfl, G2.out⟩
end Go.Proofs.Ytojdbeebgllhhaa
