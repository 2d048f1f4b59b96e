/- ValidBook: what both sides ask; the model's function. -/
import Derived.Test.YtkbdblaciphmnaaRoom
import Derived.Test.YtkbdblaciphmnaaIdx
import Derived.Test.YtkbdblaciphmnaaBookK
namespace Go.Proofs.Ytkbdblaciphmnaa
set_option linter.unusedVariables false
open Go.RowKit
def validBk (k l s : Int) (ss : List ByteArray) : Bool := sizedB k l s && (decide (ss.length ≤ 100) && (allTo (okPh ss) ss.length && decide (ss.length ≤ (meansOf k l s).length)))
theorem validBk_sized {k l s : Int} {ss : List ByteArray} (h : sizedB k l s = false) : validBk k l s ss = false := by unfold validBk; rw [h]; rfl
theorem validBk_long {k l s : Int} {ss : List ByteArray} (h : ¬ ss.length ≤ 100) : validBk k l s ss = false := by unfold validBk; rw [decide_eq_false h]; simp
theorem validBk_at {k l s : Int} {ss : List ByteArray} {i : Nat} (hi : i < ss.length) (h : okPh ss i = false) : validBk k l s ss = false := by unfold validBk; rw [allTo_no hi h]; simp
theorem validBk_end {k l s : Int} {ss : List ByteArray} (h : sizedB k l s = true) (h1 : ss.length ≤ 100) (h2 : allTo (okPh ss) ss.length = true) : validBk k l s ss = decide (ss.length ≤ (meansOf k l s).length) := by
  unfold validBk; rw [h, decide_eq_true h1, h2]; rfl
set_option maxHeartbeats 4000000 in
set_option maxRecDepth 100000 in
theorem l03Ok_any (bb : Nat) (k l s : Int) (a : Option Addr) (n cap : Nat) (ss : List ByteArray) (hw : Wf3 k l s) (hn : n ≤ 1048576) (hz : SizesOk ss) (w : World) (hb : BookAt w bb k l s a n cap ss) :
    Calls Try.prog 48 #[.pointer (some ⟨bb, 0, none⟩)] w fun e w' => e = .returned (.bool (validBk k l s ss)) ∧ Gr w w' := by
  have HB := hid hb
  have HZ := hid (l03Sized_any bb k l s a n cap ss hw w hb)
  have c3 := hb.c3
  have HL := hid hb.len
  have HS := hid hb.reads
  clear hb
  cases h : sizedB k l s with
  | false =>
    rw [validBk_sized h]
    rw [h] at HZ
    clear h HB hw
    go_enter Try.func48, Try.ntmps48
    go_wp2_with fail
    refine HZ.out.mono ?_
    rintro e w' ⟨rfl, rfl⟩
    go_wp2_with fail
    go_ret
    exact ⟨rfl, Gr.refl _⟩
  | true =>
    rw [h] at HZ
    by_cases h100 : n ≤ 100
    · have HNO := hid (fun i (hi : i < n) (h : okPh ss i = false) => validBk_at (k := k) (l := l) (s := s) (show i < ss.length by rw [← HL.out]; exact hi) h)
      have HEND := hid (fun (h2 : allTo (okPh ss) n = true) => validBk_end (ss := ss) h (by rw [← HL.out]; exact h100) (by rw [← HL.out]; exact h2))
      rw [← HL.out] at HEND
      have HFI := hid (fun i (V : World) (g : BookAt V bb k l s a n cap ss) => l03Find_any bb k l s a n cap ss hn (strAt ss i) V g)
      have HPH := hid (fun i V => l03Phrase_any (strAt ss i) (hz i) V)
      have HFR := hid (fun i (hi : i < n) => firstV_fresh (ss := ss) (i := i) (by rw [← HL.out]; exact hi))
      have HOK := hid (fun i => show okPh ss i = (phB (strAt ss i) && freshB ss i) from rfl)
      obtain ⟨K, L, B, rfl, rfl, rfl, k1, k2, l1, l2, b2⟩ := sizedB_yes h
      have HM := hid (fun V (g : Gr w V) => l03Meanings_any bb K L B a n cap ss k2 l2 b2 V (HB.out.gr g))
      obtain ⟨-, -, e3⟩ := room_yes h
      rw [e3] at HEND
      generalize validBk (K : Int) (L : Int) (B : Int) ss = r at *
      generalize bookL K B L = xss at *
      have hnz : ((n : Int) > 100) = False := by simp; omega
      clear h hw hz e3
      go_enter Try.func48, Try.ntmps48
      go_wp2_with fail
      refine HZ.out.mono ?_
      rintro e w' ⟨rfl, rfl⟩
      go_wp2_with fail
      go_loop [3] (fun i => ∃ j : Nat, j ≤ n ∧ i = .int .i64 j ∧ Hid (allTo (okPh ss) j = true)) (fun i => n - (intOf i).toNat)
      case atStart => exact ⟨0, Nat.zero_le _, rfl, hid rfl⟩
      case round =>
        obtain ⟨j, hj, rfl, hok⟩ := hrel
        by_cases hlt : j < n
        · obtain ⟨b0, o0, rfl, h0⟩ := HS.out j (by rw [← HL.out]; exact hlt)
          have HNJ := hid (HNO.out j hlt)
          have HFJ := hid (HFI.out j _ HB.out)
          have HPJ := hid (HPH.out j)
          have HRJ := hid (HFR.out j hlt)
          have HOJ := hid (HOK.out j)
          have HST := hid (fun (h : okPh ss j = true) => allTo_step hok.out h)
          clear HFI HPH HFR HOK HNO
          unfold strAt at HFJ HPJ HRJ HOJ
          generalize ss.getD j ByteArray.empty = v at *
          generalize okPh ss j = ok at *
          generalize firstV ss v = fv at *
          generalize freshB ss j = fr at *
          cases hp : phB v with
          | false =>
            rw [hp] at HPJ HOJ
            have HV := hid (HNJ.out (by rw [HOJ.out]; rfl))
            clear hp
            go_wp2_with fail
            refine (HPJ.out _).mono ?_
            rintro e w' ⟨rfl, rfl⟩
            go_wp2_with fail
            go_ret
            exact ⟨ret_bool HV.out.symm, Gr.refl _⟩
          | true =>
            rw [hp] at HPJ HOJ
            clear hp
            cases fr with
            | false =>
              have HV := hid (HNJ.out (by rw [HOJ.out]; rfl))
              have t1 : (fv != (j : Int)) = true := by
                have := HRJ.out
                simp only [Bool.false_eq_true, iff_false] at this
                rw [bne_iff_ne]; exact this
              clear HRJ HOJ HNJ HST
              go_wp2_with (first | ((with_reducible refine (HPJ.out _).mono ?_); rintro e w' ⟨rfl, rfl⟩) | ((with_reducible refine HFJ.out.mono ?_); rintro e w' ⟨rfl, rfl⟩))
              go_ret
              exact ⟨ret_bool HV.out.symm, Gr.refl _⟩
            | true =>
              have hfv : fv = (j : Int) := HRJ.out.2 rfl
              have HY := hid (HST.out (by rw [HOJ.out]; rfl))
              clear HRJ HOJ HNJ HST
              subst hfv
              go_wp2_with (first | ((with_reducible refine (HPJ.out _).mono ?_); rintro e w' ⟨rfl, rfl⟩) | ((with_reducible refine HFJ.out.mono ?_); rintro e w' ⟨rfl, rfl⟩))
              go_round
              case rel => exact ⟨j + 1, by omega, by go_num, HY⟩
              case measure => simp [intOf]; omega
        · obtain rfl : j = n := by omega
          have HV := hid (HEND.out hok.out)
          clear HEND HNO
          go_wp2_with fail
          have gd : Gr w w.drew := (Gr.refl w).drew
          have p3 : w.drew.cell? ⟨bb, 3, none⟩ = some (.slice a j cap) := c3
          go_region_held3 (fun V => V.cell? ⟨bb, 3, none⟩ = some (.slice a j cap) ∧ Gr w V)
            (first | exact ⟨p3, gd⟩ | exact ⟨gW.cell c3, gW⟩ | go_keep)
            (((with_reducible refine (HM.out _ (by assumption)).mono ?_); rintro e V ⟨g0, c0, vs0, rfl, -, gV⟩; have gW : Gr w V := Gr.trans (by assumption) gV))
          go_wp2_with fail
          go_ret
          exact ⟨ret_bool (by rw [HV.out]), gW⟩
    · rw [validBk_long (by rw [← HL.out]; exact h100)]
      have h101 : (100 : Int) < (n : Int) := by omega
      clear h HB hw
      go_enter Try.func48, Try.ntmps48
      go_wp2_with fail
      refine HZ.out.mono ?_
      rintro e w' ⟨rfl, rfl⟩
      go_wp2_with fail
      go_ret
      exact ⟨rfl, Gr.refl _⟩
set_option maxRecDepth 100000 in
theorem spec_ValidBook_any (k l s : Int) (hw : Wf3 k l s) (a : Option Addr) (cap n : Nat) (ss : List ByteArray) (hl : n = ss.length) (hn : n ≤ 1048576) (hz : SizesOk ss) (w : World) (hs : StrsOf w a ss) :
    Calls Try.prog 16 #[bookV k l s (.slice a n cap)] w fun e w' => e = .returned (.bool (validBk k l s ss)) ∧ Gr w w' := by
  have gr : Gr w (w.alloc (.cells (bookC k l s (.slice a n cap)) 29)) := (Gr.refl _).alloc _
  have HB := hid (l03Ok_any w.heap.size k l s a n cap ss hw hn hz _ (bookAt_block (heap_new (w := w) (o := .cells (bookC k l s (.slice a n cap)) 29) rfl) hl (hs.gr gr)))
  have GR := hid gr
  clear hs hl gr hz hw
  go_enter Try.func16, Try.ntmps16
  go_wp2_with fail
  refine HB.out.mono ?_
  rintro e w2 ⟨rfl, g2⟩
  have G2 := hid (GR.out.trans g2)
  clear g2
  go_wp2_with fail
  go_ret
  exact ⟨rfl, G2.out⟩
end Go.Proofs.Ytkbdblaciphmnaa
