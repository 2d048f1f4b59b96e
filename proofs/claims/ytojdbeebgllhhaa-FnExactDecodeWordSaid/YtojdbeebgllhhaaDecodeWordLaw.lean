/- DecodeWord: the law's walk. -/
import Derived.Test.YtojdbeebgllhhaaDecodeI
namespace Go.Proofs.Ytojdbeebgllhhaa
open Go.RowKit
set_option maxRecDepth 100000 in
set_option maxHeartbeats 2000000 in
set_option linter.unusedVariables false in
theorem FnExactDecodeWord_walk (a0 : Option Addr) (n0 cap0 : Nat) (xs0 : List (List Int)) (l0 : n0 = xs0.length) (m0 : n0 ≤ maxLen) (z0 : ∀ i, (xs0.getD i []).length ≤ maxLen) (f0 : ∀ i, Fits .u8 (xs0.getD i [])) (a1 : Option Addr) (cap1 : Nat) (ys : List Int) (m1 : ys.length ≤ maxLen) (f1 : Fits .u8 ys) (c2 : Int) (v2 : (Lit.int .i64 c2).wf = true) (w : World) (s0 : SlicesOf .u8 w a0 xs0) (s1 : SliceOf .u8 w a1 ys) :
    Calls Try.prog 14 #[.slice a0 n0 cap0, .slice a1 ys.length cap1, .int .i64 c2] w fun e w' => e = .returned (.bool true) ∧ Gr w w' := by
  unfold maxLen at m0 m1 z0
  by_cases hy : ys.length ≤ 1048576
  · skip
    have HZ0 : Hid (∀ V, Gr w V → Calls Try.prog 35 #[.slice a0 n0 cap0, .int .i64 1048576] V (SzW 1048576 n0 xs0 V)) := hid (fun V g => szWordS_any a0 cap0 n0 1048576 xs0 l0 m0 (Nat.le_refl _) z0 V (s0.gr g))
    have HT0 := hid (fun (h : n0 ≤ 1048576) (hz : ∀ i, i < n0 → (xs0.getD i []).length ≤ 1048576) V (g : Gr w V) => toWordS_reads a0 cap0 n0 xs0 l0 h hz V (s0.gr g))
    have HE0 := hid (fun (h : n0 ≤ 1048576) hz p q V sa sb => eqWordS_own p q n0 n0 n0 xs0 l0 h hz V sa sb)
    have HZZ := hid (fun (h : ∀ i, i < n0 → (xs0.getD i []).length ≤ 1048576) i => show (xs0.getD i []).length ≤ 1048576 by
      by_cases hi : i < n0
      · exact h i hi
      · simp [List.getD, List.getElem?_eq_none (show xs0.length ≤ i by omega)])
    obtain ⟨l, hl⟩ : ∃ l, l = ys.length := ⟨_, rfl⟩
    have HSP := hid (fun h0 hz0 ad q V sa sb => spec_DecodeWord_any ad n0 xs0 l0 h0 hz0 f0 q l ys hl (by omega) f1 c2 V sa sb)
    have HIM := hid (fun h0 hz0 ad q V sa sb => impl_DecodeWord_any ad n0 xs0 l0 h0 hz0 f0 q l ys hl (by omega) f1 c2 V sa sb)
    have HT1 := hid (fun V (g : Gr w V) => toWord_own a1 cap1 ys hy V (s1.gr g))
    have HE1 := hid (fun p q V sa sb => eqWord_own p q ys.length ys.length ys hy V sa sb)
    rw [← hl] at HT1 HE1 hy ⊢
    generalize decV xs0 ys c2 = r0 at *
    generalize decC xs0 ys c2 = r1 at *
    clear l0 z0 f0 s0 s1 f1 m1 v2 hl
    go_enter Try.func14, Try.ntmps14
    go_wp2_with fail
    refine (HZ0.out w (Gr.refl _)).mono ?_
    rintro e W1 ⟨q1, rfl, hr1, rfl⟩
    rcases hr1 with rfl | ⟨h0, h1, hn1, hq1⟩
    · go_wp2_with fail
      go_ret
      exact ⟨rfl, Gr.refl _⟩
    · have hnn : ¬ q1 < 0 := by omega
      have Z0 := hid hq1
      have N0 := hid hn1
      have ZZ := hid (HZZ.out hq1)
      clear hq1 hn1
      go_wp2_with fail
      refine (HT0.out N0.out Z0.out _ (Gr.refl _)).mono ?_
      rintro e V2 ⟨rfl, r2, g2⟩
      have G := hid g2
      have R1 := hid r2
      clear r2 g2
      go_wp2_with fail
      refine (HT1.out _ G.out).mono ?_
      rintro e V3 ⟨rfl, r3, g3⟩
      replace R1 := hid (R1.out.gr g3)
      replace G := hid (G.out.trans g3)
      have R2 := hid (sliceOf_block (k := .u8) r3)
      clear r3 g3
      go_wp2_with fail
      refine (HSP.out N0.out ZZ.out _ _ _ R1.out R2.out).mono ?_
      rintro e V4 ⟨rfl, g4⟩
      replace R1 := hid (R1.out.gr g4)
      replace R2 := hid (R2.out.gr g4)
      replace G := hid (G.out.trans g4)
      clear g4
      clear R1 R2
      go_wp2_with fail
      refine (HT0.out N0.out Z0.out _ G.out).mono ?_
      rintro e V5 ⟨rfl, r5, g5⟩
      replace G := hid (G.out.trans g5)
      have R1 := hid r5
      clear r5 g5
      go_wp2_with fail
      refine (HT1.out _ G.out).mono ?_
      rintro e V6 ⟨rfl, r6, g6⟩
      replace R1 := hid (R1.out.gr g6)
      replace G := hid (G.out.trans g6)
      have R2 := hid (sliceOf_block (k := .u8) r6)
      clear r6 g6
      go_wp2_with fail
      refine (HIM.out N0.out ZZ.out _ _ _ R1.out R2.out).mono ?_
      rintro e V7 ⟨rfl, g7⟩
      replace R1 := hid (R1.out.gr g7)
      replace R2 := hid (R2.out.gr g7)
      replace G := hid (G.out.trans g7)
      clear g7
      go_wp2_with fail
      refine (HT0.out N0.out Z0.out _ G.out).mono ?_
      rintro e V8 ⟨rfl, r8, g8⟩
      replace R1 := hid (R1.out.gr g8)
      replace R2 := hid (R2.out.gr g8)
      replace G := hid (G.out.trans g8)
      have R3 := hid r8
      clear r8 g8
      go_wp2_with fail
      refine (HE0.out N0.out Z0.out _ _ _ R1.out R3.out).mono ?_
      rintro e V9 ⟨rfl, g9⟩
      replace R1 := hid (R1.out.gr g9)
      replace R2 := hid (R2.out.gr g9)
      replace R3 := hid (R3.out.gr g9)
      replace G := hid (G.out.trans g9)
      clear g9
      clear R1 R3
      go_wp2_with fail
      refine (HT1.out _ G.out).mono ?_
      rintro e V10 ⟨rfl, r10, g10⟩
      replace R2 := hid (R2.out.gr g10)
      replace G := hid (G.out.trans g10)
      have R3 := hid (sliceOf_block (k := .u8) r10)
      clear r10 g10
      go_wp2_with fail
      refine (HE1.out _ _ _ R2.out R3.out).mono ?_
      rintro e V11 ⟨rfl, g11⟩
      replace R2 := hid (R2.out.gr g11)
      replace R3 := hid (R3.out.gr g11)
      replace G := hid (G.out.trans g11)
      clear g11
      go_wp2_with fail
      go_ret
      exact ⟨rfl, G.out⟩
  · have hn' : 1048576 < ys.length := by omega
    clear hy s0 s1 f0 f1 v2 l0 z0
    generalize ys.length = l at *
    go_enter Try.func14, Try.ntmps14
    go_wp2_with fail
    go_ret
    exact ⟨rfl, Gr.refl _⟩
end Go.Proofs.Ytojdbeebgllhhaa
