/- SameWords: the law's walk. -/
import Derived.Test.YtojdbeebgllhhaaSameWords
namespace Go.Proofs.Ytojdbeebgllhhaa
open Go.RowKit
set_option maxRecDepth 100000 in
set_option maxHeartbeats 4000000 in
set_option linter.unusedVariables false in
theorem FnExactSameWords_walk (a0 : Option Addr) (n0 cap0 : Nat) (xs0 : List (List Int)) (l0 : n0 = xs0.length) (m0 : n0 ≤ maxLen) (z0 : ∀ i, (xs0.getD i []).length ≤ maxLen) (a1 : Option Addr) (n1 cap1 : Nat) (xs1 : List (List Int)) (l1 : n1 = xs1.length) (m1 : n1 ≤ maxLen) (z1 : ∀ i, (xs1.getD i []).length ≤ maxLen) (w : World) (s0 : SlicesOf .u8 w a0 xs0) (s1 : SlicesOf .u8 w a1 xs1) :
    Calls Try.prog 11 #[.slice a0 n0 cap0, .slice a1 n1 cap1] w fun e w' => e = .returned (.bool true) ∧ Gr w w' := by
  unfold maxLen at m0 m1 z0 z1
  have HZ0 : Hid (∀ V, Gr w V → Calls Try.prog 35 #[.slice a0 n0 cap0, .int .i64 1048576] V (SzW 1048576 n0 xs0 V)) := hid (fun V g => szWordS_any a0 cap0 n0 1048576 xs0 l0 m0 (Nat.le_refl _) z0 V (s0.gr g))
  have HZ1 := hid (fun (r : Nat) (hr : r ≤ 1048576) V (g : Gr w V) => szWordS_any a1 cap1 n1 r xs1 l1 m1 hr z1 V (s1.gr g))
  have HT0 := hid (fun (h : n0 ≤ 1048576) (hz : ∀ i, i < n0 → (xs0.getD i []).length ≤ 1048576) V (g : Gr w V) => toWordS_reads a0 cap0 n0 xs0 l0 h hz V (s0.gr g))
  have HT1 := hid (fun (h : n1 ≤ 1048576) (hz : ∀ i, i < n1 → (xs1.getD i []).length ≤ 1048576) V (g : Gr w V) => toWordS_reads a1 cap1 n1 xs1 l1 h hz V (s1.gr g))
  have HE0 := hid (fun (h : n0 ≤ 1048576) hz p q V sa sb => eqWordS_own p q n0 n0 n0 xs0 l0 h hz V sa sb)
  have HE1 := hid (fun (h : n1 ≤ 1048576) hz p q V sa sb => eqWordS_own p q n1 n1 n1 xs1 l1 h hz V sa sb)
  have HSP := hid (fun h0 hz0 h1 hz1 p q V sa sb => spec_SameWords_any p n0 n0 xs0 l0 h0 hz0 q n1 n1 xs1 l1 h1 hz1 V sa sb)
  have HIM := hid (fun h0 hz0 h1 hz1 p q V sa sb => impl_SameWords_any p n0 n0 xs0 l0 h0 hz0 q n1 n1 xs1 l1 h1 hz1 V sa sb)
  generalize eqSB xs0 xs1 = r at *
  clear l0 l1 z0 z1 s0 s1
  go_enter Try.func11, Try.ntmps11
  go_wp2_with fail
  refine (HZ0.out w (Gr.refl _)).mono ?_
  rintro e W1 ⟨r1, rfl, hr1, rfl⟩
  rcases hr1 with rfl | ⟨h0, h1, hn1, hq1⟩
  · go_wp2_with fail
    go_ret
    exact ⟨rfl, Gr.refl _⟩
  · obtain ⟨q1, rfl⟩ := Int.eq_ofNat_of_zero_le h0
    have hqq : q1 ≤ 1048576 := by omega
    have hnn : ¬ (q1 : Int) < 0 := by omega
    have Z0 := hid hq1
    have N0 := hid hn1
    clear hq1 hn1
    go_wp2_with fail
    refine (HZ1.out q1 hqq w (Gr.refl _)).mono ?_
    rintro e W1 ⟨r2, rfl, hr2, rfl⟩
    rcases hr2 with rfl | ⟨h2, h3, hn2, hq2⟩
    · go_wp2_with fail
      go_ret
      exact ⟨rfl, Gr.refl _⟩
    · have hn3 : ¬ r2 < 0 := by omega
      have N1 := hid (show n1 ≤ 1048576 by omega)
      have Z1 : Hid (∀ i, i < n1 → (xs1.getD i []).length ≤ 1048576) := hid (fun i hi => Nat.le_trans (hq2 i hi) hqq)
      clear hq2 hn2
      go_wp2_with fail
      refine (HT0.out N0.out Z0.out _ (Gr.refl _)).mono ?_
      rintro e V1 ⟨rfl, r1, g1⟩
      have R1 := hid r1
      have G := hid g1
      clear r1 g1
      go_wp2_with fail
      refine (HT1.out N1.out Z1.out _ G.out).mono ?_
      rintro e V2 ⟨rfl, r2, g2⟩
      have R2 := hid r2
      replace R1 := hid (R1.out.gr g2)
      replace G := hid (G.out.trans g2)
      clear r2 g2
      go_wp2_with fail
      refine (HSP.out N0.out Z0.out N1.out Z1.out _ _ _ R1.out R2.out).mono ?_
      rintro e V3 ⟨rfl, g3⟩
      replace G := hid (G.out.trans g3)
      clear g3 R1 R2
      go_wp2_with fail
      refine (HT0.out N0.out Z0.out _ G.out).mono ?_
      rintro e V4 ⟨rfl, r4, g4⟩
      have R1 := hid r4
      replace G := hid (G.out.trans g4)
      clear r4 g4
      go_wp2_with fail
      refine (HT1.out N1.out Z1.out _ G.out).mono ?_
      rintro e V5 ⟨rfl, r5, g5⟩
      have R2 := hid r5
      replace R1 := hid (R1.out.gr g5)
      replace G := hid (G.out.trans g5)
      clear r5 g5
      go_wp2_with fail
      refine (HIM.out N0.out Z0.out N1.out Z1.out _ _ _ R1.out R2.out).mono ?_
      rintro e V6 ⟨rfl, g6⟩
      replace R1 := hid (R1.out.gr g6)
      replace R2 := hid (R2.out.gr g6)
      replace G := hid (G.out.trans g6)
      clear g6
      go_wp2_with fail
      refine (HT0.out N0.out Z0.out _ G.out).mono ?_
      rintro e V7 ⟨rfl, r7, g7⟩
      have R3 := hid r7
      replace R1 := hid (R1.out.gr g7)
      replace R2 := hid (R2.out.gr g7)
      replace G := hid (G.out.trans g7)
      clear r7 g7
      go_wp2_with fail
      refine (HE0.out N0.out Z0.out _ _ _ R1.out R3.out).mono ?_
      rintro e V8 ⟨rfl, g8⟩
      replace R2 := hid (R2.out.gr g8)
      replace G := hid (G.out.trans g8)
      clear g8 R1 R3
      go_wp2_with fail
      refine (HT1.out N1.out Z1.out _ G.out).mono ?_
      rintro e V9 ⟨rfl, r9, g9⟩
      have R3 := hid r9
      replace R2 := hid (R2.out.gr g9)
      replace G := hid (G.out.trans g9)
      clear r9 g9
      go_wp2_with fail
      refine (HE1.out N1.out Z1.out _ _ _ R2.out R3.out).mono ?_
      rintro e V10 ⟨rfl, g10⟩
      replace G := hid (G.out.trans g10)
      clear g10
      go_wp2_with fail
      go_ret
      exact ⟨rfl, G.out⟩
end Go.Proofs.Ytojdbeebgllhhaa
