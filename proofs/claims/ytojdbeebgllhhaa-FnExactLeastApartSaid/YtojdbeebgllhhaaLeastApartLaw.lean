/- LeastApart: the law's walk. -/
import Derived.Test.YtojdbeebgllhhaaLeastI
namespace Go.Proofs.Ytojdbeebgllhhaa
open Go.RowKit
set_option maxRecDepth 100000 in
set_option maxHeartbeats 2000000 in
set_option linter.unusedVariables false in
theorem FnExactLeastApart_walk (a0 : Option Addr) (n0 cap0 : Nat) (xs0 : List (List Int)) (l0 : n0 = xs0.length) (m0 : n0 ≤ maxLen) (z0 : ∀ i, (xs0.getD i []).length ≤ maxLen) (f0 : ∀ i, Fits .u8 (xs0.getD i [])) (w : World) (s0 : SlicesOf .u8 w a0 xs0) :
    Calls Try.prog 13 #[.slice a0 n0 cap0] w fun e w' => e = .returned (.bool true) ∧ Gr w w' := by
  unfold maxLen at m0 z0
  have HZ0 : Hid (∀ V, Gr w V → Calls Try.prog 35 #[.slice a0 n0 cap0, .int .i64 1048576] V (SzW 1048576 n0 xs0 V)) := hid (fun V g => szWordS_any a0 cap0 n0 1048576 xs0 l0 m0 (Nat.le_refl _) z0 V (s0.gr g))
  have HT0 := hid (fun (h : n0 ≤ 1048576) (hz : ∀ i, i < n0 → (xs0.getD i []).length ≤ 1048576) V (g : Gr w V) => toWordS_reads a0 cap0 n0 xs0 l0 h hz V (s0.gr g))
  have HE0 := hid (fun (h : n0 ≤ 1048576) hz p q V sa sb => eqWordS_own p q n0 n0 n0 xs0 l0 h hz V sa sb)
  have HZZ := hid (fun (h : ∀ i, i < n0 → (xs0.getD i []).length ≤ 1048576) i => show (xs0.getD i []).length ≤ 1048576 by
    by_cases hi : i < n0
    · exact h i hi
    · simp [List.getD, List.getElem?_eq_none (show xs0.length ≤ i by omega)])
  have HSP := hid (fun h0 hz0 a V sa => spec_LeastApart_any a n0 xs0 l0 h0 hz0 f0 V sa)
  have HIM := hid (fun h0 hz0 ad V sa => impl_LeastApart_any ad n0 xs0 l0 h0 hz0 f0 V sa)
  generalize leastV xs0 = r0 at *
  generalize leastC xs0 = r1 at *
  clear l0 z0 f0 s0
  go_enter Try.func13, Try.ntmps13
  go_wp2_with fail
  refine (HZ0.out w (Gr.refl _)).mono ?_
  rintro e W1 ⟨q1, rfl, hr1, rfl⟩
  rcases hr1 with rfl | ⟨h0, h1, hn1, hq1⟩
  · go_wp2_with fail
    go_ret
    exact ⟨rfl, Gr.refl _⟩
  · have hnn : ¬ q1 < 0 := by omega
    have Z0 := hid hq1
    have N0 := hid hn1
    have ZZ := hid (HZZ.out hq1)
    clear hq1 hn1
    go_wp2_with fail
    refine (HT0.out N0.out Z0.out _ (Gr.refl _)).mono ?_
    rintro e V2 ⟨rfl, r2, g2⟩
    have G := hid g2
    have R1 := hid r2
    clear r2 g2
    go_wp2_with fail
    refine (HSP.out N0.out ZZ.out _ _ R1.out).mono ?_
    rintro e V3 ⟨rfl, g3⟩
    replace R1 := hid (R1.out.gr g3)
    replace G := hid (G.out.trans g3)
    clear g3
    clear R1
    go_wp2_with fail
    refine (HT0.out N0.out Z0.out _ G.out).mono ?_
    rintro e V4 ⟨rfl, r4, g4⟩
    replace G := hid (G.out.trans g4)
    have R1 := hid r4
    clear r4 g4
    go_wp2_with fail
    refine (HIM.out N0.out ZZ.out _ _ R1.out).mono ?_
    rintro e V5 ⟨rfl, g5⟩
    replace R1 := hid (R1.out.gr g5)
    replace G := hid (G.out.trans g5)
    clear g5
    go_wp2_with fail
    refine (HT0.out N0.out Z0.out _ G.out).mono ?_
    rintro e V6 ⟨rfl, r6, g6⟩
    replace R1 := hid (R1.out.gr g6)
    replace G := hid (G.out.trans g6)
    have R3 := hid r6
    clear r6 g6
    go_wp2_with fail
    refine (HE0.out N0.out Z0.out _ _ _ R1.out R3.out).mono ?_
    rintro e V7 ⟨rfl, g7⟩
    replace R1 := hid (R1.out.gr g7)
    replace R3 := hid (R3.out.gr g7)
    replace G := hid (G.out.trans g7)
    clear g7
    go_wp2_with fail
    go_ret
    exact ⟨rfl, G.out⟩
end Go.Proofs.Ytojdbeebgllhhaa
