/- TextFromHoists: the law's walk. -/
import Derived.Test.YtfaiehjomcgjgaaTfh
namespace Go.Proofs.Ytfaiehjomcgjgaa
set_option linter.unusedVariables false
open Go.RowKit
set_option maxHeartbeats 4000000 in
set_option maxRecDepth 100000 in
theorem FnExactTextFromHoists_walk (a : Option Addr) (ca n : Nat) (xss : List (List Int)) (hl : n = xss.length) (hm : n ≤ 9223372036854775807) (hsz : ∀ i, (xss.getD i []).length ≤ 9223372036854775807) (hf : ∀ i, Fits .i8 (xss.getD i [])) (w : World) (hs : SlicesOf .i8 w a xss) :
    Calls Try.prog 3 #[.slice a n ca] w fun e w' => e = .returned (.bool true) ∧ Gr w w' := by
  have HZ1 := hid (szHoistS_any a ca n 1048576 xss hl hm (Nat.le_refl _) hsz w hs)
  have HTA := hid (fun (h : n ≤ 1048576) (hz : ∀ i, i < n → (xss.getD i []).length ≤ 1048576) (V : World) (g : Gr w V) => toHoistS_reads a ca n xss hl h hz V (hs.gr g))
  have HSP := hid (fun (h : n ≤ 1048576) (hz : ∀ i, i < n → (xss.getD i []).length ≤ 1048576) (p : Option Addr) (V : World) (sa : SlicesX V p xss) => spec_TextFromHoists_any p n n xss hl h hz hf V sa)
  have HIM := hid (fun (h : n ≤ 1048576) (hz : ∀ i, i < n → (xss.getD i []).length ≤ 1048576) (p : Option Addr) (V : World) (sa : SlicesX V p xss) => impl_TextFromHoists_any p n n xss hl h hz hf V sa)
  have HEQ := hid (fun (h : n ≤ 1048576) (hz : ∀ i, i < n → (xss.getD i []).length ≤ 1048576) (p q : Option Addr) (V : World) (sa : SlicesX V p xss) (sb : SlicesX V q xss) => eqHoistS_own p q n n n xss hl h hz V sa.of sb.of)
  generalize tfhV xss = r0 at *
  generalize tfhC xss = r1 at *
  clear hl hsz hs hf
  go_enter Try.func3, Try.ntmps3
  go_wp2_with fail
  refine HZ1.out.mono ?_
  rintro e w' ⟨r, rfl, hr, rfl⟩
  rcases hr with rfl | ⟨h0, h1, h2, h3⟩
  · go_wp2_with fail
    go_ret
    exact ⟨rfl, Gr.refl _⟩
  have hn0 : ¬ r < 0 := by omega
  have HN := hid h2
  have HZ := hid h3
  clear h0 h1 h2 h3
  go_wp2_with fail
  refine (HTA.out HN.out HZ.out _ (Gr.refl _)).mono ?_
  rintro e W1 ⟨rfl, s1, g1⟩
  have S1 := hid s1
  have gr := hid g1
  clear s1 g1
  go_wp2_with fail
  refine (HSP.out HN.out HZ.out _ _ S1.out).mono ?_
  rintro e W2 ⟨rfl, g2⟩
  replace gr := hid (gr.out.trans g2)
  clear g2 S1
  go_wp2_with fail
  refine (HTA.out HN.out HZ.out _ gr.out).mono ?_
  rintro e W3 ⟨rfl, s3, g3⟩
  have S3 := hid s3
  replace gr := hid (gr.out.trans g3)
  clear s3 g3
  go_wp2_with fail
  refine (HIM.out HN.out HZ.out _ _ S3.out).mono ?_
  rintro e W4 ⟨rfl, g4⟩
  replace gr := hid (gr.out.trans g4)
  replace S3 := hid (S3.out.gr g4)
  clear g4
  go_wp2_with fail
  refine (HTA.out HN.out HZ.out _ gr.out).mono ?_
  rintro e W5 ⟨rfl, s5, g5⟩
  have S5 := hid s5
  replace gr := hid (gr.out.trans g5)
  replace S3 := hid (S3.out.gr g5)
  clear s5 g5
  go_wp2_with fail
  refine (HEQ.out HN.out HZ.out _ _ _ S3.out S5.out).mono ?_
  rintro e W6 ⟨rfl, g6⟩
  replace gr := hid (gr.out.trans g6)
  clear g6
  go_wp2_with fail
  go_ret
  exact ⟨rfl, gr.out⟩
end Go.Proofs.Ytfaiehjomcgjgaa
