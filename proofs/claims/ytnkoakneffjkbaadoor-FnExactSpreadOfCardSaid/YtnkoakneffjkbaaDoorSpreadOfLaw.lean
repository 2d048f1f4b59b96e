/- SpreadOf: the law's walk. -/
import Derived.Test.YtnkoakneffjkbaaDoorSpreadP
import Derived.Test.YtnkoakneffjkbaaDoorLogsB
namespace Go.Proofs.YtnkoakneffjkbaaDoor
set_option linter.unusedVariables false
open Go.RowKit
set_option maxRecDepth 100000 in
set_option maxHeartbeats 2000000 in
theorem FnExactSpreadOf_walk (a0 : Option Addr) (cap n : Nat) (ls : List Lg) (hl : n = ls.length) (hm : n ≤ 9223372036854775807) (hsz : ∀ i, (lgAt ls i).es.length ≤ 9223372036854775807) (hf : ∀ i, EnFits (lgAt ls i).es) (s : Int) (w : World) (hs : LogsRaw w a0 ls) :
    Calls Tryd.prog 5 #[.slice a0 n cap, .int .i64 s] w fun e w' => e = .returned (.bool true) ∧ Gr w w' := by
  have HZ1 := hid (szLogS_any a0 cap n 1048576 ls hl hm (Nat.le_refl _) hsz w hs)
  have HTA := hid (fun (h : n ≤ 1048576) (hz : ∀ i, i < n → (lgAt ls i).es.length ≤ 1048576) (V : World) (g : Gr w V) => toLogS_at a0 cap n ls hl h hz hf V (hs.gr g))
  have HLEN := hid (fun (L : List Lg) (h : esOf L = esOf ls) => show n = L.length by rw [hl, ← es_length ls, ← h, es_length])
  have HSP := hid (fun (h : n ≤ 1048576) (L : List Lg) (hL : esOf L = esOf ls) (p : Option Addr) (V : World) (sa : LogsAt V p L) => spec_SpreadOf_any p n n L (HLEN.out L hL) h s V sa)
  have HIM := hid (fun (h : n ≤ 1048576) (L : List Lg) (hL : esOf L = esOf ls) (p : Option Addr) (V : World) (sa : LogsAt V p L) => impl_SpreadOf_any p n n L (HLEN.out L hL) h s V sa)
  have HSAME := hid (fun (L : List Lg) (hL : esOf L = esOf ls) => sp_same hL s)
  have HEQ := hid (fun (h : n ≤ 1048576) (L M : List Lg) (hL : esOf L = esOf ls) (hM : esOf M = esOf ls) (p q : Option Addr) (V : World) (sa : LogsAt V p L) (sb : LogsAt V q M) => eqLogS_any p q n n n L M (HLEN.out L hL) h (hL.trans hM.symm) V sa sb)
  clear hl hsz hs hf HLEN
  go_enter Tryd.func5, Tryd.ntmps5
  go_wp2_with fail
  refine HZ1.out.mono ?_
  rintro e w' ⟨r, rfl, hr, rfl⟩
  rcases hr with rfl | ⟨h0, h1, h2, h3⟩
  · go_wp2_with fail
    go_ret
    exact ⟨rfl, Gr.refl _⟩
  have hn0 : ¬ r < 0 := by omega
  have HN := hid h2
  have HZ := hid h3
  clear h0 h1 h2 h3
  go_wp2_with fail
  refine (HTA.out HN.out HZ.out _ (Gr.refl _)).mono ?_
  rintro e W1 ⟨rfl, ⟨L1, hL1, s1⟩, g1⟩
  have E1 := hid hL1
  have S1 := hid s1
  have gr := hid g1
  clear s1 g1 hL1
  have C1 := hid (HSP.out HN.out L1 E1.out _ _ S1.out)
  rw [(HSAME.out L1 E1.out).1, (HSAME.out L1 E1.out).2.1, (HSAME.out L1 E1.out).2.2] at C1
  have HI2 := hid (fun (L : List Lg) (hL : esOf L = esOf ls) (p : Option Addr) (V : World) (sa : LogsAt V p L) => show Calls Tryd.prog 21 #[.slice p n n, .int .i64 s] V (Ret3 (spLo ls s) (spHi ls s) (spC ls s) V) by
    have h := HIM.out HN.out L hL p V sa
    rw [(HSAME.out L hL).1, (HSAME.out L hL).2.1, (HSAME.out L hL).2.2] at h
    exact h)
  clear HSP HIM HSAME
  generalize spLo ls s = x at *
  generalize spHi ls s = y at *
  generalize spC ls s = c at *
  go_wp2_with fail
  refine C1.out.mono ?_
  rintro e W2 ⟨rfl, g2⟩
  replace gr := hid (gr.out.trans g2)
  clear g2 S1 C1
  go_wp2_with fail
  refine (HTA.out HN.out HZ.out _ gr.out).mono ?_
  rintro e W3 ⟨rfl, ⟨L3, hL3, s3⟩, g3⟩
  have E3 := hid hL3
  have S3 := hid s3
  replace gr := hid (gr.out.trans g3)
  clear s3 g3 hL3
  go_wp2_with fail
  refine (HI2.out L3 E3.out _ _ S3.out).mono ?_
  rintro e W4 ⟨rfl, g4⟩
  replace gr := hid (gr.out.trans g4)
  replace S3 := hid (S3.out.gr g4)
  clear g4
  go_wp2_with fail
  refine (HTA.out HN.out HZ.out _ gr.out).mono ?_
  rintro e W5 ⟨rfl, ⟨L5, hL5, s5⟩, g5⟩
  have E5 := hid hL5
  have S5 := hid s5
  replace gr := hid (gr.out.trans g5)
  replace S3 := hid (S3.out.gr g5)
  clear s5 g5 hL5
  go_wp2_with fail
  refine (HEQ.out HN.out L3 L5 E3.out E5.out _ _ _ S3.out S5.out).mono ?_
  rintro e W6 ⟨rfl, g6⟩
  replace gr := hid (gr.out.trans g6)
  clear g6
  go_wp2_with fail
  go_ret
  exact ⟨rfl, gr.out⟩
end Go.Proofs.YtnkoakneffjkbaaDoor
