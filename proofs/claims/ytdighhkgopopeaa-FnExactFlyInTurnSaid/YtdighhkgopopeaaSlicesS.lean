/- Slices of slices of integers: what reads them. -/
import Derived.Test.YtdighhkgopopeaaSlices
import Derived.Test.YtdighhkgopopeaaSlicesO
namespace Go.Proofs.Ytdighhkgopopeaa
set_option linter.unusedVariables false
open Go.RowKit
set_option maxRecDepth 100000 in
set_option maxHeartbeats 1000000 in
theorem eqMeaningS_own (a b : Option Addr) (ca cb : Nat) (xss : List (List Int)) (hn : xss.length ≤ 1048576) (hm : ∀ i, (xss.getD i []).length ≤ 1048576) (w : World) (ha : SlicesOf .i8 w a xss) (hb : SlicesOf .i8 w b xss) :
    Calls Try.prog 19 #[.slice a xss.length ca, .slice b xss.length cb] w fun e w' => e = .returned (.bool true) ∧ Gr w w' := by
  have HA := hid ha
  have HB := hid hb
  have HM := hid hm
  clear ha hb hm
  obtain ⟨n, hxn⟩ : ∃ n, n = xss.length := ⟨_, rfl⟩
  rw [← hxn] at hn ⊢
  have HN := hid hxn
  clear hxn
  go_enter Try.func19, Try.ntmps19
  go_wp2_with fail
  go_loopw [5] (fun i wr => ∃ k : Nat, k ≤ n ∧ i = .int .i64 k ∧ Hid (Gr w wr)) (fun i _ => n - (intOf i).toNat)
  case atStart => exact ⟨0, Nat.zero_le _, rfl, hid (Gr.refl _)⟩
  case round =>
    obtain ⟨k, hk, rfl, hg⟩ := hrel
    by_cases hlt : k < n
    · obtain ⟨b0, o0, p0, c0, rfl, h0, s0⟩ := (HA.out.gr hg.out) k (by rw [← HN.out]; exact hlt)
      obtain ⟨b1, o1, p1, c1, rfl, h1, s1⟩ := (HB.out.gr hg.out) k (by rw [← HN.out]; exact hlt)
      have HQ := hid (HM.out k)
      have S0 := hid s0
      have S1 := hid s1
      clear s0 s1
      generalize xss.getD k [] = xs at *
      have CE := fun (V : World) (g : Gr wr V) => eqMeaning_own p0 p1 c0 c1 xs HQ.out V (S0.out.gr g) (S1.out.gr g)
      have HCE := hid CE
      clear CE
      generalize hl : xs.length = m at *
      clear hl
      have hb0 : (0 : Int) ≤ k := by omega
      have hb1 : (k : Int) < n := by omega
      go_wp2_with fail
      go_region_with (refine (HCE.out _ (by first | exact Gr.refl _ | exact (Gr.refl _).drew | exact (Gr.refl _).drewN _ | exact ((Gr.refl _).drew).drew)).mono ?_; rintro e V ⟨rfl, gV⟩; have GV : Gr w V := Gr.trans hg.out (by first | exact gV | exact Gr.trans ((Gr.refl _).drew) gV | exact Gr.trans ((Gr.refl _).drewN _) gV))
      all_goals
        go_wp2_with fail
        go_roundw
        case rel => exact ⟨k + 1, by omega, by go_num, hid (by first | assumption | exact Gr.drew (by assumption) | exact Gr.drewN (by assumption) _)⟩
        case measure => simp [intOf]; omega
    · go_wp2_with fail
      go_ret
      exact ⟨rfl, hg.out⟩
/-- How many there are in the first i. -/
def sumTo (ls : List Nat) (i : Nat) : Nat := (ls.take i).sum
theorem sumTo_succ {ls : List Nat} {i : Nat} (h : i < ls.length) : sumTo ls (i + 1) = sumTo ls i + ls.getD i 0 := by
  unfold sumTo
  rw [List.take_succ_eq_append_getElem h, List.sum_append]
  simp [List.getD, List.getElem?_eq_getElem h]
theorem sumTo_all (ls : List Nat) : sumTo ls ls.length = ls.sum := by unfold sumTo; rw [List.take_length]
theorem sumTo_le (ls : List Nat) (i : Nat) : sumTo ls i ≤ ls.sum := by
  have h : (ls.take i).sum + (ls.drop i).sum = ls.sum := by rw [← List.sum_append, List.take_append_drop]
  unfold sumTo
  omega
theorem sumTo_get {ls : List Nat} {i : Nat} (h : i < ls.length) : sumTo ls i + ls.getD i 0 ≤ ls.sum := by rw [← sumTo_succ h]; exact sumTo_le ls _
/-- Marks that rise through all the slices. -/
def markS (k0 : Nat) (ls : List Nat) : List (List Int) := (List.range ls.length).map fun i => markL .i8 (k0 + sumTo ls i) (ls.getD i 0)
theorem markS_length (k0 : Nat) (ls : List Nat) : (markS k0 ls).length = ls.length := by simp [markS]
theorem markS_get {k0 : Nat} {ls : List Nat} {i : Nat} (h : i < ls.length) : (markS k0 ls).getD i [] = markL .i8 (k0 + sumTo ls i) (ls.getD i 0) := by
  simp only [markS, List.getD_eq_getElem?_getD, List.getElem?_map, List.getElem?_range h]
  rfl
end Go.Proofs.Ytdighhkgopopeaa
