/- Slices of slices of integers: what reads them. -/
import Derived.Test.YtoehcinpbnlbnaaSlices
namespace Go.Proofs.Ytoehcinpbnlbnaa
open Go.RowKit
/-- A slice whose elements are slices that hold these numbers. -/
def SlicesOf (k : IntKind) (w : World) (a : Option Addr) (xss : List (List Int)) : Prop :=
  ∀ i, i < xss.length → ∃ b off a' cap', a = some ⟨b, off, none⟩ ∧ w.cell? ⟨b, off + i, none⟩ = some (.slice a' (xss.getD i []).length cap') ∧ SliceOf k w a' (xss.getD i [])
theorem SlicesOf.gr {k : IntKind} {W w : World} {a : Option Addr} {xss : List (List Int)} (h : SlicesOf k W a xss) (hg : Gr W w) : SlicesOf k w a xss := by
  intro i hi
  obtain ⟨b, off, a', cap', e, hc, hs⟩ := h i hi
  exact ⟨b, off, a', cap', e, hg.cell hc, hs.gr hg⟩
set_option maxRecDepth 100000 in
set_option maxHeartbeats 1000000 in
theorem eqMeaningS_own (a b : Option Addr) (ca cb : Nat) (xss : List (List Int)) (hn : xss.length ≤ 1048576) (hm : ∀ i, (xss.getD i []).length ≤ 1048576) (w : World) (ha : SlicesOf .i8 w a xss) (hb : SlicesOf .i8 w b xss) :
    Calls Try.prog 15 #[.slice a xss.length ca, .slice b xss.length cb] w fun e w' => e = .returned (.bool true) ∧ Gr w w' := by
  have HA := hid ha
  have HB := hid hb
  have HM := hid hm
  clear ha hb hm
  obtain ⟨n, hxn⟩ : ∃ n, n = xss.length := ⟨_, rfl⟩
  rw [← hxn] at hn ⊢
  have HN := hid hxn
  clear hxn
  go_enter Try.func15, Try.ntmps15
  go_wp2_with fail
  go_loopw [5] (fun i wr => ∃ k : Nat, k ≤ n ∧ i = .int .i64 k ∧ Hid (Gr w wr)) (fun i _ => n - (intOf i).toNat)
  case atStart => exact ⟨0, Nat.zero_le _, rfl, hid (Gr.refl _)⟩
  case round =>
    obtain ⟨k, hk, rfl, hg⟩ := hrel
    by_cases hlt : k < n
    · obtain ⟨b0, o0, p0, c0, rfl, h0, s0⟩ := (HA.out.gr hg.out) k (by rw [← HN.out]; exact hlt)
      obtain ⟨b1, o1, p1, c1, rfl, h1, s1⟩ := (HB.out.gr hg.out) k (by rw [← HN.out]; exact hlt)
      have HQ := hid (HM.out k)
      have S0 := hid s0
      have S1 := hid s1
      clear s0 s1
      generalize xss.getD k [] = xs at *
      have CE := fun (V : World) (g : Gr wr V) => eqMeaning_own p0 p1 c0 c1 xs HQ.out V (S0.out.gr g) (S1.out.gr g)
      have HCE := hid CE
      clear CE
      generalize hl : xs.length = m at *
      clear hl
      have hb0 : (0 : Int) ≤ k := by omega
      have hb1 : (k : Int) < n := by omega
      go_wp2_with fail
      go_region_with (refine (HCE.out _ (by first | exact Gr.refl _ | exact (Gr.refl _).drew | exact (Gr.refl _).drewN _ | exact ((Gr.refl _).drew).drew)).mono ?_; rintro e V ⟨rfl, gV⟩; have GV : Gr w V := Gr.trans hg.out (by first | exact gV | exact Gr.trans ((Gr.refl _).drew) gV | exact Gr.trans ((Gr.refl _).drewN _) gV))
      all_goals
        go_wp2_with fail
        go_roundw
        case rel => exact ⟨k + 1, by omega, by go_num, hid (by first | assumption | exact Gr.drew (by assumption) | exact Gr.drewN (by assumption) _)⟩
        case measure => simp [intOf]; omega
    · go_wp2_with fail
      go_ret
      exact ⟨rfl, hg.out⟩
/-- How many there are in the first i. -/
def sumTo (ls : List Nat) (i : Nat) : Nat := (ls.take i).sum
theorem sumTo_succ {ls : List Nat} {i : Nat} (h : i < ls.length) : sumTo ls (i + 1) = sumTo ls i + ls.getD i 0 := by
  unfold sumTo
  rw [List.take_succ_eq_append_getElem h, List.sum_append]
  simp [List.getD, List.getElem?_eq_getElem h]
theorem sumTo_all (ls : List Nat) : sumTo ls ls.length = ls.sum := by unfold sumTo; rw [List.take_length]
theorem sumTo_le (ls : List Nat) (i : Nat) : sumTo ls i ≤ ls.sum := by
  have h : (ls.take i).sum + (ls.drop i).sum = ls.sum := by rw [← List.sum_append, List.take_append_drop]
  unfold sumTo
  omega
theorem sumTo_get {ls : List Nat} {i : Nat} (h : i < ls.length) : sumTo ls i + ls.getD i 0 ≤ ls.sum := by rw [← sumTo_succ h]; exact sumTo_le ls _
/-- Marks that rise through all the slices. -/
def markS (k0 : Nat) (ls : List Nat) : List (List Int) := (List.range ls.length).map fun i => markL .i8 (k0 + sumTo ls i) (ls.getD i 0)
theorem markS_length (k0 : Nat) (ls : List Nat) : (markS k0 ls).length = ls.length := by simp [markS]
theorem markS_get {k0 : Nat} {ls : List Nat} {i : Nat} (h : i < ls.length) : (markS k0 ls).getD i [] = markL .i8 (k0 + sumTo ls i) (ls.getD i 0) := by
  simp only [markS, List.getD_eq_getElem?_getD, List.getElem?_map, List.getElem?_range h]
  rfl
set_option maxRecDepth 100000 in
set_option maxHeartbeats 1000000 in
theorem heldMeaningS_own (a : Option Addr) (cap k0 n : Nat) (ls : List Nat) (hl : n = ls.length) (hn : n ≤ 1048576) (hsum : k0 + ls.sum ≤ 10) (w : World) (hs : SlicesOf .i8 w a (markS k0 ls)) :
    Calls Try.prog 19 #[.slice a n cap, .int .i64 k0] w fun e w' => e = .returned (.int .i64 (k0 + ls.sum : Nat)) ∧ Gr w w' := by
  have HS := hid hs
  have HL := hid hl
  have HSUM := hid hsum
  clear hs hl hsum
  have HALL := hid (sumTo_all ls)
  go_enter Try.func19, Try.ntmps19
  go_wp2_with fail
  go_loopw [1, 5] (fun q i wr => ∃ k : Nat, k ≤ n ∧ i = .int .i64 k ∧ q = .int .i64 (k0 + sumTo ls k : Nat) ∧ Hid (Gr w wr)) (fun _ i _ => n - (intOf i).toNat)
  case atStart => exact ⟨0, Nat.zero_le _, rfl, rfl, hid (Gr.refl _)⟩
  case round =>
    obtain ⟨k, hk, rfl, rfl, hg⟩ := hrel
    by_cases hlt : k < n
    · have hlt' : k < ls.length := by rw [← HL.out]; exact hlt
      obtain ⟨b0, o0, p0, c0, rfl, h0, s0⟩ := (HS.out.gr hg.out) k (by rw [markS_length]; exact hlt')
      rw [markS_get hlt', markL_length] at h0
      rw [markS_get hlt'] at s0
      have h1 := sumTo_get hlt'
      have h2 := HSUM.out
      have HST := hid (sumTo_succ hlt')
      obtain ⟨q, hq⟩ : ∃ q, q = k0 + sumTo ls k := ⟨_, rfl⟩
      obtain ⟨m, hm⟩ : ∃ m, m = ls.getD k 0 := ⟨_, rfl⟩
      rw [← hm] at h0 s0 h1 HST
      rw [← hq] at s0 ⊢
      have CE := heldMeaning_own p0 m c0 q (by omega) (by omega) wr s0
      obtain ⟨r, hr⟩ : ∃ r, r = q + m := ⟨_, rfl⟩
      rw [← hr] at CE
      have HR := hid (show r = k0 + sumTo ls (k + 1) by rw [HST.out]; omega)
      have HCE := hid CE
      clear CE s0 h1 h2 hq hm hr hlt'
      have hr0 : ¬ (r : Int) < 0 := by omega
      go_wp2_with fail
      refine HCE.out.mono ?_
      rintro e w1 ⟨rfl, g1⟩
      have G1 := hid (hg.out.trans g1)
      clear g1 h0
      go_wp2_with fail
      go_roundw
      case rel => exact ⟨k + 1, by omega, by go_num, by rw [HR.out], G1⟩
      case measure => simp [intOf]; omega
    · have hkn : k = ls.length := by rw [← HL.out]; omega
      have HK := hid (show sumTo ls k = ls.sum by rw [hkn, HALL.out])
      clear hkn
      go_wp2_with fail
      go_ret
      exact ⟨ret_int (by rw [HK.out]), hg.out⟩
end Go.Proofs.Ytoehcinpbnlbnaa
