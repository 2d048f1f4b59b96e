/- SameWords: the functions. -/
import Derived.Test.YtojdbeebgllhhaaWordE
import Derived.Test.YtojdbeebgllhhaaWordsW
namespace Go.Proofs.Ytojdbeebgllhhaa
open Go.RowKit
def eqSB (xss yss : List (List Int)) : Bool := decide (xss = yss)
theorem eqSB_len {xss yss : List (List Int)} (h : ¬ xss.length = yss.length) : eqSB xss yss = false := decide_eq_false (fun e => h (by rw [e]))
theorem eqSB_at {xss yss : List (List Int)} {k : Nat} (h : eqLB (xss.getD k []) (yss.getD k []) = false) : eqSB xss yss = false := decide_eq_false (fun e => by rw [e] at h; unfold eqLB at h; simp at h)
theorem eqSB_all {xss yss : List (List Int)} {n : Nat} (hx : xss.length = n) (hy : yss.length = n) (h : ∀ i, i < n → eqLB (xss.getD i []) (yss.getD i []) = true) : eqSB xss yss = true := by
  refine decide_eq_true (List.ext_getElem (by omega) fun i h1 h2 => ?_)
  have := h i (by omega)
  unfold eqLB at this
  simpa [List.getD, List.getElem?_eq_getElem h1, List.getElem?_eq_getElem h2] using this

set_option maxRecDepth 100000 in
set_option maxHeartbeats 2000000 in
theorem spec_SameWords_any (a : Option Addr) (n ca : Nat) (xss : List (List Int)) (hn : n = xss.length) (hm : n ≤ 1048576) (hz : ∀ i, i < n → (xss.getD i []).length ≤ 1048576) (b : Option Addr) (m cb : Nat) (yss : List (List Int)) (hn2 : m = yss.length) (hm2 : m ≤ 1048576) (hz2 : ∀ i, i < m → (yss.getD i []).length ≤ 1048576) (w : World) (hs : SlicesOf .u8 w a xss) (ht : SlicesOf .u8 w b yss) :
    Calls Try.prog 36 #[.slice a n ca, .slice b m cb] w fun e w' => e = .returned (.bool (eqSB xss yss)) ∧ Gr w w' := by
  have HA := hid hs
  have HB := hid ht
  have HN := hid hn
  have HM := hid hn2
  have HZ := hid hz
  have HZ2 := hid hz2
  clear hs ht hn hn2 hz hz2
  by_cases hl : n = m
  · subst hl
    have HAT := hid (fun k (h : eqLB (xss.getD k []) (yss.getD k []) = false) => eqSB_at h)
    have HALL := hid (fun h => eqSB_all (n := n) HN.out.symm HM.out.symm h)
    generalize eqSB xss yss = r at *
    go_enter Try.func36, Try.ntmps36
    go_wp2_with fail
    go_loopw [5] (fun i wr => ∃ k : Nat, k ≤ n ∧ i = .int .i64 k ∧ Hid (∀ i, i < k → eqLB (xss.getD i []) (yss.getD i []) = true) ∧ Hid (Gr w wr)) (fun i _ => n - (intOf i).toNat)
    case atStart => exact ⟨0, Nat.zero_le _, rfl, hid (fun i hi => by omega), hid (Gr.refl _)⟩
    case round =>
      obtain ⟨k, hk, rfl, hq, hg⟩ := hrel
      by_cases hlt : k < n
      · obtain ⟨b0, o0, p0, c0, rfl, h0, s0⟩ := (HA.out.gr hg.out) k (by rw [← HN.out]; exact hlt)
        obtain ⟨b1, o1, p1, c1, rfl, h1, s1⟩ := (HB.out.gr hg.out) k (by rw [← HM.out]; exact hlt)
        have z0 := HZ.out k hlt
        have z1 := HZ2.out k hlt
        have S0 := hid s0
        have S1 := hid s1
        have HF := hid (HAT.out k)
        have HST := hid (fun (h : eqLB (xss.getD k []) (yss.getD k []) = true) i (hi : i < k + 1) => show eqLB (xss.getD i []) (yss.getD i []) = true by
          by_cases e : i = k
          · rw [e]; exact h
          · exact hq.out i (by omega))
        clear s0 s1 hq
        generalize xss.getD k [] = xs at *
        generalize yss.getD k [] = ys at *
        have HCE := hid (fun (V : World) (g : Gr wr V) => l05Same_any p0 _ c0 xs rfl z0 p1 _ c1 ys rfl z1 V (S0.out.gr g) (S1.out.gr g))
        generalize eqLB xs ys = q at *
        generalize hl0 : xs.length = l0 at *
        generalize hl1 : ys.length = l1 at *
        clear hl0 hl1
        have hb0 : (0 : Int) ≤ k := by omega
        have hb1 : (k : Int) < n := by omega
        cases q
        · have HR := hid (HF.out rfl)
          clear HF HST
          go_wp2_with fail
          go_region_with (refine (HCE.out _ (by first | exact Gr.refl _ | exact (Gr.refl _).drew | exact (Gr.refl _).drewN _ | exact ((Gr.refl _).drew).drew)).mono ?_; rintro e V ⟨rfl, gV⟩; have GV : Gr w V := Gr.trans hg.out (by first | exact gV | exact Gr.trans ((Gr.refl _).drew) gV | exact Gr.trans ((Gr.refl _).drewN _) gV))
          all_goals
            go_wp2_with fail
            go_ret
            exact ⟨ret_bool HR.out.symm, by first | assumption | exact Gr.drew (by assumption) | exact Gr.drewN (by assumption) _⟩
        · have HQ := hid (HST.out rfl)
          clear HF HST
          go_wp2_with fail
          go_region_with (refine (HCE.out _ (by first | exact Gr.refl _ | exact (Gr.refl _).drew | exact (Gr.refl _).drewN _ | exact ((Gr.refl _).drew).drew)).mono ?_; rintro e V ⟨rfl, gV⟩; have GV : Gr w V := Gr.trans hg.out (by first | exact gV | exact Gr.trans ((Gr.refl _).drew) gV | exact Gr.trans ((Gr.refl _).drewN _) gV))
          all_goals
            go_wp2_with fail
            go_roundw
            case rel => exact ⟨k + 1, by omega, by go_num, HQ, hid (by first | assumption | exact Gr.drew (by assumption) | exact Gr.drewN (by assumption) _)⟩
            case measure => simp [intOf]; omega
      · have HT := hid (HALL.out (fun i hi => hq.out i (by omega)))
        clear hq
        go_wp2_with fail
        go_ret
        exact ⟨ret_bool HT.out.symm, hg.out⟩
  · have HF := hid (eqSB_len (xss := xss) (yss := yss) (by rw [← HN.out, ← HM.out]; exact hl))
    have hlb : ((n : Int) != (m : Int)) = true := by rw [bne_iff_ne]; omega
    have hle : ((n : Int) == (m : Int)) = false := by rw [beq_eq_false_iff_ne]; omega
    go_enter Try.func36, Try.ntmps36
    go_wp2_with fail
    go_ret
    exact ⟨ret_bool HF.out.symm, Gr.refl _⟩

set_option maxRecDepth 100000 in
set_option maxHeartbeats 2000000 in
theorem equalFunc_any (a : Option Addr) (n ca : Nat) (xss : List (List Int)) (hn : n = xss.length) (hm : n ≤ 1048576) (hz : ∀ i, i < n → (xss.getD i []).length ≤ 1048576) (b : Option Addr) (m cb : Nat) (yss : List (List Int)) (hn2 : m = yss.length) (hm2 : m ≤ 1048576) (hz2 : ∀ i, i < m → (yss.getD i []).length ≤ 1048576) (w : World) (hs : SlicesOf .u8 w a xss) (ht : SlicesOf .u8 w b yss) :
    Calls Try.prog 73 #[.slice a n ca, .slice b m cb, .func (.func 74) #[] #[]] w fun e w' => e = .returned (.bool (eqSB xss yss)) ∧ Gr w w' := by
  have HA := hid hs
  have HB := hid ht
  have HN := hid hn
  have HM := hid hn2
  have HZ := hid hz
  have HZ2 := hid hz2
  clear hs ht hn hn2 hz hz2
  by_cases hl : n = m
  · subst hl
    have HAT := hid (fun k (h : eqLB (xss.getD k []) (yss.getD k []) = false) => eqSB_at h)
    have HALL := hid (fun h => eqSB_all (n := n) HN.out.symm HM.out.symm h)
    generalize eqSB xss yss = r at *
    go_enter Try.func73, Try.ntmps73
    go_wp2_with fail
    go_loopw [17] (fun i wr => ∃ k : Nat, k ≤ n ∧ i = .int .i64 k ∧ Hid (∀ i, i < k → eqLB (xss.getD i []) (yss.getD i []) = true) ∧ Hid (Gr w wr)) (fun i _ => n - (intOf i).toNat)
    case atStart => exact ⟨0, Nat.zero_le _, rfl, hid (fun i hi => by omega), hid (Gr.refl _)⟩
    case round =>
      obtain ⟨k, hk, rfl, hq, hg⟩ := hrel
      by_cases hlt : k < n
      · obtain ⟨b0, o0, p0, c0, rfl, h0, s0⟩ := (HA.out.gr hg.out) k (by rw [← HN.out]; exact hlt)
        obtain ⟨b1, o1, p1, c1, rfl, h1, s1⟩ := (HB.out.gr hg.out) k (by rw [← HM.out]; exact hlt)
        have z0 := HZ.out k hlt
        have z1 := HZ2.out k hlt
        have S0 := hid s0
        have S1 := hid s1
        have HF := hid (HAT.out k)
        have HST := hid (fun (h : eqLB (xss.getD k []) (yss.getD k []) = true) i (hi : i < k + 1) => show eqLB (xss.getD i []) (yss.getD i []) = true by
          by_cases e : i = k
          · rw [e]; exact h
          · exact hq.out i (by omega))
        clear s0 s1 hq
        generalize xss.getD k [] = xs at *
        generalize yss.getD k [] = ys at *
        have HCE := hid (fun (V : World) (g : Gr wr V) => equalWord_any p0 _ c0 xs rfl z0 p1 _ c1 ys rfl z1 V (S0.out.gr g) (S1.out.gr g))
        generalize eqLB xs ys = q at *
        generalize hl0 : xs.length = l0 at *
        generalize hl1 : ys.length = l1 at *
        clear hl0 hl1
        have hb0 : (0 : Int) ≤ k := by omega
        have hb1 : (k : Int) < n := by omega
        cases q
        · have HR := hid (HF.out rfl)
          clear HF HST
          go_wp2_with fail
          refine (HCE.out _ (Gr.refl _)).mono ?_
          rintro e V ⟨rfl, gV⟩
          have GV : Gr w V := Gr.trans hg.out gV
          all_goals
            go_wp2_with fail
            go_ret
            exact ⟨ret_bool HR.out.symm, by first | assumption | exact Gr.drew (by assumption) | exact Gr.drewN (by assumption) _⟩
        · have HQ := hid (HST.out rfl)
          clear HF HST
          go_wp2_with fail
          refine (HCE.out _ (Gr.refl _)).mono ?_
          rintro e V ⟨rfl, gV⟩
          have GV : Gr w V := Gr.trans hg.out gV
          all_goals
            go_wp2_with fail
            go_roundw
            case rel => exact ⟨k + 1, by omega, by go_num, HQ, hid (by first | assumption | exact Gr.drew (by assumption) | exact Gr.drewN (by assumption) _)⟩
            case measure => simp [intOf]; omega
      · have HT := hid (HALL.out (fun i hi => hq.out i (by omega)))
        clear hq
        go_wp2_with fail
        go_ret
        exact ⟨ret_bool HT.out.symm, hg.out⟩
  · have HF := hid (eqSB_len (xss := xss) (yss := yss) (by rw [← HN.out, ← HM.out]; exact hl))
    have hlb : ((n : Int) != (m : Int)) = true := by rw [bne_iff_ne]; omega
    have hle : ((n : Int) == (m : Int)) = false := by rw [beq_eq_false_iff_ne]; omega
    go_enter Try.func73, Try.ntmps73
    go_wp2_with fail
    go_ret
    exact ⟨ret_bool HF.out.symm, Gr.refl _⟩

set_option maxRecDepth 100000 in
theorem impl_SameWords_any (a : Option Addr) (n ca : Nat) (xss : List (List Int)) (hn : n = xss.length) (hm : n ≤ 1048576) (hz : ∀ i, i < n → (xss.getD i []).length ≤ 1048576) (b : Option Addr) (m cb : Nat) (yss : List (List Int)) (hn2 : m = yss.length) (hm2 : m ≤ 1048576) (hz2 : ∀ i, i < m → (yss.getD i []).length ≤ 1048576) (w : World) (hs : SlicesOf .u8 w a xss) (ht : SlicesOf .u8 w b yss) :
    Calls Try.prog 38 #[.slice a n ca, .slice b m cb] w fun e w' => e = .returned (.bool (eqSB xss yss)) ∧ Gr w w' := by
  have H := hid (equalFunc_any a n ca xss hn hm hz b m cb yss hn2 hm2 hz2 w hs ht)
  generalize eqSB xss yss = r at *
  clear hs ht hn hn2 hz hz2
  go_enter Try.func38, Try.ntmps38
  go_wp2_with fail
  refine H.out.mono ?_
  rintro e w' ⟨rfl, g⟩
  have G := hid g
  clear g
  go_wp2_with fail
  go_ret
  exact ⟨rfl, G.out⟩
end Go.Proofs.Ytojdbeebgllhhaa
