/- SameHoist, AlikeHoists: the functions. -/
import Derived.Test.YtfaiehjomcgjgaaDoorGHst
namespace Go.Proofs.YtfaiehjomcgjgaaDoor
set_option linter.unusedVariables false
open Go.RowKit
def eqLB (xs ys : List Int) : Bool := decide (xs = ys)
theorem eqLB_len {xs ys : List Int} (h : ¬ xs.length = ys.length) : eqLB xs ys = false := decide_eq_false (fun e => h (by rw [e]))
theorem eqLB_at {xs ys : List Int} {k : Nat} (h : (xs.getD k 0 != ys.getD k 0) = true) : eqLB xs ys = false := decide_eq_false (fun e => by rw [e] at h; simp at h)
theorem eqLB_all {xs ys : List Int} {n : Nat} (hx : xs.length = n) (hy : ys.length = n) (h : ∀ i, i < n → xs.getD i 0 = ys.getD i 0) : eqLB xs ys = true := by
  refine decide_eq_true (List.ext_getElem? fun i => ?_)
  by_cases hi : i < n
  · have := h i hi
    rw [List.getElem?_eq_getElem (by omega), List.getElem?_eq_getElem (by omega)]
    simpa [List.getD, List.getElem?_eq_getElem (show i < xs.length by omega), List.getElem?_eq_getElem (show i < ys.length by omega)] using this
  · rw [List.getElem?_eq_none (by omega), List.getElem?_eq_none (by omega)]

set_option maxRecDepth 100000 in
set_option maxHeartbeats 1000000 in
theorem l02Same_any (a : Option Addr) (n ca : Nat) (xs : List Int) (hn : n = xs.length) (hm : n ≤ 1048576) (b : Option Addr) (m cb : Nat) (ys : List Int) (hn2 : m = ys.length) (hm2 : m ≤ 1048576) (w : World) (hs : SliceOf .i8 w a xs) (ht : SliceOf .i8 w b ys) :
    Calls Tryd.prog 121 #[.slice a n ca, .slice b m cb] w fun e w' => e = .returned (.bool (eqLB xs ys)) ∧ Gr w w' := by
  have HA := hid hs
  have HB := hid ht
  have HN := hid hn
  have HM := hid hn2
  clear hs ht hn hn2
  by_cases hl : n = m
  · subst hl
    go_enter Tryd.func121, Tryd.ntmps121
    go_wp2_with fail
    go_loopw [5] (fun i wr => ∃ k : Nat, k ≤ n ∧ i = .int .i64 k ∧ Hid (∀ i, i < k → xs.getD i 0 = ys.getD i 0) ∧ Hid (Gr w wr)) (fun i _ => n - (intOf i).toNat)
    case atStart => exact ⟨0, Nat.zero_le _, rfl, hid (fun i hi => by omega), hid (Gr.refl _)⟩
    case round =>
      obtain ⟨k, hk, rfl, hq, hg⟩ := hrel
      by_cases hlt : k < n
      · obtain ⟨b0, o0, rfl, h0⟩ := HA.out k (by rw [← HN.out]; exact hlt)
        obtain ⟨b1, o1, rfl, h1⟩ := HB.out k (by rw [← HM.out]; exact hlt)
        have hc0 := hg.out.cell h0
        have hc1 := hg.out.cell h1
        clear h0 h1
        have hb0 : (0 : Int) ≤ k := by omega
        have hb1 : (k : Int) < n := by omega
        cases hd : (xs.getD k 0 != ys.getD k 0)
        · have HQ := hid (show ∀ i, i < k + 1 → xs.getD i 0 = ys.getD i 0 from fun i hi => by
            by_cases e : i = k
            · rw [e]; simpa using hd
            · exact hq.out i (by omega))
          clear hq
          generalize xs.getD k 0 = x at *
          generalize ys.getD k 0 = y at *
          go_wp2_with fail
          go_quiet (fail)
          go_wp2_with fail
          go_roundw
          case rel => exact ⟨k + 1, by omega, by go_num, HQ, hid (hg.out.drewN _)⟩
          case measure => simp [intOf] <;> omega
        · have HF := hid (eqLB_at hd)
          clear hq
          generalize xs.getD k 0 = x at *
          generalize ys.getD k 0 = y at *
          go_wp2_with fail
          go_quiet (fail)
          go_wp2_with fail
          go_ret
          exact ⟨ret_bool HF.out.symm, hg.out.drewN _⟩
      · have hkn : k = n := by omega
        have HT := hid (eqLB_all HN.out.symm HM.out.symm (fun i hi => hq.out i (by omega)))
        clear hq hkn
        go_wp2_with fail
        go_ret
        exact ⟨ret_bool HT.out.symm, hg.out⟩
  · have HF := hid (eqLB_len (xs := xs) (ys := ys) (by rw [← HN.out, ← HM.out]; exact hl))
    have hlb : ((n : Int) != (m : Int)) = true := by rw [bne_iff_ne]; omega
    have hle : ((n : Int) == (m : Int)) = false := by rw [beq_eq_false_iff_ne]; omega
    go_enter Tryd.func121, Tryd.ntmps121
    go_wp2_with fail
    go_ret
    exact ⟨ret_bool HF.out.symm, Gr.refl _⟩

set_option maxRecDepth 100000 in
set_option maxHeartbeats 1000000 in
theorem equalMeaning_any (a : Option Addr) (n ca : Nat) (xs : List Int) (hn : n = xs.length) (hm : n ≤ 1048576) (b : Option Addr) (m cb : Nat) (ys : List Int) (hn2 : m = ys.length) (hm2 : m ≤ 1048576) (w : World) (hs : SliceOf .i8 w a xs) (ht : SliceOf .i8 w b ys) :
    Calls Tryd.prog 72 #[.slice a n ca, .slice b m cb] w fun e w' => e = .returned (.bool (eqLB xs ys)) ∧ Gr w w' := by
  have HA := hid hs
  have HB := hid ht
  have HN := hid hn
  have HM := hid hn2
  clear hs ht hn hn2
  by_cases hl : n = m
  · subst hl
    go_enter Tryd.func72, Tryd.ntmps72
    go_wp2_with fail
    go_loopw [13] (fun i wr => ∃ k : Nat, k ≤ n ∧ i = .int .i64 k ∧ Hid (∀ i, i < k → xs.getD i 0 = ys.getD i 0) ∧ Hid (Gr w wr)) (fun i _ => n - (intOf i).toNat)
    case atStart => exact ⟨0, Nat.zero_le _, rfl, hid (fun i hi => by omega), hid (Gr.refl _)⟩
    case round =>
      obtain ⟨k, hk, rfl, hq, hg⟩ := hrel
      by_cases hlt : k < n
      · obtain ⟨b0, o0, rfl, h0⟩ := HA.out k (by rw [← HN.out]; exact hlt)
        obtain ⟨b1, o1, rfl, h1⟩ := HB.out k (by rw [← HM.out]; exact hlt)
        have hc0 := hg.out.cell h0
        have hc1 := hg.out.cell h1
        clear h0 h1
        have hb0 : (0 : Int) ≤ k := by omega
        have hb1 : (k : Int) < n := by omega
        cases hd : (xs.getD k 0 != ys.getD k 0)
        · have HQ := hid (show ∀ i, i < k + 1 → xs.getD i 0 = ys.getD i 0 from fun i hi => by
            by_cases e : i = k
            · rw [e]; simpa using hd
            · exact hq.out i (by omega))
          clear hq
          generalize xs.getD k 0 = x at *
          generalize ys.getD k 0 = y at *
          go_wp2_with fail
          go_quiet (fail)
          go_wp2_with fail
          go_roundw
          case rel => exact ⟨k + 1, by omega, by go_num, HQ, hid (hg.out.drewN _)⟩
          case measure => simp [intOf] <;> omega
        · have HF := hid (eqLB_at hd)
          clear hq
          generalize xs.getD k 0 = x at *
          generalize ys.getD k 0 = y at *
          go_wp2_with fail
          go_quiet (fail)
          go_wp2_with fail
          go_ret
          exact ⟨ret_bool HF.out.symm, hg.out.drewN _⟩
      · have hkn : k = n := by omega
        have HT := hid (eqLB_all HN.out.symm HM.out.symm (fun i hi => hq.out i (by omega)))
        clear hq hkn
        go_wp2_with fail
        go_ret
        exact ⟨ret_bool HT.out.symm, hg.out⟩
  · have HF := hid (eqLB_len (xs := xs) (ys := ys) (by rw [← HN.out, ← HM.out]; exact hl))
    have hlb : ((n : Int) != (m : Int)) = true := by rw [bne_iff_ne]; omega
    have hle : ((n : Int) == (m : Int)) = false := by rw [beq_eq_false_iff_ne]; omega
    go_enter Tryd.func72, Tryd.ntmps72
    go_wp2_with fail
    go_ret
    exact ⟨ret_bool HF.out.symm, Gr.refl _⟩

set_option maxRecDepth 100000 in
theorem spec_SameHoist_any (a : Option Addr) (xs : List Int) (hm : xs.length ≤ 1048576) (hf : Fits .i8 xs) (b : Option Addr) (ys : List Int) (hm2 : ys.length ≤ 1048576) (hf2 : Fits .i8 ys) (w : World) (hs : SliceOf .i8 w a xs) (ht : SliceOf .i8 w b ys) :
    Calls Tryd.prog 105 #[.slice a xs.length xs.length, .slice b ys.length ys.length] w fun e w' => e = .returned (.bool (eqLB xs ys)) ∧ Gr w w' := by
  have h := hid (l02Same_any a _ xs.length xs rfl hm b _ ys.length ys rfl hm2 w hs ht)
  clear hs ht hf hf2
  generalize eqLB xs ys = r at *
  generalize xs.length = n at *
  generalize ys.length = m at *
  go_enter Tryd.func105, Tryd.ntmps105
  go_wp2_with fail
  refine h.out.mono ?_
  rintro e w' ⟨rfl, g⟩
  have G := hid g
  clear g
  go_wp2_with fail
  go_ret
  exact ⟨rfl, G.out⟩

def alikeB (xs ys : List Int) : Bool := (validH xs && validH ys) && eqLB (readL xs) (readL ys)
def alikeC (xs ys : List Int) : Int := if validH xs && validH ys then 0 else 1
theorem alike_no {xs ys : List Int} (h : (validH xs && validH ys) = false) : alikeB xs ys = false ∧ alikeC xs ys = 1 := by
  unfold alikeB alikeC; rw [h]; exact ⟨rfl, rfl⟩
theorem alike_yes {xs ys : List Int} (h1 : validH xs = true) (h2 : validH ys = true) : alikeB xs ys = eqLB (meanL xs) (meanL ys) ∧ alikeC xs ys = 0 := by
  unfold alikeB alikeC; rw [h1, h2, readL_yes h1, readL_yes h2]; exact ⟨rfl, rfl⟩
end Go.Proofs.YtfaiehjomcgjgaaDoor
