/- SameHoist, AlikeHoists: the functions. -/
import Derived.Test.YtnghcchkiodalabHoistT
namespace Go.Proofs.Ytnghcchkiodalab
open Go.RowKit
def eqLB (xs ys : List Int) : Bool := decide (xs = ys)
theorem eqLB_len {xs ys : List Int} (h : ¬ xs.length = ys.length) : eqLB xs ys = false := decide_eq_false (fun e => h (by rw [e]))
theorem eqLB_at {xs ys : List Int} {k : Nat} (h : (xs.getD k 0 != ys.getD k 0) = true) : eqLB xs ys = false := decide_eq_false (fun e => by rw [e] at h; simp at h)
theorem eqLB_all {xs ys : List Int} {n : Nat} (hx : xs.length = n) (hy : ys.length = n) (h : ∀ i, i < n → xs.getD i 0 = ys.getD i 0) : eqLB xs ys = true := by
  refine decide_eq_true (List.ext_getElem? fun i => ?_)
  by_cases hi : i < n
  · have := h i hi
    rw [List.getElem?_eq_getElem (by omega), List.getElem?_eq_getElem (by omega)]
    simpa [List.getD, List.getElem?_eq_getElem (show i < xs.length by omega), List.getElem?_eq_getElem (show i < ys.length by omega)] using this
  · rw [List.getElem?_eq_none (by omega), List.getElem?_eq_none (by omega)]

set_option maxHeartbeats 1000000 in
theorem l02Same_any (a : Option Addr) (n ca : Nat) (xs : List Int) (hn : n = xs.length) (hm : n ≤ 1048576) (b : Option Addr) (m cb : Nat) (ys : List Int) (hn2 : m = ys.length) (hm2 : m ≤ 1048576) (w : World) (hs : SliceOf .i8 w a xs) (ht : SliceOf .i8 w b ys) :
    Calls Try.prog 63 #[.slice a n ca, .slice b m cb] w fun e w' => e = .returned (.bool (eqLB xs ys)) ∧ Gr w w' := by
  have HA := hid hs
  have HB := hid ht
  have HN := hid hn
  have HM := hid hn2
  clear hs ht hn hn2
  by_cases hl : n = m
  · subst hl
    go_enter Try.func63, Try.ntmps63
    go_wp2_with fail
    go_loopw [5] (fun i wr => ∃ k : Nat, k ≤ n ∧ i = .int .i64 k ∧ Hid (∀ i, i < k → xs.getD i 0 = ys.getD i 0) ∧ Hid (Gr w wr)) (fun i _ => n - (intOf i).toNat)
    case atStart => exact ⟨0, Nat.zero_le _, rfl, hid (fun i hi => by omega), hid (Gr.refl _)⟩
    case round =>
      obtain ⟨k, hk, rfl, hq, hg⟩ := hrel
      by_cases hlt : k < n
      · obtain ⟨b0, o0, rfl, h0⟩ := HA.out k (by rw [← HN.out]; exact hlt)
        obtain ⟨b1, o1, rfl, h1⟩ := HB.out k (by rw [← HM.out]; exact hlt)
        have hc0 := hg.out.cell h0
        have hc1 := hg.out.cell h1
        clear h0 h1
        have hb0 : (0 : Int) ≤ k := by omega
        have hb1 : (k : Int) < n := by omega
        cases hd : (xs.getD k 0 != ys.getD k 0)
        · have HQ := hid (show ∀ i, i < k + 1 → xs.getD i 0 = ys.getD i 0 from fun i hi => by
            by_cases e : i = k
            · rw [e]; simpa using hd
            · exact hq.out i (by omega))
          clear hq
          generalize xs.getD k 0 = x at *
          generalize ys.getD k 0 = y at *
          go_wp2_with fail
          go_quiet (fail)
          go_wp2_with fail
          go_roundw
          case rel => exact ⟨k + 1, by omega, by go_num, HQ, hid (hg.out.drewN _)⟩
          case measure => simp [intOf] <;> omega
        · have HF := hid (eqLB_at hd)
          clear hq
          generalize xs.getD k 0 = x at *
          generalize ys.getD k 0 = y at *
          go_wp2_with fail
          go_quiet (fail)
          go_wp2_with fail
          go_ret
          exact ⟨ret_bool HF.out.symm, hg.out.drewN _⟩
      · have hkn : k = n := by omega
        have HT := hid (eqLB_all HN.out.symm HM.out.symm (fun i hi => hq.out i (by omega)))
        clear hq hkn
        go_wp2_with fail
        go_ret
        exact ⟨ret_bool HT.out.symm, hg.out⟩
  · have HF := hid (eqLB_len (xs := xs) (ys := ys) (by rw [← HN.out, ← HM.out]; exact hl))
    have hlb : ((n : Int) != (m : Int)) = true := by rw [bne_iff_ne]; omega
    have hle : ((n : Int) == (m : Int)) = false := by rw [beq_eq_false_iff_ne]; omega
    go_enter Try.func63, Try.ntmps63
    go_wp2_with fail
    go_ret
    exact ⟨ret_bool HF.out.symm, Gr.refl _⟩

set_option maxHeartbeats 1000000 in
theorem equalHoist_any (a : Option Addr) (n ca : Nat) (xs : List Int) (hn : n = xs.length) (hm : n ≤ 1048576) (b : Option Addr) (m cb : Nat) (ys : List Int) (hn2 : m = ys.length) (hm2 : m ≤ 1048576) (w : World) (hs : SliceOf .i8 w a xs) (ht : SliceOf .i8 w b ys) :
    Calls Try.prog 64 #[.slice a n ca, .slice b m cb] w fun e w' => e = .returned (.bool (eqLB xs ys)) ∧ Gr w w' := by
  have HA := hid hs
  have HB := hid ht
  have HN := hid hn
  have HM := hid hn2
  clear hs ht hn hn2
  by_cases hl : n = m
  · subst hl
    go_enter Try.func64, Try.ntmps64
    go_wp2_with fail
    go_loopw [13] (fun i wr => ∃ k : Nat, k ≤ n ∧ i = .int .i64 k ∧ Hid (∀ i, i < k → xs.getD i 0 = ys.getD i 0) ∧ Hid (Gr w wr)) (fun i _ => n - (intOf i).toNat)
    case atStart => exact ⟨0, Nat.zero_le _, rfl, hid (fun i hi => by omega), hid (Gr.refl _)⟩
    case round =>
      obtain ⟨k, hk, rfl, hq, hg⟩ := hrel
      by_cases hlt : k < n
      · obtain ⟨b0, o0, rfl, h0⟩ := HA.out k (by rw [← HN.out]; exact hlt)
        obtain ⟨b1, o1, rfl, h1⟩ := HB.out k (by rw [← HM.out]; exact hlt)
        have hc0 := hg.out.cell h0
        have hc1 := hg.out.cell h1
        clear h0 h1
        have hb0 : (0 : Int) ≤ k := by omega
        have hb1 : (k : Int) < n := by omega
        cases hd : (xs.getD k 0 != ys.getD k 0)
        · have HQ := hid (show ∀ i, i < k + 1 → xs.getD i 0 = ys.getD i 0 from fun i hi => by
            by_cases e : i = k
            · rw [e]; simpa using hd
            · exact hq.out i (by omega))
          clear hq
          generalize xs.getD k 0 = x at *
          generalize ys.getD k 0 = y at *
          go_wp2_with fail
          go_quiet (fail)
          go_wp2_with fail
          go_roundw
          case rel => exact ⟨k + 1, by omega, by go_num, HQ, hid (hg.out.drewN _)⟩
          case measure => simp [intOf] <;> omega
        · have HF := hid (eqLB_at hd)
          clear hq
          generalize xs.getD k 0 = x at *
          generalize ys.getD k 0 = y at *
          go_wp2_with fail
          go_quiet (fail)
          go_wp2_with fail
          go_ret
          exact ⟨ret_bool HF.out.symm, hg.out.drewN _⟩
      · have hkn : k = n := by omega
        have HT := hid (eqLB_all HN.out.symm HM.out.symm (fun i hi => hq.out i (by omega)))
        clear hq hkn
        go_wp2_with fail
        go_ret
        exact ⟨ret_bool HT.out.symm, hg.out⟩
  · have HF := hid (eqLB_len (xs := xs) (ys := ys) (by rw [← HN.out, ← HM.out]; exact hl))
    have hlb : ((n : Int) != (m : Int)) = true := by rw [bne_iff_ne]; omega
    have hle : ((n : Int) == (m : Int)) = false := by rw [beq_eq_false_iff_ne]; omega
    go_enter Try.func64, Try.ntmps64
    go_wp2_with fail
    go_ret
    exact ⟨ret_bool HF.out.symm, Gr.refl _⟩

set_option maxHeartbeats 1000000 in
theorem equalMeaning_any (a : Option Addr) (n ca : Nat) (xs : List Int) (hn : n = xs.length) (hm : n ≤ 1048576) (b : Option Addr) (m cb : Nat) (ys : List Int) (hn2 : m = ys.length) (hm2 : m ≤ 1048576) (w : World) (hs : SliceOf .i8 w a xs) (ht : SliceOf .i8 w b ys) :
    Calls Try.prog 67 #[.slice a n ca, .slice b m cb] w fun e w' => e = .returned (.bool (eqLB xs ys)) ∧ Gr w w' := by
  have HA := hid hs
  have HB := hid ht
  have HN := hid hn
  have HM := hid hn2
  clear hs ht hn hn2
  by_cases hl : n = m
  · subst hl
    go_enter Try.func67, Try.ntmps67
    go_wp2_with fail
    go_loopw [13] (fun i wr => ∃ k : Nat, k ≤ n ∧ i = .int .i64 k ∧ Hid (∀ i, i < k → xs.getD i 0 = ys.getD i 0) ∧ Hid (Gr w wr)) (fun i _ => n - (intOf i).toNat)
    case atStart => exact ⟨0, Nat.zero_le _, rfl, hid (fun i hi => by omega), hid (Gr.refl _)⟩
    case round =>
      obtain ⟨k, hk, rfl, hq, hg⟩ := hrel
      by_cases hlt : k < n
      · obtain ⟨b0, o0, rfl, h0⟩ := HA.out k (by rw [← HN.out]; exact hlt)
        obtain ⟨b1, o1, rfl, h1⟩ := HB.out k (by rw [← HM.out]; exact hlt)
        have hc0 := hg.out.cell h0
        have hc1 := hg.out.cell h1
        clear h0 h1
        have hb0 : (0 : Int) ≤ k := by omega
        have hb1 : (k : Int) < n := by omega
        cases hd : (xs.getD k 0 != ys.getD k 0)
        · have HQ := hid (show ∀ i, i < k + 1 → xs.getD i 0 = ys.getD i 0 from fun i hi => by
            by_cases e : i = k
            · rw [e]; simpa using hd
            · exact hq.out i (by omega))
          clear hq
          generalize xs.getD k 0 = x at *
          generalize ys.getD k 0 = y at *
          go_wp2_with fail
          go_quiet (fail)
          go_wp2_with fail
          go_roundw
          case rel => exact ⟨k + 1, by omega, by go_num, HQ, hid (hg.out.drewN _)⟩
          case measure => simp [intOf] <;> omega
        · have HF := hid (eqLB_at hd)
          clear hq
          generalize xs.getD k 0 = x at *
          generalize ys.getD k 0 = y at *
          go_wp2_with fail
          go_quiet (fail)
          go_wp2_with fail
          go_ret
          exact ⟨ret_bool HF.out.symm, hg.out.drewN _⟩
      · have hkn : k = n := by omega
        have HT := hid (eqLB_all HN.out.symm HM.out.symm (fun i hi => hq.out i (by omega)))
        clear hq hkn
        go_wp2_with fail
        go_ret
        exact ⟨ret_bool HT.out.symm, hg.out⟩
  · have HF := hid (eqLB_len (xs := xs) (ys := ys) (by rw [← HN.out, ← HM.out]; exact hl))
    have hlb : ((n : Int) != (m : Int)) = true := by rw [bne_iff_ne]; omega
    have hle : ((n : Int) == (m : Int)) = false := by rw [beq_eq_false_iff_ne]; omega
    go_enter Try.func67, Try.ntmps67
    go_wp2_with fail
    go_ret
    exact ⟨ret_bool HF.out.symm, Gr.refl _⟩

theorem spec_SameHoist_any (a : Option Addr) (xs : List Int) (hm : xs.length ≤ 1048576) (hf : Fits .i8 xs) (b : Option Addr) (ys : List Int) (hm2 : ys.length ≤ 1048576) (hf2 : Fits .i8 ys) (w : World) (hs : SliceOf .i8 w a xs) (ht : SliceOf .i8 w b ys) :
    Calls Try.prog 23 #[.slice a xs.length xs.length, .slice b ys.length ys.length] w fun e w' => e = .returned (.bool (eqLB xs ys)) ∧ Gr w w' := by
  have h := hid (l02Same_any a _ xs.length xs rfl hm b _ ys.length ys rfl hm2 w hs ht)
  clear hs ht hf hf2
  generalize eqLB xs ys = r at *
  generalize xs.length = n at *
  generalize ys.length = m at *
  go_enter Try.func23, Try.ntmps23
  go_wp2_with fail
  refine h.out.mono ?_
  rintro e w' ⟨rfl, g⟩
  have G := hid g
  clear g
  go_wp2_with fail
  go_ret
  exact ⟨rfl, G.out⟩

theorem impl_SameHoist_any (a : Option Addr) (xs : List Int) (hm : xs.length ≤ 1048576) (hf : Fits .i8 xs) (b : Option Addr) (ys : List Int) (hm2 : ys.length ≤ 1048576) (hf2 : Fits .i8 ys) (w : World) (hs : SliceOf .i8 w a xs) (ht : SliceOf .i8 w b ys) :
    Calls Try.prog 24 #[.slice a xs.length xs.length, .slice b ys.length ys.length] w fun e w' => e = .returned (.bool (eqLB xs ys)) ∧ Gr w w' := by
  have h := hid (equalHoist_any a _ xs.length xs rfl hm b _ ys.length ys rfl hm2 w hs ht)
  clear hs ht hf hf2
  generalize eqLB xs ys = r at *
  generalize xs.length = n at *
  generalize ys.length = m at *
  go_enter Try.func24, Try.ntmps24
  go_wp2_with fail
  refine h.out.mono ?_
  rintro e w' ⟨rfl, g⟩
  have G := hid g
  clear g
  go_wp2_with fail
  go_ret
  exact ⟨rfl, G.out⟩

def alikeB (xs ys : List Int) : Bool := (validH xs && validH ys) && eqLB (readL xs) (readL ys)
def alikeC (xs ys : List Int) : Int := if validH xs && validH ys then 0 else 1
theorem alike_no {xs ys : List Int} (h : (validH xs && validH ys) = false) : alikeB xs ys = false ∧ alikeC xs ys = 1 := by
  unfold alikeB alikeC; rw [h]; exact ⟨rfl, rfl⟩
theorem alike_yes {xs ys : List Int} (h1 : validH xs = true) (h2 : validH ys = true) : alikeB xs ys = eqLB (meanL xs) (meanL ys) ∧ alikeC xs ys = 0 := by
  unfold alikeB alikeC; rw [h1, h2, readL_yes h1, readL_yes h2]; exact ⟨rfl, rfl⟩
set_option maxHeartbeats 2000000 in
theorem spec_AlikeHoists_any (a : Option Addr) (xs : List Int) (hm : xs.length ≤ 1048576) (hf : Fits .i8 xs) (b : Option Addr) (ys : List Int) (hm2 : ys.length ≤ 1048576) (hf2 : Fits .i8 ys) (w : World) (hs : SliceOf .i8 w a xs) (ht : SliceOf .i8 w b ys) :
    Calls Try.prog 30 #[.slice a xs.length xs.length, .slice b ys.length ys.length] w fun e w' => e = .returned (.tuple #[.bool (alikeB xs ys), .int .i64 (alikeC xs ys)]) ∧ Gr w w' := by
  have h1 := hid (l02Read_any a _ xs.length xs rfl hm hf w hs)
  have h2 := hid (fun (W : World) (g : Gr w W) => l02Read_any b _ ys.length ys rfl hm2 hf2 W (ht.gr g))
  clear hs ht hf hf2
  cases hv : validH xs && validH ys
  · obtain ⟨e1, e2⟩ := alike_no hv
    rw [e1, e2]
    have HR := hid (readL_length xs)
    have HV := hid hv
    clear e1 e2 hv
    generalize readL xs = us at *
    generalize readL ys = vs at *
    generalize xs.length = n at *
    generalize ys.length = m at *
    generalize validH xs = v1 at *
    generalize validH ys = v2 at *
    go_enter Try.func30, Try.ntmps30
    go_wp2_with fail
    refine h1.out.mono ?_
    rintro e w1 ⟨v, rfl, -, g⟩
    have G := hid g
    clear g h1
    unfold withOk
    go_wp2_with fail
    refine (h2.out _ G.out).mono ?_
    rintro e w2 ⟨v', rfl, -, g⟩
    replace G := hid (G.out.trans g)
    clear g h2
    unfold withOk
    cases v1
    · clear HV
      go_wp2_with fail
      go_ret2
      exact ⟨rfl, G.out⟩
    · obtain rfl : v2 = false := by simpa using HV.out
      clear HV
      go_wp2_with fail
      go_ret2
      exact ⟨rfl, G.out⟩
  · simp only [Bool.and_eq_true] at hv
    obtain ⟨hv1, hv2⟩ := hv
    obtain ⟨e1, e2⟩ := alike_yes hv1 hv2
    rw [e1, e2]
    rw [hv1, readL_yes hv1] at h1
    rw [hv2, readL_yes hv2] at h2
    have HL1 := hid (meanL_length xs)
    have HL2 := hid (meanL_length ys)
    clear e1 e2 hv1 hv2
    have h3 := hid (fun (W : World) (a1 b1 : Option Addr) (c1 c2 : Nat) s1 s2 => l02Same_any a1 _ c1 (meanL xs) rfl (by rw [HL1.out]; exact hm) b1 _ c2 (meanL ys) rfl (by rw [HL2.out]; exact hm2) W s1 s2)
    rw [HL1.out, HL2.out] at h3
    generalize eqLB (meanL xs) (meanL ys) = r at *
    generalize meanL xs = us at *
    generalize meanL ys = vs at *
    generalize xs.length = n at *
    generalize ys.length = m at *
    go_enter Try.func30, Try.ntmps30
    go_wp2_with fail
    refine h1.out.mono ?_
    rintro e w1 ⟨v, rfl, o, g⟩
    obtain ⟨p1, c1, rfl⟩ := o.shape
    rw [HL1.out] at o ⊢
    have O1 := hid o
    have G := hid g
    clear g h1 o
    unfold withOk
    go_wp2_with fail
    refine (h2.out _ G.out).mono ?_
    rintro e w2 ⟨v', rfl, o, g⟩
    obtain ⟨p2, c2, rfl⟩ := o.shape
    rw [HL2.out] at o ⊢
    have O2 := hid o
    replace O1 := hid (O1.out.gr g)
    replace G := hid (G.out.trans g)
    clear g h2 o
    unfold withOk
    go_wp2_with fail
    refine (h3.out _ _ _ _ _ O1.out.reads O2.out.reads).mono ?_
    rintro e w3 ⟨rfl, g⟩
    replace G := hid (G.out.trans g)
    clear g h3
    go_wp2_with fail
    go_ret2
    exact ⟨rfl, G.out⟩
set_option maxHeartbeats 2000000 in
theorem impl_AlikeHoists_any (a : Option Addr) (xs : List Int) (hm : xs.length ≤ 1048576) (hf : Fits .i8 xs) (b : Option Addr) (ys : List Int) (hm2 : ys.length ≤ 1048576) (hf2 : Fits .i8 ys) (w : World) (hs : SliceOf .i8 w a xs) (ht : SliceOf .i8 w b ys) :
    Calls Try.prog 31 #[.slice a xs.length xs.length, .slice b ys.length ys.length] w fun e w' => e = .returned (.tuple #[.bool (alikeB xs ys), .int .i64 (alikeC xs ys)]) ∧ Gr w w' := by
  have h1 := hid (impl_ValidHoist_cap a _ xs.length xs rfl hm (Nat.le_refl _) hf w hs)
  have h2 := hid (fun (W : World) (g : Gr w W) => impl_ValidHoist_cap b _ ys.length ys rfl hm2 (Nat.le_refl _) hf2 W (ht.gr g))
  have m1 := hid (fun (W : World) (g : Gr w W) (hv : validH xs = true) => meaning_any a _ xs.length xs rfl hm hf hv W (hs.gr g))
  have m2 := hid (fun (W : World) (g : Gr w W) (hv : validH ys = true) => meaning_any b _ ys.length ys rfl hm2 hf2 hv W (ht.gr g))
  clear hs ht hf hf2
  cases hv1 : validH xs
  · obtain ⟨e1, e2⟩ := alike_no (xs := xs) (ys := ys) (by rw [hv1]; rfl)
    rw [e1, e2]
    rw [hv1] at h1
    clear e1 e2 hv1 h2 m1 m2
    generalize xs.length = n at *
    generalize ys.length = m at *
    go_enter Try.func31, Try.ntmps31
    go_wp2_with fail
    refine h1.out.mono ?_
    rintro e w1 ⟨rfl, g⟩
    have G := hid g
    clear g h1
    go_wp2_with fail
    go_ret2
    exact ⟨rfl, G.out⟩
  · cases hv2 : validH ys
    · obtain ⟨e1, e2⟩ := alike_no (xs := xs) (ys := ys) (by rw [hv1, hv2]; rfl)
      rw [e1, e2]
      rw [hv1] at h1
      rw [hv2] at h2
      clear e1 e2 hv1 hv2 m1 m2
      generalize xs.length = n at *
      generalize ys.length = m at *
      go_enter Try.func31, Try.ntmps31
      go_wp2_with fail
      refine h1.out.mono ?_
      rintro e w1 ⟨rfl, g⟩
      have G := hid g
      clear g h1
      go_wp2_with fail
      refine (h2.out _ G.out).mono ?_
      rintro e w2 ⟨rfl, g⟩
      replace G := hid (G.out.trans g)
      clear g h2
      go_wp2_with fail
      go_ret2
      exact ⟨rfl, G.out⟩
    · obtain ⟨e1, e2⟩ := alike_yes hv1 hv2
      rw [e1, e2]
      have n1 := hid (fun W g => m1.out W g hv1)
      have n2 := hid (fun W g => m2.out W g hv2)
      rw [hv1] at h1
      rw [hv2] at h2
      have HL1 := hid (meanL_length xs)
      have HL2 := hid (meanL_length ys)
      clear e1 e2 hv1 hv2 m1 m2
      have h3 := hid (fun (W : World) (a1 b1 : Option Addr) (c1 c2 : Nat) s1 s2 => equalMeaning_any a1 _ c1 (meanL xs) rfl (by rw [HL1.out]; exact hm) b1 _ c2 (meanL ys) rfl (by rw [HL2.out]; exact hm2) W s1 s2)
      rw [HL1.out, HL2.out] at h3
      generalize eqLB (meanL xs) (meanL ys) = r at *
      generalize meanL xs = us at *
      generalize meanL ys = vs at *
      generalize xs.length = n at *
      generalize ys.length = m at *
      go_enter Try.func31, Try.ntmps31
      go_wp2_with fail
      refine h1.out.mono ?_
      rintro e w1 ⟨rfl, g⟩
      have G := hid g
      clear g h1
      go_wp2_with fail
      refine (h2.out _ G.out).mono ?_
      rintro e w2 ⟨rfl, g⟩
      replace G := hid (G.out.trans g)
      clear g h2
      go_wp2_with fail
      refine (n1.out _ G.out).mono ?_
      rintro e w3 ⟨v, rfl, o, g⟩
      obtain ⟨p1, c1, rfl⟩ := o.shape
      rw [HL1.out] at o ⊢
      have O1 := hid o
      replace G := hid (G.out.trans g)
      clear g o n1
      dsimp only
      go_wp2_with fail
      refine (n2.out _ G.out).mono ?_
      rintro e w4 ⟨v', rfl, o, g⟩
      obtain ⟨p2, c2, rfl⟩ := o.shape
      rw [HL2.out] at o ⊢
      have O2 := hid o
      replace O1 := hid (O1.out.gr g)
      replace G := hid (G.out.trans g)
      clear g o n2
      dsimp only
      go_wp2_with fail
      refine (h3.out _ _ _ _ _ O1.out.reads O2.out.reads).mono ?_
      rintro e w5 ⟨rfl, g⟩
      replace G := hid (G.out.trans g)
      clear g h3
      go_wp2_with fail
      go_ret2
      exact ⟨rfl, G.out⟩
end Go.Proofs.Ytnghcchkiodalab
