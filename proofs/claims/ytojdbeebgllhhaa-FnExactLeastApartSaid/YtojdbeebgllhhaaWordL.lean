/- Lists of words: l05Words, checkWords. -/
import Derived.Test.YtojdbeebgllhhaaConcat
import Derived.Test.YtojdbeebgllhhaaSameWords
namespace Go.Proofs.Ytojdbeebgllhhaa
open Go.RowKit
set_option maxRecDepth 100000 in
set_option maxHeartbeats 1000000 in
theorem l05Word_same (a : Option Addr) (n cap : Nat) (xs : List Int) (hn : n = xs.length) (hm : n ≤ 1048576) (hf : Fits .u8 xs) (w : World) (hs : SliceOf .u8 w a xs) :
    Calls Try.prog 50 #[.slice a n cap] w fun e w' => e = .returned (.bool (wordB xs)) ∧ w = w' := by
  have S := hid hs
  have HN := hid hn
  have HE := hid (show wordB xs = (allTo (lettB 37 xs) xs.length && wlenB xs) from rfl)
  have HF := hid hf
  have HL := hid (show wlenB xs = betB (n : Int) 1 8 by unfold wlenB; rw [hn])
  clear hs hn hf
  go_enter Try.func50, Try.ntmps50
  go_wp2
  go_loop [3] (fun i => ∃ k : Nat, k ≤ n ∧ i = .int .i64 k ∧ Hid (allTo (lettB 37 xs) k = true)) (fun i => n - (intOf i).toNat)
  case atStart => exact ⟨0, Nat.zero_le _, rfl, hid rfl⟩
  case round =>
    obtain ⟨k, hk, rfl, hok⟩ := hrel
    by_cases hlt : k < n
    · obtain ⟨b, off, rfl, hc⟩ := S.out k (by rw [← HN.out]; exact hlt)
      have HY := hid (fun (h : lettB 37 xs k = true) => allTo_step hok.out h)
      have HZ := hid (fun (h : lettB 37 xs k = false) => allTo_no (p := lettB 37 xs) (k := xs.length) (by rw [← HN.out]; exact hlt) h)
      obtain ⟨hx0, hx1⟩ := HF.out.getu k
      have hg : lettB 37 xs k = decide (xs.getD k 0 < 37) := rfl
      rw [hg] at HY HZ
      clear hg
      generalize xs.getD k 0 = x at *
      by_cases hx : x < 37
      · have HY' := hid (HY.out (decide_eq_true hx))
        clear HY HZ
        go_wp2
        go_round
        case rel => exact ⟨k + 1, by omega, by go_num, HY'⟩
        case measure => simp [intOf] <;> omega
      · have HZ' := hid (HZ.out (decide_eq_false hx))
        clear HY HZ
        go_wp2
        go_ret
        exact ⟨ret_bool (by rw [HE.out, HZ'.out, Bool.false_and]), rfl⟩
    · have hkn : k = n := by omega
      have hv : wordB xs = betB (n : Int) 1 8 := by rw [HE.out, ← HN.out, ← hkn, hok.out, Bool.true_and, HL.out, ← hkn]
      have HV := hid hv
      clear hv hkn
      go_wp2_with (go_at_call 49; refine (l00In_b _ _ _ _).mono ?_; rintro e w' ⟨rfl, rfl⟩)
      go_ret
      exact ⟨ret_bool HV.out.symm, rfl⟩
/-- A word that is valid and of the first one's length. -/
def likeB (xss : List (List Int)) (i : Nat) : Bool := wordB (xss.getD i []) && decide ((xss.getD i []).length = (xss.getD 0 []).length)
def wordsB (xss : List (List Int)) : Bool := allTo (likeB xss) xss.length
theorem wordsB_len {xss : List (List Int)} (h : wordsB xss = true) {i : Nat} (hi : i < xss.length) : wordB (xss.getD i []) = true ∧ (xss.getD i []).length = (xss.getD 0 []).length ∧ 1 ≤ (xss.getD i []).length ∧ (xss.getD i []).length ≤ 8 := by
  have := allTo_iff.1 h i hi
  unfold likeB at this
  simp only [Bool.and_eq_true, decide_eq_true_eq] at this
  have h2 := wordB_len this.1
  exact ⟨this.1, this.2, h2.1, h2.2⟩
/-- With one more word. -/
theorem wordsB_snoc (xss : List (List Int)) (ys : List Int) : wordsB (xss ++ [ys]) = (wordsB xss && (wordB ys && (decide (xss.length = 0) || decide ((xss.getD 0 []).length = ys.length)))) := by
  have g1 : ∀ i, i < xss.length → (xss ++ [ys]).getD i [] = xss.getD i [] := fun i hi => by simp [List.getD, List.getElem?_append_left hi]
  have g2 : (xss ++ [ys]).getD xss.length [] = ys := by simp [List.getD]
  rw [Bool.eq_iff_iff]
  unfold wordsB likeB
  simp only [Bool.and_eq_true, Bool.or_eq_true, allTo_iff, decide_eq_true_eq, List.length_append, List.length_singleton]
  by_cases h0 : xss.length = 0
  · have hx : xss = [] := List.length_eq_zero_iff.1 h0
    subst hx
    constructor
    · intro h
      have := h 0 (by simp)
      exact ⟨fun i hi => absurd hi (Nat.not_lt_zero i), by simpa using this, .inl rfl⟩
    · rintro ⟨_, h, _⟩ i hi
      have hi0 : i = 0 := by simp at hi; omega
      subst hi0
      exact ⟨by simpa using h, rfl⟩
  · constructor
    · intro h
      refine ⟨fun i hi => ?_, ?_, .inr ?_⟩
      · have := h i (by omega)
        rw [g1 i hi, g1 0 (by omega)] at this
        exact this
      · have := (h xss.length (by omega)).1
        rw [g2] at this
        exact this
      · have := (h xss.length (by omega)).2
        rw [g2, g1 0 (by omega)] at this
        exact this.symm
    · rintro ⟨h, hw, hl⟩ i hi
      have hl' := hl.resolve_left h0
      by_cases e : i = xss.length
      · subst e
        rw [g2, g1 0 (by omega)]
        exact ⟨hw, hl'.symm⟩
      · rw [g1 i (by omega), g1 0 (by omega)]
        exact h i (by omega)
set_option maxRecDepth 100000 in
set_option maxHeartbeats 600000 in
theorem l05Words_any (a : Option Addr) (n cap : Nat) (xss : List (List Int)) (hn : n = xss.length) (hm : n ≤ 1048576) (hz : ∀ i, i < n → (xss.getD i []).length ≤ 1048576) (hf : ∀ i, Fits .u8 (xss.getD i [])) (w : World) (hs : SlicesOf .u8 w a xss) :
    Calls Try.prog 85 #[.slice a n cap] w fun e w' => e = .returned (.bool (wordsB xss)) ∧ Gr w w' := by
  have S := hid hs
  have HN := hid hn
  have HF := hid hf
  have HZ := hid hz
  have HNO := hid (fun k (hk : k < n) h => allTo_no (p := likeB xss) (k := xss.length) (by rw [← hn]; exact hk) h)
  have HALL := hid (show wordsB xss = allTo (likeB xss) n by unfold wordsB; rw [hn])
  have HLK := hid (show ∀ k, likeB xss k = (wordB (xss.getD k []) && decide ((xss.getD k []).length = (xss.getD 0 []).length)) from fun _ => rfl)
  have HST := hid (fun k (h : allTo (likeB xss) k = true) (hp : likeB xss k = true) => allTo_step h hp)
  clear hs hn hz hf
  generalize hLK : likeB xss = lk at *
  clear hLK
  generalize wordsB xss = r at *
  go_enter Try.func85, Try.ntmps85
  go_wp2_with fail
  go_loopw [3] (fun i wr => ∃ k : Nat, k ≤ n ∧ i = .int .i64 k ∧ Hid (allTo lk k = true) ∧ Hid (Gr w wr)) (fun i _ => n - (intOf i).toNat)
  case atStart => exact ⟨0, Nat.zero_le _, rfl, hid rfl, hid (Gr.refl _)⟩
  case round =>
    obtain ⟨k, hk, rfl, hok, hg⟩ := hrel
    by_cases hlt : k < n
    · obtain ⟨b0, o0, p0, c0, rfl, h0, s0⟩ := (S.out.gr hg.out) k (by rw [← HN.out]; exact hlt)
      obtain ⟨b1, o1, p1, c1, e1, h1, s1⟩ := (S.out.gr hg.out) 0 (by rw [← HN.out]; omega)
      cases e1
      have z0 := HZ.out k hlt
      have f0 := HF.out k
      have HK := hid (HLK.out k)
      have HS := hid (HST.out k hok.out)
      have HN1 := hid (HALL.out.trans (show allTo lk n = allTo lk n from rfl))
      have HNK := hid (fun (h : lk k = false) => (show r = false by rw [HALL.out, HN.out]; exact HNO.out k hlt h))
      generalize xss.getD k [] = xs at *
      generalize (xss.getD 0 []).length = l1 at *
      have HCE := hid (fun (V : World) (hs : SliceOf .u8 V p0 xs) => l05Word_same p0 _ c0 xs rfl z0 f0 V hs)
      have S0 := hid s0
      clear s0 s1 hok
      generalize wordB xs = q at *
      generalize hl0 : xs.length = l0 at *
      clear hl0
      have hb0 : (0 : Int) ≤ k := by omega
      have hb1 : (k : Int) < n := by omega
      have hb2 : (0 : Int) < n := by omega
      rw [Nat.add_zero] at h1
      cases q
      · have HR := hid (HNK.out (HK.out))
        go_wp2_with fail
        go_quiet ((go_at_call 50; exact Calls.quiet_of_same ((HCE.out _ (S0.out.drewN _)).mono fun _ _ h => ⟨h.1, h.2.symm⟩)))
        go_wp2_with fail
        go_ret
        exact ⟨ret_bool HR.out.symm, hg.out.drewN _⟩
      · by_cases hl : l0 = l1
        · have HQ := hid (HS.out (by rw [HK.out, decide_eq_true hl]; rfl))
          have t1 : ((l0 : Int) != (l1 : Int)) = false := by simp; omega
          subst hl
          go_wp2_with fail
          go_quiet ((go_at_call 50; exact Calls.quiet_of_same ((HCE.out _ (S0.out.drewN _)).mono fun _ _ h => ⟨h.1, h.2.symm⟩)))
          go_wp2_with fail
          go_roundw
          case rel => exact ⟨k + 1, by omega, by go_num, HQ, hid (hg.out.drewN _)⟩
          case measure => simp [intOf]; omega
        · have HR := hid (HNK.out (by rw [HK.out, decide_eq_false hl]; rfl))
          have t1 : ((l0 : Int) != (l1 : Int)) = true := by simp; omega
          go_wp2_with fail
          go_quiet ((go_at_call 50; exact Calls.quiet_of_same ((HCE.out _ (S0.out.drewN _)).mono fun _ _ h => ⟨h.1, h.2.symm⟩)))
          go_wp2_with fail
          go_ret
          exact ⟨ret_bool HR.out.symm, hg.out.drewN _⟩
    · have HT := hid (show r = true by rw [HALL.out, show n = k by omega]; exact hok.out)
      go_wp2_with fail
      go_ret
      exact ⟨ret_bool HT.out.symm, hg.out⟩
end Go.Proofs.Ytojdbeebgllhhaa
