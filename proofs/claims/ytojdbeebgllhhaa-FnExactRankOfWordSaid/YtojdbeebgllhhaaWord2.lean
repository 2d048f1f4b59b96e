/- RankOfWord: the functions. -/
import Derived.Test.YtojdbeebgllhhaaWord1
namespace Go.Proofs.Ytojdbeebgllhhaa
open Go.RowKit
set_option maxRecDepth 100000 in
set_option maxHeartbeats 2000000 in
theorem spec_RankOfWord_any (p : Int) (hp : (Lit.int .i64 p).wf = true) (a : Option Addr) (xs : List Int) (hm : xs.length ≤ 1048576) (hf : Fits .u8 xs) (w : World) (hs : SliceOf .u8 w a xs) :
    Calls Try.prog 15 #[.int .i64 p, .slice a xs.length xs.length] w fun e w' => e = .returned (.tuple #[.int .i64 (rankV p xs), .int .i64 (rankC p xs)]) ∧ Gr w w' := by
  have HW := hid (l05Word_any a _ xs.length xs rfl hm hf w hs)
  have HB := hid (fun V (g : Gr w V) => l05Below_any p a _ xs.length xs rfl hm hf V (hs.gr g))
  have HO := hid (ofB_eq p xs)
  obtain ⟨n, hn⟩ : ∃ n, n = xs.length := ⟨_, rfl⟩
  have HFR := hid (rank_far (n := p) (xs := xs))
  have HBD := hid (rank_bad (n := p) (xs := xs))
  have HOK := hid (rank_ok (n := p) (xs := xs))
  have HLN := hid (ofB_len (n := p) (xs := xs))
  have HLT := hid (fun h i hi => (ofB_lett (n := p) (xs := xs) h (i := i) hi).1)
  generalize rankC p xs = rc at *
  generalize rankV p xs = rv at *
  generalize ofB p xs = ob at *
  generalize wordB xs = wb at *
  generalize belowB p xs = bb at *
  rw [← hn] at HW HB HLN HLT HOK hm ⊢
  have HN := hid hn
  have S := hid hs
  have HF := hid hf
  clear hs hn hf hp
  cases hb : betB p 2 37
  · obtain ⟨e1, e2⟩ := HFR.out hb
    subst e1 e2
    have HBV := hid hb
    clear hb
    go_enter Try.func15, Try.ntmps15
    go_wp2_with (go_at_call 49; refine (l00In_b _ _ _ _).mono ?_; rintro e w' ⟨rfl, rfl⟩; rw [HBV.out])
    go_ret2
    exact ⟨rfl, Gr.refl _⟩
  · have HBV := hid hb
    obtain ⟨p2, p37⟩ := betW.1 hb
    have P2 := hid p2
    have P37 := hid p37
    cases ho : ob
    · obtain ⟨e1, e2⟩ := HBD.out hb ho
      subst e1 e2
      rw [ho] at HO
      clear hb
      cases hw : wb
      · subst hw
        clear HO
        go_enter Try.func15, Try.ntmps15
        go_wp2_with (go_at_call 49; refine (l00In_b _ _ _ _).mono ?_; rintro e w' ⟨rfl, rfl⟩; rw [HBV.out])
        refine HW.out.mono ?_
        rintro e w1 ⟨rfl, g1⟩
        have G1 := hid g1
        clear g1
        go_wp2_with fail
        go_ret2
        exact ⟨rfl, G1.out⟩
      · subst hw
        have hbb : bb = false := by have := HO.out; simpa using this.symm
        subst hbb
        clear HO
        go_enter Try.func15, Try.ntmps15
        go_wp2_with (go_at_call 49; refine (l00In_b _ _ _ _).mono ?_; rintro e w' ⟨rfl, rfl⟩; rw [HBV.out])
        refine HW.out.mono ?_
        rintro e w1 ⟨rfl, g1⟩
        have G1 := hid g1
        clear g1
        go_wp2_with fail
        refine (HB.out _ G1.out).mono ?_
        rintro e w2 ⟨rfl, g2⟩
        have G2 := hid (G1.out.trans g2)
        clear g2
        go_wp2_with fail
        go_ret2
        exact ⟨rfl, G2.out⟩
    · obtain ⟨e1, e2⟩ := HOK.out hb ho
      obtain ⟨l1, l8⟩ := HLN.out ho
      have HX := hid (HLT.out ho)
      rw [ho] at HO
      have hwb : wb = true ∧ bb = true := by have := HO.out; simpa using this.symm
      obtain ⟨hw, hbb⟩ := hwb
      subst hw hbb e1
      have HR := hid e2
      clear hb ho HO e2
      go_enter Try.func15, Try.ntmps15
      go_wp2_with (go_at_call 49; refine (l00In_b _ _ _ _).mono ?_; rintro e w' ⟨rfl, rfl⟩; rw [HBV.out])
      refine HW.out.mono ?_
      rintro e w1 ⟨rfl, g1⟩
      have G1 := hid g1
      clear g1
      go_wp2_with fail
      refine (HB.out _ G1.out).mono ?_
      rintro e w2 ⟨rfl, g2⟩
      have G2 := hid (G1.out.trans g2)
      clear g2 G1
      go_wp2_with fail
      go_loop [6, 7] (fun v i => ∃ k : Nat, k ≤ n ∧ i = .int .i64 k ∧ v = .int .i64 (rankTo p xs k)) (fun _ i => n - (intOf i).toNat)
      case atStart => exact ⟨0, Nat.zero_le _, rfl, rfl⟩
      case round =>
        obtain ⟨k, hk, rfl, rfl⟩ := hrel
        by_cases hlt : k < n
        · obtain ⟨b, off, rfl, hc0⟩ := S.out k (by rw [← HN.out]; exact hlt)
          have hc := G2.out.cell hc0
          clear hc0
          obtain ⟨hx0, hx1⟩ := HF.out.getu k
          obtain ⟨m1, m2⟩ := rankTo_step P2.out P37.out (show k < 8 by omega) (xs := xs) (fun i hi => ⟨(HF.out.getu i).1, HX.out i (by omega)⟩)
          have HS := hid (show rankTo p xs (k + 1) = rankTo p xs k * p + xs.getD k 0 from rfl)
          generalize xs.getD k 0 = x at *
          generalize rankTo p xs k = r at *
          have e1 : IntKind.i64.wrap x = x := IntWalk.i64_in _ (by omega)
          go_wp2
          go_round
          case rel => exact ⟨k + 1, by omega, by go_num, by rw [HS.out]⟩
          case measure => simp [intOf] <;> omega
        · have HK := hid (show k = n by omega)
          go_wp2
          go_ret2
          exact ⟨by rw [HR.out, ← HK.out]; rfl, G2.out⟩
set_option maxRecDepth 100000 in
set_option maxHeartbeats 2000000 in
theorem impl_RankOfWord_any (p : Int) (hp : (Lit.int .i64 p).wf = true) (a : Option Addr) (xs : List Int) (hm : xs.length ≤ 1048576) (hf : Fits .u8 xs) (w : World) (hs : SliceOf .u8 w a xs) :
    Calls Try.prog 17 #[.int .i64 p, .slice a xs.length xs.length] w fun e w' => e = .returned (.tuple #[.int .i64 (rankV p xs), .int .i64 (rankC p xs)]) ∧ Gr w w' := by
  have HW := hid (isOf_any a _ xs.length xs rfl hm hf p w hs)
  obtain ⟨n, hn⟩ : ∃ n, n = xs.length := ⟨_, rfl⟩
  have HFR := hid (rank_far (n := p) (xs := xs))
  have HBD := hid (rank_bad (n := p) (xs := xs))
  have HOK := hid (rank_ok (n := p) (xs := xs))
  have HLN := hid (ofB_len (n := p) (xs := xs))
  have HLT := hid (fun h i hi => (ofB_lett (n := p) (xs := xs) h (i := i) hi).1)
  generalize rankC p xs = rc at *
  generalize rankV p xs = rv at *
  generalize ofB p xs = ob at *
  rw [← hn] at HW HLN HLT HOK hm ⊢
  have HN := hid hn
  have S := hid hs
  have HF := hid hf
  clear hs hn hf hp
  cases hb : betB p 2 37
  · obtain ⟨e1, e2⟩ := HFR.out hb
    subst e1 e2
    have HBV := hid hb
    clear hb
    go_enter Try.func17, Try.ntmps17
    go_wp2_with (go_at_call 52; refine (isBetween_any _ _ _ _).mono ?_; rintro e w' ⟨rfl, rfl⟩; rw [HBV.out])
    go_ret2
    exact ⟨rfl, Gr.refl _⟩
  · have HBV := hid hb
    obtain ⟨p2, p37⟩ := betW.1 hb
    have P2 := hid p2
    have P37 := hid p37
    cases ho : ob
    · obtain ⟨e1, e2⟩ := HBD.out hb ho
      subst e1 e2 ho
      clear hb
      go_enter Try.func17, Try.ntmps17
      go_wp2_with (go_at_call 52; refine (isBetween_any _ _ _ _).mono ?_; rintro e w' ⟨rfl, rfl⟩; rw [HBV.out])
      refine HW.out.mono ?_
      rintro e w1 ⟨rfl, g1⟩
      have G1 := hid g1
      clear g1
      go_wp2_with fail
      go_ret2
      exact ⟨rfl, G1.out⟩
    · obtain ⟨e1, e2⟩ := HOK.out hb ho
      obtain ⟨l1, l8⟩ := HLN.out ho
      have HX := hid (HLT.out ho)
      subst ho e1
      have HR := hid e2
      clear hb e2
      go_enter Try.func17, Try.ntmps17
      go_wp2_with (go_at_call 52; refine (isBetween_any _ _ _ _).mono ?_; rintro e w' ⟨rfl, rfl⟩; rw [HBV.out])
      refine HW.out.mono ?_
      rintro e w1 ⟨rfl, g1⟩
      have G2 := hid g1
      clear g1
      go_wp2_with fail
      go_loop [6, 18] (fun v i => ∃ k : Nat, k ≤ n ∧ i = .int .i64 k ∧ v = .int .i64 (rankTo p xs k)) (fun _ i => n - (intOf i).toNat)
      case atStart => exact ⟨0, Nat.zero_le _, rfl, rfl⟩
      case round =>
        obtain ⟨k, hk, rfl, rfl⟩ := hrel
        by_cases hlt : k < n
        · obtain ⟨b, off, rfl, hc0⟩ := S.out k (by rw [← HN.out]; exact hlt)
          have hc := G2.out.cell hc0
          clear hc0
          obtain ⟨hx0, hx1⟩ := HF.out.getu k
          obtain ⟨m1, m2⟩ := rankTo_step P2.out P37.out (show k < 8 by omega) (xs := xs) (fun i hi => ⟨(HF.out.getu i).1, HX.out i (by omega)⟩)
          have HS := hid (show rankTo p xs (k + 1) = rankTo p xs k * p + xs.getD k 0 from rfl)
          generalize xs.getD k 0 = x at *
          generalize rankTo p xs k = r at *
          have e1 : IntKind.i64.wrap x = x := IntWalk.i64_in _ (by omega)
          go_wp2
          go_round
          case rel => exact ⟨k + 1, by omega, by go_num, by rw [HS.out]⟩
          case measure => simp [intOf] <;> omega
        · have HK := hid (show k = n by omega)
          go_wp2
          go_ret2
          exact ⟨by rw [HR.out, ← HK.out]; rfl, G2.out⟩
end Go.Proofs.Ytojdbeebgllhhaa
