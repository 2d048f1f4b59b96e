/- LettersApart: the functions. -/
import Derived.Test.YtojdbeebgllhhabWord1
import Derived.Test.YtojdbeebgllhhabDistW
namespace Go.Proofs.Ytojdbeebgllhhab
open Go.RowKit
def apartC (xs ys : List Int) : Int := if wordB xs && wordB ys then (if xs.length = ys.length then 0 else 2) else 1
def apartV (xs ys : List Int) : Int := if apartC xs ys = 0 then diffTo xs ys xs.length else 0
theorem apart_bad {xs ys : List Int} (h : (wordB xs && wordB ys) = false) : apartV xs ys = 0 ∧ apartC xs ys = 1 := by unfold apartV apartC; rw [h]; exact ⟨rfl, rfl⟩
theorem apart_len {xs ys : List Int} (h : (wordB xs && wordB ys) = true) (hl : ¬ xs.length = ys.length) : apartV xs ys = 0 ∧ apartC xs ys = 2 := by unfold apartV apartC; rw [h, if_neg hl]; exact ⟨rfl, rfl⟩
theorem apart_ok {xs ys : List Int} (h : (wordB xs && wordB ys) = true) (hl : xs.length = ys.length) : apartV xs ys = diffTo xs ys xs.length ∧ apartC xs ys = 0 := by unfold apartV apartC; rw [h, if_pos hl]; exact ⟨rfl, rfl⟩
theorem Drawn.gr {w wr : World} (h : Drawn w wr) : Gr w wr := Gr.of h.grown
set_option maxRecDepth 100000 in
theorem l05Apart_any (a b : Option Addr) (ca cb n : Nat) (xs ys : List Int) (hx : xs.length = n) (hy : ys.length = n) (hn : n ≤ 1000) (w : World) (h0 : SliceOf .u8 w a xs) (h1 : SliceOf .u8 w b ys) :
    Calls Try.prog 73 #[.slice a n ca, .slice b n cb] w fun e w' => e = .returned (.int .i64 (diffTo xs ys n)) ∧ Drawn w w' := by
  have H0 := hid h0
  have H1 := hid h1
  have HX := hid hx
  have HY := hid hy
  clear h0 h1 hx hy
  go_enter Try.func73, Try.ntmps73
  go_wp2_with fail
  go_loopw [5, 6] (fun d i wr => ∃ k : Nat, k ≤ n ∧ i = .int .i64 k ∧ d = .int .i64 (diffTo xs ys k) ∧ Hid (Drawn w wr)) (fun _ i _ => n - (intOf i).toNat)
  case atStart => exact ⟨0, Nat.zero_le _, rfl, rfl, hid (Drawn.refl w)⟩
  case round =>
    obtain ⟨k, hk, rfl, rfl, hd⟩ := hrel
    by_cases hlt : k < n
    · obtain ⟨b0, o0, rfl, g0⟩ := H0.out k (by rw [HX.out]; exact hlt)
      obtain ⟨b1, o1, rfl, g1⟩ := H1.out k (by rw [HY.out]; exact hlt)
      have hc0 := hd.out.cell g0
      have hc1 := hd.out.cell g1
      clear g0 g1
      obtain ⟨hb0, hb1⟩ := diffTo_bd xs ys k
      have hk0 : (0 : Int) ≤ k := by omega
      have hk1 : (k : Int) < n := by omega
      cases hv : (xs.getD k 0 != ys.getD k 0)
      case true =>
        have HD := hid (diffTo_yes xs ys k hv)
        generalize xs.getD k 0 = x at *
        generalize ys.getD k 0 = y at *
        generalize diffTo xs ys k = d at *
        go_wp2_with fail
        go_quiet (fail)
        go_wp2_with fail
        go_roundw
        case rel => exact ⟨k + 1, by omega, by go_num, by rw [HD.out], hid (hd.out.more _)⟩
        case measure => simp [intOf]; omega
      case false =>
        have HD := hid (diffTo_no xs ys k hv)
        generalize xs.getD k 0 = x at *
        generalize ys.getD k 0 = y at *
        generalize diffTo xs ys k = d at *
        go_wp2_with fail
        go_quiet (fail)
        go_wp2_with fail
        go_roundw
        case rel => exact ⟨k + 1, by omega, by go_num, by rw [HD.out], hid (hd.out.more _)⟩
        case measure => simp [intOf]; omega
    · have HK := hid (show k = n by omega)
      go_wp2_with fail
      go_ret
      exact ⟨ret_int (by rw [HK.out]), hd.out⟩
set_option maxRecDepth 100000 in
theorem apartW_any (a b : Option Addr) (ca cb n : Nat) (xs ys : List Int) (hx : xs.length = n) (hy : ys.length = n) (hn : n ≤ 1000) (w : World) (h0 : SliceOf .u8 w a xs) (h1 : SliceOf .u8 w b ys) :
    Calls Try.prog 118 #[.slice a n ca, .slice b n cb] w fun e w' => e = .returned (.int .i64 (diffTo xs ys n)) ∧ Drawn w w' := by
  have H := hid (placesApart_any a b ca cb n xs ys hx hy hn w h0 h1)
  clear h0 h1 hx hy
  generalize diffTo xs ys n = d at *
  go_enter Try.func118, Try.ntmps118
  go_wp2_with fail
  refine H.out.mono ?_
  rintro e w' ⟨rfl, hd⟩
  have D := hid hd
  clear hd
  go_wp2_with fail
  go_ret
  exact ⟨rfl, D.out⟩


set_option maxRecDepth 100000 in
set_option maxHeartbeats 800000 in
theorem impl_LettersApart_any (a : Option Addr) (xs : List Int) (hm : xs.length ≤ 1048576) (hf : Fits .u8 xs) (b : Option Addr) (ys : List Int) (hm2 : ys.length ≤ 1048576) (hf2 : Fits .u8 ys) (w : World) (hs : SliceOf .u8 w a xs) (hs2 : SliceOf .u8 w b ys) :
    Calls Try.prog 60 #[.slice a xs.length xs.length, .slice b ys.length ys.length] w fun e w' => e = .returned (.tuple #[.int .i64 (apartV xs ys), .int .i64 (apartC xs ys)]) ∧ Gr w w' := by
  have HW := hid (isValid_any a _ xs.length xs rfl hm hf w hs)
  have HW2 := hid (fun V (g : Gr w V) => isValid_any b _ ys.length ys rfl hm2 hf2 V (hs2.gr g))
  have HD := hid (fun V (g : Gr w V) n (e1 : xs.length = n) (e2 : ys.length = n) (h8 : n ≤ 1000) ca cb => apartW_any a b ca cb n xs ys e1 e2 h8 V (hs.gr g) (hs2.gr g))
  have HB := hid (apart_bad (xs := xs) (ys := ys))
  have HL := hid (apart_len (xs := xs) (ys := ys))
  have HO := hid (apart_ok (xs := xs) (ys := ys))
  have HX := hid (wordB_len (xs := xs))
  generalize apartV xs ys = rv at *
  generalize apartC xs ys = rc at *
  generalize wordB xs = p at *
  generalize wordB ys = q at *
  obtain ⟨n, hn⟩ : ∃ n, n = xs.length := ⟨_, rfl⟩
  obtain ⟨m, hm'⟩ : ∃ m, m = ys.length := ⟨_, rfl⟩
  have HN := hid hn
  have HM := hid hm'
  rw [← hn] at HW HX HL HO hm ⊢
  rw [← hm'] at HW2 HL HO hm2 ⊢
  clear hs hs2 hf hf2 hn hm'
  cases p
  · obtain ⟨e1, e2⟩ := HB.out rfl
    subst e1 e2
    clear HB HL HO HX
    go_enter Try.func60, Try.ntmps60
    go_wp2_with fail
    refine HW.out.mono ?_
    rintro e w1 ⟨rfl, g1⟩
    have G1 := hid g1
    clear g1
    go_wp2_with fail
    go_ret2
    exact ⟨rfl, G1.out⟩
  · cases q
    · obtain ⟨e1, e2⟩ := HB.out rfl
      subst e1 e2
      clear HB HL HO HX
      go_enter Try.func60, Try.ntmps60
      go_wp2_with fail
      refine HW.out.mono ?_
      rintro e w1 ⟨rfl, g1⟩
      have G1 := hid g1
      clear g1
      go_wp2_with fail
      refine (HW2.out _ G1.out).mono ?_
      rintro e w2 ⟨rfl, g2⟩
      have G2 := hid (G1.out.trans g2)
      clear g2 G1
      go_wp2_with fail
      go_ret2
      exact ⟨rfl, G2.out⟩
    · by_cases hnm : n = m
      · obtain ⟨e1, e2⟩ := HO.out rfl hnm
        obtain ⟨l1, l8⟩ := HX.out rfl
        subst hnm e2
        have HR := hid e1
        have HC := hid (fun V (g : Gr w V) => HD.out V g n HN.out.symm HM.out.symm (by omega))
        clear HB HL HO HX HD e1
        go_enter Try.func60, Try.ntmps60
        go_wp2_with fail
        refine HW.out.mono ?_
        rintro e w1 ⟨rfl, g1⟩
        have G1 := hid g1
        clear g1
        go_wp2_with fail
        refine (HW2.out _ G1.out).mono ?_
        rintro e w2 ⟨rfl, g2⟩
        have G2 := hid (G1.out.trans g2)
        clear g2 G1
        go_wp2_with fail
        refine (HC.out _ G2.out _ _).mono ?_
        rintro e w3 ⟨rfl, d3⟩
        have G3 := hid (G2.out.trans d3.gr)
        clear d3 G2
        go_wp2_with fail
        go_ret2
        exact ⟨by rw [HR.out]; rfl, G3.out⟩
      · obtain ⟨e1, e2⟩ := HL.out rfl hnm
        subst e1 e2
        have t1 : ((n : Int) != (m : Int)) = true := by simp; omega
        have t2 : ((n : Int) == (m : Int)) = false := by simp; omega
        have t3 : (n != m) = true := by simpa using hnm
        clear HB HL HO HX HD
        go_enter Try.func60, Try.ntmps60
        go_wp2_with fail
        refine HW.out.mono ?_
        rintro e w1 ⟨rfl, g1⟩
        have G1 := hid g1
        clear g1
        go_wp2_with fail
        refine (HW2.out _ G1.out).mono ?_
        rintro e w2 ⟨rfl, g2⟩
        have G2 := hid (G1.out.trans g2)
        clear g2 G1
        go_wp2_with fail
        go_ret2
        exact ⟨rfl, G2.out⟩
end Go.Proofs.Ytojdbeebgllhhab
