/- The laws' own draws: numbers from bytes, a meaning. -/
import Derived.Test.YtbbkjhnihoohpaaMeant
namespace Go.Proofs.Ytbbkjhnihoohpaa
open Go.RowKit
set_option maxRecDepth 100000 in
theorem a2Long_no (a0 : Option Addr) (n0 c0 : Nat) (a1 : Option Addr) (n1 c1 : Nat) (h0 : n0 ≤ 3000) (h1 : n1 ≤ 3000) (w : World) :
    Calls Try.prog 4 #[.slice a0 n0 c0, .slice a1 n1 c1] w fun e w' => e = .returned (.bool false) ∧ w = w' := by
  have t0 : ¬ (3000 : Int) < (n0 : Int) := by omega
  have t1 : ¬ (3000 : Int) < (n1 : Int) := by omega
  go_enter Try.func4, Try.ntmps4
  go_wp2_with fail
  go_ret
  exact ⟨rfl, rfl⟩
set_option maxRecDepth 100000 in
theorem a2Long_yes (a0 : Option Addr) (n0 c0 : Nat) (a1 : Option Addr) (n1 c1 : Nat) (h : ¬ (n0 ≤ 3000 ∧ n1 ≤ 3000)) (w : World) :
    Calls Try.prog 4 #[.slice a0 n0 c0, .slice a1 n1 c1] w fun e w' => e = .returned (.bool true) ∧ w = w' := by
  by_cases h0 : n0 ≤ 3000
  · have t0 : ¬ (3000 : Int) < (n0 : Int) := by omega
    have t1 : (3000 : Int) < (n1 : Int) := by omega
    clear h
    go_enter Try.func4, Try.ntmps4
    go_wp2_with fail
    go_ret
    exact ⟨rfl, rfl⟩
  · have t0 : (3000 : Int) < (n0 : Int) := by omega
    clear h
    go_enter Try.func4, Try.ntmps4
    go_wp2_with fail
    go_ret
    exact ⟨rfl, rfl⟩
set_option maxRecDepth 100000 in
theorem a2At_any (a : Option Addr) (n c : Nat) (bs : List Int) (hn : n = bs.length) (hf : Fits .u8 bs) (i k : Nat) (hi : i ≤ 1) (hk : 1 ≤ k) (hk9 : k ≤ 100) (w : World) (hs : SliceOf .u8 w a bs) :
    Calls Try.prog 6 #[.slice a n c, .int .i64 i, .int .i64 k] w fun e w' => (∃ v : Int, 0 ≤ v ∧ v < k ∧ e = .returned (.int .i64 v)) ∧ w = w' := by
  have t2 : ¬ (k : Int) < 1 := by omega
  have t3 : ¬ (k : Int) = 0 := by omega
  have t4 : ((k : Int) == 0) = false := by simpa using t3
  by_cases hlt : i < n
  · obtain ⟨b1, o1, rfl, hc⟩ := hs i (by omega)
    obtain ⟨x, hx, hx9⟩ := fits_u8 hf i
    rw [hx] at hc
    have t0 : (i : Int) < (n : Int) := by omega
    have t0' : ¬ (n : Int) ≤ (i : Int) := by omega
    have hi0 : (0 : Int) ≤ (i : Int) := by omega
    have hm := Nat.mod_lt x hk
    have HK := hid hk
    clear hs hf hx hk
    go_enter Try.func6, Try.ntmps6
    go_wp2_with fail
    go_ret
    exact ⟨⟨((x % k : Nat) : Int), by omega, by omega, ret_int (Int.natCast_emod x k).symm⟩, rfl⟩
  · have t0 : (n : Int) ≤ (i : Int) := by omega
    clear hs hf
    go_enter Try.func6, Try.ntmps6
    go_wp2_with fail
    go_ret
    exact ⟨⟨0, by omega, by omega, rfl⟩, rfl⟩
set_option maxRecDepth 100000 in
set_option maxHeartbeats 1000000 in
theorem A2Meaning_any (a : Option Addr) (n c : Nat) (bs : List Int) (hn : n = bs.length) (hm : n ≤ 1048576) (hf : Fits .u8 bs) (w : World) (hs : SliceOf .u8 w a bs) :
    Calls Try.prog 5 #[.slice a n c] w fun e w' => (∃ xs a cap, e = .returned (.slice a xs.length cap) ∧ plainH xs = true ∧ xs.length ≤ cap ∧ SliceOf .i8 w' a xs) ∧ Gr w w' := by
  have HF := hid (l00From_any a n c w)
  have HBN := hid (show 0 < n → ∀ p, a = some p → p.block ≠ w.heap.size from fun h1 p e => by
    obtain ⟨b1, o1, e1, hc⟩ := hs 0 (by omega)
    rw [e1] at e
    cases e
    have := World.block_lt_of_cell? w _ hc
    dsimp only [Addr.add] at *
    omega)
  have HM := hid (fun W (g : Gr w W) h => l02Meant_any w.heap.size a n c 0 bs hn hm hf (by omega) W (hs.gr g) (HBN.out) h)
  clear hn hm hf hs
  go_enter Try.func5, Try.ntmps5
  go_wp2_with fail
  refine HF.out.mono ?_
  rintro e w1 ⟨rfl, s1, g1⟩
  have S1 := hid s1
  have G1 := hid g1
  clear s1 g1
  go_wp2_with fail
  refine (HM.out _ G1.out S1.out).mono ?_
  rintro e w2 ⟨⟨xs, a2, cap, rfl, hp, hcap, h2⟩, _, m2⟩
  have H2 := hid h2
  have HP := hid hp
  have M2 := hid m2
  clear h2 m2 hp
  go_wp2_with fail
  go_ret
  exact ⟨⟨xs, a2, cap, rfl, HP.out, hcap, H2.out⟩, Below.trans G1.out (M2.out.below (Nat.le_refl _) G1.out.size)⟩
end Go.Proofs.Ytbbkjhnihoohpaa
