/- Distances of words: placesApart. -/
import Derived.Test.YtojdbeebgllhhabInts
namespace Go.Proofs.Ytojdbeebgllhhab
open Go.RowKit
/-- At how many of the first k places two lists differ. -/
def diffTo (xs ys : List Int) : Nat → Int
  | 0 => 0
  | k + 1 => diffTo xs ys k + (if (xs.getD k 0 != ys.getD k 0) then 1 else 0)
theorem diffTo_bd (xs ys : List Int) (k : Nat) : 0 ≤ diffTo xs ys k ∧ diffTo xs ys k ≤ k := by
  induction k with
  | zero => simp [diffTo]
  | succ k ih => simp only [diffTo]; split <;> omega
theorem diffTo_yes (xs ys : List Int) (k : Nat) (h : (xs.getD k 0 != ys.getD k 0) = true) : diffTo xs ys (k + 1) = diffTo xs ys k + 1 := by simp only [diffTo]; rw [if_pos h]
theorem diffTo_no (xs ys : List Int) (k : Nat) (h : (xs.getD k 0 != ys.getD k 0) = false) : diffTo xs ys (k + 1) = diffTo xs ys k := by simp only [diffTo]; rw [if_neg (by rw [h]; simp)]; omega

/-- Nothing but draws has been made. -/
def Drawn (w wr : World) : Prop := ∃ m, wr = w.drewN m
theorem Drawn.refl (w : World) : Drawn w w := ⟨0, rfl⟩
theorem Drawn.more {w wr : World} (h : Drawn w wr) (n : Nat) : Drawn w (wr.drewN n) := by
  obtain ⟨m, rfl⟩ := h
  exact ⟨m + n, World.drewN_drewN _ _ _⟩
theorem Drawn.cell {w wr : World} (h : Drawn w wr) {a : Addr} {v : Value} (hc : w.cell? a = some v) : wr.cell? a = some v := by
  obtain ⟨m, rfl⟩ := h; exact hc
theorem Drawn.grown {w wr : World} (h : Drawn w wr) : Grown w wr := by
  obtain ⟨m, rfl⟩ := h; exact (Grown.refl w).drewN m

set_option maxRecDepth 100000 in
theorem placesApart_any (a b : Option Addr) (ca cb n : Nat) (xs ys : List Int) (hx : xs.length = n) (hy : ys.length = n) (hn : n ≤ 1000) (w : World) (h0 : SliceOf .u8 w a xs) (h1 : SliceOf .u8 w b ys) :
    Calls Try.prog 134 #[.slice a n ca, .slice b n cb] w fun e w' => e = .returned (.int .i64 (diffTo xs ys n)) ∧ Drawn w w' := by
  have H0 := hid h0
  have H1 := hid h1
  have HX := hid hx
  have HY := hid hy
  clear h0 h1 hx hy
  go_enter Try.func134, Try.ntmps134
  go_wp2_with fail
  go_loopw [5, 9] (fun d i wr => ∃ k : Nat, k ≤ n ∧ i = .int .i64 k ∧ d = .int .i64 (diffTo xs ys k) ∧ Hid (Drawn w wr)) (fun _ i _ => n - (intOf i).toNat)
  case atStart => exact ⟨0, Nat.zero_le _, rfl, rfl, hid (Drawn.refl w)⟩
  case round =>
    obtain ⟨k, hk, rfl, rfl, hd⟩ := hrel
    by_cases hlt : k < n
    · obtain ⟨b0, o0, rfl, g0⟩ := H0.out k (by rw [HX.out]; exact hlt)
      obtain ⟨b1, o1, rfl, g1⟩ := H1.out k (by rw [HY.out]; exact hlt)
      have hc0 := hd.out.cell g0
      have hc1 := hd.out.cell g1
      clear g0 g1
      obtain ⟨hb0, hb1⟩ := diffTo_bd xs ys k
      have hk0 : (0 : Int) ≤ k := by omega
      have hk1 : (k : Int) < n := by omega
      cases hv : (xs.getD k 0 != ys.getD k 0)
      case true =>
        have HD := hid (diffTo_yes xs ys k hv)
        generalize xs.getD k 0 = x at *
        generalize ys.getD k 0 = y at *
        generalize diffTo xs ys k = d at *
        go_wp2_with fail
        go_quiet (fail)
        go_wp2_with fail
        go_roundw
        case rel => exact ⟨k + 1, by omega, by go_num, by rw [HD.out], hid (hd.out.more _)⟩
        case measure => simp [intOf]; omega
      case false =>
        have HD := hid (diffTo_no xs ys k hv)
        generalize xs.getD k 0 = x at *
        generalize ys.getD k 0 = y at *
        generalize diffTo xs ys k = d at *
        go_wp2_with fail
        go_quiet (fail)
        go_wp2_with fail
        go_roundw
        case rel => exact ⟨k + 1, by omega, by go_num, by rw [HD.out], hid (hd.out.more _)⟩
        case measure => simp [intOf]; omega
    · have hkn : k = n := by omega
      have HK := hid hkn
      clear hkn
      go_wp2_with fail
      go_ret
      exact ⟨ret_int (by rw [HK.out]), hd.out⟩
end Go.Proofs.Ytojdbeebgllhhab
