/- Lines of ships: what is valid. -/
import Derived.Test.YtnkoakneffjkbaaDoorOwnV
import Derived.Test.YtnkoakneffjkbaaDoorHoistM
namespace Go.Proofs.YtnkoakneffjkbaaDoor
set_option linter.unusedVariables false
open Go.RowKit
def rgV (n a b : Int) : Bool := decide (a ≤ n) && decide (n ≤ b)
theorem rgV_iff {n a b : Int} : rgV n a b = true ↔ a ≤ n ∧ n ≤ b := by simp [rgV]
def shB (xs : List Int) (k : Nat) : Bool := rgV (xs.getD (k * 3) 0) 0 6 && (rgV (xs.getD (k * 3 + 1) 0) 0 60 && rgV (xs.getD (k * 3 + 2) 0) 0 60)
def lineB (n : Nat) (xs : List Int) : Bool := rgV n 1 20 && allTo (shB xs) n
set_option maxRecDepth 100000 in
theorem isBetween_r {n a b : Int} {r : Bool} (h : rgV n a b = r) (w : World) :
    Calls Tryd.prog 63 #[.int .i64 n, .int .i64 a, .int .i64 b] w fun e w' => e = .returned (.bool r) ∧ w = w' := by
  have H := hid h
  clear h
  by_cases h1 : a ≤ n
  · have d1 : decide (a ≤ n) = true := by simpa using h1
    go_enter Tryd.func63, Tryd.ntmps63
    go_wp2
    go_ret
    exact ⟨ret_bool (by rw [← H.out]; simp [rgV, h1]), rfl⟩
  · have d1 : decide (a ≤ n) = false := by simpa using h1
    go_enter Tryd.func63, Tryd.ntmps63
    go_wp2
    go_ret
    exact ⟨ret_bool (by rw [← H.out]; unfold rgV; rw [d1]; rfl), rfl⟩
set_option maxRecDepth 100000 in
theorem l00In_v {n a b : Int} {r : Bool} (h : rgV n a b = r) (w : World) :
    Calls Tryd.prog 54 #[.int .i64 n, .int .i64 a, .int .i64 b] w fun e w' => e = .returned (.bool r) ∧ w = w' := by
  have H := hid h
  clear h
  by_cases h1 : a ≤ n
  · have d1 : decide (a ≤ n) = true := by simpa using h1
    go_enter Tryd.func54, Tryd.ntmps54
    go_wp2
    go_ret
    exact ⟨ret_bool (by rw [← H.out]; simp [rgV, h1]), rfl⟩
  · have d1 : decide (a ≤ n) = false := by simpa using h1
    go_enter Tryd.func54, Tryd.ntmps54
    go_wp2
    go_ret
    exact ⟨ret_bool (by rw [← H.out]; unfold rgV; rw [d1]; rfl), rfl⟩
/-- The three cells of a ship. -/
def shCells (s r b : Int) : Array Value := #[.int .i8 s, .int .i8 r, .int .i8 b]
def tripB (s r b : Int) : Bool := rgV s 0 6 && (rgV r 0 60 && rgV b 0 60)
theorem ship_range {w : World} {b off : Nat} {xs : List Int} {n k : Nat} (hs : SliceOf .i8 w (some ⟨b, off, none⟩) xs) (hl : xs.length = n * 3) (hk : k < n) : w.rangeAt b (off + k * 3) (shCells (xs.getD (k * 3) 0) (xs.getD (k * 3 + 1) 0) (xs.getD (k * 3 + 2) 0)).toList := by
  intro j v hv
  have hj : j < 3 := (List.getElem?_eq_some_iff.1 hv).1
  obtain ⟨b', off', e, hc⟩ := hs (k * 3 + j) (by omega)
  cases e
  rw [show off + k * 3 + j = off + (k * 3 + j) by omega, hc]
  rcases (by omega : j = 0 ∨ j = 1 ∨ j = 2) with rfl | rfl | rfl <;> simpa [shCells] using hv
theorem ship_cells {w : World} {a : Option Addr} {xs : List Int} {n k : Nat} (hs : SliceOf .i8 w a xs) (hl : xs.length = n * 3) (hk : k < n) :
    ∃ b off, a = some ⟨b, off, none⟩ ∧ w.cell? ⟨b, off + k * 3, none⟩ = some (.int .i8 (xs.getD (k * 3) 0)) ∧ w.cell? ⟨b, off + k * 3 + 1, none⟩ = some (.int .i8 (xs.getD (k * 3 + 1) 0)) ∧ w.cell? ⟨b, off + k * 3 + 2, none⟩ = some (.int .i8 (xs.getD (k * 3 + 2) 0)) := by
  obtain ⟨b, off, rfl, h0⟩ := hs (k * 3) (by omega)
  obtain ⟨b1, o1, e1, h1⟩ := hs (k * 3 + 1) (by omega)
  obtain ⟨b2, o2, e2, h2⟩ := hs (k * 3 + 2) (by omega)
  cases e1
  cases e2
  exact ⟨b, off, rfl, h0, h1, h2⟩
theorem Fits.i8 {xs : List Int} (h : Fits .i8 xs) (i : Nat) : -128 ≤ xs.getD i 0 ∧ xs.getD i 0 ≤ 127 := by
  by_cases hi : i < xs.length
  · have h1 := h (xs[i]) (List.getElem_mem hi)
    have h2 : -128 ≤ xs[i] ∧ xs[i] ≤ 127 := by simpa [Lit.wf, IntKind.min, IntKind.max, IntKind.signed, IntKind.bits] using h1
    simpa [List.getD, List.getElem?_eq_getElem hi] using h2
  · simp [List.getD, List.getElem?_eq_none (by omega : xs.length ≤ i)]
end Go.Proofs.YtnkoakneffjkbaaDoor
