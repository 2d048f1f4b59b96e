/- Hoists of the program: what is valid. -/
import Derived.Test.YtojdbeebgllhhabSlices
import Derived.Test.YtojdbeebgllhhabHoistM
namespace Go.Proofs.Ytojdbeebgllhhab
open Go.RowKit
def betB (n a b : Int) : Bool := decide (a ≤ n) && decide (n ≤ b)
set_option maxRecDepth 100000 in
theorem isBetween_any (n a b : Int) (w : World) :
    Calls Try.prog 75 #[.int .i64 n, .int .i64 a, .int .i64 b] w fun e w' => e = .returned (.bool (betB n a b)) ∧ w = w' := by
  by_cases h1 : a ≤ n
  · have d1 : decide (a ≤ n) = true := by simpa using h1
    go_enter Try.func75, Try.ntmps75
    go_wp2
    go_ret
    exact ⟨ret_bool (by simp [betB, h1]), rfl⟩
  · have d1 : decide (a ≤ n) = false := by simpa using h1
    go_enter Try.func75, Try.ntmps75
    go_wp2
    go_ret
    exact ⟨ret_bool (by unfold betB; rw [d1]; rfl), rfl⟩
set_option maxRecDepth 100000 in
theorem l00In_b (n a b : Int) (w : World) :
    Calls Try.prog 70 #[.int .i64 n, .int .i64 a, .int .i64 b] w fun e w' => e = .returned (.bool (betB n a b)) ∧ w = w' := by
  by_cases h1 : a ≤ n
  · have d1 : decide (a ≤ n) = true := by simpa using h1
    go_enter Try.func70, Try.ntmps70
    go_wp2
    go_ret
    exact ⟨ret_bool (by simp [betB, h1]), rfl⟩
  · have d1 : decide (a ≤ n) = false := by simpa using h1
    go_enter Try.func70, Try.ntmps70
    go_wp2
    go_ret
    exact ⟨ret_bool (by unfold betB; rw [d1]; rfl), rfl⟩
theorem Fits.get8 {xs : List Int} (h : Fits .i8 xs) (i : Nat) : -128 ≤ xs.getD i 0 ∧ xs.getD i 0 ≤ 127 := by
  by_cases hi : i < xs.length
  · have h1 := h _ (List.getElem_mem hi)
    have h2 : xs.getD i 0 = xs[i] := by simp [List.getD, List.getElem?_eq_getElem hi]
    rw [h2]
    simpa [Lit.wf, IntKind.min, IntKind.max, IntKind.signed, IntKind.bits] using h1
  · simp [List.getD, List.getElem?_eq_none (by omega : xs.length ≤ i)]
theorem Fits.set8 {xs : List Int} (h : Fits .i8 xs) (i : Nat) {x : Int} (hx : -128 ≤ x ∧ x ≤ 127) : Fits .i8 (xs.set i x) := by
  intro y hy
  rcases List.mem_or_eq_of_mem_set hy with h1 | rfl
  · exact h y h1
  · simpa [Lit.wf, IntKind.min, IntKind.max, IntKind.signed, IntKind.bits] using hx
/-- A part of a list. -/
def partL (xs : List Int) (i j : Nat) : List Int := (xs.take j).drop i
theorem partL_length {xs : List Int} {i j : Nat} (hi : i ≤ j) (hj : j ≤ xs.length) : (partL xs i j).length = j - i := by simp [partL]; omega
theorem partL_get {xs : List Int} {i j k : Nat} (hj : j ≤ xs.length) (hk : i + k < j) : (partL xs i j).getD k 0 = xs.getD (i + k) 0 := by
  simp [partL, List.getD, List.getElem?_take, hk]
def RetPart (k : IntKind) (xs : List Int) (i j : Nat) (w : World) (r : Ending) (w' : World) : Prop :=
  ∃ a, r = .returned (.slice a (j - i) (j - i)) ∧ SliceOf k w a (partL xs i j) ∧ w = w'
theorem SliceOf.part0 {k : IntKind} {w : World} {a : Option Addr} {xs : List Int} (h : SliceOf k w a xs) {p : Nat} (hp : p ≤ xs.length) : SliceOf k w a (partL xs 0 p) := by
  intro i hi
  rw [partL_length (by omega) hp] at hi
  obtain ⟨b, off, e, hc⟩ := h i (by omega)
  exact ⟨b, off, e, by rw [partL_get hp (by omega), Nat.zero_add]; exact hc⟩
theorem SliceOf.part {k : IntKind} {w : World} {b off : Nat} {xs : List Int} (h : SliceOf k w (some ⟨b, off, none⟩) xs) {s p : Nat} (hs : s ≤ p) (hp : p ≤ xs.length) : SliceOf k w (some ⟨b, off + s, none⟩) (partL xs s p) := by
  intro i hi
  rw [partL_length hs hp] at hi
  obtain ⟨b', off', e, hc⟩ := h (s + i) (by omega)
  simp only [Option.some.injEq, Addr.mk.injEq] at e
  obtain ⟨rfl, rfl, _⟩ := e
  exact ⟨b, off + s, rfl, by rw [partL_get hp (by omega), Nat.add_assoc]; exact hc⟩
theorem SliceOf.part_nil {k : IntKind} {w : World} {a : Option Addr} {xs : List Int} {p : Nat} (hp : p ≤ xs.length) : SliceOf k w a (partL xs p p) := by
  intro i hi
  rw [partL_length (Nat.le_refl _) hp] at hi
  omega
end Go.Proofs.Ytojdbeebgllhhab
