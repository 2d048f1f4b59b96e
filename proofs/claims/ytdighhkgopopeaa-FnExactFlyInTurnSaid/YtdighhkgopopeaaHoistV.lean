/- Hoists of the program: what is valid. -/
import Derived.Test.YtdighhkgopopeaaSlices
import Derived.Test.YtdighhkgopopeaaHoistM
namespace Go.Proofs.Ytdighhkgopopeaa
set_option linter.unusedVariables false
open Go.RowKit
def betB (n a b : Int) : Bool := decide (a ≤ n) && decide (n ≤ b)
set_option maxRecDepth 100000 in
theorem isBetween_any (n a b : Int) (w : World) :
    Calls Try.prog 49 #[.int .i64 n, .int .i64 a, .int .i64 b] w fun e w' => e = .returned (.bool (betB n a b)) ∧ w = w' := by
  by_cases h1 : a ≤ n
  · have d1 : decide (a ≤ n) = true := by simpa using h1
    go_enter Try.func49, Try.ntmps49
    go_wp2
    go_ret
    exact ⟨ret_bool (by simp [betB, h1]), rfl⟩
  · have d1 : decide (a ≤ n) = false := by simpa using h1
    go_enter Try.func49, Try.ntmps49
    go_wp2
    go_ret
    exact ⟨ret_bool (by unfold betB; rw [d1]; rfl), rfl⟩
set_option maxRecDepth 100000 in
theorem l00In_b (n a b : Int) (w : World) :
    Calls Try.prog 36 #[.int .i64 n, .int .i64 a, .int .i64 b] w fun e w' => e = .returned (.bool (betB n a b)) ∧ w = w' := by
  by_cases h1 : a ≤ n
  · have d1 : decide (a ≤ n) = true := by simpa using h1
    go_enter Try.func36, Try.ntmps36
    go_wp2
    go_ret
    exact ⟨ret_bool (by simp [betB, h1]), rfl⟩
  · have d1 : decide (a ≤ n) = false := by simpa using h1
    go_enter Try.func36, Try.ntmps36
    go_wp2
    go_ret
    exact ⟨ret_bool (by unfold betB; rw [d1]; rfl), rfl⟩
set_option maxRecDepth 100000 in
theorem isSub_any (x : Int) (h0 : -128 ≤ x) (h1 : x ≤ 127) (w : World) :
    Calls Try.prog 46 #[.int .i8 x] w fun e w' => e = .returned (.bool (subI x)) ∧ w = w' := by
  go_enter Try.func46, Try.ntmps46
  go_wp2_with (go_at_call 49; refine (isBetween_any _ _ _ _).mono ?_; rintro e w' ⟨rfl, rfl⟩)
  go_ret
  exact ⟨rfl, rfl⟩
set_option maxRecDepth 100000 in
theorem isKind_any (x : Int) (h0 : -128 ≤ x) (h1 : x ≤ 127) (w : World) :
    Calls Try.prog 81 #[.int .i8 x] w fun e w' => e = .returned (.bool (kindI x)) ∧ w = w' := by
  go_enter Try.func81, Try.ntmps81
  go_wp2_with (go_at_call 49; refine (isBetween_any _ _ _ _).mono ?_; rintro e w' ⟨rfl, rfl⟩)
  go_ret
  exact ⟨rfl, rfl⟩
theorem Fits.get8 {xs : List Int} (h : Fits .i8 xs) (i : Nat) : -128 ≤ xs.getD i 0 ∧ xs.getD i 0 ≤ 127 := by
  by_cases hi : i < xs.length
  · have h1 := h _ (List.getElem_mem hi)
    have h2 : xs.getD i 0 = xs[i] := by simp [List.getD, List.getElem?_eq_getElem hi]
    rw [h2]
    simpa [Lit.wf, IntKind.min, IntKind.max, IntKind.signed, IntKind.bits] using h1
  · simp [List.getD, List.getElem?_eq_none (by omega : xs.length ≤ i)]
theorem Fits.set8 {xs : List Int} (h : Fits .i8 xs) (i : Nat) {x : Int} (hx : -128 ≤ x ∧ x ≤ 127) : Fits .i8 (xs.set i x) := by
  intro y hy
  rcases List.mem_or_eq_of_mem_set hy with h1 | rfl
  · exact h y h1
  · simpa [Lit.wf, IntKind.min, IntKind.max, IntKind.signed, IntKind.bits] using hx
/-- A part of a list. -/
def partL (xs : List Int) (i j : Nat) : List Int := (xs.take j).drop i
theorem partL_length {xs : List Int} {i j : Nat} (hi : i ≤ j) (hj : j ≤ xs.length) : (partL xs i j).length = j - i := by simp [partL]; omega
theorem partL_get {xs : List Int} {i j k : Nat} (hj : j ≤ xs.length) (hk : i + k < j) : (partL xs i j).getD k 0 = xs.getD (i + k) 0 := by
  simp [partL, List.getD, hk]
def RetPart (k : IntKind) (xs : List Int) (i j : Nat) (w : World) (r : Ending) (w' : World) : Prop :=
  ∃ a, r = .returned (.slice a (j - i) (j - i)) ∧ SliceOf k w a (partL xs i j) ∧ w = w'
theorem SliceOf.part0 {k : IntKind} {w : World} {a : Option Addr} {xs : List Int} (h : SliceOf k w a xs) {p : Nat} (hp : p ≤ xs.length) : SliceOf k w a (partL xs 0 p) := by
  intro i hi
  rw [partL_length (by omega) hp] at hi
  obtain ⟨b, off, e, hc⟩ := h i (by omega)
  exact ⟨b, off, e, by rw [partL_get hp (by omega), Nat.zero_add]; exact hc⟩
theorem SliceOf.part {k : IntKind} {w : World} {b off : Nat} {xs : List Int} (h : SliceOf k w (some ⟨b, off, none⟩) xs) {s p : Nat} (hs : s ≤ p) (hp : p ≤ xs.length) : SliceOf k w (some ⟨b, off + s, none⟩) (partL xs s p) := by
  intro i hi
  rw [partL_length hs hp] at hi
  obtain ⟨b', off', e, hc⟩ := h (s + i) (by omega)
  simp only [Option.some.injEq, Addr.mk.injEq] at e
  obtain ⟨rfl, rfl, _⟩ := e
  exact ⟨b, off + s, rfl, by rw [partL_get hp (by omega), Nat.add_assoc]; exact hc⟩
theorem SliceOf.part_nil {k : IntKind} {w : World} {a : Option Addr} {xs : List Int} {p : Nat} (hp : p ≤ xs.length) : SliceOf k w a (partL xs p p) := by
  intro i hi
  rw [partL_length (Nat.le_refl _) hp] at hi
  omega
set_option maxRecDepth 100000 in
theorem aboveHoist_any (a : Option Addr) (n cap : Nat) (xs : List Int) (hn : n = xs.length) (hm : n ≤ 1048576) (hcap : n ≤ cap) (p : Nat) (hp : p ≤ n) (w : World) (hs : SliceOf .i8 w a xs) :
    Calls Try.prog 79 #[.slice a n cap, .int .i64 p] w (RetPart .i8 xs (startOf xs p) p w) := by
  have S := hid hs
  have HN := hid hn
  clear hs hn
  go_enter Try.func79, Try.ntmps79
  go_wp2
  go_loop [5] (fun s => ∃ j : Nat, j ≤ p ∧ s = .int .i64 j ∧ Hid (startOf xs j = startOf xs p)) (fun s => (intOf s).toNat)
  case atStart => exact ⟨p, Nat.le_refl _, rfl, hid rfl⟩
  case round =>
    obtain ⟨j, hj, rfl, hst⟩ := hrel
    cases j with
    | zero =>
      have hz : startOf xs p = 0 := by rw [← hst.out]; rfl
      have HZ := hid hz
      clear hz
      go_wp2
      go_ret
      exact ⟨a, by rw [HZ.out]; rfl, by rw [HZ.out]; exact S.out.part0 (by rw [← HN.out]; exact hp), rfl⟩
    | succ i =>
      obtain ⟨b, off, rfl, hc⟩ := S.out i (by rw [← HN.out]; omega)
      cases hb : brkI (xs.getD i 0)
      · have hx : (xs.getD i 0 == -10) = false := by have := brkI_no hb; simpa using this
        have hx' : (xs.getD i 0 != -10) = true := by have := brkI_no hb; simpa using this
        have HS := hid ((startOf_no (brkI_no hb)).symm.trans hst.out)
        clear hb
        generalize xs.getD i 0 = x at *
        go_wp2
        go_round
        case rel => exact ⟨i, by omega, rfl, HS⟩
        case measure => simp [intOf]
      · have hx : (xs.getD i 0 == -10) = true := by have := brkI_iff.1 hb; simpa using this
        have hx' : (xs.getD i 0 != -10) = false := by have := brkI_iff.1 hb; simpa using this
        have hz : startOf xs p = i + 1 := by rw [← hst.out]; exact startOf_brk (brkI_iff.1 hb)
        have HZ := hid hz
        clear hz hb
        generalize xs.getD i 0 = x at *
        go_wp2
        · go_ret
          obtain rfl : p = i + 1 := by assumption
          exact ⟨_, by rw [HZ.out, Nat.sub_self]; rfl, by rw [HZ.out]; exact SliceOf.part_nil (by rw [← HN.out]; exact hp), rfl⟩
        · go_ret
          exact ⟨_, by rw [HZ.out]; rfl, by rw [HZ.out]; exact S.out.part hj (by rw [← HN.out]; exact hp), rfl⟩
set_option maxRecDepth 100000 in
theorem aboveMeaning_any (a : Option Addr) (n cap : Nat) (xs : List Int) (hn : n = xs.length) (hm : n ≤ 1048576) (hcap : n ≤ cap) (p : Nat) (hp : p ≤ n) (w : World) (hs : SliceOf .i8 w a xs) :
    Calls Try.prog 48 #[.slice a n cap, .int .i64 p] w (RetPart .i8 xs (startOf xs p) p w) := by
  have S := hid hs
  have HN := hid hn
  clear hs hn
  go_enter Try.func48, Try.ntmps48
  go_wp2
  go_loop [5] (fun s => ∃ j : Nat, j ≤ p ∧ s = .int .i64 j ∧ Hid (startOf xs j = startOf xs p)) (fun s => (intOf s).toNat)
  case atStart => exact ⟨p, Nat.le_refl _, rfl, hid rfl⟩
  case round =>
    obtain ⟨j, hj, rfl, hst⟩ := hrel
    cases j with
    | zero =>
      have hz : startOf xs p = 0 := by rw [← hst.out]; rfl
      have HZ := hid hz
      clear hz
      go_wp2
      go_ret
      exact ⟨a, by rw [HZ.out]; rfl, by rw [HZ.out]; exact S.out.part0 (by rw [← HN.out]; exact hp), rfl⟩
    | succ i =>
      obtain ⟨b, off, rfl, hc⟩ := S.out i (by rw [← HN.out]; omega)
      cases hb : brkI (xs.getD i 0)
      · have hx : (xs.getD i 0 == -10) = false := by have := brkI_no hb; simpa using this
        have hx' : (xs.getD i 0 != -10) = true := by have := brkI_no hb; simpa using this
        have HS := hid ((startOf_no (brkI_no hb)).symm.trans hst.out)
        clear hb
        generalize xs.getD i 0 = x at *
        go_wp2
        go_round
        case rel => exact ⟨i, by omega, rfl, HS⟩
        case measure => simp [intOf]
      · have hx : (xs.getD i 0 == -10) = true := by have := brkI_iff.1 hb; simpa using this
        have hx' : (xs.getD i 0 != -10) = false := by have := brkI_iff.1 hb; simpa using this
        have hz : startOf xs p = i + 1 := by rw [← hst.out]; exact startOf_brk (brkI_iff.1 hb)
        have HZ := hid hz
        clear hz hb
        generalize xs.getD i 0 = x at *
        go_wp2
        · go_ret
          obtain rfl : p = i + 1 := by assumption
          exact ⟨_, by rw [HZ.out, Nat.sub_self]; rfl, by rw [HZ.out]; exact SliceOf.part_nil (by rw [← HN.out]; exact hp), rfl⟩
        · go_ret
          exact ⟨_, by rw [HZ.out]; rfl, by rw [HZ.out]; exact S.out.part hj (by rw [← HN.out]; exact hp), rfl⟩
end Go.Proofs.Ytdighhkgopopeaa
