/- CodeName, ColourName: the walks. -/
import Derived.Test.YtnghcchkiodalacDoorStrTab
namespace Go.Proofs.YtnghcchkiodalacDoor
open Go.RowKit
def codeL : List (List UInt8) := [[111, 107], [105, 110, 118, 97, 108, 105, 100], [114, 97, 110, 103, 101], [108, 105, 109, 105, 116], [115, 116, 97, 116, 101], [115, 121, 110, 116, 97, 120], [110, 111, 116, 102, 111, 117, 110, 100], [98, 117, 100, 103, 101, 116], [112, 114, 111, 111, 102]]
def colourL : List (List UInt8) := [[119, 104, 105, 116, 101], [121, 101, 108, 108, 111, 119], [114, 101, 100], [98, 108, 117, 101], [103, 114, 101, 101, 110], [98, 108, 97, 99, 107]]
/-- The name of a number; nothing, if it has none. -/
def nameV (names : List (List UInt8)) (c : Int) : ByteArray := if 0 ≤ c ∧ c < names.length then ⟨(names.getD c.toNat []).toArray⟩ else ⟨#[]⟩
theorem nameV_no {names : List (List UInt8)} {c : Int} (h : c < 0 ∨ (names.length : Int) ≤ c) : nameV names c = ⟨#[]⟩ := by unfold nameV; rw [if_neg (by omega)]
def betN (n a b : Int) : Bool := decide (a ≤ n) && decide (n ≤ b)
theorem l00In_n (n a b : Int) (w : World) :
    Calls Tryd.prog 30 #[.int .i64 n, .int .i64 a, .int .i64 b] w fun e w' => e = .returned (.bool (betN n a b)) ∧ w = w' := by
  by_cases h1 : a ≤ n
  · have d1 : decide (a ≤ n) = true := by simpa using h1
    go_enter Tryd.func30, Tryd.ntmps30
    go_wp2
    go_ret
    exact ⟨ret_bool (by simp [betN, h1]), rfl⟩
  · have d1 : decide (a ≤ n) = false := by simpa using h1
    go_enter Tryd.func30, Tryd.ntmps30
    go_wp2
    go_ret
    exact ⟨ret_bool (by unfold betN; rw [d1]; rfl), rfl⟩

set_option maxHeartbeats 2000000 in
theorem spec_CodeName_any (c : Int) (hc : (Lit.int .i64 c).wf = true) (w : World) :
    Calls Tryd.prog 19 #[.int .i64 c] w fun e w' => e = .returned (.string (nameV codeL c)) ∧ Grown w w' := by
  obtain ⟨c0, c1⟩ := bounds_i64 hc
  clear hc
  by_cases hr : 0 ≤ c ∧ c < 9
  · obtain ⟨h0, h1⟩ := hr
    have HB := hid (show betN c 0 8 = true by unfold betN; rw [decide_eq_true h0, Bool.true_and, decide_eq_true_iff]; omega)
    obtain rfl | rfl | rfl | rfl | rfl | rfl | rfl | rfl | rfl : c = 0 ∨ c = 1 ∨ c = 2 ∨ c = 3 ∨ c = 4 ∨ c = 5 ∨ c = 6 ∨ c = 7 ∨ c = 8 := by omega
    all_goals
      go_enter Tryd.func19, Tryd.ntmps19
      go_wp2_with (go_at_call 30; refine (l00In_n _ _ _ _).mono ?_; rintro e w' ⟨rfl, rfl⟩; rw [HB.out])
      go_ret
      exact ⟨rfl, (Grown.refl _).alloc _ _⟩
  · rw [nameV_no (by have : (codeL.length : Int) = 9 := rfl; omega)]
    have HB := hid (show betN c 0 8 = false by unfold betN; rw [Bool.and_eq_false_iff]; simp only [decide_eq_false_iff_not]; omega)
    clear hr
    go_enter Tryd.func19, Tryd.ntmps19
    go_wp2_with (go_at_call 30; refine (l00In_n _ _ _ _).mono ?_; rintro e w' ⟨rfl, rfl⟩; rw [HB.out])
    go_ret
    exact ⟨rfl, (Grown.refl _).alloc _ _⟩
set_option maxHeartbeats 2000000 in
theorem impl_CodeName_any (c : Int) (hc : (Lit.int .i64 c).wf = true) (w : World) (ht : ∀ k, k < 9 → w.cell? ⟨0, k, none⟩ = some (.string ⟨(codeL.getD k []).toArray⟩)) :
    Calls Tryd.prog 20 #[.int .i64 c] w fun e w' => e = .returned (.string (nameV codeL c)) ∧ Grown w w' := by
  obtain ⟨c0, c1⟩ := bounds_i64 hc
  have HT := hid ht
  clear hc ht
  by_cases hr : 0 ≤ c ∧ c < 9
  · obtain ⟨h0, h1⟩ := hr
    obtain ⟨k, rfl⟩ : ∃ k : Nat, c = k := ⟨c.toNat, by omega⟩
    have hk : k < 9 := by omega
    have hcell := HT.out k hk
    have hnv : nameV codeL (k : Int) = ⟨(codeL.getD k []).toArray⟩ := by
      unfold nameV
      rw [if_pos ⟨h0, by have : (codeL.length : Int) = 9 := rfl; omega⟩]
      congr 3
    rw [hnv]
    have HB := hid (show betN (k : Int) 0 8 = true by unfold betN; rw [decide_eq_true h0, Bool.true_and, decide_eq_true_iff]; omega)
    have e1 : IntKind.u64.wrap (k : Int) = (k : Int) := IntWalk.u64_in _ (by omega)
    clear hnv
    generalize (⟨(codeL.getD k []).toArray⟩ : ByteArray) = s at *
    go_enter Tryd.func20, Tryd.ntmps20
    go_wp2_with fail
    go_ret
    exact ⟨rfl, Grown.refl _⟩
  · rw [nameV_no (by have : (codeL.length : Int) = 9 := rfl; omega)]
    have HB := hid (show betN c 0 8 = false by unfold betN; rw [Bool.and_eq_false_iff]; simp only [decide_eq_false_iff_not]; omega)
    by_cases hn : c < 0
    · have hu : 9 ≤ IntKind.u64.wrap c := by
        simp [IntKind.wrap, IntKind.bits, IntKind.signed]; omega
      clear hr c0 c1
      go_enter Tryd.func20, Tryd.ntmps20
      go_wp2_with fail
      go_ret
      exact ⟨rfl, Grown.refl _⟩
    · have e1 : IntKind.u64.wrap c = c := IntWalk.u64_in _ (by omega)
      have hc9 : 9 ≤ c := by omega
      clear hr
      go_enter Tryd.func20, Tryd.ntmps20
      go_wp2_with fail
      go_ret
      exact ⟨rfl, Grown.refl _⟩
theorem FnExactCodeName_walk (c : Int) (hc : (Lit.int .i64 c).wf = true) (w : World) (ht : ∀ k, k < 9 → w.cell? ⟨0, k, none⟩ = some (.string ⟨(codeL.getD k []).toArray⟩)) :
    Calls Tryd.prog 6 #[.int .i64 c] w fun e w' => e = .returned (.bool true) ∧ Grown w w' := by
  have hs := hid (fun W => spec_CodeName_any c hc W)
  have hi := hid (fun W g => impl_CodeName_any c hc W (fun k hk => cell_grown (g : Grown w W) (ht k hk)))
  clear hc ht
  generalize nameV codeL c = s at *
  go_enter Tryd.func6, Tryd.ntmps6
  go_wp2_with fail
  refine (hs.out _).mono ?_
  rintro e w1 ⟨rfl, g⟩
  have G := hid g
  clear g
  go_wp2_with fail
  refine (hi.out _ G.out).mono ?_
  rintro e w2 ⟨rfl, g⟩
  replace G := hid (Grown_trans G.out g)
  clear g
  go_wp2_with fail
  go_ret
  exact ⟨rfl, G.out⟩

theorem l01Colour_n (c : Int) (w : World) : Calls Tryd.prog 35 #[.int .i64 c] w fun e w' => e = .returned (.bool (betN c 0 5)) ∧ w = w' := by
  go_enter Tryd.func35, Tryd.ntmps35
  go_wp2_with (go_at_call 30; refine (l00In_n _ _ _ _).mono ?_; rintro e w' ⟨rfl, rfl⟩)
  go_ret
  exact ⟨rfl, rfl⟩
theorem isColour_n (c : Int) (w : World) : Calls Tryd.prog 36 #[.int .i64 c] w fun e w' => e = .returned (.bool (betN c 0 5)) ∧ w = w' := by
  by_cases h1 : 0 ≤ c
  · have d1 : decide (0 ≤ c) = true := by simpa using h1
    go_enter Tryd.func36, Tryd.ntmps36
    go_wp2
    go_ret
    exact ⟨ret_bool (by unfold betN; rw [d1, Bool.true_and, decide_eq_decide]; omega), rfl⟩
  · have d1 : decide (0 ≤ c) = false := by simpa using h1
    go_enter Tryd.func36, Tryd.ntmps36
    go_wp2
    go_ret
    exact ⟨ret_bool (by unfold betN; rw [d1]; rfl), rfl⟩

set_option maxHeartbeats 2000000 in
theorem spec_ColourName_any (c : Int) (hc : (Lit.int .i64 c).wf = true) (w : World) :
    Calls Tryd.prog 21 #[.int .i64 c] w fun e w' => e = .returned (.string (nameV colourL c)) ∧ Grown w w' := by
  obtain ⟨c0, c1⟩ := bounds_i64 hc
  clear hc
  by_cases hr : 0 ≤ c ∧ c < 6
  · obtain ⟨h0, h1⟩ := hr
    have HB := hid (show betN c 0 5 = true by unfold betN; rw [decide_eq_true h0, Bool.true_and, decide_eq_true_iff]; omega)
    obtain rfl | rfl | rfl | rfl | rfl | rfl : c = 0 ∨ c = 1 ∨ c = 2 ∨ c = 3 ∨ c = 4 ∨ c = 5 := by omega
    all_goals
      go_enter Tryd.func21, Tryd.ntmps21
      go_wp2_with (go_at_call 35; refine (l01Colour_n _ _).mono ?_; rintro e w' ⟨rfl, rfl⟩; rw [HB.out])
      go_ret
      exact ⟨rfl, (Grown.refl _).alloc _ _⟩
  · rw [nameV_no (by have : (colourL.length : Int) = 6 := rfl; omega)]
    have HB := hid (show betN c 0 5 = false by unfold betN; rw [Bool.and_eq_false_iff]; simp only [decide_eq_false_iff_not]; omega)
    clear hr
    go_enter Tryd.func21, Tryd.ntmps21
    go_wp2_with (go_at_call 35; refine (l01Colour_n _ _).mono ?_; rintro e w' ⟨rfl, rfl⟩; rw [HB.out])
    go_ret
    exact ⟨rfl, (Grown.refl _).alloc _ _⟩
set_option maxHeartbeats 2000000 in
theorem impl_ColourName_any (c : Int) (hc : (Lit.int .i64 c).wf = true) (w : World) (ht : ∀ k, k < 6 → w.cell? ⟨1, k, none⟩ = some (.string ⟨(colourL.getD k []).toArray⟩)) :
    Calls Tryd.prog 22 #[.int .i64 c] w fun e w' => e = .returned (.string (nameV colourL c)) ∧ Grown w w' := by
  obtain ⟨c0, c1⟩ := bounds_i64 hc
  have HT := hid ht
  clear hc ht
  by_cases hr : 0 ≤ c ∧ c < 6
  · obtain ⟨h0, h1⟩ := hr
    obtain ⟨k, rfl⟩ : ∃ k : Nat, c = k := ⟨c.toNat, by omega⟩
    have hk : k < 6 := by omega
    have hcell := HT.out k hk
    have hnv : nameV colourL (k : Int) = ⟨(colourL.getD k []).toArray⟩ := by
      unfold nameV
      rw [if_pos ⟨h0, by have : (colourL.length : Int) = 6 := rfl; omega⟩]
      congr 3
    rw [hnv]
    have HB := hid (show betN (k : Int) 0 5 = true by unfold betN; rw [decide_eq_true h0, Bool.true_and, decide_eq_true_iff]; omega)
    have e1 : IntKind.u64.wrap (k : Int) = (k : Int) := IntWalk.u64_in _ (by omega)
    clear hnv
    generalize (⟨(colourL.getD k []).toArray⟩ : ByteArray) = s at *
    go_enter Tryd.func22, Tryd.ntmps22
    go_wp2_with (go_at_call 36; refine (isColour_n _ _).mono ?_; rintro e w' ⟨rfl, rfl⟩; rw [HB.out])
    go_ret
    exact ⟨rfl, Grown.refl _⟩
  · rw [nameV_no (by have : (colourL.length : Int) = 6 := rfl; omega)]
    have HB := hid (show betN c 0 5 = false by unfold betN; rw [Bool.and_eq_false_iff]; simp only [decide_eq_false_iff_not]; omega)
    by_cases hn : c < 0
    · have hu : 6 ≤ IntKind.u64.wrap c := by
        simp [IntKind.wrap, IntKind.bits, IntKind.signed]; omega
      clear hr c0 c1
      go_enter Tryd.func22, Tryd.ntmps22
      go_wp2_with (go_at_call 36; refine (isColour_n _ _).mono ?_; rintro e w' ⟨rfl, rfl⟩; rw [HB.out])
      go_ret
      exact ⟨rfl, Grown.refl _⟩
    · have e1 : IntKind.u64.wrap c = c := IntWalk.u64_in _ (by omega)
      have hc9 : 6 ≤ c := by omega
      clear hr
      go_enter Tryd.func22, Tryd.ntmps22
      go_wp2_with (go_at_call 36; refine (isColour_n _ _).mono ?_; rintro e w' ⟨rfl, rfl⟩; rw [HB.out])
      go_ret
      exact ⟨rfl, Grown.refl _⟩
theorem FnExactColourName_walk (c : Int) (hc : (Lit.int .i64 c).wf = true) (w : World) (ht : ∀ k, k < 6 → w.cell? ⟨1, k, none⟩ = some (.string ⟨(colourL.getD k []).toArray⟩)) :
    Calls Tryd.prog 7 #[.int .i64 c] w fun e w' => e = .returned (.bool true) ∧ Grown w w' := by
  have hs := hid (fun W => spec_ColourName_any c hc W)
  have hi := hid (fun W g => impl_ColourName_any c hc W (fun k hk => cell_grown (g : Grown w W) (ht k hk)))
  clear hc ht
  generalize nameV colourL c = s at *
  go_enter Tryd.func7, Tryd.ntmps7
  go_wp2_with fail
  refine (hs.out _).mono ?_
  rintro e w1 ⟨rfl, g⟩
  have G := hid g
  clear g
  go_wp2_with fail
  refine (hi.out _ G.out).mono ?_
  rintro e w2 ⟨rfl, g⟩
  replace G := hid (Grown_trans G.out g)
  clear g
  go_wp2_with fail
  go_ret
  exact ⟨rfl, G.out⟩
end Go.Proofs.YtnghcchkiodalacDoor
