/- SetsFor: the functions. -/
import Derived.Test.YtkbdblaciphmnaaHoistF
namespace Go.Proofs.Ytkbdblaciphmnaa
set_option linter.unusedVariables false
open Go.RowKit
/-- The greatest number of flags or substitutes of one kind, up to a place. -/
def setsTo (xs : List Int) (n : Nat) : Nat → Int
  | 0 => 0
  | k + 1 => if brkI (xs.getD k 0) then setsTo xs n k else if setsTo xs n k < occ xs (xs.getD k 0) n then occ xs (xs.getD k 0) n else setsTo xs n k
theorem setsTo_le {xs : List Int} {n k : Nat} {b : Int} : setsTo xs n k ≤ b ↔ 0 ≤ b ∧ ∀ i, i < k → ¬ xs.getD i 0 = -10 → occ xs (xs.getD i 0) n ≤ b := by
  induction k with
  | zero => simp [setsTo]
  | succ k ih =>
    simp only [setsTo]
    constructor
    · intro h
      cases hb : brkI (xs.getD k 0)
      · rw [hb] at h
        simp only [Bool.false_eq_true, if_false] at h
        have h1 : setsTo xs n k ≤ b ∧ occ xs (xs.getD k 0) n ≤ b := by split at h <;> omega
        obtain ⟨h2, h3⟩ := ih.1 h1.1
        refine ⟨h2, fun i hi hne => ?_⟩
        by_cases e : i = k
        · rw [e]; exact h1.2
        · exact h3 i (by omega) hne
      · rw [if_pos hb] at h
        obtain ⟨h2, h3⟩ := ih.1 h
        refine ⟨h2, fun i hi hne => ?_⟩
        by_cases e : i = k
        · rw [e] at hne; exact absurd (brkI_iff.1 hb) hne
        · exact h3 i (by omega) hne
    · rintro ⟨h1, h2⟩
      have h3 := ih.2 ⟨h1, fun i hi => h2 i (by omega)⟩
      cases hb : brkI (xs.getD k 0)
      · have h4 := h2 k (by omega) (brkI_no hb)
        simp only [Bool.false_eq_true, if_false]
        split <;> omega
      · rw [if_pos rfl]; exact h3
theorem setsTo_bd (xs : List Int) (n k : Nat) : 0 ≤ setsTo xs n k ∧ setsTo xs n k ≤ n := by
  refine ⟨(setsTo_le.1 (Int.le_refl _)).1, setsTo_le.2 ⟨by omega, fun i _ _ => (occ_bd xs _ n).2⟩⟩
def setsF (xs : List Int) : Int := if validH xs then setsTo xs xs.length xs.length else 0
theorem setsF_yes {xs : List Int} (h : validH xs = true) : setsF xs = setsTo xs xs.length xs.length := by unfold setsF; rw [if_pos h]
theorem setsF_no {xs : List Int} (h : validH xs = false) : setsF xs = 0 := by unfold setsF; rw [if_neg (by rw [h]; simp)]
def flgC (xs : List Int) (n c : Nat) : Int := occ xs (c : Int) n
def subC (xs : List Int) (n c : Nat) : Int := occ xs (-(c : Int) - 1) n
theorem sets_eq {xs : List Int} (hv : validH xs = true) : maxFrom (maxFrom 0 (flgC xs xs.length) 40) (subC xs xs.length) 4 = setsTo xs xs.length xs.length := by
  have hz : ∀ c : Int, ¬ c = -10 → occ xs c xs.length ≤ setsTo xs xs.length xs.length := by
    intro c hc
    by_cases hi : ∃ i, i < xs.length ∧ xs.getD i 0 = c
    · obtain ⟨i, hi, rfl⟩ := hi
      exact (setsTo_le.1 (Int.le_refl (setsTo xs xs.length xs.length))).2 i hi hc
    · rw [occ_zero (fun i hi' e => hi ⟨i, hi', e⟩)]
      exact (setsTo_bd xs xs.length xs.length).1
  apply Int.le_antisymm
  · refine maxFrom_le.2 ⟨maxFrom_le.2 ⟨(setsTo_bd xs xs.length xs.length).1, fun c _ => hz _ (by omega)⟩, fun c _ => hz _ (by omega)⟩
  · obtain ⟨h1, h2⟩ := (maxFrom_le (m := maxFrom 0 (flgC xs xs.length) 40) (f := subC xs xs.length) (k := 4)).1 (Int.le_refl _)
    obtain ⟨h3, h4⟩ := maxFrom_le.1 h1
    refine setsTo_le.2 ⟨h3, fun i hi hne => ?_⟩
    rcases validH_num hv hi with h | h | h
    · exact absurd h hne
    · have := h2 ((-(xs.getD i 0)).toNat - 1) (by omega)
      unfold subC at this
      rw [show -(((-(xs.getD i 0)).toNat - 1 : Nat) : Int) - 1 = xs.getD i 0 by omega] at this
      exact this
    · have := h4 (xs.getD i 0).toNat (by omega)
      unfold flgC at this
      rw [show (((xs.getD i 0).toNat : Nat) : Int) = xs.getD i 0 by omega] at this
      exact this
def maxI (a b : Int) : Int := if a < b then b else a
set_option maxRecDepth 100000 in
theorem l00Max_any (a b : Int) (w : World) :
    Calls Try.prog 113 #[.int .i64 a, .int .i64 b] w fun e w' => e = .returned (.int .i64 (maxI a b)) ∧ w = w' := by
  by_cases h1 : b < a
  · have HM := hid (show maxI a b = a by unfold maxI; rw [if_neg (by omega)])
    go_enter Try.func113, Try.ntmps113
    go_wp2
    go_ret
    exact ⟨ret_int HM.out.symm, rfl⟩
  · have HM := hid (show maxI a b = b by unfold maxI; split <;> omega)
    go_enter Try.func113, Try.ntmps113
    go_wp2
    go_ret
    exact ⟨ret_int HM.out.symm, rfl⟩
theorem maxFrom_step (m : Int) (f : Nat → Int) (k : Nat) : maxI (maxFrom m f k) (f k) = maxFrom m f (k + 1) := rfl
theorem maxFrom_b (m : Int) (f : Nat → Int) (k : Nat) (B : Int) (hm : 0 ≤ m ∧ m ≤ B) (hf : ∀ i, 0 ≤ f i ∧ f i ≤ B) : 0 ≤ maxFrom m f k ∧ maxFrom m f k ≤ B := maxFrom_bd hm (fun i _ => (hf i).2)
theorem colF_get {xs : List Int} {n k : Nat} (hk : k < 40) : (colL 40 (fun c => (c : Int)) xs n).getD k 0 = flgC xs n k := colL_get hk
theorem colS_get {xs : List Int} {n k : Nat} (hk : k < 4) : (colL 4 (fun c => -(c : Int) - 1) xs n).getD k 0 = subC xs n k := colL_get hk

set_option maxRecDepth 100000 in
set_option maxHeartbeats 2000000 in
theorem l02Sets_any (a : Option Addr) (n cap : Nat) (xs : List Int) (hn : n = xs.length) (hv : validH xs = true) (w : World) (hs : SliceOf .i8 w a xs) :
    Calls Try.prog 108 #[.slice a n cap] w fun e w' => e = .returned (.int .i64 (setsTo xs n n)) ∧ Gr w w' := by
  have h1 := hid (l02Flags_any a n cap xs hn hv w hs)
  have h2 := hid (fun (W : World) (g : Gr w W) => l02Subs_any a n cap xs hn hv W (hs.gr g))
  have HE := hid (show maxFrom (maxFrom 0 (flgC xs n) 40) (subC xs n) 4 = setsTo xs n n by rw [hn]; exact sets_eq hv)
  have hm := (validH_len hv).2
  rw [← hn] at hm
  have HF := hid (colL_length 40 (fun c => (c : Int)) xs n)
  have HS := hid (colL_length 4 (fun c => -(c : Int) - 1) xs n)
  have HB := hid (fun i => occ_bd xs i n)
  clear hs hn hv
  go_enter Try.func108, Try.ntmps108
  go_wp2_with fail
  refine h1.out.mono ?_
  rintro e w1 ⟨rfl, g⟩
  have z1 := hid (heap_new (w := w1) (o := (.cells (kCells .i64 zeros40) 129)) rfl)
  have b1 := hid (heap_row_set (cs := kCells .i64 (colL 40 (fun c => (c : Int)) xs n)) z1.out)
  have gl := ((Gr.refl w1).alloc (.cells (kCells .i64 zeros40) 129)).setRow (Nat.le_refl _) (kCells .i64 (colL 40 (fun c => (c : Int)) xs n))
  have gr := hid (g.trans gl)
  clear g gl h1
  go_wp2_with (refine wpList_store_cells rfl 129 _ _ rfl _ (kCells .i64 (colL 40 (fun c => (c : Int)) xs n)) (kCells .i64 zeros40) rfl rfl _ 40 z1.out (by kernel_rfl) (by rw [kCells_size]; exact HF.out) (by rw [kCells_size]; rfl) (kCells_one _ _) ?_)
  clear z1
  generalize hz : w1.heap.size = z1 at *
  clear hz
  go_loopw [3, 5] (fun q i wr => ∃ k : Nat, k ≤ 40 ∧ i = .int .i64 k ∧ q = .int .i64 (maxFrom 0 (flgC xs n) k) ∧ Hid (Gr w wr) ∧ Hid (wr.heap[z1]? = some (.cells (kCells .i64 (colL 40 (fun c => (c : Int)) xs n)) 129 (0, 0)))) (fun _ i _ => 40 - (intOf i).toNat)
  case atStart => exact ⟨0, Nat.zero_le _, rfl, rfl, gr, b1⟩
  case round =>
    clear gr b1
    obtain ⟨k, hk, rfl, rfl, gr, b1⟩ := hrel
    by_cases hlt : k < 40
    · have hc := cell_ints b1.out (i := k) (by rw [HF.out]; exact hlt)
      rw [colF_get hlt] at hc
      have HST := hid (maxFrom_step 0 (flgC xs n) k)
      generalize maxFrom 0 (flgC xs n) k = m at *
      generalize flgC xs n k = q at *
      go_wp2_with (go_at_call 113; refine (l00Max_any _ _ _).mono ?_; rintro e w' ⟨rfl, rfl⟩)
      go_roundw
      case rel => exact ⟨k + 1, by omega, by go_num, by rw [HST.out], gr, b1⟩
      case measure => simp [intOf] <;> omega
    · have hk40 : k = 40 := by omega
      have hmm : maxFrom 0 (flgC xs n) k = maxFrom 0 (flgC xs n) 40 := by rw [hk40]
      rw [hmm]
      clear hmm hk40
      go_wp2_with fail
      refine (h2.out _ gr.out).mono ?_
      rintro e w2 ⟨rfl, g⟩
      have z2 := hid (heap_new (w := w2) (o := (.cells (kCells .i64 zeros4) 131)) rfl)
      have b2 := hid (heap_row_set (cs := kCells .i64 (colL 4 (fun c => -(c : Int) - 1) xs n)) z2.out)
      have gl := ((Gr.refl w2).alloc (.cells (kCells .i64 zeros4) 131)).setRow (Nat.le_refl _) (kCells .i64 (colL 4 (fun c => -(c : Int) - 1) xs n))
      have gr2 := hid ((gr.out.trans g).trans gl)
      clear g gl h2 b1 gr hlt hk
      generalize hm40 : maxFrom 0 (flgC xs n) 40 = m40 at *
      clear hm40
      go_wp2_with (refine wpList_store_cells rfl 131 _ _ rfl _ (kCells .i64 (colL 4 (fun c => -(c : Int) - 1) xs n)) (kCells .i64 zeros4) rfl rfl _ 4 z2.out (by kernel_rfl) (by rw [kCells_size]; exact HS.out) (by rw [kCells_size]; rfl) (kCells_one _ _) ?_)
      clear z2
      generalize hz : w2.heap.size = z2 at *
      clear hz
      go_loopw [3, 7] (fun q i wr => ∃ k : Nat, k ≤ 4 ∧ i = .int .i64 k ∧ q = .int .i64 (maxFrom m40 (subC xs n) k) ∧ Hid (Gr w wr) ∧ Hid (wr.heap[z2]? = some (.cells (kCells .i64 (colL 4 (fun c => -(c : Int) - 1) xs n)) 131 (0, 0)))) (fun _ i _ => 4 - (intOf i).toNat)
      case atStart => exact ⟨0, Nat.zero_le _, rfl, rfl, gr2, b2⟩
      case round =>
        clear gr2 b2
        obtain ⟨j, hj, rfl, rfl, gr2, b2⟩ := hrel
        by_cases hlt : j < 4
        · have hc := cell_ints b2.out (i := j) (by rw [HS.out]; exact hlt)
          rw [colS_get hlt] at hc
          have HST := hid (maxFrom_step m40 (subC xs n) j)
          generalize maxFrom m40 (subC xs n) j = m at *
          generalize subC xs n j = q at *
          go_wp2_with (go_at_call 113; refine (l00Max_any _ _ _).mono ?_; rintro e w' ⟨rfl, rfl⟩)
          go_roundw
          case rel => exact ⟨j + 1, by omega, by go_num, by rw [HST.out], gr2, b2⟩
          case measure => simp [intOf] <;> omega
        · have hj4 : j = 4 := by omega
          have hmm : maxFrom m40 (subC xs n) j = setsTo xs n n := by rw [hj4]; exact HE.out
          rw [hmm]
          clear hmm hj4
          go_wp2_with fail
          go_ret
          exact ⟨rfl, gr2.out⟩
end Go.Proofs.Ytkbdblaciphmnaa
