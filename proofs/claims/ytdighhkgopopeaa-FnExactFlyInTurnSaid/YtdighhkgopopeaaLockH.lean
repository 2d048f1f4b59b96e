/- What all functions with lockers check first. -/
import Derived.Test.YtdighhkgopopeaaLockV
import Derived.Deep.RegionLaw
namespace Go.Proofs.Ytdighhkgopopeaa
set_option linter.unusedVariables false
open Go.RowKit
set_option maxRecDepth 100000 in
theorem locker_isValid (xs : List Int) (hl : xs.length = 44) (hf : Fits .i16 xs) (w : World) :
    Calls Try.prog 66 #[.agg (kCells .i16 xs)] w fun e w' => e = .returned (.bool (lockB xs)) ∧ Gr w w' := by
  have L := hid hl
  have HV := hid (impl_ValidLocker_any xs hl hf)
  have b0 : Hid ((w.alloc (.cells (kCells .i16 xs) 31)).heap[w.heap.size]? = some (.cells (kCells .i16 xs) 31 (0, 0))) := hid (heap_new rfl)
  have gr := hid ((Gr.refl w).alloc (.cells (kCells .i16 xs) 31))
  clear hl hf
  generalize lockB xs = r at *
  go_enter Try.func66, Try.ntmps66
  go_wp2_with (refine wpList_load_struct rfl 31 _ rfl _ rfl _ (kCells .i16 xs) _ b0.out Try.underlying31 rfl (by rw [kCells_size, L.out]; kernel_rfl) ?_)
  refine (HV.out _).mono ?_
  rintro e w' ⟨rfl, g⟩
  have G := hid (gr.out.trans g)
  clear g
  go_wp2_with fail
  go_ret
  exact ⟨rfl, G.out⟩
set_option maxRecDepth 100000 in
theorem locker_signals (xs : List Int) (w : World) :
    Calls Try.prog 67 #[.agg (kCells .i16 xs)] w fun e w' => e = .returned (.int .i64 0) ∧ Gr w w' := by
  have gr := hid ((Gr.refl w).alloc (.cells (kCells .i16 xs) 31))
  go_enter Try.func67, Try.ntmps67
  go_wp2_with fail
  go_ret
  exact ⟨rfl, gr.out⟩
def twoC (a b : Bool) (s : Int) : Int := if a && b then (if 6 < s then 3 else 0) else 1
set_option maxRecDepth 100000 in
set_option maxHeartbeats 2000000 in
theorem checkLL (b : Nat) (xs : List Int) (hx : xs.length = 44) (fx : Fits .i16 xs) (v : Value) (p2 : Bool) (s : Int) (w : World)
    (hv : ∀ V, Gr w V → Calls Try.prog 66 #[v] V fun e w' => e = .returned (.bool p2) ∧ Gr V w') (hsg : ∀ V, Gr w V → Calls Try.prog 67 #[v] V fun e w' => e = .returned (.int .i64 s) ∧ Gr V w')
    (hb : w.heap[b]? = some (.cells #[.iface 31 (.agg (kCells .i16 xs)), .iface 31 v] 77 (0, 0))) :
    Calls Try.prog 28 #[.slice (some ⟨b, 0, none⟩) 2 2] w fun e w' => e = .returned (.int .i64 (twoC (lockB xs) p2 s)) ∧ Gr w w' := by
  have HX := hid (locker_isValid xs hx fx)
  have HV := hid hv
  have HXS := hid (locker_signals xs)
  have HSG := hid hsg
  have h0 : Hid (w.cell? ⟨b, 0, none⟩ = some (.iface 31 (.agg (kCells .i16 xs)))) := hid (by rw [cell_of_row _ _ _ _ _ _ hb]; rfl)
  have h1 : Hid (w.cell? ⟨b, 1, none⟩ = some (.iface 31 v)) := hid (by rw [cell_of_row _ _ _ _ _ _ hb]; rfl)
  clear hx fx hb hv hsg
  have HQ : Hid (twoC (lockB xs) p2 s = if lockB xs && p2 then (if 6 < s then 3 else 0) else 1) := hid rfl
  generalize twoC (lockB xs) p2 s = q at *
  generalize lockB xs = p1 at *
  go_enter Try.func28, Try.ntmps28
  go_wp2_with fail
  go_loopw [9] (fun i wr => ∃ k : Nat, k ≤ 2 ∧ i = .int .i64 k ∧ Hid (1 ≤ k → p1 = true) ∧ Hid (2 ≤ k → p2 = true) ∧ Hid (Gr w wr)) (fun i _ => 2 - (intOf i).toNat)
  case atStart => exact ⟨0, Nat.zero_le _, rfl, hid (fun h => by omega), hid (fun h => by omega), hid (Gr.refl _)⟩
  case round =>
    obtain ⟨k, hk, rfl, q1, q2, gr⟩ := hrel
    rcases (show k = 0 ∨ k = 1 ∨ k = 2 by omega) with rfl | rfl | rfl
    · have c0 := gr.out.cell h0.out
      go_wp2_with fail
      refine (HX.out _).mono ?_
      rintro e w1 ⟨rfl, g1⟩
      have G1 := hid (gr.out.trans g1)
      clear g1
      cases p1 with
      | false =>
        go_wp2_with fail
        go_ret
        exact ⟨ret_int (by rw [HQ.out]; rfl), G1.out⟩
      | true =>
        go_wp2_with fail
        go_roundw
        case rel => exact ⟨1, by omega, rfl, hid (by simp), hid (by simp), G1⟩
        case measure => simp [intOf]
    · have c1 := gr.out.cell h1.out
      obtain rfl := q1.out (Nat.le_refl _)
      go_wp2_with fail
      refine (HV.out _ gr.out).mono ?_
      rintro e w1 ⟨rfl, g1⟩
      have G1 := hid (gr.out.trans g1)
      clear g1
      cases p2 with
      | false =>
        go_wp2_with fail
        go_ret
        exact ⟨ret_int (by rw [HQ.out]; rfl), G1.out⟩
      | true =>
        go_wp2_with fail
        go_roundw
        case rel => exact ⟨2, by omega, rfl, hid (by simp), hid (by simp), G1⟩
        case measure => simp [intOf]
    · obtain rfl := q1.out (by omega)
      obtain rfl := q2.out (Nat.le_refl _)
      have HQ' : Hid (q = if 6 < s then 3 else 0) := hid HQ.out
      clear HQ
      go_wp2_with fail
      go_loopw [19] (fun i wr => ∃ k : Nat, k ≤ 2 ∧ i = .int .i64 k ∧ Hid (2 ≤ k → ¬ 6 < s) ∧ Hid (Gr w wr)) (fun i _ => 2 - (intOf i).toNat)
      case atStart => exact ⟨0, Nat.zero_le _, rfl, hid (fun h => by omega), gr⟩
      case round =>
        obtain ⟨k, hk, rfl, q3, gr⟩ := hrel
        rcases (show k = 0 ∨ k = 1 ∨ k = 2 by omega) with rfl | rfl | rfl
        · have c0 := gr.out.cell h0.out
          go_wp2_with fail
          refine (HXS.out _).mono ?_
          rintro e w1 ⟨rfl, g1⟩
          have G1 := hid (gr.out.trans g1)
          clear g1
          go_wp2_with fail
          go_roundw
          case rel => exact ⟨1, by omega, rfl, hid (fun h => by omega), G1⟩
          case measure => simp [intOf]
        · have c1 := gr.out.cell h1.out
          go_wp2_with fail
          refine (HSG.out _ gr.out).mono ?_
          rintro e w1 ⟨rfl, g1⟩
          have G1 := hid (gr.out.trans g1)
          clear g1
          by_cases h6 : 6 < s
          · go_wp2_with fail
            go_ret
            exact ⟨ret_int (by rw [HQ'.out, if_pos h6]), G1.out⟩
          · go_wp2_with fail
            go_roundw
            case rel => exact ⟨2, by omega, rfl, hid (fun _ => by omega), G1⟩
            case measure => simp [intOf]
        · have h6 := q3.out (Nat.le_refl _)
          go_wp2_with fail
          go_ret
          exact ⟨ret_int (by rw [HQ'.out, if_neg (by omega)]), gr.out⟩
set_option maxRecDepth 100000 in
set_option maxHeartbeats 2000000 in
theorem checkLM (b : Nat) (xs : List Int) (hx : xs.length = 44) (fx : Fits .i16 xs) (v : Value) (p2 : Bool) (s : Int) (w : World)
    (hv : ∀ V, Gr w V → Calls Try.prog 70 #[v] V fun e w' => e = .returned (.bool p2) ∧ Gr V w') (hsg : ∀ V, Gr w V → Calls Try.prog 71 #[v] V fun e w' => e = .returned (.int .i64 s) ∧ Gr V w')
    (hb : w.heap[b]? = some (.cells #[.iface 31 (.agg (kCells .i16 xs)), .iface 61 v] 77 (0, 0))) :
    Calls Try.prog 28 #[.slice (some ⟨b, 0, none⟩) 2 2] w fun e w' => e = .returned (.int .i64 (twoC (lockB xs) p2 s)) ∧ Gr w w' := by
  have HX := hid (locker_isValid xs hx fx)
  have HV := hid hv
  have HXS := hid (locker_signals xs)
  have HSG := hid hsg
  have h0 : Hid (w.cell? ⟨b, 0, none⟩ = some (.iface 31 (.agg (kCells .i16 xs)))) := hid (by rw [cell_of_row _ _ _ _ _ _ hb]; rfl)
  have h1 : Hid (w.cell? ⟨b, 1, none⟩ = some (.iface 61 v)) := hid (by rw [cell_of_row _ _ _ _ _ _ hb]; rfl)
  clear hx fx hb hv hsg
  have HQ : Hid (twoC (lockB xs) p2 s = if lockB xs && p2 then (if 6 < s then 3 else 0) else 1) := hid rfl
  generalize twoC (lockB xs) p2 s = q at *
  generalize lockB xs = p1 at *
  go_enter Try.func28, Try.ntmps28
  go_wp2_with fail
  go_loopw [9] (fun i wr => ∃ k : Nat, k ≤ 2 ∧ i = .int .i64 k ∧ Hid (1 ≤ k → p1 = true) ∧ Hid (2 ≤ k → p2 = true) ∧ Hid (Gr w wr)) (fun i _ => 2 - (intOf i).toNat)
  case atStart => exact ⟨0, Nat.zero_le _, rfl, hid (fun h => by omega), hid (fun h => by omega), hid (Gr.refl _)⟩
  case round =>
    obtain ⟨k, hk, rfl, q1, q2, gr⟩ := hrel
    rcases (show k = 0 ∨ k = 1 ∨ k = 2 by omega) with rfl | rfl | rfl
    · have c0 := gr.out.cell h0.out
      go_wp2_with fail
      refine (HX.out _).mono ?_
      rintro e w1 ⟨rfl, g1⟩
      have G1 := hid (gr.out.trans g1)
      clear g1
      cases p1 with
      | false =>
        go_wp2_with fail
        go_ret
        exact ⟨ret_int (by rw [HQ.out]; rfl), G1.out⟩
      | true =>
        go_wp2_with fail
        go_roundw
        case rel => exact ⟨1, by omega, rfl, hid (by simp), hid (by simp), G1⟩
        case measure => simp [intOf]
    · have c1 := gr.out.cell h1.out
      obtain rfl := q1.out (Nat.le_refl _)
      go_wp2_with fail
      refine (HV.out _ gr.out).mono ?_
      rintro e w1 ⟨rfl, g1⟩
      have G1 := hid (gr.out.trans g1)
      clear g1
      cases p2 with
      | false =>
        go_wp2_with fail
        go_ret
        exact ⟨ret_int (by rw [HQ.out]; rfl), G1.out⟩
      | true =>
        go_wp2_with fail
        go_roundw
        case rel => exact ⟨2, by omega, rfl, hid (by simp), hid (by simp), G1⟩
        case measure => simp [intOf]
    · obtain rfl := q1.out (by omega)
      obtain rfl := q2.out (Nat.le_refl _)
      have HQ' : Hid (q = if 6 < s then 3 else 0) := hid HQ.out
      clear HQ
      go_wp2_with fail
      go_loopw [19] (fun i wr => ∃ k : Nat, k ≤ 2 ∧ i = .int .i64 k ∧ Hid (2 ≤ k → ¬ 6 < s) ∧ Hid (Gr w wr)) (fun i _ => 2 - (intOf i).toNat)
      case atStart => exact ⟨0, Nat.zero_le _, rfl, hid (fun h => by omega), gr⟩
      case round =>
        obtain ⟨k, hk, rfl, q3, gr⟩ := hrel
        rcases (show k = 0 ∨ k = 1 ∨ k = 2 by omega) with rfl | rfl | rfl
        · have c0 := gr.out.cell h0.out
          go_wp2_with fail
          refine (HXS.out _).mono ?_
          rintro e w1 ⟨rfl, g1⟩
          have G1 := hid (gr.out.trans g1)
          clear g1
          go_wp2_with fail
          go_roundw
          case rel => exact ⟨1, by omega, rfl, hid (fun h => by omega), G1⟩
          case measure => simp [intOf]
        · have c1 := gr.out.cell h1.out
          go_wp2_with fail
          refine (HSG.out _ gr.out).mono ?_
          rintro e w1 ⟨rfl, g1⟩
          have G1 := hid (gr.out.trans g1)
          clear g1
          by_cases h6 : 6 < s
          · go_wp2_with fail
            go_ret
            exact ⟨ret_int (by rw [HQ'.out, if_pos h6]), G1.out⟩
          · go_wp2_with fail
            go_roundw
            case rel => exact ⟨2, by omega, rfl, hid (fun _ => by omega), G1⟩
            case measure => simp [intOf]
        · have h6 := q3.out (Nat.le_refl _)
          go_wp2_with fail
          go_ret
          exact ⟨ret_int (by rw [HQ'.out, if_neg (by omega)]), gr.out⟩
end Go.Proofs.Ytdighhkgopopeaa
