/- slices.IndexFunc over flights. -/
import Derived.Test.YtlgfibiggiknjaaDoorDelG
namespace Go.Proofs.YtlgfibiggiknjaaDoor
set_option linter.unusedVariables false
open Go.RowKit
set_option maxRecDepth 100000 in
theorem notHauled_any (x y : Int) (w : World) :
    Calls Tryd.prog 73 #[.agg #[.int .i64 x, .int .i64 y]] w fun e w' => e = .returned (.bool (!hauB (x, y))) ∧ Gr w w' := by
  have HI := hid (fun V => isHauled_any x y V)
  have GA := hid ((Gr.refl w).alloc (.cells #[.int .i64 x, .int .i64 y] 89))
  have HB := hid (show hauB (x, y) = (y != -1) from rfl)
  generalize hauB (x, y) = q at *
  go_enter Tryd.func73, Tryd.ntmps73
  go_wp2_with fail
  refine (HI.out _).mono ?_
  rintro e w1 ⟨rfl, g1⟩
  have G1 := hid (GA.out.trans g1)
  clear g1
  rw [← HB.out]
  clear HB
  go_wp2_with fail
  go_ret
  exact ⟨rfl, G1.out⟩
def IxF (es : List (Int × Int)) (n : Nat) (w : World) (e : Ending) (w' : World) : Prop :=
  Gr w w' ∧ ((e = .returned (.int .i64 (-1)) ∧ ∀ i, i < n → hauB (flAt es i) = true) ∨ (∃ k, k < n ∧ e = .returned (.int .i64 (k : Int)) ∧ hauB (flAt es k) = false ∧ ∀ i, i < k → hauB (flAt es i) = true))
set_option maxRecDepth 100000 in
set_option maxHeartbeats 1000000 in
theorem idxF_any (a : Option Addr) (n cap : Nat) (es : List (Int × Int)) (hl : n = es.length) (hn : n ≤ 1048576) (w : World) (ha : CellsOf w a (flCells es)) :
    Calls Tryd.prog 139 #[.slice a n cap, .func (.func 73) #[] #[]] w (IxF es n w) := by
  have HA := hid ha
  have HL := hid hl
  clear ha hl
  go_enter Tryd.func139, Tryd.ntmps139
  go_wp2_with fail
  go_loopw [8] (fun i wr => ∃ k : Nat, k ≤ n ∧ i = .int .i64 k ∧ Hid (∀ i, i < k → hauB (flAt es i) = true) ∧ Hid (Gr w wr)) (fun i _ => n - (intOf i).toNat)
  case atStart => exact ⟨0, Nat.zero_le _, rfl, hid (fun i h => absurd h (by omega)), hid (Gr.refl _)⟩
  case round =>
    obtain ⟨k, hk, rfl, hok, hg⟩ := hrel
    by_cases hlt : k < n
    · obtain ⟨b, off, rfl, p0, p1⟩ := fl_at (HA.out.gr hg.out) (i := k) (by rw [← HL.out]; exact hlt)
      have RG := hid (range2 ⟨p0, p1⟩)
      have HV := hid (fun V => notHauled_any (flAt es k).1 (flAt es k).2 V)
      change Hid (∀ V, Calls Tryd.prog _ _ V fun e w' => e = .returned (.bool (!hauB (flAt es k))) ∧ Gr V w') at HV
      clear p0 p1
      generalize hq : hauB (flAt es k) = q at *
      have HQ := hid hq
      clear hq
      generalize (flAt es k).1 = s0 at *
      generalize (flAt es k).2 = s1 at *
      have hb0 : (0 : Int) ≤ k := by omega
      have hb1 : (k : Int) < n := by omega
      go_wp2_with (refine wpList_load_mid rfl 89 _ rfl b (off + k * 2) rfl _ _ RG.out Tryd.underlying89 rfl sizeFl ?_)
      refine (HV.out _).mono ?_
      rintro e w1 ⟨rfl, g1⟩
      have G2 := hid (hg.out.trans g1)
      clear g1
      cases q
      · go_wp2_with fail
        go_ret
        exact ⟨G2.out, .inr ⟨k, hlt, rfl, HQ.out, hok.out⟩⟩
      · have HR := hid (show ∀ i, i < k + 1 → hauB (flAt es i) = true from fun i hi => by
          rcases Nat.lt_or_ge i k with h | h
          · exact hok.out i h
          · obtain rfl : i = k := by omega
            exact HQ.out)
        go_wp2_with fail
        go_roundw
        case rel => exact ⟨k + 1, by omega, by go_num, HR, G2⟩
        case measure => simp [intOf] <;> omega
    · obtain rfl : k = n := by omega
      go_wp2_with fail
      go_ret
      exact ⟨hg.out, .inl ⟨rfl, hok.out⟩⟩
end Go.Proofs.YtlgfibiggiknjaaDoor
