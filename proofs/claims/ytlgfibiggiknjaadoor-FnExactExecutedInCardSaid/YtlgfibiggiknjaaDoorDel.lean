/- slices.IndexFunc and slices.DeleteFunc over a log: the entries that don't haul down are left out. -/
import Derived.Test.YtlgfibiggiknjaaDoorDelM
namespace Go.Proofs.YtlgfibiggiknjaaDoor
set_option linter.unusedVariables false
open Go.RowKit
set_option maxRecDepth 100000 in
theorem notDown_any (t s : Int) (d : Bool) (w : World) :
    Calls Tryd.prog 66 #[.agg #[.int .i64 t, .int .i64 s, .bool d]] w fun e w' => e = .returned (.bool (!d)) ∧ Gr w w' := by
  cases d
  all_goals
    go_enter Tryd.func66, Tryd.ntmps66
    go_wp2_with fail
    go_ret
    exact ⟨rfl, (Gr.refl _).alloc _⟩
def IxR (es : List En) (n : Nat) (w : World) (e : Ending) (w' : World) : Prop :=
  Gr w w' ∧ ((e = .returned (.int .i64 (-1)) ∧ ∀ i, i < n → (enAt es i).d = true) ∨ (∃ k, k < n ∧ e = .returned (.int .i64 (k : Int)) ∧ (enAt es k).d = false ∧ ∀ i, i < k → (enAt es i).d = true))
set_option maxRecDepth 100000 in
set_option maxHeartbeats 1000000 in
theorem idxE_any (a : Option Addr) (n cap : Nat) (es : List En) (hl : n = es.length) (hn : n ≤ 1048576) (w : World) (ha : CellsOf w a (enCells es)) :
    Calls Tryd.prog 95 #[.slice a n cap, .func (.func 66) #[] #[]] w (IxR es n w) := by
  have HA := hid ha
  have HL := hid hl
  clear ha hl
  go_enter Tryd.func95, Tryd.ntmps95
  go_wp2_with fail
  go_loopw [8] (fun i wr => ∃ k : Nat, k ≤ n ∧ i = .int .i64 k ∧ Hid (∀ i, i < k → (enAt es i).d = true) ∧ Hid (Gr w wr)) (fun i _ => n - (intOf i).toNat)
  case atStart => exact ⟨0, Nat.zero_le _, rfl, hid (fun i h => absurd h (by omega)), hid (Gr.refl _)⟩
  case round =>
    obtain ⟨k, hk, rfl, hok, hg⟩ := hrel
    by_cases hlt : k < n
    · obtain ⟨b, off, rfl, p0, p1, p2⟩ := en_at (HA.out.gr hg.out) (i := k) (by rw [← HL.out]; exact hlt)
      have RG := hid (range3 ⟨p0, p1, p2⟩)
      have HV := hid (fun V => notDown_any (enAt es k).t (enAt es k).s (enAt es k).d V)
      have HD : Hid (∀ q, (enAt es k).d = q → (enAt es k).d = q) := hid fun _ h => h
      clear p0 p1 p2
      generalize hq : (enAt es k).d = q at *
      have HQ := hid hq
      clear hq
      generalize (enAt es k).t = s0 at *
      generalize (enAt es k).s = s1 at *
      have hb0 : (0 : Int) ≤ k := by omega
      have hb1 : (k : Int) < n := by omega
      go_wp2_with (refine wpList_load_mid rfl 70 _ rfl b (off + k * 3) rfl _ _ RG.out Tryd.underlying70 rfl sizeEn ?_)
      refine (HV.out _).mono ?_
      rintro e w1 ⟨rfl, g1⟩
      have G2 := hid (hg.out.trans g1)
      clear g1
      cases q
      · go_wp2_with fail
        go_ret
        exact ⟨G2.out, .inr ⟨k, hlt, rfl, HQ.out, hok.out⟩⟩
      · have HR := hid (show ∀ i, i < k + 1 → (enAt es i).d = true from fun i hi => by
          rcases Nat.lt_or_ge i k with h | h
          · exact hok.out i h
          · obtain rfl : i = k := by omega
            exact HQ.out)
        go_wp2_with fail
        go_roundw
        case rel => exact ⟨k + 1, by omega, by go_num, HR, G2⟩
        case measure => simp [intOf] <;> omega
    · obtain rfl : k = n := by omega
      go_wp2_with fail
      go_ret
      exact ⟨hg.out, .inl ⟨rfl, hok.out⟩⟩
end Go.Proofs.YtlgfibiggiknjaaDoor
