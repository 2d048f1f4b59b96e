/- Lists of hoists as arguments. -/
import Derived.Test.YtdighhkgopopeaaFrameInts
import Derived.Test.YtdighhkgopopeaaHoistsA
import Derived.Deep.Matrix
namespace Go.Proofs.Ytdighhkgopopeaa
set_option linter.unusedVariables false
open Go.RowKit Go.ChangeShapes Go.WideShapes Go.ChangeAt Go.ChangeMaps Go.Deep
theorem spot_noneH {w : World} {b off : Nat} {s : Option Nat} {v : Value} (h0 : w.cell? ((⟨b, off, s⟩ : Addr).add 0) = some v) : s = none := by
  cases s with
  | none => rfl
  | some s =>
    exfalso
    unfold Addr.add World.cell? at h0
    simp at h0
    cases hb : w.heap[b]? with
    | none => rw [hb] at h0; simp at h0
    | some o => rw [hb] at h0; cases o <;> simp at h0
theorem add_plainH (b off i : Nat) : (⟨b, off, none⟩ : Addr).add i = ⟨b, off + i, none⟩ := by unfold Addr.add; split <;> simp_all
set_option maxRecDepth 100000 in
theorem open_hoists {H : Type} {enc : TypeId × Value → H} {w : World} {a0 : Option Addr} {l0 c0 : Nat} {d : DataW H} {ps : List MemPlace} (h : DataW.Trod enc Try.prog w 0 (fun _ => true) true 40 (.slice a0 l0 c0) d ps) :
    ∃ xss : List (List Int), l0 = xss.length ∧ l0 ≤ maxLen ∧ (∀ i, (xss.getD i []).length ≤ maxLen) ∧ (∀ i, Fits .i8 (xss.getD i [])) ∧ SlicesOf .i8 w a0 xss := by
  obtain ⟨m, hm⟩ := h
  rcases open_int_rows Try.underlying40 Try.underlying27 Try.underlying59 (by kernel_rfl) (by kernel_rfl) hm with ⟨hcs, _⟩ | ⟨a, len, cap, A, L, C, Z, hcs, _, hl, hmx, _, hall⟩
  · have hv := (List.cons.inj (show [Value.slice a0 l0 c0] = [.slice none 0 0] from hcs)).1
    cases hv
    exact ⟨[], rfl, Nat.zero_le _, fun i => by simp, fun i x hx => by simp at hx, fun i hi => by simp at hi⟩
  · have hv := (List.cons.inj (show [Value.slice a0 l0 c0] = [.slice (some a) len cap] from hcs)).1
    cases hv
    have hget : ∀ i, i < l0 → ((List.range l0).map fun r => (Z r).take (L r)).getD i [] = (Z i).take (L i) := fun i hi => by simp [List.getD, hi]
    have hout : ∀ i, ¬ i < l0 → ((List.range l0).map fun r => (Z r).take (L r)).getD i [] = [] := fun i hi => by simp [List.getD, hi]
    refine ⟨(List.range l0).map fun r => (Z r).take (L r), by simp, Nat.le_trans hl hmx, fun i => ?_, fun i => ?_, fun i hi => ?_⟩
    · by_cases hi : i < l0
      · obtain ⟨_, h1, h2, h3, _⟩ := hall i (by omega)
        rw [hget i hi, List.length_take]; omega
      · rw [hout i hi]; exact Nat.zero_le _
    · by_cases hi : i < l0
      · obtain ⟨_, h1, h2, h3, h4, _⟩ := hall i (by omega)
        rw [hget i hi]
        exact fun x hx => h4 x (List.mem_of_mem_take hx)
      · rw [hout i hi]; exact fun x hx => by simp at hx
    · have hi' : i < l0 := by simpa using hi
      obtain ⟨hc, h1, h2, h3, h4, h5, h6⟩ := hall i (by omega)
      obtain ⟨c0, _⟩ := hall 0 (by omega)
      obtain ⟨b, off, spot⟩ := a
      have hs := spot_noneH c0
      subst hs
      rw [add_plainH] at hc
      refine ⟨b, off, A i, C i, rfl, ?_, ?_⟩
      · rw [hc, hget i hi', List.length_take, h3, Nat.min_eq_left h1]
      · rw [hget i hi']
        intro j hj
        have hjl : j < L i := by rw [List.length_take] at hj; omega
        cases hA : A i with
        | none => have := h5 hA; omega
        | some a' =>
          obtain ⟨_, hcell⟩ := h6 a' hA
          obtain ⟨b', off', spot'⟩ := a'
          have hs := spot_noneH (hcell 0 (by omega))
          subst hs
          refine ⟨b', off', rfl, ?_⟩
          have := hcell j (by omega)
          rw [add_plainH] at this
          rw [this]
          congr 2
          simp [List.getD, hjl]
end Go.Proofs.Ytdighhkgopopeaa
