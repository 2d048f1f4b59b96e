/- Slices of integers as arguments. -/
import Derived.Test.YtdighhkgopopeaaFrame
import Derived.Test.YtdighhkgopopeaaInts
import Derived.ChangeOld
import Derived.Below
namespace Go.Proofs.Ytdighhkgopopeaa
set_option linter.unusedVariables false
open Go.RowKit Go.ChangeShapes Go.WideShapes Go.ChangeAt
section
variable {H : Type} {enc : TypeId × Value → H} {P : Program} {w : World}
theorem open_slice_ints {k : IntKind} {t e : TypeId} {a : Option Addr} {len cap : Nat} {d : DataW H} {ps : List MemPlace} (ht : P.underlying t = some (.slice e)) (he : P.underlying e = some (.int k)) (hce : P.cellsOf e = 1)
    (h : DataW.Trod enc P w 0 (fun _ => true) true t (.slice a len cap) d ps) : ∃ xs : List Int, len = xs.length ∧ Fits k xs ∧ SliceOf k w a xs ∧ len ≤ maxLen := by
  obtain ⟨fuel, hf⟩ := h
  rcases open_ints ht he hce hf with ⟨hcs, _⟩ | ⟨x, l, c, zs, hcs, _, hl, hm, hz, _, hcell, hwz⟩
  · simp [Value.cells] at hcs
    obtain ⟨rfl, rfl, rfl⟩ := hcs
    exact ⟨[], rfl, fun _ h => (by cases h), fun i hi => (by simp at hi), Nat.zero_le _⟩
  · simp [Value.cells] at hcs
    obtain ⟨rfl, rfl, rfl⟩ := hcs
    have hz' : zs.length = cap := by simpa using hz
    refine ⟨zs.take len, by simp; omega, fun y hy => hwz y (List.mem_of_mem_take hy), ?_, Nat.le_trans hl hm⟩
    intro i hi
    have hi' : i < len := by simp at hi; omega
    obtain ⟨b, off, spot⟩ := x
    have h0 := hcell 0 (by omega)
    have hspot : spot = none := by
      cases spot with
      | none => rfl
      | some s =>
        exfalso
        unfold Addr.add World.cell? at h0
        simp at h0
        cases hb : w.heap[b]? with
        | none => rw [hb] at h0; simp at h0
        | some o => rw [hb] at h0; cases o <;> simp at h0
    subst hspot
    refine ⟨b, off, rfl, ?_⟩
    have hc := hcell i (by omega)
    have hadd : (⟨b, off, none⟩ : Addr).add i = ⟨b, off + i, none⟩ := by unfold Addr.add; split <;> simp_all
    rw [hadd] at hc
    rw [hc]
    have : (zs.take len).getD i 0 = zs.getD i 0 := by simp [List.getD, hi']
    rw [this]
end
end Go.Proofs.Ytdighhkgopopeaa
