/- Books as arguments. -/
import Derived.Test.YtkbdblaciphmnaaFrame
import Derived.Test.YtkbdblaciphmnaaBook
import Derived.ChangeOld
import Derived.Below
import Derived.SliceStrings
import Derived.Lib.SmallJoins
namespace Go.Proofs.Ytkbdblaciphmnaa
set_option linter.unusedVariables false
open Go.RowKit Go.ChangeShapes Go.WideShapes Go.ChangeAt Go.ChangeMaps
section
variable {H : Type} {enc : TypeId × Value → H} {P : Program} {w : World}
theorem open_field_int {k : IntKind} {e : TypeId} {n : Nat} {v : Value} {y : DataW H × List MemPlace} (he : P.underlying e = some (.int k)) (h : DataW.trod enc P w 0 (fun _ => true) true n e [v] = some y) : ∃ x : Int, v = .int k x := by
  obtain ⟨x, hx, _⟩ := DataW.trod_int he h
  simp at hx
  exact ⟨x, hx⟩
theorem open_field_strs {t e : TypeId} {n : Nat} {v : Value} {y : DataW H × List MemPlace} (ht : P.underlying t = some (.slice e)) (he : P.underlying e = some .string) (hc : P.cellsOf e = 1) (h : DataW.trod enc P w 0 (fun _ => true) true n t [v] = some y) :
    ∃ (a : Option Addr) (len cap : Nat) (ss : List ByteArray), v = .slice a len cap ∧ len = ss.length ∧ len ≤ maxLen ∧ (∀ i, (ss.getD i ByteArray.empty).size ≤ maxLen) ∧ StrsOf w a ss := by
  rcases open_strings ht he hc h with ⟨hcs, _⟩ | ⟨x, l, c, ss, hcs, _, hl, hm, hz, _, hcell, hwz⟩
  · simp at hcs
    exact ⟨none, 0, 0, [], hcs, rfl, Nat.zero_le _, fun i => by simp, fun i hi => by simp at hi⟩
  · simp at hcs
    have hz' : ss.length = c := by simpa using hz
    refine ⟨some x, l, c, ss.take l, hcs, by simp; omega, Nat.le_trans hl hm, fun i => ?_, ?_⟩
    · by_cases hi : i < (ss.take l).length
      · have : (ss.take l).getD i ByteArray.empty ∈ ss.take l := by rw [List.getD, List.getElem?_eq_getElem hi]; exact List.getElem_mem hi
        exact hwz _ (List.mem_of_mem_take this)
      · rw [List.getD, List.getElem?_eq_none (by omega)]
        simp
    · intro i hi
      have hi' : i < l := by simp at hi; omega
      obtain ⟨b, off, spot⟩ := x
      have h0 := hcell 0 (by omega)
      have hspot : spot = none := by
        cases spot with
        | none => rfl
        | some s =>
          exfalso
          unfold Addr.add World.cell? at h0
          simp at h0
          cases hb : w.heap[b]? with
          | none => rw [hb] at h0; simp at h0
          | some o => rw [hb] at h0; cases o <;> simp at h0
      subst hspot
      refine ⟨b, off, rfl, ?_⟩
      have hc' := hcell i (by omega)
      have hadd : (⟨b, off, none⟩ : Addr).add i = ⟨b, off + i, none⟩ := by unfold Addr.add; split <;> simp_all
      rw [hadd] at hc'
      rw [hc']
      have : (ss.take l).getD i ByteArray.empty = ss.getD i ByteArray.empty := by simp [List.getD, hi']
      rw [this]
end
set_option maxRecDepth 100000 in
theorem open_book {H : Type} {enc : TypeId × Value → H} {w : World} {r : Reach} {b0 : Nat} {v : Value} {d : DataW H} {ps : List MemPlace} (hv : Value.okWide Try.prog w r b0 25 v) (h : DataW.Trod enc Try.prog w 0 (fun _ => true) true 25 v d ps) :
    ∃ (k l s : Int) (a : Option Addr) (n cap : Nat) (ss : List ByteArray), v = bookV k l s (.slice a n cap) ∧ n = ss.length ∧ n ≤ maxLen ∧ (∀ i, (ss.getD i ByteArray.empty).size ≤ maxLen) ∧ StrsOf w a ss := by
  obtain ⟨v0, v1, v2, v3, y0, y1, y2, y3, n, rfl, _, _, t0, t1, t2, t3⟩ := Joins.open_agg4 Try.underlying25 (by kernel_rfl) (by kernel_rfl) hv h
  obtain ⟨k, rfl⟩ := open_field_int Try.underlying22 t0
  obtain ⟨l, rfl⟩ := open_field_int Try.underlying22 t1
  obtain ⟨s, rfl⟩ := open_field_int Try.underlying22 t2
  obtain ⟨a, len, cap, ss, rfl, h1, h2, h3, h4⟩ := open_field_strs Try.underlying23 Try.underlying9 (by kernel_rfl) t3
  exact ⟨k, l, s, a, len, cap, ss, rfl, h1, h2, h3, h4⟩
end Go.Proofs.Ytkbdblaciphmnaa
