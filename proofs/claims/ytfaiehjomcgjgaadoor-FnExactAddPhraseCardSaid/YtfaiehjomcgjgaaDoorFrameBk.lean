/- Books as arguments, with the bounds of their numbers. -/
import Derived.Test.YtfaiehjomcgjgaaDoorGFrm
import Derived.Test.YtfaiehjomcgjgaaDoorGBk
namespace Go.Proofs.YtfaiehjomcgjgaaDoor
set_option linter.unusedVariables false
open Go.RowKit Go.ChangeShapes Go.WideShapes Go.ChangeAt Go.ChangeMaps
section
variable {H : Type} {enc : TypeId × Value → H} {P : Program} {w : World}
theorem open_field_intW {k : IntKind} {e : TypeId} {n : Nat} {v : Value} {y : DataW H × List MemPlace} (he : P.underlying e = some (.int k)) (h : DataW.trod enc P w 0 (fun _ => true) true n e [v] = some y) : ∃ x : Int, v = .int k x ∧ (Lit.int k x).wf = true := by
  obtain ⟨x, hx, _, hw⟩ := DataW.trod_int he h
  simp at hx
  exact ⟨x, hx, hw⟩
end
set_option maxRecDepth 100000 in
theorem open_bookW {H : Type} {enc : TypeId × Value → H} {w : World} {r : Reach} {b0 : Nat} {v : Value} {d : DataW H} {ps : List MemPlace} (hv : Value.okWide Tryd.prog w r b0 25 v) (h : DataW.Trod enc Tryd.prog w 0 (fun _ => true) true 25 v d ps) :
    ∃ (k l s : Int) (a : Option Addr) (n cap : Nat) (ss : List ByteArray), v = bookV k l s (.slice a n cap) ∧ n = ss.length ∧ n ≤ maxLen ∧ (∀ i, (ss.getD i ByteArray.empty).size ≤ maxLen) ∧ Wf3 k l s ∧ StrsOf w a ss := by
  obtain ⟨v0, v1, v2, v3, y0, y1, y2, y3, n, rfl, _, _, t0, t1, t2, t3⟩ := Joins.open_agg4 Tryd.underlying25 (by kernel_rfl) (by kernel_rfl) hv h
  obtain ⟨k, rfl, wk⟩ := open_field_intW Tryd.underlying22 t0
  obtain ⟨l, rfl, wl⟩ := open_field_intW Tryd.underlying22 t1
  obtain ⟨s, rfl, ws⟩ := open_field_intW Tryd.underlying22 t2
  obtain ⟨a, len, cap, ss, rfl, h1, h2, h3, h4⟩ := open_field_strs Tryd.underlying23 Tryd.underlying9 (by kernel_rfl) t3
  exact ⟨k, l, s, a, len, cap, ss, rfl, h1, h2, h3, ⟨wk, wl, ws⟩, h4⟩
end Go.Proofs.YtfaiehjomcgjgaaDoor
