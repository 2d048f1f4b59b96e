/- The variable 'never': what the condition 'laid' gives of it. -/
import Derived.Test.YtflbjjcpkhldkaaDoorRows
import Derived.Test.YtflbjjcpkhldkaaDoorLineT
import Derived.ProofKit
import Derived.OpenShut
import Derived.ChangeVars
import Derived.Deep.DeepHandedRow
import Derived.Lib.LaidTab
import Derived.Lib.SmallJoins
import Derived.LaidHandle
namespace Go.Proofs.YtflbjjcpkhldkaaDoor
open Go.RowKit Go.ChangeShapes Go.WideShapes Go.ChangeAt Go.ChangeMaps
def neverCells : Array Value := #[.int .i8 (-1), .int .i64 (-1), .int .i64 (-1), .int .i64 (-1)]
def neverData {H : Type} : DataW H := .agg [.lit (.int .i8 (-1)), .lit (.int .i64 (-1)), .lit (.int .i64 (-1)), .lit (.int .i64 (-1))]
theorem gNever : Tryd.prog.globalNamed "loop.example/g01299/impl.never" = some 0 := by kernel_rfl
theorem gNeverType : (Tryd.prog.globals[0]?).map (·.type) = some 69 := by kernel_rfl
theorem reads_never {H : Type} (enc : TypeId × Value → H) (W : World) (sp : Nat → Bool) : DataW.trod enc Tryd.prog W 0 sp true 3 69 neverCells.toList = some (neverData, []) := by kernel_rfl
set_option maxRecDepth 100000 in
theorem never_of_trod {W : World} {sp : Nat → Bool} {H : Type} {enc : TypeId × Value → H} {base fuel : Nat} {held : Bool} {cs : Array Value} {q : List MemPlace}
    (hd : DataW.trod enc Tryd.prog W base sp held fuel 69 cs.toList = some (neverData, q)) : cs = neverCells := by
  obtain ⟨y0, y1, y2, y3, n, hx, hl, t0, t1, t2, t3⟩ := Go.Joins.trod_struct4 Tryd.underlying69 hd
  have hl4 : cs.toList.length = 4 := hl.trans (by kernel_rfl)
  obtain ⟨l⟩ := cs
  match l, hl4 with
  | [v0, v1, v2, v3], _ =>
    have c1 : Tryd.prog.cellsOf 58 = 1 := by kernel_rfl
    have c2 : Tryd.prog.cellsOf 2 = 1 := by kernel_rfl
    simp only [c1, c2] at t0 t1 t2 t3
    obtain ⟨x0, e0, z0, _⟩ := DataW.trod_int Tryd.underlying58 t0
    obtain ⟨x1, e1, z1, _⟩ := DataW.trod_int Tryd.underlying2 t1
    obtain ⟨x2, e2, z2, _⟩ := DataW.trod_int Tryd.underlying2 t2
    obtain ⟨x3, e3, z3, _⟩ := DataW.trod_int Tryd.underlying2 t3
    simp at e0 e1 e2 e3
    subst z0 z1 z2 z3
    simp [neverData] at hx
    obtain ⟨⟨h0, h1, h2, h3⟩, _⟩ := hx
    rw [e0, e1, e2, e3, ← h0, ← h1, ← h2, ← h3]
    rfl
theorem never_of_laid {W : World} (h : laidMet Tryd.prog [("loop.example/g01299/impl.never", Rows.laid_loop_example_g01299_impl_never)] W) : W.var? Tryd.prog "loop.example/g01299/impl.never" = some neverCells := by
  obtain ⟨ps, ⟨g', t', cs, fuel, p, q, hg', ht', hvar, hd, _, _⟩, _⟩ := h
  obtain rfl := Option.some.inj (gNever.symm.trans hg')
  obtain rfl := Option.some.inj (gNeverType.symm.trans ht')
  rw [hvar, never_of_trod hd]
theorem laid_never_part {W : World} (h : laidMetH Tryd.prog [("errors.errorType", Rows.laid_errors_errorType), ("loop.example/g01299/impl.never", Rows.laid_loop_example_g01299_impl_never)] W) :
    laidMet Tryd.prog [("loop.example/g01299/impl.never", Rows.laid_loop_example_g01299_impl_never)] W := by
  have e : ([("errors.errorType", Rows.laid_errors_errorType), ("loop.example/g01299/impl.never", Rows.laid_loop_example_g01299_impl_never)] : List (String × DataW Unit)).filter (fun x => x.2.handleName?.isSome) = [("errors.errorType", Rows.laid_errors_errorType)] := by kernel_rfl
  have e2 : ([("errors.errorType", Rows.laid_errors_errorType), ("loop.example/g01299/impl.never", Rows.laid_loop_example_g01299_impl_never)] : List (String × DataW Unit)).filter (fun x => x.2.handleName?.isNone) = [("loop.example/g01299/impl.never", Rows.laid_loop_example_g01299_impl_never)] := by kernel_rfl
  unfold laidMetH at h
  rw [e] at h
  rw [e2] at h
  exact h.1
theorem neverAt_of_var {W : World} (h : W.var? Tryd.prog "loop.example/g01299/impl.never" = some neverCells) : NeverAt W := by
  have hc : ∀ k, W.cell? ⟨0, k, none⟩ = neverCells[k]? := fun k => World.var?_cell gNever h k
  exact ⟨hc 0, hc 1, hc 2, hc 3⟩
theorem var_gr {W w : World} (h : Gr W w) {cs : Array Value} (hv : W.var? Tryd.prog "loop.example/g01299/impl.never" = some cs) : w.var? Tryd.prog "loop.example/g01299/impl.never" = some cs := by
  unfold World.var? at hv ⊢
  rw [gNever] at hv ⊢
  simp only [Option.bind_some] at hv ⊢
  split at hv
  · rename_i cs' t fr hb
    rw [h.heap hb]
    exact hv
  · cases hv
def setCellsTo (cs : Array Value) : Obj → Obj
  | .cells _ t frozen => .cells cs t frozen
  | o => o
/-- A world for the witness: the settled one, both variables' blocks holding what their initialisers lay. -/
noncomputable def laidWorld (os : Os) : World :=
  { World.holding Tryd.prog os ⟨#[], #[], []⟩ with heap := ((World.holding Tryd.prog os ⟨#[], #[], []⟩).heap.modify 0 (setCellsTo neverCells)).modify 1 (setCellsTo #[.iface 161 (.agg #[.pointer (some ⟨2, 65, none⟩)])]) }
end Go.Proofs.YtflbjjcpkhldkaaDoor
