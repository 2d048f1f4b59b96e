/- The sentinels of chapter 3: what the condition 'laid' gives of them; a world for the witness. -/
import Derived.Test.YtfaiehjomcgjgaaDoorRows
import Derived.Test.YtfaiehjomcgjgaaDoorThere
import Derived.ChangeVars
import Derived.ProofKit
import Derived.OpenShut
import Derived.LaidLaws
import Derived.RowKitTokens
import Derived.Deep.DeepHandedRow
import Derived.Lib.LaidTab
import Derived.LaidHandle
import Derived.Lay
namespace Go.Proofs.YtfaiehjomcgjgaaDoor
set_option linter.unusedVariables false
open Go.RowKit Go.ChangeShapes Go.WideShapes Go.ChangeAt Go.ChangeMaps
theorem gInv : Tryd.prog.globalNamed "loop.example/g01299/impl.errInvalid" = some 0 := by kernel_rfl
theorem gRng : Tryd.prog.globalNamed "loop.example/g01299/impl.errRange" = some 1 := by kernel_rfl
theorem gSta : Tryd.prog.globalNamed "loop.example/g01299/impl.errState" = some 2 := by kernel_rfl
theorem tInv : (Tryd.prog.globals[0]?).map (·.type) = some 62 := by kernel_rfl
theorem tRng : (Tryd.prog.globals[1]?).map (·.type) = some 62 := by kernel_rfl
theorem tSta : (Tryd.prog.globals[2]?).map (·.type) = some 62 := by kernel_rfl
theorem cES : Tryd.prog.cellsOf 194 = 1 := by kernel_rfl
theorem cST : Tryd.prog.cellsOf 9 = 1 := by kernel_rfl
theorem starES : "*" ++ "errors.errorString" = "*errors.errorString" := by decide
theorem rowES (u : TypeId) (h : Tryd.prog.typeName? 3 u = some "*errors.errorString") : u = 168 :=
  typeName_ptr_named (nm := "errors.errorString") (by rw [starES]; kernel_rfl) (by kernel_rfl) (by decide) u (by rw [starES]; exact h)
abbrev sentNames : List String := ["loop.example/g01299/impl.errInvalid", "loop.example/g01299/impl.errRange", "loop.example/g01299/impl.errState"]
abbrev sentLaid : List (String × DataW Unit) := [("loop.example/g01299/impl.errInvalid", Rows.laid_loop_example_g01299_impl_errInvalid), ("loop.example/g01299/impl.errRange", Rows.laid_loop_example_g01299_impl_errRange), ("loop.example/g01299/impl.errState", Rows.laid_loop_example_g01299_impl_errState)]
set_option maxRecDepth 100000 in
theorem sent_of_laid {W : World} (h : laidMet Tryd.prog sentLaid W) :
    ∃ b0 b1 b2 : Addr, W.var? Tryd.prog "loop.example/g01299/impl.errInvalid" = some #[sentV b0] ∧ W.var? Tryd.prog "loop.example/g01299/impl.errRange" = some #[sentV b1] ∧ W.var? Tryd.prog "loop.example/g01299/impl.errState" = some #[sentV b2] ∧ SentAt W b0 b1 b2 := by
  obtain ⟨ps, ⟨g0, t0, cs0, f0, p0, q0, hg0, ht0, hv0, hd0, ⟨g1, t1, cs1, f1, p1, q1, hg1, ht1, hv1, hd1, ⟨g2, t2, cs2, f2, p2, q2, hg2, ht2, hv2, hd2, hq2, e2⟩, e1⟩, e0⟩, hnd, hrows⟩ := h
  obtain rfl := Option.some.inj (gInv.symm.trans hg0)
  obtain rfl := Option.some.inj (gRng.symm.trans hg1)
  obtain rfl := Option.some.inj (gSta.symm.trans hg2)
  obtain rfl := Option.some.inj (tInv.symm.trans ht0)
  obtain rfl := Option.some.inj (tRng.symm.trans ht1)
  obtain rfl := Option.some.inj (tSta.symm.trans ht2)
  have hq2' : q2 = [] := hq2
  subst hq2'
  subst e2
  subst e1
  subst e0
  obtain ⟨l0⟩ := cs0
  obtain ⟨l1⟩ := cs1
  obtain ⟨l2⟩ := cs2
  have ok0 : ∀ u v, l0 = [.iface u v] → Value.okWide Tryd.prog W .any 0 u v := fun u v e => by
    subst e
    exact (hrows 0 0 (by simp [MemPlace.row])).2 u v (by simpa using World.var?_cell hg0 hv0 0)
  have ok1 : ∀ u v, l1 = [.iface u v] → Value.okWide Tryd.prog W .any 0 u v := fun u v e => by
    subst e
    exact (hrows 1 0 (by simp [MemPlace.row])).2 u v (by simpa using World.var?_cell hg1 hv1 0)
  have ok2 : ∀ u v, l2 = [.iface u v] → Value.okWide Tryd.prog W .any 0 u v := fun u v e => by
    subst e
    exact (hrows 2 0 (by simp [MemPlace.row])).2 u v (by simpa using World.var?_cell hg2 hv2 0)
  obtain ⟨a0, s0, rfl, -, -, -, rfl⟩ := errorString_of_trod Tryd.underlying62 rowES Tryd.underlying168 Tryd.underlying194 rfl rfl Tryd.underlying9 cES cST hd0 ok0
  obtain ⟨a1, s1, rfl, -, -, -, rfl⟩ := errorString_of_trod Tryd.underlying62 rowES Tryd.underlying168 Tryd.underlying194 rfl rfl Tryd.underlying9 cES cST hd1 ok1
  obtain ⟨a2, s2, rfl, -, -, -, rfl⟩ := errorString_of_trod Tryd.underlying62 rowES Tryd.underlying168 Tryd.underlying194 rfl rfl Tryd.underlying9 cES cST hd2 ok2
  obtain ⟨c0, u0, hb0⟩ := (hrows a0.block a0.off (by simp [MemPlace.row])).1
  obtain ⟨c1, u1, hb1⟩ := (hrows a1.block a1.off (by simp [MemPlace.row])).1
  obtain ⟨c2, u2, hb2⟩ := (hrows a2.block a2.off (by simp [MemPlace.row])).1
  refine ⟨a0, a1, a2, hv0, hv1, hv2, ⟨(World.var?_cell gInv hv0 0 : W.cell? ⟨0, 0, none⟩ = some (sentV a0)), (World.var?_cell gRng hv1 0 : W.cell? ⟨1, 0, none⟩ = some (sentV a1)), (World.var?_cell gSta hv2 0 : W.cell? ⟨2, 0, none⟩ = some (sentV a2)), ⟨c0, u0, hb0⟩, ⟨c1, u1, hb1⟩, ⟨c2, u2, hb2⟩, ?_, ?_, ?_⟩⟩
  · rintro rfl
    simp [MemPlace.row] at hnd
  · rintro rfl
    simp [MemPlace.row] at hnd
  · rintro rfl
    simp [MemPlace.row] at hnd
theorem sent_laidMet {W : World} (h : laidMetH Tryd.prog sentLaid W) : laidMet Tryd.prog sentLaid W := h
theorem sent_vars {H : Type} (enc : TypeId × Value → H) {W : World} {b0 b1 b2 : Addr} (h0 : W.var? Tryd.prog "loop.example/g01299/impl.errInvalid" = some #[sentV b0]) (h1 : W.var? Tryd.prog "loop.example/g01299/impl.errRange" = some #[sentV b1]) (h2 : W.var? Tryd.prog "loop.example/g01299/impl.errState" = some #[sentV b2]) (sp : Nat → Bool) :
    DataW.TrodVars enc Tryd.prog W sp sentNames [tok enc (sentV b0), tok enc (sentV b1), tok enc (sentV b2)] [.cell 0 0, .cell 1 0, .cell 2 0] :=
  ⟨0, 62, #[sentV b0], 1, [], [.cell 1 0, .cell 2 0], gInv, tInv, h0, trod_held (v := sentV b0) Tryd.underlying62 (show IsIface (sentV b0) from trivial) 0, ⟨1, 62, #[sentV b1], 1, [], [.cell 2 0], gRng, tRng, h1, trod_held (v := sentV b1) Tryd.underlying62 (show IsIface (sentV b1) from trivial) 0, ⟨2, 62, #[sentV b2], 1, [], [], gSta, tSta, h2, trod_held (v := sentV b2) Tryd.underlying62 (show IsIface (sentV b2) from trivial) 0, rfl, rfl⟩, rfl⟩, rfl⟩
theorem var_grS {W w : World} {n : String} (h : Gr W w) {cs : Array Value} (hv : W.var? Tryd.prog n = some cs) : w.var? Tryd.prog n = some cs := by
  unfold World.var? at hv ⊢
  cases hg : Tryd.prog.globalNamed n with
  | none => rw [hg] at hv; cases hv
  | some g =>
    rw [hg] at hv
    simp only [Option.bind_some] at hv ⊢
    split at hv
    · rename_i cs' t fr hb
      rw [h.heap hb]
      exact hv
    · cases hv
/-- A world for the witness: the settled one, the sentinels laid. -/
noncomputable def laidWorld (os : Os) : World := World.laidAll Tryd.prog os sentLaid
end Go.Proofs.YtfaiehjomcgjgaaDoor
