/- errors.Is of two sentinels; codeOf. -/
import Derived.Test.YtfaiehjomcgjgaaDoorGKit
import Derived.WalkKit
import Derived.LaidEql
import Derived.Stop.Asserts
import Derived.RowKitTokens
namespace Go.Proofs.YtfaiehjomcgjgaaDoor
set_option linter.unusedVariables false
open Go.RowKit Go.Extern.Stop Go.Stop Go.Extern
theorem eiTypeOf (v : Value) (w : World) : (Extern.ReflectliteType.typeOf #[.iface 168 v]).run Tryd.prog w = .ok (.iface 134 (.agg #[.pointer (some ⟨3, 168, none⟩)])) w := by kernel_rfl
theorem eiComparable (w : World) : ((Extern.ReflectliteType.method fun t => do Extern.Rtype.noPackHeld "Comparable" t; (fun a => Value.bool a.comparable) <$> typeInfo t) #[.agg #[.pointer (some ⟨3, 168, none⟩)]]).run Tryd.prog w = .ok (.bool true) w := by kernel_rfl
theorem eiMethod (v : Value) (w : World) : (Go.method (Tryd.prog.types.size + 100) 134 v "Comparable").run Tryd.prog w = .ok (150, v) w := by kernel_rfl
theorem eiComp : (Tryd.prog.info? 168).map (·.comparable) = some true := by kernel_rfl
theorem eiSize : (Tryd.prog.info? 194).map (·.size) = some 1 := by kernel_rfl
theorem eiNoIs (v : Value) (xT : TypeId) (w : World) : (Instr.typeAssert (.iface 168 v) xT 136 true).run Tryd.prog w = .ok (.tuple #[.nilIface, .bool false]) w := run_typeAssert_lacksB Tryd.underlying136 (by kernel_rfl) (by kernel_rfl) v xT w
theorem eiNoUnwrap (v : Value) (xT : TypeId) (w : World) : (Instr.typeAssert (.iface 168 v) xT 139 true).run Tryd.prog w = .ok (.tuple #[.nilIface, .bool false]) w := run_typeAssert_lacksB Tryd.underlying139 (by kernel_rfl) (by kernel_rfl) v xT w
theorem eiNoUnwraps (v : Value) (xT : TypeId) (w : World) : (Instr.typeAssert (.iface 168 v) xT 141 true).run Tryd.prog w = .ok (.tuple #[.nilIface, .bool false]) w := run_typeAssert_lacksB Tryd.underlying141 (by kernel_rfl) (by kernel_rfl) v xT w
/-- A sentinel's value. -/
def sentV (b : Addr) : Value := .iface 168 (.pointer (some b))
set_option maxRecDepth 100000 in
theorem isSame_any (b : Addr) (w : World) :
    Calls Tryd.prog 67 #[sentV b, sentV b] w fun e w' => e = .returned (.bool true) ∧ w = w' := by
  unfold sentV
  obtain ⟨i, hi, hcmp⟩ := Option.map_eq_some_iff.1 eiComp
  obtain ⟨j, hj, hjs⟩ := Option.map_eq_some_iff.1 eiSize
  have h8 := @run_callFunc_extern Tryd.prog 84 _ Extern.ReflectliteType.typeOf Tryd.func84 (by kernel_rfl) (by kernel_rfl) (by kernel_rfl) (by kernel_rfl)
  have h32 := @run_callFunc_extern Tryd.prog 150 _ (Extern.ReflectliteType.method fun t => do Extern.Rtype.noPackHeld "Comparable" t; pure (.bool (← typeInfo t).comparable)) Tryd.func150 (by kernel_rfl) (by kernel_rfl) (by kernel_rfl) (by kernel_rfl)
  have tT := eiTypeOf
  have cT := eiComparable
  have mR := eiMethod
  have heq := run_eql_iface_ptr_same (P := Tryd.prog) w b Tryd.underlying62 Tryd.underlying168 hi hcmp hj
  go_enter Tryd.func67, Tryd.ntmps67
  go_wp2
  refine wp_loop_rounds 1 ?_
  rw [rounds_succ]
  go_wp2
  go_ret
  exact ⟨rfl, rfl⟩
set_option maxRecDepth 100000 in
theorem isOther_any (b c : Addr) (cb cc : Array Value) (tb tc : TypeId) (w : World) (hne : b ≠ c) (hb : w.heap[b.block]? = some (.cells cb tb (0, 0))) (hc : w.heap[c.block]? = some (.cells cc tc (0, 0))) :
    Calls Tryd.prog 67 #[sentV b, sentV c] w fun e w' => e = .returned (.bool false) ∧ w = w' := by
  unfold sentV
  obtain ⟨i, hi, hcmp⟩ := Option.map_eq_some_iff.1 eiComp
  obtain ⟨j, hj, hjs⟩ := Option.map_eq_some_iff.1 eiSize
  have h8 := @run_callFunc_extern Tryd.prog 84 _ Extern.ReflectliteType.typeOf Tryd.func84 (by kernel_rfl) (by kernel_rfl) (by kernel_rfl) (by kernel_rfl)
  have h32 := @run_callFunc_extern Tryd.prog 150 _ (Extern.ReflectliteType.method fun t => do Extern.Rtype.noPackHeld "Comparable" t; pure (.bool (← typeInfo t).comparable)) Tryd.func150 (by kernel_rfl) (by kernel_rfl) (by kernel_rfl) (by kernel_rfl)
  have tT := eiTypeOf
  have cT := eiComparable
  have mR := eiMethod
  have nE := eiNoIs
  have uE := eiNoUnwrap
  have vE := eiNoUnwraps
  have heq := run_eql_iface_ptr_other (P := Tryd.prog) w Tryd.underlying62 Tryd.underlying168 hi hcmp hj (by rw [hjs]; decide) hne hb hc
  go_enter Tryd.func67, Tryd.ntmps67
  go_wp2
  refine wp_loop_rounds 1 ?_
  rw [rounds_succ]
  go_wp2
  go_ret
  exact ⟨rfl, rfl⟩
end Go.Proofs.YtfaiehjomcgjgaaDoor
