/- errors.As: what the body-less functions do. -/
import Derived.Test.YtnkoakneffjkbaaDoorOwn
import Derived.Laws.Externs
import GoSem.Extern.ReflectliteValue
namespace Go.Proofs.YtnkoakneffjkbaaDoor
set_option linter.unusedVariables false
open Go.RowKit
def refPtr (a : Addr) : Value := .agg #[.pointer (some ⟨1, 112, none⟩), .pointer (some a), .int .u64 150]
def rty (t : TypeId) : Value := .iface 154 (.agg #[.pointer (some ⟨1, t, none⟩)])
theorem xValueOf (p : Addr) (w : World) : (callFunc 85 #[.iface 112 (.pointer (some p))]).run Tryd.prog w = .ok (.value (refPtr ⟨w.heap.size, 0, none⟩)) (w.alloc (.cells #[.pointer (some p)] 112)) := by kernel_rfl
theorem xType (a : Addr) (w : World) : (callFunc 86 #[refPtr a]).run Tryd.prog w = .ok (.value (rty 112)) w := by kernel_rfl
def refPtrE (p : Addr) : Value := .agg #[.pointer (some ⟨1, 110, none⟩), .pointer (some p), .int .u64 404]
theorem mKind (t : TypeId) (w : World) : (method (Tryd.prog.types.size + 100) 154 (.agg #[.pointer (some ⟨1, t, none⟩)]) "Kind").run Tryd.prog w = .ok (129, .pointer (some ⟨1, t, none⟩)) w := by kernel_rfl
theorem mElem (t : TypeId) (w : World) : (method (Tryd.prog.types.size + 100) 154 (.agg #[.pointer (some ⟨1, t, none⟩)]) "Elem").run Tryd.prog w = .ok (147, .agg #[.pointer (some ⟨1, t, none⟩)]) w := by kernel_rfl
theorem mAssignable (t : TypeId) (w : World) : (method (Tryd.prog.types.size + 100) 154 (.agg #[.pointer (some ⟨1, t, none⟩)]) "AssignableTo").run Tryd.prog w = .ok (145, .agg #[.pointer (some ⟨1, t, none⟩)]) w := by kernel_rfl
theorem xKindP (w : World) : (callFunc 129 #[.pointer (some ⟨1, 112, none⟩)]).run Tryd.prog w = .ok (.value (.int .u8 22)) w := by kernel_rfl
theorem xKindI (w : World) : (callFunc 129 #[.pointer (some ⟨1, 110, none⟩)]).run Tryd.prog w = .ok (.value (.int .u8 20)) w := by kernel_rfl
theorem xElem (w : World) : (callFunc 147 #[.agg #[.pointer (some ⟨1, 112, none⟩)]]).run Tryd.prog w = .ok (.value (rty 110)) w := by kernel_rfl
open Go.Extern in
theorem xIsNil (a p : Addr) (w : World) (h : w.cell? a = some (.pointer (some p))) : (callFunc 87 #[refPtr a]).run Tryd.prog w = .ok (.value (.bool false)) w := by
  have hl : (loadVar 112 a).run Tryd.prog w = .ok (.pointer (some p)) w := by
    simp [loadVar, isAgg, run_underlying Tryd.underlying112, Sem.run_bind, Sem.run_pure, go_sem, h]
  have hp : (ReflectliteValue.parts (refPtr a)).run Tryd.prog w = .ok (some (112, a, 150)) w := by kernel_rfl
  rw [run_callFunc_extern (e := ReflectliteValue.method (ReflectliteValue.valueError "reflectlite.Value.IsNil" 0) ReflectliteValue.isNil) Tryd.func87 (by kernel_rfl) (by kernel_rfl) (by kernel_rfl) (by kernel_rfl)]
  have hm : (ReflectliteValue.method (ReflectliteValue.valueError "reflectlite.Value.IsNil" 0) ReflectliteValue.isNil #[refPtr a]).run Tryd.prog w = .ok (.bool false) w := by
    show (do
      match ← ReflectliteValue.parts (refPtr a) with
      | none => ReflectliteValue.valueError "reflectlite.Value.IsNil" 0
      | some (t, a, fl) => ReflectliteValue.isNil t a fl (fl % 32) : Sem Value).run Tryd.prog w = _
    rw [Sem.run_bind, hp]
    simp [Result.andThen, ReflectliteValue.isNil, Sem.run_bind, hl, Sem.run_pure]
  rw [hm]
  rfl
open Go.Extern in
theorem xElemV (a p : Addr) (w : World) (h : w.cell? a = some (.pointer (some p))) : (callFunc 96 #[refPtr a]).run Tryd.prog w = .ok (.value (refPtrE p)) w := by
  have hl : (loadVar 112 a).run Tryd.prog w = .ok (.pointer (some p)) w := by
    simp [loadVar, isAgg, run_underlying Tryd.underlying112, Sem.run_bind, Sem.run_pure, go_sem, h]
  have hp : (ReflectliteValue.parts (refPtr a)).run Tryd.prog w = .ok (some (112, a, 150)) w := by kernel_rfl
  have he : (Rtype.elem? 112).run Tryd.prog w = .ok (some 110) w := by kernel_rfl
  have hk : (ReflectliteValue.mk 110 p 256).run Tryd.prog w = .ok (refPtrE p) w := by kernel_rfl
  rw [run_callFunc_extern (e := ReflectliteValue.method (ReflectliteValue.valueError "reflectlite.Value.Elem" 0) ReflectliteValue.elem) Tryd.func96 (by kernel_rfl) (by kernel_rfl) (by kernel_rfl) (by kernel_rfl)]
  have hm : (ReflectliteValue.method (ReflectliteValue.valueError "reflectlite.Value.Elem" 0) ReflectliteValue.elem #[refPtr a]).run Tryd.prog w = .ok (refPtrE p) w := by
    show (do
      match ← ReflectliteValue.parts (refPtr a) with
      | none => ReflectliteValue.valueError "reflectlite.Value.Elem" 0
      | some (t, a, fl) => ReflectliteValue.elem t a fl (fl % 32) : Sem Value).run Tryd.prog w = _
    rw [Sem.run_bind, hp]
    simp [Result.andThen, ReflectliteValue.elem, Sem.run_bind, hl, he, ReflectliteValue.flagAddr, hk]
  rw [hm]
  rfl
/-- An error's own descriptor, unpacked. -/
def errV (t : TypeId) (b : Addr) (f : Int) : Value := .agg #[.pointer (some ⟨1, t, none⟩), .pointer (some b), .int .u64 f]
def refBox (a : Addr) : Obj := .cells #[.pointer (some ⟨1, 112, none⟩), .pointer (some a), .int .u64 150] 132
set_option maxRecDepth 100000 in
theorem as_nil (p : Addr) (w : World) : Calls Tryd.prog 69 #[.nilIface, .iface 112 (.pointer (some p))] w fun e w' => e = .returned (.bool false) ∧ w = w' := by
  have hnil : ∀ w : World, (binOp BinOp.eql 65 .nilIface .nilIface).run Tryd.prog w = .ok (.bool true) w := fun _ => by kernel_rfl
  go_enter Tryd.func69, Tryd.ntmps69
  go_wp2
  go_ret
  exact ⟨rfl, rfl⟩
def lineTxt : ByteArray := ⟨#[108, 105, 110, 101]⟩
end Go.Proofs.YtnkoakneffjkbaaDoor
