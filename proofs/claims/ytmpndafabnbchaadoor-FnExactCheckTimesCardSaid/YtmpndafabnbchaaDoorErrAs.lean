/- errors.As: what the body-less functions do. -/
import Derived.Test.YtmpndafabnbchaaDoorOwn
import Derived.Laws.Externs
import GoSem.Extern.ReflectliteValue
namespace Go.Proofs.YtmpndafabnbchaaDoor
open Go.RowKit
def refPtr (a : Addr) : Value := .agg #[.pointer (some ⟨2, 112, none⟩), .pointer (some a), .int .u64 150]
def rty (t : TypeId) : Value := .iface 147 (.agg #[.pointer (some ⟨2, t, none⟩)])
theorem xValueOf (p : Addr) (w : World) : (callFunc 102 #[.iface 112 (.pointer (some p))]).run Tryd.prog w = .ok (.value (refPtr ⟨w.heap.size, 0, none⟩)) (w.alloc (.cells #[.pointer (some p)] 112)) := by kernel_rfl
theorem xType (a : Addr) (w : World) : (callFunc 103 #[refPtr a]).run Tryd.prog w = .ok (.value (rty 112)) w := by kernel_rfl
theorem xTypeOf (v : ByteArray) (w : World) : (callFunc 114 #[.iface 130 (.string v)]).run Tryd.prog w = .ok (.value (rty 130)) w := by kernel_rfl
def refPtrE (p : Addr) : Value := .agg #[.pointer (some ⟨2, 110, none⟩), .pointer (some p), .int .u64 404]
theorem mKind (t : TypeId) (w : World) : (method (Tryd.prog.types.size + 100) 147 (.agg #[.pointer (some ⟨2, t, none⟩)]) "Kind").run Tryd.prog w = .ok (131, .pointer (some ⟨2, t, none⟩)) w := by kernel_rfl
theorem mElem (t : TypeId) (w : World) : (method (Tryd.prog.types.size + 100) 147 (.agg #[.pointer (some ⟨2, t, none⟩)]) "Elem").run Tryd.prog w = .ok (150, .agg #[.pointer (some ⟨2, t, none⟩)]) w := by kernel_rfl
theorem mAssignable (t : TypeId) (w : World) : (method (Tryd.prog.types.size + 100) 147 (.agg #[.pointer (some ⟨2, t, none⟩)]) "AssignableTo").run Tryd.prog w = .ok (148, .agg #[.pointer (some ⟨2, t, none⟩)]) w := by kernel_rfl
theorem xKindP (w : World) : (callFunc 131 #[.pointer (some ⟨2, 112, none⟩)]).run Tryd.prog w = .ok (.value (.int .u8 22)) w := by kernel_rfl
theorem xKindI (w : World) : (callFunc 131 #[.pointer (some ⟨2, 110, none⟩)]).run Tryd.prog w = .ok (.value (.int .u8 20)) w := by kernel_rfl
theorem xElem (w : World) : (callFunc 150 #[.agg #[.pointer (some ⟨2, 112, none⟩)]]).run Tryd.prog w = .ok (.value (rty 110)) w := by kernel_rfl
theorem xAssignable (w : World) : (callFunc 148 #[.agg #[.pointer (some ⟨2, 130, none⟩)], rty 110]).run Tryd.prog w = .ok (.value (.bool true)) w := by kernel_rfl
open Go.Extern in
theorem xIsNil (a p : Addr) (w : World) (h : w.cell? a = some (.pointer (some p))) : (callFunc 104 #[refPtr a]).run Tryd.prog w = .ok (.value (.bool false)) w := by
  have hl : (loadVar 112 a).run Tryd.prog w = .ok (.pointer (some p)) w := by
    simp [loadVar, isAgg, run_underlying Tryd.underlying112, Sem.run_bind, Sem.run_pure, go_sem, h]
  have hp : (ReflectliteValue.parts (refPtr a)).run Tryd.prog w = .ok (some (112, a, 150)) w := by kernel_rfl
  rw [run_callFunc_extern (e := ReflectliteValue.method (ReflectliteValue.valueError "reflectlite.Value.IsNil" 0) ReflectliteValue.isNil) Tryd.func104 (by kernel_rfl) (by kernel_rfl) (by kernel_rfl) (by kernel_rfl)]
  have hm : (ReflectliteValue.method (ReflectliteValue.valueError "reflectlite.Value.IsNil" 0) ReflectliteValue.isNil #[refPtr a]).run Tryd.prog w = .ok (.bool false) w := by
    show (do
      match ← ReflectliteValue.parts (refPtr a) with
      | none => ReflectliteValue.valueError "reflectlite.Value.IsNil" 0
      | some (t, a, fl) => ReflectliteValue.isNil t a fl (fl % 32) : Sem Value).run Tryd.prog w = _
    rw [Sem.run_bind, hp]
    simp [Result.andThen, ReflectliteValue.isNil, Sem.run_bind, hl, Sem.run_pure]
  rw [hm]
  rfl
open Go.Extern in
theorem xElemV (a p : Addr) (w : World) (h : w.cell? a = some (.pointer (some p))) : (callFunc 115 #[refPtr a]).run Tryd.prog w = .ok (.value (refPtrE p)) w := by
  have hl : (loadVar 112 a).run Tryd.prog w = .ok (.pointer (some p)) w := by
    simp [loadVar, isAgg, run_underlying Tryd.underlying112, Sem.run_bind, Sem.run_pure, go_sem, h]
  have hp : (ReflectliteValue.parts (refPtr a)).run Tryd.prog w = .ok (some (112, a, 150)) w := by kernel_rfl
  have he : (Rtype.elem? 112).run Tryd.prog w = .ok (some 110) w := by kernel_rfl
  have hk : (ReflectliteValue.mk 110 p 256).run Tryd.prog w = .ok (refPtrE p) w := by kernel_rfl
  rw [run_callFunc_extern (e := ReflectliteValue.method (ReflectliteValue.valueError "reflectlite.Value.Elem" 0) ReflectliteValue.elem) Tryd.func115 (by kernel_rfl) (by kernel_rfl) (by kernel_rfl) (by kernel_rfl)]
  have hm : (ReflectliteValue.method (ReflectliteValue.valueError "reflectlite.Value.Elem" 0) ReflectliteValue.elem #[refPtr a]).run Tryd.prog w = .ok (refPtrE p) w := by
    show (do
      match ← ReflectliteValue.parts (refPtr a) with
      | none => ReflectliteValue.valueError "reflectlite.Value.Elem" 0
      | some (t, a, fl) => ReflectliteValue.elem t a fl (fl % 32) : Sem Value).run Tryd.prog w = _
    rw [Sem.run_bind, hp]
    simp [Result.andThen, ReflectliteValue.elem, Sem.run_bind, hl, Sem.run_pure, he, ReflectliteValue.flagAddr, hk]
  rw [hm]
  rfl
/-- An error's own descriptor, unpacked. -/
def errV (t : TypeId) (b : Addr) (f : Int) : Value := .agg #[.pointer (some ⟨2, t, none⟩), .pointer (some b), .int .u64 f]
theorem xValueOfS (s : ByteArray) (w : World) : (callFunc 102 #[.iface 130 (.string s)]).run Tryd.prog w = .ok (.value (errV 130 ⟨w.heap.size, 0, none⟩ 152)) (w.alloc (.cells #[.string s] 130)) := by kernel_rfl
open Go.Extern in
set_option maxRecDepth 100000 in
set_option maxHeartbeats 400000 in
theorem xSetS (s : ByteArray) (g : Nat) (b : Addr) (w : World) (hb : w.cell? b = some (.string s)) (hg : w.heap[g]? = some (.cells #[.nilIface] 110 (0, 0))) :
    (callFunc 116 #[refPtrE ⟨g, 0, none⟩, errV 130 b 152]).run Tryd.prog w = .ok (.value (.tuple #[])) (w.setCell ⟨g, 0, none⟩ (.iface 130 (.string s))) := by
  have hl : (loadVar 130 b).run Tryd.prog w = .ok (.string s) w := by
    simp [loadVar, isAgg, run_underlying Tryd.underlying130, Sem.run_bind, Sem.run_pure, go_sem, hb]
  have h1 : (ReflectliteValue.parts (refPtrE ⟨g, 0, none⟩)).run Tryd.prog w = .ok (some (110, ⟨g, 0, none⟩, 404)) w := by kernel_rfl
  have h2 : (ReflectliteValue.parts (errV 130 b 152)).run Tryd.prog w = .ok (some (130, b, 152)) w := by kernel_rfl
  have h3 : (Rtype.directlyAssignable 110 130).run Tryd.prog w = .ok false w := by kernel_rfl
  have h4 : (Rtype.implements 110 130).run Tryd.prog w = .ok true w := by kernel_rfl
  have h5 : (Rtype.kind 130).run Tryd.prog w = .ok 24 w := by kernel_rfl
  have hc : w.cell? ⟨g, 0, none⟩ = some .nilIface := by rw [cell_of_row _ _ _ _ _ _ hg]; rfl
  have hf : w.frozen? ⟨g, 0, none⟩ = false := frozen_of_row _ _ _ _ _ hg
  have h6 : (storeVar 110 ⟨g, 0, none⟩ (.iface 130 (.string s))).run Tryd.prog w = .ok () (w.setCell ⟨g, 0, none⟩ (.iface 130 (.string s))) := by
    simp [storeVar, isAgg, run_underlying Tryd.underlying110, Sem.run_bind, Sem.run_pure, go_sem, hc, hf]
  rw [run_callFunc_extern (e := ReflectliteValue.set) Tryd.func116 (by kernel_rfl) (by kernel_rfl) (by kernel_rfl) (by kernel_rfl)]
  have hm : (ReflectliteValue.set #[refPtrE ⟨g, 0, none⟩, errV 130 b 152]).run Tryd.prog w = .ok (.tuple #[]) (w.setCell ⟨g, 0, none⟩ (.iface 130 (.string s))) := by
    refine (Sem.run_bind _ _ (ReflectliteValue.parts (refPtrE ⟨g, 0, none⟩)) _).trans ?_
    rw [h1, Result.andThen_ok]
    refine (Sem.run_bind _ _ (ReflectliteValue.parts (errV 130 b 152)) _).trans ?_
    rw [h2, Result.andThen_ok]
    simp [Sem.run_bind, Sem.run_pure, h3, h4, h5, h6, hl, ReflectliteValue.flagAddr, Result.andThen]
  rw [hm]
  rfl
end Go.Proofs.YtmpndafabnbchaaDoor
