/- What a story says at a step: the program's small functions. -/
import Derived.Test.YtlgfibiggiknjaaDoorTabM
import Derived.Test.YtlgfibiggiknjaaDoorRowRes
import Derived.Test.YtlgfibiggiknjaaDoorFlights
namespace Go.Proofs.YtlgfibiggiknjaaDoor
set_option linter.unusedVariables false
open Go.RowKit
/-- Accounts as values. -/
def Acct.val : Acct → Value
  | .right i k => .iface 190 (.agg #[.int .i64 i, .int .i64 k])
  | .mis i k => .iface 144 (.agg #[.int .i64 i, .int .i64 k])
  | .drop i => .iface 142 (.int .i64 i)
  | .extra k => .iface 191 (.int .i64 k)
theorem Acct.one (a : Acct) : a.val.oneCell' = true := by cases a <;> rfl
def enV (e : En) : Value := .agg #[.int .i64 e.t, .int .i64 e.s, .bool e.d]
set_option maxRecDepth 100000 in
set_option maxHeartbeats 800000 in
theorem agrees_any (x y : En) (w : World) :
    Calls Tryd.prog 96 #[enV x, enV y] w fun e w' => e = .returned (.bool (agE x y)) ∧ Gr w w' := by
  have HQ := hid (show agE x y = ((x.s == y.s) && (x.d == y.d)) from rfl)
  unfold enV
  generalize agE x y = r at *
  obtain ⟨xt, xs, xd⟩ := x
  obtain ⟨yt, ys, yd⟩ := y
  simp only at HQ ⊢
  cases e1 : (xs == ys)
  · have HR := hid (show r = false by rw [HQ.out, e1]; rfl)
    clear HQ
    go_enter Tryd.func96, Tryd.ntmps96
    go_wp2_with fail
    go_ret
    exact ⟨ret_bool HR.out.symm, ((Gr.refl _).alloc _).alloc _⟩
  cases e2 : (xd == yd)
  · have HR := hid (show r = false by rw [HQ.out, e1, e2]; rfl)
    clear HQ
    go_enter Tryd.func96, Tryd.ntmps96
    go_wp2_with fail
    go_ret
    exact ⟨ret_bool HR.out.symm, ((Gr.refl _).alloc _).alloc _⟩
  · have HR := hid (show r = true by rw [HQ.out, e1, e2]; rfl)
    clear HQ
    go_enter Tryd.func96, Tryd.ntmps96
    go_wp2_with fail
    go_ret
    exact ⟨ret_bool HR.out.symm, ((Gr.refl _).alloc _).alloc _⟩
set_option maxRecDepth 100000 in
set_option maxHeartbeats 800000 in
theorem stepR_any (i k : Int) (w : World) :
    Calls Tryd.prog 219 #[.agg #[.int .i64 i, .int .i64 k]] w fun e w' => e = .returned (.agg #[.int .i64 i, .int .i64 k]) ∧ Gr w w' := by
  go_enter Tryd.func219, Tryd.ntmps219
  go_wp2_with fail
  refine bodyPost_ret (v := .agg #[.int .i64 i, .int .i64 k]) (results_cell_row (by rfl) _ _ _ _ _ _ _ rfl (heap_new (by simp)) Tryd.underlying112 rfl (by kernel_rfl)) rfl ⟨rfl, ((Gr.refl _).alloc _).alloc _⟩
set_option maxRecDepth 100000 in
theorem stepM_any (i k : Int) (w : World) :
    Calls Tryd.prog 216 #[.agg #[.int .i64 i, .int .i64 k]] w fun e w' => e = .returned (.agg #[.int .i64 i, .int .i64 k]) ∧ Gr w w' := by
  go_enter Tryd.func216, Tryd.ntmps216
  go_wp2_with fail
  refine bodyPost_ret (v := .agg #[.int .i64 i, .int .i64 k]) (results_cell_row (by rfl) _ _ _ _ _ _ _ rfl (heap_new (by simp)) Tryd.underlying112 rfl (by kernel_rfl)) rfl ⟨rfl, ((Gr.refl _).alloc _).alloc _⟩
set_option maxRecDepth 100000 in
theorem stepD_any (i : Int) (w : World) :
    Calls Tryd.prog 215 #[.int .i64 i] w fun e w' => e = .returned (.agg #[.int .i64 i, .int .i64 (-1)]) ∧ Gr w w' := by
  go_enter Tryd.func215, Tryd.ntmps215
  go_wp2_with fail
  refine bodyPost_ret (v := .agg #[.int .i64 i, .int .i64 (-1)]) (results_cell_row (by rfl) _ _ _ _ _ _ _ rfl (heap_new (by simp)) Tryd.underlying112 rfl (by kernel_rfl)) rfl ⟨rfl, (Gr.refl _).alloc _⟩
set_option maxRecDepth 100000 in
theorem stepE_any (i : Int) (w : World) :
    Calls Tryd.prog 220 #[.int .i64 i] w fun e w' => e = .returned (.agg #[.int .i64 (-1), .int .i64 i]) ∧ Gr w w' := by
  go_enter Tryd.func220, Tryd.ntmps220
  go_wp2_with fail
  refine bodyPost_ret (v := .agg #[.int .i64 (-1), .int .i64 i]) (results_cell_row (by rfl) _ _ _ _ _ _ _ rfl (heap_new (by simp)) Tryd.underlying112 rfl (by kernel_rfl)) rfl ⟨rfl, (Gr.refl _).alloc _⟩
set_option maxRecDepth 100000 in
set_option maxHeartbeats 800000 in
theorem behind_any (a b : Int) (i k : Nat) (hi : i ≤ 1048576) (hk : k ≤ 1048576) (w : World) :
    Calls Tryd.prog 112 #[.agg #[.int .i64 a, .int .i64 b], .int .i64 i, .int .i64 k] w fun e w' => e = .returned (.tuple #[.int .i64 (if a = -1 then i else i + 1 : Nat), .int .i64 (if b = -1 then k else k + 1 : Nat)]) ∧ Gr w w' := by
  have gr : Hid (Gr w (w.alloc (.cells #[.int .i64 a, .int .i64 b] 112))) := hid ((Gr.refl _).alloc _)
  by_cases ha : a = -1 <;> by_cases hb : b = -1
  all_goals
    first | rw [if_pos ha] | rw [if_neg ha]
    first | rw [if_pos hb] | rw [if_neg hb]
  · have e1 : (a != -1) = false := by simpa using ha
    have e2 : (b != -1) = false := by simpa using hb
    subst ha
    subst hb
    go_enter Tryd.func112, Tryd.ntmps112
    go_wp2_with fail
    go_ret2
    exact ⟨rfl, gr.out⟩
  · have e1 : (a != -1) = false := by simpa using ha
    have e2 : (b != -1) = true := by simpa using hb
    subst ha
    go_enter Tryd.func112, Tryd.ntmps112
    go_wp2_with fail
    go_ret2
    exact ⟨rfl, gr.out⟩
  · have e1 : (a != -1) = true := by simpa using ha
    have e2 : (b != -1) = false := by simpa using hb
    subst hb
    go_enter Tryd.func112, Tryd.ntmps112
    go_wp2_with fail
    go_ret2
    exact ⟨rfl, gr.out⟩
  · have e1 : (a != -1) = true := by simpa using ha
    have e2 : (b != -1) = true := by simpa using hb
    go_enter Tryd.func112, Tryd.ntmps112
    go_wp2_with fail
    go_ret2
    exact ⟨rfl, gr.out⟩
set_option maxRecDepth 100000 in
set_option maxHeartbeats 800000 in
theorem faultsIn_any (a : Acct) (w : World) :
    Calls Tryd.prog 111 #[a.val] w fun e w' => e = .returned (.int .i64 a.cost) ∧ w = w' := by
  cases a with
  | right i k =>
    have h1 : ∀ V : World, (Instr.typeAssert (.iface 190 (.agg #[.int .i64 i, .int .i64 k])) 128 144 true).run Tryd.prog V = .ok (.tuple #[.agg #[.int .i64 0, .int .i64 0], .bool false]) V := fun _ => by kernel_rfl
    have h2 : ∀ V : World, (Instr.typeAssert (.iface 190 (.agg #[.int .i64 i, .int .i64 k])) 128 142 true).run Tryd.prog V = .ok (.tuple #[.int .i64 0, .bool false]) V := fun _ => by kernel_rfl
    have h3 : ∀ V : World, (Instr.typeAssert (.iface 190 (.agg #[.int .i64 i, .int .i64 k])) 128 191 true).run Tryd.prog V = .ok (.tuple #[.int .i64 0, .bool false]) V := fun _ => by kernel_rfl
    unfold Acct.val Acct.cost
    go_enter Tryd.func111, Tryd.ntmps111
    go_wp2_with fail
    go_ret
    exact ⟨rfl, rfl⟩
  | mis i k =>
    have h1 : ∀ V : World, (Instr.typeAssert (.iface 144 (.agg #[.int .i64 i, .int .i64 k])) 128 144 true).run Tryd.prog V = .ok (.tuple #[.agg #[.int .i64 i, .int .i64 k], .bool true]) V := fun _ => by kernel_rfl
    unfold Acct.val Acct.cost
    go_enter Tryd.func111, Tryd.ntmps111
    go_wp2_with fail
    go_ret
    exact ⟨rfl, rfl⟩
  | drop i =>
    have h1 : ∀ V : World, (Instr.typeAssert (.iface 142 (.int .i64 i)) 128 144 true).run Tryd.prog V = .ok (.tuple #[.agg #[.int .i64 0, .int .i64 0], .bool false]) V := fun _ => by kernel_rfl
    have h2 : ∀ V : World, (Instr.typeAssert (.iface 142 (.int .i64 i)) 128 142 true).run Tryd.prog V = .ok (.tuple #[.int .i64 i, .bool true]) V := fun _ => by kernel_rfl
    unfold Acct.val Acct.cost
    go_enter Tryd.func111, Tryd.ntmps111
    go_wp2_with fail
    go_ret
    exact ⟨rfl, rfl⟩
  | extra i =>
    have h1 : ∀ V : World, (Instr.typeAssert (.iface 191 (.int .i64 i)) 128 144 true).run Tryd.prog V = .ok (.tuple #[.agg #[.int .i64 0, .int .i64 0], .bool false]) V := fun _ => by kernel_rfl
    have h2 : ∀ V : World, (Instr.typeAssert (.iface 191 (.int .i64 i)) 128 142 true).run Tryd.prog V = .ok (.tuple #[.int .i64 0, .bool false]) V := fun _ => by kernel_rfl
    have h3 : ∀ V : World, (Instr.typeAssert (.iface 191 (.int .i64 i)) 128 191 true).run Tryd.prog V = .ok (.tuple #[.int .i64 i, .bool true]) V := fun _ => by kernel_rfl
    unfold Acct.val Acct.cost
    go_enter Tryd.func111, Tryd.ntmps111
    go_wp2_with fail
    go_ret
    exact ⟨rfl, rfl⟩
end Go.Proofs.YtlgfibiggiknjaaDoor
