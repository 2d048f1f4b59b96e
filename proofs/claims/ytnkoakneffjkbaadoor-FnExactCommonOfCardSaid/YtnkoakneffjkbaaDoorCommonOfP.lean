/- CommonOf: the program's function. -/
import Derived.Test.YtnkoakneffjkbaaDoorCommonOfT
namespace Go.Proofs.YtnkoakneffjkbaaDoor
set_option linter.unusedVariables false
open Go.RowKit
set_option maxRecDepth 100000 in
set_option maxHeartbeats 1000000 in
theorem impl_CommonOf_law (a : Option Addr) (n ca : Nat) (es : List En) (hn0 : n = es.length) (hn : n ≤ 1048576) (hf : EnFits es) (b : Option Addr) (m cb : Nat) (fs : List En) (hm0 : m = fs.length) (hm : m ≤ 1048576) (hg : EnFits fs) (hcb : m ≤ cb) (w : World) (ha : CellsOf w a (enCells es)) (hb : CellsOf w b (enCells fs)) :
    Calls Tryd.prog 10 #[.slice a n ca, .slice b m cb] w (RetV 60 2 (withCode (code2 es fs)) (commonV es fs).length (flCells (commonV es fs)) w) := by
  have hmf : ∀ (fn : Fn) (first cap : Array Value) (w : World), (Instr.makeFunc fn first cap).run Tryd.prog w = .ok (.func fn first cap) w := fun _ _ _ _ => rfl
  have h2 : Logs2 w a b n m es fs := ⟨ha, hb, hn0, hm0, hn, hm⟩
  obtain ⟨W0, hW0⟩ : ∃ W0, W0 = (w.alloc (.cells #[.slice a n ca] 28)).alloc (.cells #[.slice b m cb] 28) := ⟨_, rfl⟩
  have g0 : Gr w W0 := by rw [hW0]; exact ((Gr.refl w).alloc _).alloc _
  have G0 := hid g0
  have hsz : W0.heap.size = w.heap.size + 2 := by rw [hW0]; simp
  have c0 : W0.cell? ⟨w.heap.size, 0, none⟩ = some (.slice a n ca) := by
    rw [hW0]
    exact Gr.cell ((Gr.refl (w.alloc (.cells #[.slice a n ca] 28))).alloc _) (by rw [cell_of_row _ _ _ _ _ _ (heap_new (w := w) (o := .cells #[.slice a n ca] 28) (by simp))]; rfl)
  have c1 : W0.cell? ⟨w.heap.size + 1, 0, none⟩ = some (.slice b m cb) := by
    rw [hW0, cell_of_row _ _ _ _ _ _ (heap_new (w := (w.alloc (.cells #[.slice a n ca] 28))) (o := .cells #[.slice b m cb] 28) (by simp))]; rfl
  have HA : Hid (Calls Tryd.prog 34 #[.func (.func 35) #[] #[.pointer (some ⟨w.heap.size, 0, none⟩), .pointer (some ⟨w.heap.size + 1, 0, none⟩)]] W0 (fun e w' => ∃ v, e = .returned (.tuple #[v, .int .i64 (code2 es fs)]) ∧ OwnV 60 2 w' w.heap.size w'.heap.size v (commonV es fs).length (flCells (commonV es fs)) ∧ Gr W0 w')) := by
    apply hid
    have ge : Gr W0 (W0.alloc (.cells #[.nilIface] 65)) := (Gr.refl _).alloc _
    have hK : ∀ (args : Array Value) (w : World), (callFunc 35 args).run Tryd.prog w = .ok (.enter 35 args) w := fun args w => callFunc_enter Tryd.func35 (by kernel_rfl) (by kernel_rfl) args w
    cases hv : valid2 es fs with
    | false =>
      have HV0 : commonV es fs = [] := by unfold commonV; rw [hv]; rfl
      rw [show code2 es fs = 1 by unfold code2; rw [hv]; rfl]
      exact (rep_Steps_pan_cannotBe (bad2 es fs) 35 #[.pointer (some ⟨w.heap.size, 0, none⟩), .pointer (some ⟨w.heap.size + 1, 0, none⟩)] W0 hK
        (CommonOfTell_pan a b n m ca cb es fs hf hg hv _ _ _ (ge.cell c0) (ge.cell c1) ((h2.gr g0).gr ge))).mono (by rintro e w' ⟨rfl, g⟩; exact ⟨_, rfl, by rw [HV0]; exact OwnV.nil _ _ _, g⟩)
    | true =>
      rw [show code2 es fs = 0 by unfold code2; rw [hv]; rfl]
      exact (rep_Steps_ok 35 #[.pointer (some ⟨w.heap.size, 0, none⟩), .pointer (some ⟨w.heap.size + 1, 0, none⟩)] (RV (W0.heap.size + 1) 60 2 (commonV es fs).length (flCells (commonV es fs))) W0 hK (rv_stays (Nat.lt_succ_self _))
        ((CommonOfTell_ok a b n m ca cb es fs hf hg hv hcb _ _ _ (ge.cell c0) (ge.cell c1) ((h2.gr g0).gr ge)).mono (by rintro e w' ⟨v, rfl, o, g⟩; exact ⟨v, rfl, ⟨_, Nat.le_refl _, o.widen (by simp) (Nat.le_refl _)⟩, g⟩))).mono (by rintro e w' ⟨v, rfl, ⟨hi, h1, o⟩, g⟩; exact ⟨v, rfl, o.widen (by omega) h1, g⟩)
  generalize commonV es fs = ys at *
  generalize code2 es fs = cd at *
  rw [hW0] at HA
  clear h2 ha hb hf hg hn0 hm0 c0 c1 g0 hsz hcb
  go_enter Tryd.func10, Tryd.ntmps10
  go_wp2_with fail
  refine HA.out.mono ?_
  rintro e w1 ⟨v, rfl, o1, g1⟩
  rw [← hW0] at g1
  have G1 := hid (G0.out.trans g1)
  have O1 := hid o1
  clear g1 o1
  go_wp2_with fail
  go_ret2
  exact ⟨_, rfl, O1.out, G1.out⟩
end Go.Proofs.YtnkoakneffjkbaaDoor
