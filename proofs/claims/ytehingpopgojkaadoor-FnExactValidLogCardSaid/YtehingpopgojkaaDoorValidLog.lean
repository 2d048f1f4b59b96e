/- ValidLog: the functions. -/
import Derived.Test.YtehingpopgojkaaDoorLogOk
import Derived.Test.YtehingpopgojkaaDoorReplyFly
namespace Go.Proofs.YtehingpopgojkaaDoor
set_option linter.unusedVariables false
open Go.RowKit
set_option maxRecDepth 100000 in
theorem vlTell_ok (al : Option Addr) (n cal : Nat) (es : List En) (hl : n = es.length) (hn : n ≤ 1048576) (hf : EnFits es) (hv : validE es = true) (lp : Addr) (w : World) (hlp : w.cell? lp = some (.slice al n cal)) (ha : CellsOf w al (enCells es)) :
    Calls Tryd.prog 61 #[.pointer (some lp)] w fun e w' => (∃ v, e = .returned (.tuple #[v, .nilIface]) ∧ True ∧ Gr w w') := by
  have HF := hid (flightsOf_any al n cal es hl hn hf w ha)
  rw [hv] at HF
  clear ha hl hf hv
  go_enter Tryd.func61, Tryd.ntmps61
  go_wp2_with fail
  refine HF.out.mono ?_
  rintro e w1 (⟨-, v, rfl, -, g1⟩ | ⟨h, -⟩)
  · have G1 := hid g1
    clear g1
    go_wp2_with fail
    go_ret2
    exact ⟨_, rfl, trivial, G1.out⟩
  · cases h
set_option maxRecDepth 100000 in
theorem vlTell_pan (al : Option Addr) (n cal : Nat) (es : List En) (hl : n = es.length) (hn : n ≤ 1048576) (hf : EnFits es) (hv : validE es = false) (lp : Addr) (w : World) (hlp : w.cell? lp = some (.slice al n cal)) (ha : CellsOf w al (enCells es)) :
    Calls Tryd.prog 61 #[.pointer (some lp)] w fun e w' => e = .panicked [{ v := .iface 160 (.int .i64 (badX es)), recovered := false }] ∧ Gr w w' := by
  have HF := hid (flightsOf_any al n cal es hl hn hf w ha)
  rw [hv] at HF
  clear ha hl hf hv
  go_enter Tryd.func61, Tryd.ntmps61
  go_wp2_with fail
  refine HF.out.mono ?_
  rintro e w1 (⟨h, -⟩ | ⟨-, rfl, g1⟩)
  · cases h
  · have G1 := hid g1
    clear g1
    go_wp2_with fail
    exact ⟨rfl, rfl, G1.out⟩
set_option maxRecDepth 100000 in
theorem impl_ValidLog_law (a : Option Addr) (n cap : Nat) (es : List En) (hl : n = es.length) (hn : n ≤ 1048576) (hf : EnFits es) (w : World) (ha : CellsOf w a (enCells es)) :
    Calls Tryd.prog 18 #[.slice a n cap] w fun e w' => e = .returned (.bool (validE es)) ∧ Gr w w' := by
  have hmf : ∀ (fn : Fn) (first cap : Array Value) (w : World), (Instr.makeFunc fn first cap).run Tryd.prog w = .ok (.func fn first cap) w := fun _ _ _ _ => rfl
  have g0 : Gr w (w.alloc (.cells #[.slice a n cap] 26)) := (Gr.refl w).alloc _
  have G0 := hid g0
  have c0 : (w.alloc (.cells #[.slice a n cap] 26)).cell? ⟨w.heap.size, 0, none⟩ = some (.slice a n cap) := by rw [cell_of_row _ _ _ _ _ _ (heap_new (w := w) (o := .cells #[.slice a n cap] 26) rfl)]; rfl
  have HA : Hid (Calls Tryd.prog 60 #[.func (.func 61) #[] #[.pointer (some ⟨w.heap.size, 0, none⟩)]] (w.alloc (.cells #[.slice a n cap] 26)) (fun e w' => ∃ v, e = .returned (.tuple #[v, .int .i64 (if validE es = true then 0 else 1)]) ∧ Gr (w.alloc (.cells #[.slice a n cap] 26)) w')) := by
    apply hid
    have gn : ∀ V : World, Gr (w.alloc (.cells #[.slice a n cap] 26)) (V.alloc (.cells #[.nilIface] 74)) → CellsOf (V.alloc (.cells #[.nilIface] 74)) a (enCells es) := fun V g => (ha.gr g0).gr g
    cases hv : validE es with
    | true =>
      exact (rep_Fly_ok 61 #[.pointer (some ⟨w.heap.size, 0, none⟩)] (fun _ _ => True) (w.alloc (.cells #[.slice a n cap] 26)) (fun args w => callFunc_enter Tryd.func61 (by kernel_rfl) (by kernel_rfl) args w) (fun _ _ _ _ r => r)
        (vlTell_ok a n cap es hl hn hf hv _ _ (Gr.cell ((Gr.refl _).alloc _) c0) (gn _ ((Gr.refl _).alloc _)))).mono (by rintro e w' ⟨v, rfl, -, g⟩; exact ⟨v, rfl, g⟩)
    | false =>
      exact (rep_Fly_pan_cannotBe (badX es) 61 #[.pointer (some ⟨w.heap.size, 0, none⟩)] (w.alloc (.cells #[.slice a n cap] 26)) (fun args w => callFunc_enter Tryd.func61 (by kernel_rfl) (by kernel_rfl) args w)
        (vlTell_pan a n cap es hl hn hf hv _ _ (Gr.cell ((Gr.refl _).alloc _) c0) (gn _ ((Gr.refl _).alloc _)))).mono (by rintro e w' ⟨rfl, g⟩; exact ⟨_, rfl, g⟩)
  generalize validE es = q at *
  clear ha hl hf c0 g0
  go_enter Tryd.func18, Tryd.ntmps18
  go_wp2_with fail
  refine HA.out.mono ?_
  rintro e w1 ⟨v, rfl, g1⟩
  have G1 := hid (G0.out.trans g1)
  clear g1
  cases q
  all_goals
    go_wp2_with fail
    go_ret
    exact ⟨rfl, G1.out⟩
end Go.Proofs.YtehingpopgojkaaDoor
