/- LongestUp: the program and the model. -/
import Derived.Test.YtlgfibiggiknjaaDoorLongT
import Derived.Test.YtlgfibiggiknjaaDoorTwo7
import Derived.Test.YtlgfibiggiknjaaDoorUpS
import Derived.Test.YtlgfibiggiknjaaDoorLogOk
namespace Go.Proofs.YtlgfibiggiknjaaDoor
set_option linter.unusedVariables false
open Go.RowKit
def longV (es : List En) : Int := if validE es = true then (if 0 < (endE es).length then (bestE es).1 else 0) else 0
def longL (es : List En) : Int := if validE es = true then (if 0 < (endE es).length then lastF es (bestE es) else 0) else 0
def longC (es : List En) : Int := if validE es = true then (if 0 < (endE es).length then 0 else 6) else 1
set_option maxRecDepth 100000 in
set_option maxHeartbeats 1000000 in
theorem impl_LongestUp_law (a : Option Addr) (n cap : Nat) (es : List En) (hl : n = es.length) (hn : n ≤ 1048576) (hf : EnFits es) (w : World) (ha : CellsOf w a (enCells es)) :
    Calls Tryd.prog 25 #[.slice a n cap] w fun e w' => e = .returned (.tuple #[.int .i64 (longV es), .int .i64 (longL es), .int .i64 (longC es)]) ∧ Gr w w' := by
  have hmf : ∀ (fn : Fn) (first cap : Array Value) (w : World), (Instr.makeFunc fn first cap).run Tryd.prog w = .ok (.func fn first cap) w := fun _ _ _ _ => rfl
  obtain ⟨Wa, hWa⟩ : ∃ Wa, Wa = w.alloc (.cells #[.slice a n cap] 27) := ⟨_, rfl⟩
  have g0 : Gr w Wa := by rw [hWa]; exact (Gr.refl w).alloc _
  have G0 := hid g0
  have c0 : Wa.cell? ⟨w.heap.size, 0, none⟩ = some (.slice a n cap) := by
    rw [hWa, cell_of_row _ _ _ _ _ _ (heap_new (w := w) (o := .cells #[.slice a n cap] 27) rfl)]; rfl
  obtain ⟨Wb, hWb⟩ : ∃ Wb, Wb = Wa.alloc (.cells #[.func (.func 70) #[] #[.pointer (some ⟨w.heap.size, 0, none⟩)]] 100) := ⟨_, rfl⟩
  have gb : Gr Wa Wb := by rw [hWb]; exact (Gr.refl Wa).alloc _
  have cb : Wb.cell? ⟨Wa.heap.size, 0, none⟩ = some (.func (.func 70) #[] #[.pointer (some ⟨w.heap.size, 0, none⟩)]) := by
    rw [hWb, cell_of_row _ _ _ _ _ _ (heap_new (w := Wa) (o := .cells #[.func (.func 70) #[] #[.pointer (some ⟨w.heap.size, 0, none⟩)]] 100) rfl)]; rfl
  have HA : Hid (Calls Tryd.prog 69 #[.func (.func 70) #[] #[.pointer (some ⟨w.heap.size, 0, none⟩)]] Wa (fun e w' => e = .returned (.tuple #[.int .i64 (longV es), .int .i64 (longL es), .int .i64 (longC es)]) ∧ Gr Wa w')) := by
    apply hid
    apply replyTwo_any
    rw [← hWb]
    have hK1 : ∀ (args : Array Value) (w : World), (callFunc 138 args).run Tryd.prog w = .ok (.enter 138 args) w := fun args w => callFunc_enter Tryd.func138 (by kernel_rfl) (by kernel_rfl) args w
    have hK : ∀ (args : Array Value) (w : World), (callFunc 70 args).run Tryd.prog w = .ok (.enter 70 args) w := fun args w => callFunc_enter Tryd.func70 (by kernel_rfl) (by kernel_rfl) args w
    have ge : Gr Wb (((Wb.alloc (.cells #[.int .i64 0, .int .i64 0] 172)).alloc (.cells #[.int .i64 0, .int .i64 0] 172)).alloc (.cells #[.nilIface] 75)) := (((Gr.refl _).alloc _).alloc _).alloc _
    have gt : Gr w (((Wb.alloc (.cells #[.int .i64 0, .int .i64 0] 172)).alloc (.cells #[.int .i64 0, .int .i64 0] 172)).alloc (.cells #[.nilIface] 75)) := (g0.trans gb).trans ge
    cases hv : validE es with
    | false =>
      rw [show longV es = 0 by unfold longV; rw [hv]; rfl, show longL es = 0 by unfold longL; rw [hv]; rfl, show longC es = 1 by unfold longC; rw [hv]; rfl]
      exact rep_Two_pan_cannotBe (badX es) 138 #[.pointer (some ⟨Wa.heap.size, 0, none⟩)] Wb hK1
        (two_pan _ 70 _ _ _ (ge.cell cb) hK (fun V g => luTell_pan a n cap es hl hn hf hv _ V ((gb.trans (ge.trans g)).cell c0) (ha.gr (gt.trans g))))
    | true =>
      have hT := fun V (g : Gr (((Wb.alloc (.cells #[.int .i64 0, .int .i64 0] 172)).alloc (.cells #[.int .i64 0, .int .i64 0] 172)).alloc (.cells #[.nilIface] 75)) V) => luTell_any a n cap es hl hn hf hv _ V ((gb.trans (ge.trans g)).cell c0) (ha.gr (gt.trans g))
      by_cases h0 : 0 < (endE es).length
      · rw [show longV es = (bestE es).1 by unfold longV; rw [hv, if_pos rfl, if_pos h0], show longL es = lastF es (bestE es) by unfold longL; rw [hv, if_pos rfl, if_pos h0], show longC es = 0 by unfold longC; rw [hv, if_pos rfl, if_pos h0]]
        exact rep_Two_ok (bestE es).1 (lastF es (bestE es)) 138 #[.pointer (some ⟨Wa.heap.size, 0, none⟩)] Wb hK1
          (two_nil _ _ 70 _ _ _ (ge.cell cb) hK (fun V g => (hT V g).mono (by rintro e w' ⟨g, (⟨h, _⟩ | ⟨_, rfl⟩)⟩; (omega); exact ⟨rfl, g⟩)))
      · rw [show longV es = 0 by unfold longV; rw [hv, if_pos rfl, if_neg h0], show longL es = 0 by unfold longL; rw [hv, if_pos rfl, if_neg h0], show longC es = 6 by unfold longC; rw [hv, if_pos rfl, if_neg h0]]
        exact rep_Two_err_notFound sigTxt 0 0 138 #[.pointer (some ⟨Wa.heap.size, 0, none⟩)] Wb hK1
          (two_iface _ _ _ _ 70 _ _ _ (ge.cell cb) hK (fun V g => (hT V g).mono (by rintro e w' ⟨g, (⟨_, rfl⟩ | ⟨h, _⟩)⟩; exact ⟨rfl, g⟩; (omega))))
  generalize longV es = x at *
  generalize longL es = y at *
  generalize longC es = c at *
  rw [hWa] at HA
  clear ha hl hf c0 g0 gb cb hWb
  go_enter Tryd.func25, Tryd.ntmps25
  go_wp2_with fail
  refine HA.out.mono ?_
  rintro e w1 ⟨rfl, g1⟩
  rw [← hWa] at g1
  have G1 := hid (G0.out.trans g1)
  clear g1
  go_wp2_with fail
  go_ret3
  exact ⟨rfl, G1.out⟩
def lgTo (es : List En) (k : Nat) (up : List Int) : Nat → Int × Int
  | 0 => longTo es k
  | q + 1 => if (sigAt es up q == (enAt es k).s) = true ∧ (lgTo es k up q).2 < (enAt es k).t - (enAt es (up.getD q 0).toNat).t then (up.getD q 0, (enAt es k).t - (enAt es (up.getD q 0).toNat).t) else lgTo es k up q
theorem lgTo_all {es : List En} {k : Nat} (hok : okUp es k = true) (hd : (enAt es k).d = true) : lgTo es k (upS es k) (upS es k).length = longTo es (k + 1) := by
  have U := up_inv es k
  unfold okUp at hok
  rw [hd] at hok
  have h0 : 0 ≤ atUp es (upS es k) (enAt es k).s := by simpa using hok
  rcases lastP_range (fun j => sigAt es (upS es k) j == (enAt es k).s) (upS es k).length with g | ⟨g1, g2, g3⟩
  · change atUp es (upS es k) (enAt es k).s = -1 at g; omega
  · change atUp es (upS es k) (enAt es k).s < _ at g2
    change (sigAt es (upS es k) (atUp es (upS es k) (enAt es k).s).toNat == (enAt es k).s) = true at g3
    have key : ∀ q, q ≤ (upS es k).length → lgTo es k (upS es k) q = if (atUp es (upS es k) (enAt es k).s).toNat < q then longTo es (k + 1) else longTo es k := by
      intro q
      induction q with
      | zero => intro _; rw [if_neg (by omega)]; rfl
      | succ q ih =>
        intro hq
        have ih := ih (by omega)
        rw [lgTo, ih]
        by_cases e : q = (atUp es (upS es k) (enAt es k).s).toNat
        · subst e
          rw [if_neg (Nat.lt_irrefl _), if_pos (Nat.lt_succ_self _), longTo, g3, hd]
          rfl
        · have hne : (sigAt es (upS es k) q == (enAt es k).s) = false := by
            cases h : (sigAt es (upS es k) q == (enAt es k).s)
            · rfl
            · exact absurd (U.one q _ (by omega) (by omega) (by rw [eq_of_beq h, eq_of_beq g3])) e
          rw [hne, if_neg (by simp)]
          by_cases h1 : (atUp es (upS es k) (enAt es k).s).toNat < q
          · rw [if_pos h1, if_pos (by omega)]
          · rw [if_neg h1, if_neg (by omega)]
    rw [key _ (Nat.le_refl _), if_pos (by omega)]
end Go.Proofs.YtlgfibiggiknjaaDoor
