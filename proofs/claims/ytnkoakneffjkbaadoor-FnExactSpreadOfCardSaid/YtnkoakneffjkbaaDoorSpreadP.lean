/- SpreadOf: the program's function. -/
import Derived.Test.YtnkoakneffjkbaaDoorSpreadK
import Derived.Test.YtnkoakneffjkbaaDoorSpreadS
namespace Go.Proofs.YtnkoakneffjkbaaDoor
set_option linter.unusedVariables false
open Go.RowKit
theorem told_pan {ls : List Lg} {s : Int} {e : Ending} (h : SpTold ls s e) (hv : allV ls = false) : e = .panicked [{ v := .iface 144 (.int .i64 (badL ls)), recovered := false }] := by
  rcases h with h | h | h | h | h
  · exact h.2
  all_goals exact absurd (hv.symm.trans h.1) (by decide)
theorem told_many {ls : List Lg} {s : Int} {e : Ending} (h : SpTold ls s e) (hv : allV ls = true) (hr : rgV (ls.length : Int) 1 8 = false) : e = .returned (.tuple #[.int .i64 0, .int .i64 0, .iface 98 (.string logsTx)]) := by
  rcases h with h | h | h | h | h
  · exact absurd (hv.symm.trans h.1) (by decide)
  · exact h.2.2
  all_goals exact absurd (hr.symm.trans h.2.1) (by decide)
theorem told_sig {ls : List Lg} {s : Int} {e : Ending} (h : SpTold ls s e) (hv : allV ls = true) (hr : rgV (ls.length : Int) 1 8 = true) (hs : rgV s 0 9999 = false) : e = .returned (.tuple #[.int .i64 0, .int .i64 0, .iface 98 (.string sigTx)]) := by
  rcases h with h | h | h | h | h
  · exact absurd (hv.symm.trans h.1) (by decide)
  · exact absurd (hr.symm.trans h.2.1) (by decide)
  · exact h.2.2.2
  all_goals exact absurd (hs.symm.trans h.2.2.1) (by decide)
theorem told_none {ls : List Lg} {s : Int} {e : Ending} (h : SpTold ls s e) (hv : allV ls = true) (hr : rgV (ls.length : Int) 1 8 = true) (hs : rgV s 0 9999 = true) (ht : tmsTo ls s ls.length = []) : e = .returned (.tuple #[.int .i64 0, .int .i64 0, .iface 80 (.string sigTx)]) := by
  rcases h with h | h | h | h | h
  · exact absurd (hv.symm.trans h.1) (by decide)
  · exact absurd (hr.symm.trans h.2.1) (by decide)
  · exact absurd (hs.symm.trans h.2.2.1) (by decide)
  · exact h.2.2.2.2
  · have := h.2.2.2.1; rw [ht] at this; simp at this
theorem told_some {ls : List Lg} {s : Int} {e : Ending} (h : SpTold ls s e) (hv : allV ls = true) (hr : rgV (ls.length : Int) 1 8 = true) (hs : rgV s 0 9999 = true) (ht : 0 < (tmsTo ls s ls.length).length) : e = .returned (.tuple #[.int .i64 (minL (tmsTo ls s ls.length) ((tmsTo ls s ls.length).length - 1)), .int .i64 (maxL (tmsTo ls s ls.length) ((tmsTo ls s ls.length).length - 1)), .nilIface]) := by
  rcases h with h | h | h | h | h
  · exact absurd (hv.symm.trans h.1) (by decide)
  · exact absurd (hr.symm.trans h.2.1) (by decide)
  · exact absurd (hs.symm.trans h.2.2.1) (by decide)
  · rw [h.2.2.2.1] at ht; simp at ht
  · exact h.2.2.2.2
set_option maxRecDepth 100000 in
set_option maxHeartbeats 1000000 in
theorem impl_SpreadOf_any (a : Option Addr) (n cap : Nat) (ls : List Lg) (hl : n = ls.length) (hn : n ≤ 1048576) (s : Int) (w : World) (ha : LogsAt w a ls) :
    Calls Tryd.prog 21 #[.slice a n cap, .int .i64 s] w (Ret3 (spLo ls s) (spHi ls s) (spC ls s) w) := by
  have hmf : ∀ (fn : Fn) (first cap : Array Value) (w : World), (Instr.makeFunc fn first cap).run Tryd.prog w = .ok (.func fn first cap) w := fun _ _ _ _ => rfl
  obtain ⟨Wa, hWa⟩ : ∃ Wa, Wa = (w.alloc (.cells #[.slice a n cap] 40)).alloc (.cells #[.int .i64 s] 2) := ⟨_, rfl⟩
  have g0 : Gr w Wa := by rw [hWa]; exact ((Gr.refl w).alloc _).alloc _
  have G0 := hid g0
  have c0 : Wa.cell? ⟨w.heap.size, 0, none⟩ = some (.slice a n cap) := by
    rw [hWa, cell_of_row _ _ _ _ _ _ (heap_kept (heap_new (w := w) (o := .cells #[.slice a n cap] 40) rfl))]; rfl
  have c1 : Wa.cell? ⟨w.heap.size + 1, 0, none⟩ = some (.int .i64 s) := by
    rw [hWa, cell_of_row _ _ _ _ _ _ (heap_new (w := w.alloc (.cells #[.slice a n cap] 40)) (o := .cells #[.int .i64 s] 2) (by simp))]; rfl
  obtain ⟨caps, hcaps⟩ : ∃ caps : Array Value, caps = #[.pointer (some ⟨w.heap.size, 0, none⟩), .pointer (some ⟨w.heap.size + 1, 0, none⟩)] := ⟨_, rfl⟩
  obtain ⟨Wb, hWb⟩ : ∃ Wb, Wb = Wa.alloc (.cells #[.func (.func 56) #[] caps] 87) := ⟨_, rfl⟩
  have gb : Gr Wa Wb := by rw [hWb]; exact (Gr.refl Wa).alloc _
  have cb : Wb.cell? ⟨Wa.heap.size, 0, none⟩ = some (.func (.func 56) #[] caps) := by
    rw [hWb, cell_of_row _ _ _ _ _ _ (heap_new (w := Wa) (o := .cells #[.func (.func 56) #[] caps] 87) rfl)]; rfl
  have HA : Hid (Calls Tryd.prog 45 #[.func (.func 56) #[] caps] Wa (fun e w' => e = .returned (.tuple #[.int .i64 (spLo ls s), .int .i64 (spHi ls s), .int .i64 (spC ls s)]) ∧ Gr Wa w')) := by
    apply hid
    apply replyTwo_any
    rw [← hWb]
    have hK1 : ∀ (args : Array Value) (w : World), (callFunc 73 args).run Tryd.prog w = .ok (.enter 73 args) w := fun args w => callFunc_enter Tryd.func73 (by kernel_rfl) (by kernel_rfl) args w
    have hK : ∀ (args : Array Value) (w : World), (callFunc 56 args).run Tryd.prog w = .ok (.enter 56 args) w := fun args w => callFunc_enter Tryd.func56 (by kernel_rfl) (by kernel_rfl) args w
    have ge : Gr Wb (((Wb.alloc (.cells #[.int .i64 0, .int .i64 0] 116)).alloc (.cells #[.int .i64 0, .int .i64 0] 116)).alloc (.cells #[.nilIface] 65)) := (((Gr.refl _).alloc _).alloc _).alloc _
    have gt : Gr w (((Wb.alloc (.cells #[.int .i64 0, .int .i64 0] 116)).alloc (.cells #[.int .i64 0, .int .i64 0] 116)).alloc (.cells #[.nilIface] 65)) := (g0.trans gb).trans ge
    have hT := fun V (g : Gr (((Wb.alloc (.cells #[.int .i64 0, .int .i64 0] 116)).alloc (.cells #[.int .i64 0, .int .i64 0] 116)).alloc (.cells #[.nilIface] 65)) V) => spTell_any a n cap ls hl hn s _ _ V ((gb.trans (ge.trans g)).cell c0) ((gb.trans (ge.trans g)).cell c1) (ha.gr (gt.trans g))
    rw [← hcaps] at hT
    cases hv : allV ls with
    | false =>
      obtain ⟨e1, e2, e3⟩ := sp_lg (s := s) (show ¬ lgC ls = 0 by rw [lgC_bad hv]; decide)
      rw [e1, e2, e3, lgC_bad hv]
      exact rep_Two_pan_cannotBe (badL ls) 73 #[.pointer (some ⟨Wa.heap.size, 0, none⟩)] Wb hK1
        (two_pan _ 56 _ _ _ (ge.cell cb) hK (fun V g => (hT V g).mono (fun e w' h => ⟨told_pan h.1 hv, h.2⟩)))
    | true =>
      cases hr : rgV (ls.length : Int) 1 8 with
      | false =>
        obtain ⟨e1, e2, e3⟩ := sp_lg (s := s) (show ¬ lgC ls = 0 by rw [lgC_many hv hr]; decide)
        rw [e1, e2, e3, lgC_many hv hr]
        exact rep_Two_err_outOfRange logsTx 0 0 73 #[.pointer (some ⟨Wa.heap.size, 0, none⟩)] Wb hK1
          (two_iface _ _ _ _ 56 _ _ _ (ge.cell cb) hK (fun V g => (hT V g).mono (fun e w' h => ⟨told_many h.1 hv hr, h.2⟩)))
      | true =>
        have hlg := lgC_ok hv hr
        cases hs : rgV s 0 9999 with
        | false =>
          obtain ⟨e1, e2, e3⟩ := sp_sig hlg hs
          rw [e1, e2, e3]
          exact rep_Two_err_outOfRange sigTx 0 0 73 #[.pointer (some ⟨Wa.heap.size, 0, none⟩)] Wb hK1
            (two_iface _ _ _ _ 56 _ _ _ (ge.cell cb) hK (fun V g => (hT V g).mono (fun e w' h => ⟨told_sig h.1 hv hr hs, h.2⟩)))
        | true =>
          rcases spread_eq (ls := ls) (s := s) ls.length (fun i hi j hj => times_0 (allTo_iff.1 hv i hi) hj) with ⟨t0, t1, t2⟩ | ⟨t0, t1, t2, t3, t4⟩
          · obtain ⟨e1, e2, e3⟩ := sp_none hlg hs (by rw [t1]; decide)
            rw [e1, e2, e3]
            exact rep_Two_err_notFound sigTx 0 0 73 #[.pointer (some ⟨Wa.heap.size, 0, none⟩)] Wb hK1
              (two_iface _ _ _ _ 56 _ _ _ (ge.cell cb) hK (fun V g => (hT V g).mono (fun e w' h => ⟨told_none h.1 hv hr hs t0, h.2⟩)))
          · obtain ⟨e1, e2, e3⟩ := sp_some hlg hs (by omega)
            rw [e1, e2, e3, t2, t3]
            exact rep_Two_ok _ _ 73 #[.pointer (some ⟨Wa.heap.size, 0, none⟩)] Wb hK1
              (two_nil _ _ 56 _ _ _ (ge.cell cb) hK (fun V g => (hT V g).mono (fun e w' h => ⟨told_some h.1 hv hr hs t0, h.2⟩)))
  rw [hcaps] at HA
  generalize spLo ls s = x at *
  generalize spHi ls s = y at *
  generalize spC ls s = c at *
  rw [hWa] at HA
  unfold Ret3
  clear ha hl c0 c1 g0 gb cb hWb hcaps
  go_enter Tryd.func21, Tryd.ntmps21
  go_wp2_with fail
  refine HA.out.mono ?_
  rintro e w1 ⟨rfl, g1⟩
  rw [← hWa] at g1
  have G1 := hid (G0.out.trans g1)
  clear g1
  go_wp2_with fail
  go_ret3
  exact ⟨rfl, G1.out⟩
end Go.Proofs.YtnkoakneffjkbaaDoor
