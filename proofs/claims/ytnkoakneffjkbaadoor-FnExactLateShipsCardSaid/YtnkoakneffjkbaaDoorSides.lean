/- Two logs as sides: the program's function. -/
import Derived.Test.YtnkoakneffjkbaaDoorTable
import Derived.Test.YtnkoakneffjkbaaDoorMust
namespace Go.Proofs.YtnkoakneffjkbaaDoor
set_option linter.unusedVariables false
open Go.RowKit
def lgs2 (a b : Option Addr) (ca cb : Nat) (es fs : List En) : List Lg := [⟨a, ca, es⟩, ⟨b, cb, fs⟩]
def valid2 (es fs : List En) : Bool := validE es && validE fs
theorem allV2 (a b : Option Addr) (ca cb : Nat) (es fs : List En) : allV (lgs2 a b ca cb es fs) = valid2 es fs := by
  unfold allV valid2 lgs2
  simp [allTo, lgV, lgAt]
def bad2 (es fs : List En) : Int := badL (lgs2 none none 0 0 es fs)
theorem bad2_eq (a b : Option Addr) (ca cb : Nat) (es fs : List En) : badL (lgs2 a b ca cb es fs) = bad2 es fs := by
  have e : lgV (lgs2 a b ca cb es fs) = lgV (lgs2 none none 0 0 es fs) := by
    funext i
    unfold lgV lgAt lgs2
    match i with
    | 0 => rfl
    | 1 => rfl
    | i + 2 => rfl
  unfold bad2 badL
  rw [e]
  have h : ∀ i, (lgAt (lgs2 a b ca cb es fs) i).es = (lgAt (lgs2 none none 0 0 es fs) i).es := fun i => by
    unfold lgAt lgs2
    match i with
    | 0 => rfl
    | 1 => rfl
    | i + 2 => rfl
  rw [show (lgs2 a b ca cb es fs).length = (lgs2 none none 0 0 es fs).length from rfl, h]
theorem logs2_at {w : World} {a b : Option Addr} {n m ca cb : Nat} {es fs : List En} (h : Logs2 w a b n m es fs) (hf : EnFits es) (hg : EnFits fs) {W : World} (g : Gr w W) {bb : Nat} {T : TypeId} {fr : Nat × Nat} (hb : W.heap[bb]? = some (.cells #[.slice a n ca, .slice b m cb] T fr)) : LogsAt W (some ⟨bb, 0, none⟩) (lgs2 a b ca cb es fs) := by
  have h' := h.gr g
  intro i hi
  have hi2 : i < 2 := hi
  match i, hi2 with
  | 0, _ => exact ⟨bb, 0, rfl, by rw [cell_of_row _ _ _ _ _ _ hb]; simp [lgAt, lgs2, Lg.val, h.n_], ⟨h'.fst, hf, by have := h.n60; have := h.n_; simp [lgAt, lgs2]; omega⟩⟩
  | 1, _ => exact ⟨bb, 0, rfl, by rw [cell_of_row _ _ _ _ _ _ hb]; simp [lgAt, lgs2, Lg.val, h.m_], ⟨h'.snd, hg, by have := h.m60; have := h.m_; simp [lgAt, lgs2]; omega⟩⟩
set_option maxRecDepth 100000 in
set_option maxHeartbeats 1000000 in
theorem sidesOf_any (a b : Option Addr) (n m ca cb : Nat) (es fs : List En) (hf : EnFits es) (hg : EnFits fs) (w : World) (h2 : Logs2 w a b n m es fs) :
    Calls Tryd.prog 36 #[.slice a n ca, .slice b m cb] w fun e w' =>
      (valid2 es fs = true ∧ e = .returned (.agg (sidesC a b n m ca cb)) ∧ Gr w w') ∨
      (valid2 es fs = false ∧ e = .panicked [{ v := .iface 144 (.int .i64 (bad2 es fs)), recovered := false }] ∧ Gr w w') := by
  obtain ⟨W1, hW1⟩ : ∃ W1, W1 = (w.alloc (.cells #[.slice none 0 0, .slice none 0 0] 67)).alloc (.cells #[.slice a n ca, .slice b m cb] 28) := ⟨_, rfl⟩
  have GW := hid (show Gr w W1 by rw [hW1]; exact ((Gr.refl w).alloc _).alloc _)
  have B0 := hid (show W1.heap[w.heap.size]? = some (.cells #[.slice none 0 0, .slice none 0 0] 67 (0, 0)) by rw [hW1]; exact heap_kept (heap_new rfl))
  have B1 : W1.heap[w.heap.size + 1]? = some (.cells #[.slice a n ca, .slice b m cb] 28 (0, 0)) := by rw [hW1]; exact heap_new (by simp)
  have HM := hid (mustBe_any (some ⟨w.heap.size + 1, 0, none⟩) 2 2 (lgs2 a b ca cb es fs) rfl (by omega) W1 (logs2_at h2 hf hg GW.out B1))
  rw [allV2, bad2_eq] at HM
  have HW1 := hid hW1
  unfold sidesC
  clear h2 hf hg hW1 B1
  go_enter Tryd.func36, Tryd.ntmps36
  go_wp2_with fail
  rw [← HW1.out]
  refine HM.out.mono ?_
  rintro e w1 (⟨hv, rfl, g1⟩ | ⟨hv, rfl, g1⟩)
  · have G1 := hid (GW.out.trans g1)
    have B2 := hid (g1.heap B0.out)
    obtain ⟨d0, d1, f0, f1⟩ := row2_facts B2.out
    have HV := hid hv
    clear g1 hv
    go_wp2_with fail
    refine bodyPost_ret (v := .agg #[.slice a n ca, .slice b m cb]) (results_cell_row (by rfl) _ _ _ _ _ _ _ rfl (row2_set (x := .slice a n ca) (y := .slice b m cb) B2.out) Tryd.underlying67 rfl (by kernel_rfl)) rfl (Or.inl ⟨HV.out, rfl, (G1.out.setCell (p := ⟨w.heap.size, 0, none⟩) (Nat.le_refl _) _).setCell (p := ⟨w.heap.size, 1, none⟩) (Nat.le_refl _) _⟩)
  · have G1 := hid (GW.out.trans g1)
    have HV := hid hv
    clear g1 hv
    go_wp2_with fail
    exact ⟨rfl, .inr ⟨HV.out, rfl, G1.out⟩⟩
end Go.Proofs.YtnkoakneffjkbaaDoor
