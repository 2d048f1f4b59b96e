/- Lists of logs as arguments. -/
import Derived.Test.YtnkoakneffjkbaaDoorFrameLog
import Derived.Test.YtnkoakneffjkbaaDoorGLg
namespace Go.Proofs.YtnkoakneffjkbaaDoor
set_option linter.unusedVariables false
open Go.RowKit Go.ChangeShapes Go.WideShapes Go.ChangeAt Go.ChangeMaps
def GoodL (w : World) (l : List Value) : Prop := ∃ g : Lg, l = [g.val] ∧ g.es.length ≤ maxLen ∧ EnFits g.es ∧ CellsOf w g.a (enCells g.es)
theorem lgs_of_good {w : World} : ∀ (n : Nat) (cs : List Value), cs.length = n * 1 → (∀ k, k < n → GoodL w ((cs.drop (k * 1)).take 1)) → ∃ ls : List Lg, n = ls.length ∧ cs = ls.map Lg.val ∧ ∀ g ∈ ls, g.es.length ≤ maxLen ∧ EnFits g.es ∧ CellsOf w g.a (enCells g.es)
  | 0, cs, hl, _ => ⟨[], rfl, by simpa using hl, fun _ h => (by cases h)⟩
  | n + 1, cs, hl, h => by
    obtain ⟨g, e, w0, w1, w2⟩ := h 0 (by omega)
    obtain ⟨ls, h1, h2, h3⟩ := lgs_of_good (w := w) n (cs.drop 1) (by rw [List.length_drop]; omega) (fun k hk => by
      have := h (k + 1) (by omega)
      rw [List.drop_drop, show 1 + k * 1 = (k + 1) * 1 by omega]
      exact this)
    refine ⟨g :: ls, by simp [h1], ?_, fun t ht => ?_⟩
    · rw [← List.take_append_drop 1 cs, h2]
      simp only [Nat.zero_mul, List.drop_zero] at e
      rw [e]; rfl
    · rcases List.mem_cons.1 ht with rfl | ht
      · exact ⟨w0, w1, w2⟩
      · exact h3 t ht
set_option maxRecDepth 100000 in
theorem open_logs2 {H : Type} {enc : TypeId × Value → H} {w : World} {a : Option Addr} {len cap : Nat} {d : DataW H} {ps : List MemPlace}
    (h : DataW.Trod enc Tryd.prog w 0 (fun _ => true) true 37 (.slice a len cap) d ps) : ∃ ls : List Lg, len = ls.length ∧ len ≤ maxLen ∧ (∀ i, (lgAt ls i).es.length ≤ maxLen) ∧ (∀ i, EnFits (lgAt ls i).es) ∧ LogsRaw w a ls := by
  obtain ⟨cs, h1, h2, h3, h4⟩ := open_slice_structs (sz := 1) (GoodL w) Tryd.underlying37 (by kernel_rfl) (by omega) (fun fuel l x hx => by
    have hT : ∀ a' len' cap', l = [.slice a' len' cap'] → GoodL w l := fun a' len' cap' e => by
      obtain ⟨ts, t1, t2, t3, t4⟩ := open_logs (w := w) (a := a') (len := len') (cap := cap') (d := x.1) (ps := x.2) ⟨fuel, by rw [e] at hx; exact hx⟩
      exact ⟨⟨a', cap', ts⟩, by rw [e, t1]; rfl, by rw [← t1]; exact t2, t3, t4⟩
    rcases DataW.trod_slice Tryd.underlying22 hx with ⟨hcs, _⟩ | ⟨a', len', cap', elems, rest, n, _, hcs, _⟩
    · exact hT _ _ _ hcs
    · exact hT _ _ _ hcs) h
  obtain ⟨ls, h5, h6, h7⟩ := lgs_of_good len cs h1 h4
  have hmem : ∀ i, i < ls.length → lgAt ls i ∈ ls := fun i hi => by simp [lgAt, List.getD, hi]
  have hno : ∀ i, ¬ i < ls.length → lgAt ls i = noLg := fun i hi => by simp [lgAt, List.getD, hi]
  refine ⟨ls, h5, h2, fun i => ?_, fun i => ?_, fun i hi => ?_⟩
  · by_cases hi : i < ls.length
    · exact (h7 _ (hmem i hi)).1
    · rw [hno i hi]; exact Nat.zero_le _
  · by_cases hi : i < ls.length
    · exact (h7 _ (hmem i hi)).2.1
    · rw [hno i hi]; exact fun e he => by cases he
  · obtain ⟨b, off, e, hc⟩ := h3 i (by rw [h6, List.length_map]; exact hi)
    refine ⟨b, off, e, ?_, (h7 _ (hmem i hi)).2.2⟩
    rw [hc, h6]
    simp [lgAt, List.getD, hi]
end Go.Proofs.YtnkoakneffjkbaaDoor
