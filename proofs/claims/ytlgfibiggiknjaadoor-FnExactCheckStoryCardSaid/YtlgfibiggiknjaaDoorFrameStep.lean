/- Steps as arguments. -/
import Derived.Test.YtlgfibiggiknjaaDoorFrameLog
import Derived.Test.YtlgfibiggiknjaaDoorCheckStory
namespace Go.Proofs.YtlgfibiggiknjaaDoor
set_option linter.unusedVariables false
open Go.ChangeShapes Go.WideShapes Go.ChangeAt Go.RowKit
theorem trod_struct2' {P : Program} {H : Type} {enc : TypeId × Value → H} {w : World} {base : Nat} {spare : Nat → Bool} {held : Bool} {t : TypeId} {f0 f1 : Field} {fuel : Nat} {cs : List Value} {x : DataW H × List MemPlace} (ht : P.underlying t = some (.struct #[f0, f1])) (h : DataW.trod enc P w base spare held fuel t cs = some x) :
    ∃ y0 y1 n, x = (.agg [y0.1, y1.1], y0.2 ++ y1.2) ∧ cs.length = P.cellsOf t ∧ DataW.trod enc P w base spare held n f0.type ((cs.drop f0.offset).take (P.cellsOf f0.type)) = some y0 ∧
      DataW.trod enc P w base spare held n f1.type ((cs.drop f1.offset).take (P.cellsOf f1.type)) = some y1 := by
  obtain ⟨xs, n, _, rfl, hl, hlen, hf⟩ := DataW.trod_struct ht h
  match xs, hlen with
  | [y0, y1], _ => exact ⟨y0, y1, n, by simp, hl, by simpa using hf 0 f0 rfl, by simpa using hf 1 f1 rfl⟩
def GoodS (l : List Value) : Prop := ∃ (x0 x1 : Int), l = [.int .i64 x0, .int .i64 x1]
theorem sts_of_good : ∀ (n : Nat) (cs : List Value), cs.length = n * 2 → (∀ k, k < n → GoodS ((cs.drop (k * 2)).take 2)) → ∃ ts : List (Int × Int), n = ts.length ∧ cs = flCells ts
  | 0, cs, hl, _ => ⟨[], by simp, by simpa [flCells] using hl⟩
  | n + 1, cs, hl, h => by
    obtain ⟨x0, x1, e⟩ := h 0 (by omega)
    obtain ⟨ts, h1, h3⟩ := sts_of_good n (cs.drop 2) (by rw [List.length_drop]; omega) (fun k hk => by
      have := h (k + 1) (by omega)
      rw [List.drop_drop, show 2 + k * 2 = (k + 1) * 2 by omega]
      exact this)
    refine ⟨(x0, x1) :: ts, by simp [h1], ?_⟩
    rw [← List.take_append_drop 2 cs, h3]
    simp only [Nat.zero_mul, List.drop_zero] at e
    rw [e]; rfl
set_option maxRecDepth 100000 in
theorem open_steps {H : Type} {enc : TypeId × Value → H} {w : World} {a : Option Addr} {len cap : Nat} {d : DataW H} {ps : List MemPlace}
    (h : DataW.Trod enc Tryd.prog w 0 (fun _ => true) true 47 (.slice a len cap) d ps) : ∃ ts : List (Int × Int), len = ts.length ∧ len ≤ maxLen ∧ StFits ts ∧ CellsOf w a (flCells ts) := by
  obtain ⟨cs, h1, h2, h3, h4⟩ := open_slice_structs (sz := 2) GoodS Tryd.underlying47 (by kernel_rfl) (by omega) (fun fuel l x hx => by
    obtain ⟨y0, y1, n, _, hl, t0, t1⟩ := trod_struct2' Tryd.underlying132 hx
    have hl2 : l.length = 2 := hl.trans (by kernel_rfl)
    match l, hl2 with
    | [v0, v1], _ =>
      have c1 : Tryd.prog.cellsOf 2 = 1 := by kernel_rfl
      simp only [c1] at t0 t1
      obtain ⟨x0, e0, _, w0⟩ := DataW.trod_int Tryd.underlying2 t0
      obtain ⟨x1, e1, _, w1⟩ := DataW.trod_int Tryd.underlying2 t1
      simp at e0 e1
      exact ⟨x0, x1, by rw [e0, e1]⟩) h
  obtain ⟨ts, h5, h7⟩ := sts_of_good len cs h1 h4
  exact ⟨ts, h5, h2, trivial, by rw [← h7]; exact h3⟩
end Go.Proofs.YtlgfibiggiknjaaDoor
