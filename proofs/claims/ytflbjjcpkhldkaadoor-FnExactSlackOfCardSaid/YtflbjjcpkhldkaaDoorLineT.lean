/- Lines of ships: the program's times. -/
import Derived.Test.YtflbjjcpkhldkaaDoorLineY
import Derived.Test.YtflbjjcpkhldkaaDoorLineR
namespace Go.Proofs.YtflbjjcpkhldkaaDoor
open Go.RowKit
theorem tmCells_elem (ts : List Tm) : ∀ i, i < ts.length → ((tmCells ts).drop (i * 4)).take 4 = (tmAt ts i).cells := by
  intro i hi
  apply List.ext_getElem?
  intro q
  rw [List.getElem?_take]
  split
  · rename_i hq
    rw [List.getElem?_drop, tmCells_get ts i q hi hq]
  · rename_i hq
    rw [List.getElem?_eq_none]
    show 4 ≤ q
    omega
theorem tmCells_sC (ts : List Tm) : TimessC ts.length (tmCells ts) :=
  ⟨tmCells_length ts, fun k hk => ⟨_, _, _, _, tmCells_elem ts k hk⟩⟩
theorem tm_at {w : World} {a : Option Addr} {ts : List Tm} {i : Nat} (h : CellsOf w a (tmCells ts)) (hi : i < ts.length) :
    ∃ b off, a = some ⟨b, off, none⟩ ∧ w.cell? ⟨b, off + i * 4, none⟩ = some (.int .i8 (tmAt ts i).f) ∧ w.cell? ⟨b, off + i * 4 + 1, none⟩ = some (.int .i64 (tmAt ts i).s) ∧ w.cell? ⟨b, off + i * 4 + 2, none⟩ = some (.int .i64 (tmAt ts i).c) ∧ w.cell? ⟨b, off + i * 4 + 3, none⟩ = some (.int .i64 (tmAt ts i).l) :=
  elemTimes_cells h (tmCells_elem ts i hi)
theorem tm_at' {w : World} {b off : Nat} {ts : List Tm} {i : Nat} (h : CellsOf w (some ⟨b, off, none⟩) (tmCells ts)) (hi : i < ts.length) :
    w.cell? ⟨b, off + i * 4, none⟩ = some (.int .i8 (tmAt ts i).f) ∧ w.cell? ⟨b, off + i * 4 + 1, none⟩ = some (.int .i64 (tmAt ts i).s) ∧ w.cell? ⟨b, off + i * 4 + 2, none⟩ = some (.int .i64 (tmAt ts i).c) ∧ w.cell? ⟨b, off + i * 4 + 3, none⟩ = some (.int .i64 (tmAt ts i).l) :=
  elemTimes_at (tm_at h hi)
/-- The variable 'never' holds what it was laid with. -/
def NeverAt (w : World) : Prop := w.cell? ⟨0, 0, none⟩ = some (.int .i8 (-1)) ∧ w.cell? ⟨0, 1, none⟩ = some (.int .i64 (-1)) ∧ w.cell? ⟨0, 2, none⟩ = some (.int .i64 (-1)) ∧ w.cell? ⟨0, 3, none⟩ = some (.int .i64 (-1))
theorem NeverAt.gr {W w : World} (h : NeverAt W) (g : Gr W w) : NeverAt w := ⟨g.cell h.1, g.cell h.2.1, g.cell h.2.2.1, g.cell h.2.2.2⟩
theorem NeverAt.lt {w : World} (h : NeverAt w) : 0 < w.heap.size := World.block_lt_of_cell? w _ h.1
set_option maxRecDepth 100000 in
set_option maxHeartbeats 400000 in
theorem isReached_no (w : World) (hn : NeverAt w) :
    Calls Tryd.prog 65 #[.agg #[.int .i8 (-1), .int .i64 (-1), .int .i64 (-1), .int .i64 (-1)]] w fun e w' => e = .returned (.bool false) ∧ Gr w w' := by
  have h0 := NeverAt.lt hn
  have hz : ¬ w.heap.size = 0 := by omega
  obtain ⟨n0, n1, n2, n3⟩ := hn
  go_enter Tryd.func65, Tryd.ntmps65
  go_wp2
  go_ret
  exact ⟨rfl, (Gr.refl _).alloc _⟩
set_option maxRecDepth 100000 in
set_option maxHeartbeats 400000 in
theorem isReached_yes (f s c l : Int) (_hf : -1 ≤ f) (hs : 0 ≤ s) (w : World) (hn : NeverAt w) :
    Calls Tryd.prog 65 #[.agg #[.int .i8 f, .int .i64 s, .int .i64 c, .int .i64 l]] w fun e w' => e = .returned (.bool true) ∧ Gr w w' := by
  have h0 := NeverAt.lt hn
  have hz : ¬ w.heap.size = 0 := by omega
  have e2 : (s == (-1 : Int)) = false := by simp; omega
  obtain ⟨n0, n1, n2, n3⟩ := hn
  cases e1 : (f == (-1 : Int))
  · go_enter Tryd.func65, Tryd.ntmps65
    go_wp2
    go_ret
    exact ⟨rfl, (Gr.refl _).alloc _⟩
  · go_enter Tryd.func65, Tryd.ntmps65
    go_wp2
    go_ret
    exact ⟨rfl, (Gr.refl _).alloc _⟩
end Go.Proofs.YtflbjjcpkhldkaaDoor
