/- Which ship closes up last: the program's function and the model's. -/
import Derived.Test.YtflbjjcpkhldkaaDoorTimesOf
namespace Go.Proofs.YtflbjjcpkhldkaaDoor
set_option linter.unusedVariables false
open Go.RowKit
theorem infoClos : (Tryd.prog.info? 82).map (·.size) = some 2 := by kernel_rfl
theorem tmC_range {i : Nat} {t : Tm} (h : TmOk i t) (hi : i < 20) : -1 ≤ t.c ∧ t.c ≤ 4800 := by
  rcases h with h | ⟨h1, h2, h3, h4, h5, h6, h7⟩
  · subst h; exact ⟨Int.le_refl _, by decide⟩
  · omega
theorem lastTo_le (ts : List Tm) : ∀ k, lastTo ts k ≤ k
  | 0 => Nat.le_refl _
  | k + 1 => by have := lastTo_lt ts (k + 1) (by omega); omega
theorem lastTo_yes {ts : List Tm} {k : Nat} (h : (tmAt ts (lastTo ts k)).c < (tmAt ts k).c) : lastTo ts (k + 1) = k := by
  rw [lastTo]; exact if_pos h
theorem lastTo_no {ts : List Tm} {k : Nat} (h : ¬ (tmAt ts (lastTo ts k)).c < (tmAt ts k).c) : lastTo ts (k + 1) = lastTo ts k := by
  rw [lastTo]; exact if_neg h
set_option maxRecDepth 100000 in
set_option maxHeartbeats 2000000 in
theorem lastClosed_any (a : Option Addr) (n c : Nat) (ts : List Tm) (hl : n = ts.length) (h0 : 0 < n) (hm : n ≤ 20) (hc0 : (tmAt ts 0).c = 0) (w : World) (ha : CellsOf w a (tmCells ts)) :
    Calls Tryd.prog 69 #[.slice a n c] w fun e w' => e = .returned (.agg #[.int .i64 (lastC ts), .int .i64 (lastTo ts ts.length)]) ∧ Gr w w' := by
  obtain ⟨b0, o0, rfl, _⟩ := tm_at ha (i := 0) (by omega)
  have HA := hid (fun k (hk : k < n) V (g : Gr w V) => tm_at' (ha.gr g) (i := k) (by omega))
  have HY := hid (fun k (h : (tmAt ts (lastTo ts k)).c < (tmAt ts k).c) => lastTo_yes h)
  have HN := hid (fun k (h : ¬ (tmAt ts (lastTo ts k)).c < (tmAt ts k).c) => lastTo_no h)
  have HZ := hid (show ((tmAt ts (lastTo ts 0)).c, lastTo ts 0) = (0, 0) by rw [show lastTo ts 0 = 0 from rfl, hc0])
  have HE := hid (show (lastC ts, lastTo ts ts.length) = ((tmAt ts (lastTo ts n)).c, lastTo ts n) by rw [hl]; rfl)
  have e1 := congrArg Prod.fst HE.out
  have e2 := congrArg Prod.snd HE.out
  simp only at e1 e2
  rw [e1, e2]
  clear ha hl hc0 e1 e2 HE
  go_enter Tryd.func69, Tryd.ntmps69
  go_wp2_with fail
  go_loopw [8] (fun i wr => ∃ k : Nat, k ≤ n ∧ i = .int .i64 k ∧ Hid (wr.heap[w.heap.size + 1]? = some (.cells #[.int .i64 (tmAt ts (lastTo ts k)).c, .int .i64 (lastTo ts k)] 82 (0, 0))) ∧ Hid (wr.heap[w.heap.size]? = some (.cells #[.int .i64 0, .int .i64 0] 82 (0, 0))) ∧ Hid (Gr w wr)) (fun i _ => n - (intOf i).toNat)
  case atStart =>
    have z1 := congrArg Prod.fst HZ.out
    have z2 := congrArg Prod.snd HZ.out
    simp only at z1 z2
    refine ⟨0, Nat.zero_le _, rfl, hid ?_, hid ?_, hid (((Gr.refl _).alloc _).alloc _)⟩
    · rw [z1, z2]; exact heap_new (by simp)
    · exact heap_kept (heap_new rfl)
  case round =>
    obtain ⟨k, hk, rfl, B, B0, G⟩ := hrel
    have hbl := lt_of_heap B.out
    by_cases hlt : k < n
    · have RG := hid (range4 (HA.out k hlt wr G.out))
      have HYk := hid (HY.out k)
      have HNk := hid (HN.out k)
      have hle : lastTo ts k ≤ k := lastTo_le ts k
      generalize lastTo ts k = p at *
      have hb0 : (0 : Int) ≤ k := by omega
      have hb1 : (k : Int) < n := by omega
      obtain ⟨y, hy⟩ : ∃ y, y = (tmAt ts p).c := ⟨_, rfl⟩
      rw [← hy] at B HYk HNk
      have EY := hid hy
      clear hy
      generalize (tmAt ts k).f = x0 at *
      generalize (tmAt ts k).s = x1 at *
      obtain ⟨x2, hx⟩ : ∃ x, x = (tmAt ts k).c := ⟨_, rfl⟩
      rw [← hx] at RG HYk HNk
      have EX := hid hx
      clear hx
      generalize (tmAt ts k).l = x3 at *
      have hne : w.heap.size + 1 ≠ wr.heap.size := by omega
      have G1 := hid (G.out.alloc (.cells #[.int .i8 x0, .int .i64 x1, .int .i64 x2, .int .i64 x3] 69))
      have hq0 : wr.cell? ⟨w.heap.size + 1, 0, none⟩ = some (.int .i64 y) := by rw [cell_of_row _ _ _ _ _ _ B.out]; rfl
      have hq1 : wr.cell? ⟨w.heap.size + 1, 1, none⟩ = some (.int .i64 p) := by rw [cell_of_row _ _ _ _ _ _ B.out]; rfl
      have hz0 : wr.frozen? ⟨w.heap.size + 1, 0, none⟩ = false := frozen_of_row _ _ _ _ _ B.out
      have hz1 : wr.frozen? ⟨w.heap.size + 1, 1, none⟩ = false := frozen_of_row _ _ _ _ _ B.out
      by_cases hgt : y < x2
      · have HW := hid (HYk.out hgt)
        have G2 := hid (((G.out.setCell (p := ⟨w.heap.size + 1, 0, none⟩) (by show _ ≤ _ + 1; omega) (.int .i64 x2)).setCell (p := ⟨w.heap.size + 1, 1, none⟩) (by show _ ≤ _ + 1; omega) (.int .i64 k)).alloc (.cells #[.int .i8 x0, .int .i64 x1, .int .i64 x2, .int .i64 x3] 69))
        have B2 := hid (heap_kept (o := .cells #[.int .i8 x0, .int .i64 x1, .int .i64 x2, .int .i64 x3] 69) (show ((wr.setCell ⟨w.heap.size + 1, 0, none⟩ (.int .i64 x2)).setCell ⟨w.heap.size + 1, 1, none⟩ (.int .i64 k)).heap[w.heap.size + 1]? = some (.cells #[.int .i64 x2, .int .i64 k] 82 (0, 0)) by
          rw [heap_setCell_same _ (w.heap.size + 1) 1 _ _ _ (heap_setCell_same _ (w.heap.size + 1) 0 _ _ (.int .i64 x2) B.out)]; rfl))
        have B02 := hid (heap_kept (o := .cells #[.int .i8 x0, .int .i64 x1, .int .i64 x2, .int .i64 x3] 69) (heap_stored (a := ⟨w.heap.size + 1, 1, none⟩) (v := .int .i64 k) (by simp) (heap_stored (w := wr) (a := ⟨w.heap.size + 1, 0, none⟩) (v := .int .i64 x2) (by simp) B0.out)))
        go_wp2_with (refine wpList_load_mid rfl 69 _ rfl b0 (o0 + k * 4) rfl _ _ RG.out Tryd.underlying69 rfl sizeTimes ?_)
        go_roundw
        case rel => exact ⟨k + 1, by omega, by go_num, hid (by rw [HW.out, ← EX.out]; exact B2.out), B02, G2⟩
        case measure => simp [intOf] <;> omega
      · have HW := hid (HNk.out (by omega))
        go_wp2_with (refine wpList_load_mid rfl 69 _ rfl b0 (o0 + k * 4) rfl _ _ RG.out Tryd.underlying69 rfl sizeTimes ?_)
        go_roundw
        case rel => exact ⟨k + 1, by omega, by go_num, hid (by rw [HW.out, ← EY.out]; exact heap_kept B.out), hid (heap_kept B0.out), G1⟩
        case measure => simp [intOf] <;> omega
    · obtain rfl : k = n := by omega
      obtain ⟨p, hp⟩ : ∃ p, p = lastTo ts k := ⟨_, rfl⟩
      rw [← hp] at B
      have EP := hid hp
      clear hp
      obtain ⟨y, hy⟩ : ∃ y, y = (tmAt ts p).c := ⟨_, rfl⟩
      rw [← hy] at B
      have EY := hid hy
      clear hy
      have hq0 : wr.cell? ⟨w.heap.size + 1, 0, none⟩ = some (.int .i64 y) := by rw [cell_of_row _ _ _ _ _ _ B.out]; rfl
      have hq1 : wr.cell? ⟨w.heap.size + 1, 1, none⟩ = some (.int .i64 p) := by rw [cell_of_row _ _ _ _ _ _ B.out]; rfl
      have hr0 : wr.cell? ⟨w.heap.size, 0, none⟩ = some (.int .i64 0) := by rw [cell_of_row _ _ _ _ _ _ B0.out]; rfl
      have hr1 : wr.cell? ⟨w.heap.size, 1, none⟩ = some (.int .i64 0) := by rw [cell_of_row _ _ _ _ _ _ B0.out]; rfl
      have hz0 : wr.frozen? ⟨w.heap.size, 0, none⟩ = false := frozen_of_row _ _ _ _ _ B0.out
      have hz1 : wr.frozen? ⟨w.heap.size, 1, none⟩ = false := frozen_of_row _ _ _ _ _ B0.out
      have G2 := hid ((G.out.setCell (p := ⟨w.heap.size, 0, none⟩) (Nat.le_refl _) (.int .i64 y)).setCell (p := ⟨w.heap.size, 1, none⟩) (Nat.le_refl _) (.int .i64 p))
      have B2 := hid (show ((wr.setCell ⟨w.heap.size, 0, none⟩ (.int .i64 y)).setCell ⟨w.heap.size, 1, none⟩ (.int .i64 p)).heap[w.heap.size]? = some (.cells #[.int .i64 y, .int .i64 p] 82 (0, 0)) by
        rw [heap_setCell_same _ w.heap.size 1 _ _ _ (heap_setCell_same _ w.heap.size 0 _ _ (.int .i64 y) B0.out)]; rfl)
      go_wp2_with fail
      refine bodyPost_ret (v := .agg #[.int .i64 y, .int .i64 p]) (results_cell_row (by rfl) _ _ _ _ _ _ _ rfl B2.out Tryd.underlying82 rfl (by kernel_rfl)) rfl ⟨?_, G2.out⟩
      rw [EY.out, EP.out]
end Go.Proofs.YtflbjjcpkhldkaaDoor
