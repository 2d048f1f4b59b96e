/- markBook that goes on. -/
import Derived.Test.YtkbdblaciphmnaaMarkB
namespace Go.Proofs.Ytkbdblaciphmnaa
set_option linter.unusedVariables false
open Go.RowKit
set_option maxRecDepth 100000 in
set_option maxHeartbeats 1000000 in
theorem markStringS_on (g n n0 : Nat) (ss : List ByteArray) (hl : n = ss.length) (hn : n ≤ 1048576) (h0 : n0 ≤ 1048576) (w : World) (hb : w.heap[g]? = some (.cells (strCells ss) 9 (0, 0))) :
    Calls Try.prog 59 #[.slice (some ⟨g, 0, none⟩) n n, .int .i64 (1 + (n0 : Int))] w fun e w' => e = .returned (.int .i64 (1 + (n0 : Int) + (n : Int))) ∧ w.grownBy w' (some g) := by
  have HT := hid (fun c hc V => markText_any c hc V)
  have HB := hid hb
  have HL := hid hl
  clear hb hl
  go_enter Try.func59, Try.ntmps59
  go_wp2_with fail
  go_loopw [1, 5] (fun q i wr => ∃ k : Nat, k ≤ n ∧ i = .int .i64 k ∧ q = .int .i64 (1 + n0 + k : Nat) ∧ Hid (∃ ys : List ByteArray, ys.length = n ∧ wr.heap[g]? = some (.cells (strCells ys) 9 (0, 0))) ∧ Hid (w.grownBy wr (some g))) (fun _ i _ => n - (intOf i).toNat)
  case atStart => exact ⟨0, Nat.zero_le _, rfl, by push_cast; simp, hid ⟨ss, HL.out.symm, HB.out⟩, hid ⟨rfl, rfl, rfl, Nat.le_refl _, fun _ _ _ => rfl⟩⟩
  case round =>
    obtain ⟨k, hk, rfl, rfl, hy, hg⟩ := hrel
    by_cases hlt : k < n
    · have HM := hid (HT.out (1 + n0 + k) (by omega) wr)
      push_cast at HM
      obtain ⟨ys, hyl, hyb⟩ := hy.out
      have HYL := hid hyl
      have HYB := hid hyb
      clear hyl hyb hy
      push_cast
      go_wp2_with fail
      refine HM.out.mono ?_
      rintro e w1 ⟨⟨t, rfl⟩, g1⟩
      have hyb1 := g1.heap HYB.out
      have hc0 := cell_strs hyb1 (i := k) (by rw [HYL.out]; exact hlt)
      have hf0 : w1.frozen? ⟨g, k, none⟩ = false := frozen_of_row _ _ _ _ _ hyb1
      have HN := hid (show ∃ zs : List ByteArray, zs.length = n ∧ (w1.setCell ⟨g, k, none⟩ (.string t)).heap[g]? = some (.cells (strCells zs) 9 (0, 0)) from ⟨ys.set k t, by rw [List.length_set]; exact HYL.out, heap_str_set hyb1⟩)
      have HG := hid ((hg.out.trans (grown_gr g1 _)).trans (grown_cell (W := w1) (g := g) (i := k) (u := .string t)))
      clear hyb1 g1 HM
      go_wp2_with fail
      go_roundw
      case rel => exact ⟨k + 1, by omega, by go_num, by go_num, HN, HG⟩
      case measure => simp [intOf]; omega
    · have hkn : k = n := by omega
      have HK := hid hkn
      clear hkn
      go_wp2_with fail
      go_ret
      exact ⟨ret_int (by rw [← HK.out]; push_cast; rfl), hg.out⟩
set_option maxRecDepth 100000 in
set_option maxHeartbeats 1000000 in
theorem markBook_on (k l s : Int) (g n n0 : Nat) (ss : List ByteArray) (hl : n = ss.length) (hn : n ≤ 1048576) (h0 : n0 ≤ 1048576) (w : World) (hb : w.heap[g]? = some (.cells (strCells ss) 9 (0, 0))) :
    Calls Try.prog 26 #[bookV k l s (.slice (some ⟨g, 0, none⟩) n n), .int .i64 (1 + (n0 : Int))] w fun e w' => e = .returned (.int .i64 (1 + (n0 : Int) + (n : Int))) ∧ w.grownBy w' (some g) := by
  obtain ⟨W, hW⟩ : ∃ W, W = w.alloc (.cells (bookC k l s (.slice (some ⟨g, 0, none⟩) n n)) 29) := ⟨_, rfl⟩
  have G0 : Hid (Gr w W) := hid (by rw [hW]; exact (Gr.refl w).alloc _)
  have HM := hid (markStringS_on g n n0 ss hl hn h0 W (G0.out.heap hb))
  obtain ⟨d0, d1, d2, d3⟩ := bk_cells (show W.heap[w.heap.size]? = some (.cells (bookC k l s (.slice (some ⟨g, 0, none⟩) n n)) 29 (0, 0)) by rw [hW]; exact heap_new rfl)
  have HW := hid hW
  clear hb hl hW
  go_enter Try.func26, Try.ntmps26
  go_wp2_with fail
  rw [← HW.out]
  go_wp2_with fail
  refine HM.out.mono ?_
  rintro e w1 ⟨rfl, g1⟩
  have G1 := hid ((grown_gr G0.out (some g)).trans g1)
  clear g1 d0 d1 d2 d3
  go_wp2_with fail
  go_ret
  exact ⟨rfl, G1.out⟩
end Go.Proofs.Ytkbdblaciphmnaa
