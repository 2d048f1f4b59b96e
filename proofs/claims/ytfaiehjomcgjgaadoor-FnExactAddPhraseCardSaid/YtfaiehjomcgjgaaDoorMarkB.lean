/- markBook: the mark of a book's phrases. -/
import Derived.Test.YtfaiehjomcgjgaaDoorGBk
import Derived.Laws.Concat
import Derived.Test.YtfaiehjomcgjgaaDoorGHst
namespace Go.Proofs.YtfaiehjomcgjgaaDoor
set_option linter.unusedVariables false
open Go.RowKit
/-- 'string(b)' of one byte. -/
theorem conv_one {w : World} {x : Int} :
    (convert 125 9 (.slice (some ⟨w.heap.size, 0, none⟩) 1 1)).run Tryd.prog (w.alloc (.cells #[.int .u8 x] 5)) = .ok (.string (strOfNums [x])) (w.alloc (.cells #[.int .u8 x] 5)) := by
  refine run_convert_bytes_arg (P := Tryd.prog) _ 125 5 Tryd.underlying125 Tryd.underlying5 w.heap.size 0 1 1 [x] rfl (fun i hi0 => ?_) 9 Tryd.underlying9
  have : i = 0 := by simp at hi0; omega
  subst this
  rw [Nat.zero_add]
  rw [cell_of_row _ _ 0 _ _ _ (heap_new rfl)]; rfl
set_option maxRecDepth 100000 in
set_option maxHeartbeats 1000000 in
theorem markText_any (c : Nat) (hc : c ≤ 2097152) (w : World) :
    Calls Tryd.prog 70 #[.int .i64 (c : Int)] w fun e w' => (∃ t : ByteArray, e = .returned (.string t)) ∧ Gr w w' := by
  by_cases h0 : c = 0
  · subst h0
    go_enter Tryd.func70, Tryd.ntmps70
    go_wp2_with fail
    go_ret
    exact ⟨⟨_, rfl⟩, Gr.refl _⟩
  · have hle : decide (c = 0) = false := decide_eq_false h0
    have HC := hid hc
    clear hc
    go_enter Tryd.func70, Tryd.ntmps70
    go_wp2_with fail
    go_loopw [0, 3] (fun q s wr => ∃ (k : Nat) (t : ByteArray), q = .int .i64 k ∧ s = .string t ∧ Hid (t.size + k ≤ c) ∧ Hid (Gr w wr)) (fun q _ _ => (intOf q).toNat)
    case atStart => exact ⟨c, ⟨#[]⟩, rfl, rfl, hid (by simp [ByteArray.size]), hid (Gr.refl _)⟩
    case round =>
      obtain ⟨k, t, rfl, rfl, ht, hg⟩ := hrel
      by_cases hlt : 0 < k
      · have ht' := ht.out
        have hc' := HC.out
        have hk : (k : Int) ≤ 2097152 := by omega
        have e1 : IntKind.i64.wrap ((k : Int) % 10) = (k : Int) % 10 := IntWalk.i64_in _ (by omega)
        have e2 : IntKind.i64.wrap (48 + (k : Int) % 10) = 48 + (k : Int) % 10 := IntWalk.i64_in _ (by omega)
        have e3 : IntKind.u8.wrap (48 + (k : Int) % 10) = 48 + (k : Int) % 10 := IntWalk.u8_in _ (by omega)
        have e4 : IntKind.i64.wrap ((k : Int) / 10) = (k : Int) / 10 := IntWalk.i64_in _ (by omega)
        have hs : (strOfNums [48 + (k : Int) % 10]).size + t.size ≤ 9223372036854775807 := by rw [show (strOfNums [48 + (k : Int) % 10]).size = 1 from rfl]; omega
        have hus' : (strOfNums [48 + (k : Int) % 10]).size = 1 := rfl
        have hcv := conv_one (w := wr) (x := 48 + (k : Int) % 10)
        generalize strOfNums [48 + (k : Int) % 10] = u at *
        have hus : u.size = 1 := hus'
        go_wp2_with fail
        go_roundw
        case rel => exact ⟨k / 10, u ++ t, by go_num, rfl, hid (by rw [ByteArray.size_append]; omega), hid (hg.out.alloc _)⟩
        case measure => simp [intOf]; omega
      · have hk0 : k = 0 := by omega
        subst hk0
        have hs : (⟨#[109]⟩ : ByteArray).size + t.size ≤ 9223372036854775807 := by
          have ht' := ht.out
          have hc' := HC.out
          rw [show (⟨#[109]⟩ : ByteArray).size = 1 from rfl]; omega
        go_wp2_with fail
        go_ret
        exact ⟨⟨_, rfl⟩, hg.out⟩
theorem grown_gr {A V : World} (g : Gr A V) (row : Option Nat) : A.grownBy V row := ⟨g.os, g.tape, g.output, g.size, fun k hk _ => g.block k hk⟩
theorem grown_cell {W : World} {g i : Nat} {u : Value} : W.grownBy (W.setCell ⟨g, i, none⟩ u) (some g) :=
  ⟨rfl, rfl, rfl, by rw [World.size_setCell]; exact Nat.le_refl _, fun k _ hk => heap_setCell_other W ⟨g, i, none⟩ k u (fun e => hk (by rw [e]))⟩
set_option maxRecDepth 100000 in
set_option maxHeartbeats 1000000 in
theorem markStringS_any (g n : Nat) (ss : List ByteArray) (hl : n = ss.length) (hn : n ≤ 1048576) (w : World) (hb : w.heap[g]? = some (.cells (strCells ss) 9 (0, 0))) :
    Calls Tryd.prog 46 #[.slice (some ⟨g, 0, none⟩) n n, .int .i64 1] w fun e w' => e = .returned (.int .i64 (1 + (n : Int))) ∧ w.grownBy w' (some g) := by
  have HT := hid (fun c hc V => markText_any c hc V)
  have HB := hid hb
  have HL := hid hl
  clear hb hl
  go_enter Tryd.func46, Tryd.ntmps46
  go_wp2_with fail
  go_loopw [1, 5] (fun q i wr => ∃ k : Nat, k ≤ n ∧ i = .int .i64 k ∧ q = .int .i64 (1 + k : Nat) ∧ Hid (∃ ys : List ByteArray, ys.length = n ∧ wr.heap[g]? = some (.cells (strCells ys) 9 (0, 0))) ∧ Hid (w.grownBy wr (some g))) (fun _ i _ => n - (intOf i).toNat)
  case atStart => exact ⟨0, Nat.zero_le _, rfl, rfl, hid ⟨ss, HL.out.symm, HB.out⟩, hid ⟨rfl, rfl, rfl, Nat.le_refl _, fun _ _ _ => rfl⟩⟩
  case round =>
    obtain ⟨k, hk, rfl, rfl, hy, hg⟩ := hrel
    by_cases hlt : k < n
    · have HM := hid (HT.out (1 + k) (by omega) wr)
      push_cast at HM
      obtain ⟨ys, hyl, hyb⟩ := hy.out
      have HYL := hid hyl
      have HYB := hid hyb
      clear hyl hyb hy
      push_cast
      go_wp2_with fail
      refine HM.out.mono ?_
      rintro e w1 ⟨⟨t, rfl⟩, g1⟩
      have hyb1 := g1.heap HYB.out
      have hc0 := cell_strs hyb1 (i := k) (by rw [HYL.out]; exact hlt)
      have hf0 : w1.frozen? ⟨g, k, none⟩ = false := frozen_of_row _ _ _ _ _ hyb1
      have HN := hid (show ∃ zs : List ByteArray, zs.length = n ∧ (w1.setCell ⟨g, k, none⟩ (.string t)).heap[g]? = some (.cells (strCells zs) 9 (0, 0)) from ⟨ys.set k t, by rw [List.length_set]; exact HYL.out, heap_str_set hyb1⟩)
      have HG := hid ((hg.out.trans (grown_gr g1 _)).trans (grown_cell (W := w1) (g := g) (i := k) (u := .string t)))
      clear hyb1 g1 HM
      go_wp2_with fail
      go_roundw
      case rel => exact ⟨k + 1, by omega, by go_num, by go_num, HN, HG⟩
      case measure => simp [intOf]; omega
    · have hkn : k = n := by omega
      have HK := hid hkn
      clear hkn
      go_wp2_with fail
      go_ret
      exact ⟨ret_int (by rw [← HK.out]; push_cast; rfl), hg.out⟩
set_option maxRecDepth 100000 in
set_option maxHeartbeats 1000000 in
theorem markBook_any (k l s : Int) (g n : Nat) (ss : List ByteArray) (hl : n = ss.length) (hn : n ≤ 1048576) (w : World) (hb : w.heap[g]? = some (.cells (strCells ss) 9 (0, 0))) :
    Calls Tryd.prog 16 #[bookV k l s (.slice (some ⟨g, 0, none⟩) n n), .int .i64 1] w fun e w' => e = .returned (.int .i64 (1 + (n : Int))) ∧ w.grownBy w' (some g) := by
  obtain ⟨W, hW⟩ : ∃ W, W = w.alloc (.cells (bookC k l s (.slice (some ⟨g, 0, none⟩) n n)) 31) := ⟨_, rfl⟩
  have G0 : Hid (Gr w W) := hid (by rw [hW]; exact (Gr.refl w).alloc _)
  have HM := hid (markStringS_any g n ss hl hn W (G0.out.heap hb))
  obtain ⟨d0, d1, d2, d3⟩ := bk_cells (show W.heap[w.heap.size]? = some (.cells (bookC k l s (.slice (some ⟨g, 0, none⟩) n n)) 31 (0, 0)) by rw [hW]; exact heap_new rfl)
  have HW := hid hW
  clear hb hl hW
  go_enter Tryd.func16, Tryd.ntmps16
  go_wp2_with fail
  rw [← HW.out]
  go_wp2_with fail
  refine HM.out.mono ?_
  rintro e w1 ⟨rfl, g1⟩
  have G1 := hid ((grown_gr G0.out (some g)).trans g1)
  clear g1 d0 d1 d2 d3
  go_wp2_with fail
  go_ret
  exact ⟨rfl, G1.out⟩
end Go.Proofs.YtfaiehjomcgjgaaDoor
