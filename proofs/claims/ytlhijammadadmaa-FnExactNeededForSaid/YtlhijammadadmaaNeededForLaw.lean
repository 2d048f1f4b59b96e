/- NeededFor: the law's walk. -/
import Derived.Test.YtlhijammadadmaaNeedW
namespace Go.Proofs.Ytlhijammadadmaa
set_option linter.unusedVariables false
open Go.RowKit
set_option maxHeartbeats 4000000 in
set_option maxRecDepth 100000 in
theorem FnExactNeededFor_walk (a : Option Addr) (ca n : Nat) (xss : List (List Int)) (hl : n = xss.length) (hm : n ≤ 9223372036854775807) (hsz : ∀ i, (xss.getD i []).length ≤ 9223372036854775807) (hf : ∀ i, Fits .i8 (xss.getD i [])) (w : World) (hs : SlicesOf .i8 w a xss) :
    Calls Try.prog 3 #[.slice a n ca] w fun e w' => e = .returned (.bool true) ∧ Gr w w' := by
  have HZ1 := hid (szHoistS_any a ca n 1048576 xss hl hm (Nat.le_refl _) hsz w hs)
  have HTA := hid (fun (h : n ≤ 1048576) (hz : ∀ i, i < n → (xss.getD i []).length ≤ 1048576) (V : World) (g : Gr w V) => toHoistS_reads a ca n xss hl h hz V (hs.gr g))
  have HSP := hid (fun (h : n ≤ 1048576) (hz : ∀ i, i < n → (xss.getD i []).length ≤ 1048576) (p : Option Addr) (V : World) (sa : SlicesX V p xss) => spec_NeededFor_any p n n xss hl h hz hf V sa)
  have HIM := hid (fun (h : n ≤ 1048576) (hz : ∀ i, i < n → (xss.getD i []).length ≤ 1048576) (p : Option Addr) (V : World) (sa : SlicesX V p xss) => impl_NeededFor_any p n n xss hl h hz hf V sa)
  have HEQ := hid (fun (h : n ≤ 1048576) (hz : ∀ i, i < n → (xss.getD i []).length ≤ 1048576) (p q : Option Addr) (V : World) (sa : SlicesX V p xss) (sb : SlicesX V q xss) => eqHoistS_own p q n n n xss hl h hz V sa.of sb.of)
  have HRL := hid (nfV_length xss)
  have HEL := hid (eqLocker_same (nfV xss) (nfV_length xss))
  generalize nfV xss = r0 at *
  generalize nfC xss = r1 at *
  clear hl hsz hs hf
  go_enter Try.func3, Try.ntmps3
  go_wp2_with fail
  refine HZ1.out.mono ?_
  rintro e w' ⟨r, rfl, hr, rfl⟩
  rcases hr with rfl | ⟨h0, h1, h2, h3⟩
  · go_wp2_with fail
    go_ret
    exact ⟨rfl, Gr.refl _⟩
  have hn0 : ¬ r < 0 := by omega
  have HN := hid h2
  have HZ := hid h3
  clear h0 h1 h2 h3
  go_wp2_with fail
  refine (HTA.out HN.out HZ.out _ (Gr.refl _)).mono ?_
  rintro e W1 ⟨rfl, s1, g1⟩
  have S1 := hid s1
  have gr := hid g1
  clear s1 g1
  go_wp2_with fail
  refine (HSP.out HN.out HZ.out _ _ S1.out).mono ?_
  rintro e W2 ⟨rfl, g2⟩
  replace gr := hid (gr.out.trans g2)
  clear g2 S1
  have N2 : Hid ((W2.alloc lkrZ).heap[W2.heap.size]? = some lkrZ) := hid (heap_new rfl)
  go_wp2_with (first | (refine wpList_store_cells rfl 28 _ _ rfl _ (kCells .i16 r0) (kCells .i16 zeros44) rfl rfl _ 44 N2.out (by kernel_rfl) (by rw [kCells_size, HRL.out]) rfl (kCells_one _ _) ?_; generalize hW : World.setRow _ _ (kCells .i16 r0) = V2))
  have M2 : Hid (V2.heap[W2.heap.size]? = some (.cells (kCells .i16 r0) 28 (0, 0))) := hid (by rw [← hW]; exact heap_row_set N2.out)
  replace gr : Hid (Gr w V2) := hid (by rw [← hW]; exact (gr.out.alloc _).setRow (by have := gr.out.size; omega) _)
  clear hW N2
  refine (HTA.out HN.out HZ.out _ gr.out).mono ?_
  rintro e W3 ⟨rfl, s3, g3⟩
  have S3 := hid s3
  replace gr := hid (gr.out.trans g3)
  replace M2 := hid (g3.heap M2.out)
  clear s3 g3
  go_wp2_with fail
  refine (HIM.out HN.out HZ.out _ _ S3.out).mono ?_
  rintro e W4 ⟨rfl, g4⟩
  replace gr := hid (gr.out.trans g4)
  replace S3 := hid (S3.out.gr g4)
  replace M2 := hid (g4.heap M2.out)
  clear g4
  have N4 : Hid ((W4.alloc lkrZ).heap[W4.heap.size]? = some lkrZ) := hid (heap_new rfl)
  go_wp2_with (first | (refine wpList_store_cells rfl 28 _ _ rfl _ (kCells .i16 r0) (kCells .i16 zeros44) rfl rfl _ 44 N4.out (by kernel_rfl) (by rw [kCells_size, HRL.out]) rfl (kCells_one _ _) ?_) | (refine wpList_load_struct rfl 28 (.tmp 7) rfl W4.heap.size rfl _ (kCells .i16 r0) _ (heap_row_set N4.out) Try.underlying28 rfl (by rw [kCells_size, HRL.out]; kernel_rfl) ?_) | (refine wpList_load_struct rfl 28 (.tmp 4) rfl W2.heap.size rfl _ (kCells .i16 r0) _ (heap_row_kept (by have := lt_of_heap M2.out; omega) (heap_kept M2.out)) Try.underlying28 rfl (by rw [kCells_size, HRL.out]; kernel_rfl) ?_))
  generalize hW : World.setRow _ _ (kCells .i16 r0) = V4
  have gV : Hid (Gr W4 V4) := hid (by rw [← hW]; exact ((Gr.refl W4).alloc _).setRow (Nat.le_refl _) _)
  replace S3 := hid (S3.out.gr gV.out)
  replace gr := hid (gr.out.trans gV.out)
  clear hW N4 gV
  refine (HEL.out _).mono ?_
  rintro e W8 ⟨rfl, g8⟩
  replace gr := hid (gr.out.trans g8)
  replace S3 := hid (S3.out.gr g8)
  clear g8
  go_wp2_with fail
  refine (HTA.out HN.out HZ.out _ gr.out).mono ?_
  rintro e W5 ⟨rfl, s5, g5⟩
  have S5 := hid s5
  replace gr := hid (gr.out.trans g5)
  replace S3 := hid (S3.out.gr g5)
  clear s5 g5
  go_wp2_with fail
  refine (HEQ.out HN.out HZ.out _ _ _ S3.out S5.out).mono ?_
  rintro e W6 ⟨rfl, g6⟩
  replace gr := hid (gr.out.trans g6)
  clear g6
  go_wp2_with fail
  go_ret
  exact ⟨rfl, gr.out⟩
end Go.Proofs.Ytlhijammadadmaa
