/- CanFly: the law's walk. -/
import Derived.Test.YtlhijammadadmaaNeedX
namespace Go.Proofs.Ytlhijammadadmaa
set_option linter.unusedVariables false
open Go.RowKit
set_option maxHeartbeats 4000000 in
set_option maxRecDepth 100000 in
theorem FnExactCanFly_walk (xs : List Int) (lx : xs.length = 44) (fx : Fits .i16 xs) (a : Option Addr) (ca n : Nat) (xss : List (List Int)) (hl : n = xss.length) (hm : n ≤ 9223372036854775807) (hsz : ∀ i, (xss.getD i []).length ≤ 9223372036854775807) (hf : ∀ i, Fits .i8 (xss.getD i [])) (w : World) (hs : SlicesOf .i8 w a xss) :
    Calls Try.prog 4 #[.agg (kCells .i16 xs), .slice a n ca] w fun e w' => e = .returned (.bool true) ∧ Gr w w' := by
  obtain ⟨W0, hW0⟩ : ∃ W0, w.alloc (.cells (kCells .i16 xs) 36) = W0 := ⟨_, rfl⟩
  have b0 : Hid (W0.heap[w.heap.size]? = some (.cells (kCells .i16 xs) 36 (0, 0))) := hid (by rw [← hW0]; exact heap_new rfl)
  have gr : Hid (Gr w W0) := hid (by rw [← hW0]; exact (Gr.refl _).alloc _)
  have HZ1 := hid (szHoistS_any a ca n 1048576 xss hl hm (Nat.le_refl _) hsz W0 (hs.gr gr.out))
  have HTA := hid (fun (h : n ≤ 1048576) (hz : ∀ i, i < n → (xss.getD i []).length ≤ 1048576) (V : World) (g : Gr w V) => toHoistS_reads a ca n xss hl h hz V (hs.gr g))
  have HTX := hid (toLocker_any xs lx)
  have HSP := hid (fun (h : n ≤ 1048576) (hz : ∀ i, i < n → (xss.getD i []).length ≤ 1048576) (p : Option Addr) (V : World) (sa : SlicesX V p xss) => spec_CanFly_any xs lx fx p n n xss hl h hz hf V sa)
  have HIM := hid (fun (h : n ≤ 1048576) (hz : ∀ i, i < n → (xss.getD i []).length ≤ 1048576) (p : Option Addr) (V : World) (sa : SlicesX V p xss) => impl_CanFly_any xs lx fx p n n xss hl h hz hf V sa)
  have HEQ := hid (fun (h : n ≤ 1048576) (hz : ∀ i, i < n → (xss.getD i []).length ≤ 1048576) (p q : Option Addr) (V : World) (sa : SlicesX V p xss) (sb : SlicesX V q xss) => eqHoistS_own p q n n n xss hl h hz V sa.of sb.of)
  have LX := hid lx
  generalize cfV xs xss = r0 at *
  generalize flC xs xss = r1 at *
  rw [← hW0] at HZ1 b0 gr
  clear lx fx hl hsz hs hf hW0
  go_enter Try.func4, Try.ntmps4
  go_wp2_with fail
  refine HZ1.out.mono ?_
  rintro e w' ⟨r, rfl, hr, rfl⟩
  rcases hr with rfl | ⟨h0, h1, h2, h3⟩
  · go_wp2_with fail
    go_ret
    exact ⟨rfl, gr.out⟩
  have hn0 : ¬ r < 0 := by omega
  have HN := hid h2
  have HZ := hid h3
  clear h0 h1 h2 h3
  go_wp2_with (refine wpList_load_struct rfl 36 (.tmp 2) rfl w.heap.size rfl _ (kCells .i16 xs) _ b0.out Try.underlying36 rfl (by rw [kCells_size, LX.out]; kernel_rfl) ?_)
  refine (HTX.out _).mono ?_
  rintro e V1 ⟨rfl, g⟩
  replace gr := hid (gr.out.trans g)
  replace b0 := hid (g.heap b0.out)
  clear g
  go_wp2_with fail
  refine (HTA.out HN.out HZ.out _ gr.out).mono ?_
  rintro e W1 ⟨rfl, s1, g1⟩
  have S1 := hid s1
  replace gr := hid (gr.out.trans g1)
  replace b0 := hid (g1.heap b0.out)
  clear s1 g1
  go_wp2_with fail
  refine (HSP.out HN.out HZ.out _ _ S1.out).mono ?_
  rintro e W2 ⟨rfl, g2⟩
  replace gr := hid (gr.out.trans g2)
  replace b0 := hid (g2.heap b0.out)
  clear g2 S1
  go_wp2_with fail
  refine (HTA.out HN.out HZ.out _ gr.out).mono ?_
  rintro e W3 ⟨rfl, s3, g3⟩
  have S3 := hid s3
  replace gr := hid (gr.out.trans g3)
  replace b0 := hid (g3.heap b0.out)
  clear s3 g3
  go_wp2_with (refine wpList_load_struct rfl 36 (.tmp 2) rfl w.heap.size rfl _ (kCells .i16 xs) _ b0.out Try.underlying36 rfl (by rw [kCells_size, LX.out]; kernel_rfl) ?_)
  refine (HTX.out _).mono ?_
  rintro e V3 ⟨rfl, g⟩
  replace gr := hid (gr.out.trans g)
  replace b0 := hid (g.heap b0.out)
  replace S3 := hid (S3.out.gr g)
  clear g
  go_wp2_with fail
  refine (HIM.out HN.out HZ.out _ _ S3.out).mono ?_
  rintro e W4 ⟨rfl, g4⟩
  replace gr := hid (gr.out.trans g4)
  replace S3 := hid (S3.out.gr g4)
  clear g4
  go_wp2_with fail
  refine (HTA.out HN.out HZ.out _ gr.out).mono ?_
  rintro e W5 ⟨rfl, s5, g5⟩
  have S5 := hid s5
  replace gr := hid (gr.out.trans g5)
  replace S3 := hid (S3.out.gr g5)
  clear s5 g5
  go_wp2_with fail
  refine (HEQ.out HN.out HZ.out _ _ _ S3.out S5.out).mono ?_
  rintro e W6 ⟨rfl, g6⟩
  replace gr := hid (gr.out.trans g6)
  clear g6
  go_wp2_with fail
  go_ret
  exact ⟨rfl, gr.out⟩
end Go.Proofs.Ytlhijammadadmaa
