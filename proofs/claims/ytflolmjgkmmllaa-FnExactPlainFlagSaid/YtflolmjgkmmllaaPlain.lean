/- PlainFlag: the two functions. -/
import Derived.Test.YtflolmjgkmmllaaStripesWalks
namespace Go.Proofs.Ytflolmjgkmmllaa
open Go.RowKit
def plainF (c : Int) : List Int := if colourB c then List.replicate 24 c else zeros24
def plainC (c : Int) : Int := if colourB c then 0 else 2
theorem plainF_length (c : Int) : (plainF c).length = 24 := by unfold plainF; split <;> simp [zeros24]
theorem stripeB_one (c : Int) : stripeB [c] true = colourB c := by simp [stripeB, okLen, sideN]
theorem stripeF_one (c : Int) : stripeF [c] true = plainF c := by
  unfold stripeF plainF
  rw [stripeB_one]
  split
  · have h : ∀ i, stripeCol [c] true i = c := by
      intro i
      have : alongN true i * 1 / sideN true = 0 := by simp only [alongN, sideN]; simp; try omega
      unfold stripeCol
      rw [show [c].length = 1 from rfl, this]; rfl
    rw [show stripeCol [c] true = fun _ => c from funext h]
    rfl
  · rfl
theorem stripeC_one (c : Int) : stripeC [c] true = plainC c := by unfold stripeC plainC; rw [stripeB_one]

theorem impl_PlainFlag_any (c : Int) (_wc : (Lit.int .i64 c).wf = true) (w : World) :
    Calls Try.prog 28 #[.int .i64 c] w fun e w' => e = .returned (.tuple #[.agg (byteCells (plainF c)), .int .i64 (plainC c)]) ∧ Grown w w' := by
  have h := impl_StripesOf_any (xs := [c]) (u := true) (hn := by simp)
  simp only [stripeF_one, stripeC_one, List.length_cons, List.length_nil, Nat.zero_add] at h
  have HL := hid (plainF_length c)
  have H := hid h
  clear h _wc
  generalize plainF c = X at *
  generalize plainC c = k at *
  have b0 : Hid (((w.alloc (.cells (byteCells zeros24) 32)).alloc (.cells #[.int .i64 c] 2)).heap[w.heap.size]? = some (.cells (byteCells zeros24) 32 (0, 0))) := hid (heap_kept (heap_new rfl))
  have b1 : Hid (((w.alloc (.cells (byteCells zeros24) 32)).alloc (.cells #[.int .i64 c] 2)).heap[w.heap.size + 1]? = some (.cells #[.int .i64 c] 2 (0, 0))) := hid (heap_new (by simp))
  have gr : Hid (Grown w ((w.alloc (.cells (byteCells zeros24) 32)).alloc (.cells #[.int .i64 c] 2))) := hid (((Grown.refl _).alloc _ _).alloc _ _)
  go_enter Try.func28, Try.ntmps28
  go_wp2_with fail
  refine (H.out _ _ _ ?_).mono ?_
  · exact sliceOf_block (k := .i64) (xs := [c]) b1.out
  · rintro e w1 ⟨rfl, g1⟩
    replace b0 := hid (heap_grown g1 b0.out)
    replace gr := hid (Grown_trans gr.out g1)
    clear g1 b1
    go_wp2_with (refine wpList_store_bytes rfl 32 _ _ rfl _ X zeros24 rfl rfl _ 24 b0.out (by kernel_rfl) HL.out rfl ?_)
    refine bodyPost_ret (results_bytes2 (by rfl) _ _ _ _ _ _ _ _ rfl rfl (heap_row_set b0.out) Try.underlying32 (by kernel_rfl) HL.out) rfl ⟨rfl, ?_⟩
    exact Grown_setRow gr.out (by omega) _
end Go.Proofs.Ytflolmjgkmmllaa
