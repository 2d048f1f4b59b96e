/- StripesOf: the law's walk. -/
import Derived.Test.YtflolmjgkmmllaaStripesSpec
import Derived.Test.YtflolmjgkmmllaaStripesImpl
import Derived.Test.YtflolmjgkmmllaaToFlag
namespace Go.Proofs.Ytflolmjgkmmllaa
open Go.RowKit

theorem spec_StripesOf_any (a0 : Option Addr) (cap : Nat) (xs : List Int) (u : Bool) (hn : xs.length ≤ 1048576) (w : World) (hs : SliceOf .i64 w a0 xs) :
    Calls Try.prog 30 #[.slice a0 xs.length cap, .bool u] w fun e w' => e = .returned (.tuple #[.agg (byteCells (stripeF xs u)), .int .i64 (stripeC xs u)]) ∧ Grown w w' := by
  cases u
  · exact spec_Stripes_false a0 cap xs hn w hs
  · exact spec_Stripes_true a0 cap xs hn w hs

theorem impl_StripesOf_any (a0 : Option Addr) (cap : Nat) (xs : List Int) (u : Bool) (hn : xs.length ≤ 1048576) (w : World) (hs : SliceOf .i64 w a0 xs) :
    Calls Try.prog 32 #[.slice a0 xs.length cap, .bool u] w fun e w' => e = .returned (.tuple #[.agg (byteCells (stripeF xs u)), .int .i64 (stripeC xs u)]) ∧ Grown w w' := by
  cases u
  · exact impl_Stripes_false a0 cap xs hn w hs
  · exact impl_Stripes_true a0 cap xs hn w hs

set_option maxHeartbeats 1000000 in
theorem FnExactStripesOf_walk (a0 : Option Addr) (cap : Nat) (xs : List Int) (hm : xs.length ≤ maxLen) (_hf : Fits .i64 xs) (u : Bool) (w : World) (hs : SliceOf .i64 w a0 xs) :
    Calls Try.prog 6 #[.slice a0 xs.length cap, .bool u] w fun e w' => e = .returned (.bool true) ∧ Grown w w' := by
  unfold maxLen at hm
  by_cases hn : xs.length ≤ 1048576
  · have hsp := spec_StripesOf_any (u := u) (xs := xs) (hn := hn)
    have him := impl_StripesOf_any (u := u) (xs := xs) (hn := hn)
    have hl := stripeF_length xs u
    have hto := fun a0 cap => toInt64S_any a0 cap xs hn
    have heq := fun a b ca cb => eqInt64S_same a b ca cb xs hn
    generalize stripeF xs u = X at *
    generalize stripeC xs u = c at *
    have HSP := hid hsp
    have HIM := hid him
    have HL := hid hl
    have HTO := hid hto
    have HEQ := hid heq
    have S := hid hs
    clear hsp him hl hto heq hs hm
    obtain ⟨n, hxn⟩ : ∃ n, n = xs.length := ⟨_, rfl⟩
    rw [← hxn] at hn HSP HIM HTO HEQ ⊢
    clear hxn
    have gr := hid (Grown.refl w)
    go_enter Try.func6, Try.ntmps6
    go_wp2_with fail
    refine (HTO.out _ _ _ S.out).mono ?_
    rintro e w1 ⟨rfl, h1, g1⟩
    replace gr := hid (Grown_trans gr.out g1)
    replace S := hid (S.out.grown g1)
    have S1 := hid (sliceOf_block h1)
    clear h1 g1
    go_wp2_with fail
    refine (HSP.out _ _ _ S1.out).mono ?_
    rintro e w2 ⟨rfl, g2⟩
    replace gr := hid (Grown_trans gr.out g2)
    replace S := hid (S.out.grown g2)
    clear g2 S1
    have n1 := hid (heap_new (w := w2) (o := (.cells (byteCells zeros24) 32)) rfl)
    have b1 := hid (heap_row_set (cs := byteCells X) n1.out)
    have ge := ((Grown.refl w2).alloc (byteCells zeros24) 32)
    have gs := Grown_setRow ge (Nat.le_refl _) (byteCells X)
    replace S := hid (S.out.grown gs)
    replace gr := hid (Grown_trans gr.out gs)
    clear ge gs
    go_wp2_with (refine wpList_store_bytes rfl 32 _ _ rfl _ X zeros24 rfl rfl _ 24 n1.out (by kernel_rfl) HL.out rfl ?_)
    clear n1
    refine (HTO.out _ _ _ S.out).mono ?_
    rintro e w3 ⟨rfl, h3, g3⟩
    rw [size_setRow, World.size_alloc] at h3
    replace gr := hid (Grown_trans gr.out g3)
    replace S := hid (S.out.grown g3)
    replace b1 := hid (heap_grown g3 b1.out)
    have S3 := hid (sliceOf_block h3)
    clear h3 g3
    go_wp2_with fail
    refine (HIM.out _ _ _ S3.out).mono ?_
    rintro e w4 ⟨rfl, g4⟩
    replace gr := hid (Grown_trans gr.out g4)
    replace S := hid (S.out.grown g4)
    replace S3 := hid (S3.out.grown g4)
    replace b1 := hid (heap_grown g4 b1.out)
    clear g4
    have lt1 := lt_of_heap b1.out
    have n4 := hid (heap_new (w := w4) (o := (.cells (byteCells zeros24) 32)) rfl)
    have b4 := hid (heap_row_set (cs := byteCells X) n4.out)
    replace b1 := hid (heap_row_kept (g := w4.heap.size) (cs := byteCells X) (by omega) (heap_kept (o := (.cells (byteCells zeros24) 32)) b1.out))
    have ge := ((Grown.refl w4).alloc (byteCells zeros24) 32)
    have gs := Grown_setRow ge (Nat.le_refl _) (byteCells X)
    replace S := hid (S.out.grown gs)
    replace S3 := hid (S3.out.grown gs)
    replace gr := hid (Grown_trans gr.out gs)
    clear ge gs lt1
    go_wp2_with (first | (refine wpList_store_bytes rfl 32 _ _ rfl _ X zeros24 rfl rfl _ 24 n4.out (by kernel_rfl) HL.out rfl ?_) | (refine wpList_load_bytes rfl 32 _ rfl _ rfl _ X _ 24 b4.out Try.underlying32 (by kernel_rfl) HL.out ?_) | (refine wpList_load_bytes rfl 32 _ rfl _ rfl _ X _ 24 b1.out Try.underlying32 (by kernel_rfl) HL.out ?_))
    refine (eqFlag_same X HL.out _).mono ?_
    rintro e w5 ⟨rfl, g5⟩
    replace gr := hid (Grown_trans gr.out g5)
    replace S := hid (S.out.grown g5)
    replace S3 := hid (S3.out.grown g5)
    clear g5 b1 b4 n4
    go_wp2_with fail
    refine (HTO.out _ _ _ S.out).mono ?_
    rintro e w6 ⟨rfl, h6, g6⟩
    replace gr := hid (Grown_trans gr.out g6)
    replace S3 := hid (S3.out.grown g6)
    have S6 := hid (sliceOf_block h6)
    clear g6 S h6
    go_wp2_with fail
    refine (HEQ.out _ _ _ _ _ S3.out S6.out).mono ?_
    rintro e w7 ⟨rfl, g7⟩
    replace gr := hid (Grown_trans gr.out g7)
    clear g7
    go_wp2_with fail
    go_ret
    exact ⟨rfl, gr.out⟩
  · have hn' : 1048576 < xs.length := by omega
    clear hn hs
    generalize xs.length = n at *
    go_enter Try.func6, Try.ntmps6
    go_wp2_with fail
    go_ret
    exact ⟨rfl, Grown.refl _⟩
end Go.Proofs.Ytflolmjgkmmllaa
