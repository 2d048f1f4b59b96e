/- Crosses, borders, chequers: the program's functions, the model's, and the laws' walks. -/
import Derived.Test.YtflolmjgkmmllaaMade0
import Derived.Test.YtflolmjgkmmllaaMade1
import Derived.Test.YtflolmjgkmmllaaMade2
import Derived.Test.YtflolmjgkmmllaaToFlag
namespace Go.Proofs.Ytflolmjgkmmllaa
open Go.RowKit
theorem lt_of_heap {w : World} {n : Nat} {x : Obj} (h : w.heap[n]? = some x) : n < w.heap.size := (Array.getElem?_eq_some_iff.1 h).1

theorem impl_CrossOf_any (g f : Int) (w : World) :
    Calls Try.prog 35 #[.int .i64 g, .int .i64 f] w fun e w' => e = .returned (.tuple #[.agg (byteCells (patFlag crossB g f)), .int .i64 (patCode g f)]) ∧ Grown w w' := by
  have b0 := hid (heap_new (w := w) (o := .cells (byteCells zeros24) 32) rfl)
  have g0 := hid ((Grown.refl w).alloc (byteCells zeros24) 32)
  have HL := hid (patFlag_length crossB g f)
  go_enter Try.func35, Try.ntmps35
  go_wp2_with fail
  refine (patternOf_any 69 crossB g f _ (callFunc_enter Try.func69 (by kernel_rfl) (by kernel_rfl)) (fun i hi w => by exact cross1_any _ _ w)).mono ?_
  rintro e w1 ⟨rfl, g1⟩
  have b1 := hid (heap_grown g1 b0.out)
  have G1 := hid (Grown_trans g0.out g1)
  clear g1 b0 g0
  go_wp2_with (refine wpList_store_bytes rfl 32 _ _ rfl _ (patFlag crossB g f) zeros24 rfl rfl _ 24 b1.out (by kernel_rfl) HL.out rfl ?_)
  refine bodyPost_ret (results_bytes2 (by rfl) _ _ _ _ _ _ _ _ rfl rfl (heap_row_set b1.out) Try.underlying32 (by kernel_rfl) HL.out) rfl ⟨rfl, ?_⟩
  exact Grown_setRow G1.out (Nat.le_refl _) _

theorem spec_CrossOf_any (g f : Int) (w : World) :
    Calls Try.prog 34 #[.int .i64 g, .int .i64 f] w fun e w' => e = .returned (.tuple #[.agg (byteCells (patFlag crossB g f)), .int .i64 (patCode g f)]) ∧ Grown w w' := by
  have b0 := hid (heap_new (w := w) (o := .cells (byteCells zeros24) 32) rfl)
  have g0 := hid ((Grown.refl w).alloc (byteCells zeros24) 32)
  have HL := hid (patFlag_length crossB g f)
  go_enter Try.func34, Try.ntmps34
  go_wp2_with fail
  refine (made_cross g f _).mono ?_
  rintro e w1 ⟨rfl, g1⟩
  have b1 := hid (heap_grown g1 b0.out)
  have G1 := hid (Grown_trans g0.out g1)
  clear g1 b0 g0
  go_wp2_with (refine wpList_store_bytes rfl 32 _ _ rfl _ (patFlag crossB g f) zeros24 rfl rfl _ 24 b1.out (by kernel_rfl) HL.out rfl ?_)
  refine bodyPost_ret (results_bytes2 (by rfl) _ _ _ _ _ _ _ _ rfl rfl (heap_row_set b1.out) Try.underlying32 (by kernel_rfl) HL.out) rfl ⟨rfl, ?_⟩
  exact Grown_setRow G1.out (Nat.le_refl _) _

set_option maxHeartbeats 1000000 in
theorem FnExactCrossOf_walk (a0 : Int) (_w0 : (Lit.int .i64 a0).wf = true) (a1 : Int) (_w1 : (Lit.int .i64 a1).wf = true) (w : World) :
    Calls Try.prog 7 #[.int .i64 a0, .int .i64 a1] w fun e w' => e = .returned (.bool true) ∧ Grown w w' := by
  have hs := spec_CrossOf_any a0 a1
  have hi := impl_CrossOf_any a0 a1
  have hl := patFlag_length crossB a0 a1
  generalize patFlag crossB a0 a1 = X at *
  generalize patCode a0 a1 = c at *
  have HS := hid hs
  have HI := hid hi
  have HL := hid hl
  clear hs hi hl
  go_enter Try.func7, Try.ntmps7
  go_wp2_with fail
  refine (HS.out _).mono ?_
  rintro e w1 ⟨rfl, g1⟩
  have n1 := hid (heap_new (w := w1) (o := .cells (byteCells zeros24) 32) rfl)
  go_wp2_with (refine wpList_store_bytes rfl 32 _ _ rfl _ X zeros24 rfl rfl _ 24 n1.out (by kernel_rfl) HL.out rfl ?_)
  have b1 := hid (heap_row_set (cs := byteCells X) n1.out)
  have G1 := hid (Grown_setRow (g1.alloc (byteCells zeros24) 32) g1.2.2 (byteCells X))
  clear n1 g1
  refine (HI.out _).mono ?_
  rintro e w3 ⟨rfl, g3⟩
  have b3 := heap_grown g3 b1.out
  have hlt := lt_of_heap b3
  have n3 := hid (heap_new (w := w3) (o := .cells (byteCells zeros24) 32) rfl)
  have B3 := hid (heap_row_kept (g := w3.heap.size) (cs := byteCells X) (by omega) (heap_kept (o := .cells (byteCells zeros24) 32) b3))
  have N3 := hid (heap_row_set (cs := byteCells X) n3.out)
  have G3 := hid (Grown_setRow ((Grown_trans G1.out g3).alloc (byteCells zeros24) 32) (Grown_trans G1.out g3).2.2 (byteCells X))
  clear b1 G1 g3 b3 hlt
  go_wp2_with (first | (refine wpList_store_bytes rfl 32 _ _ rfl _ X zeros24 rfl rfl _ 24 n3.out (by kernel_rfl) HL.out rfl ?_) | (refine wpList_load_bytes rfl 32 _ rfl _ rfl _ X _ 24 N3.out Try.underlying32 (by kernel_rfl) HL.out ?_) | (refine wpList_load_bytes rfl 32 _ rfl _ rfl _ X _ 24 B3.out Try.underlying32 (by kernel_rfl) HL.out ?_))
  refine (eqFlag_same X HL.out _).mono ?_
  rintro e w5 ⟨rfl, g5⟩
  have G5 := hid (Grown_trans G3.out g5)
  clear g5 G3 B3 N3 n3
  go_wp2_with fail
  go_ret
  exact ⟨rfl, G5.out⟩

theorem impl_BorderOf_any (g f : Int) (w : World) :
    Calls Try.prog 37 #[.int .i64 g, .int .i64 f] w fun e w' => e = .returned (.tuple #[.agg (byteCells (patFlag borderB g f)), .int .i64 (patCode g f)]) ∧ Grown w w' := by
  have b0 := hid (heap_new (w := w) (o := .cells (byteCells zeros24) 32) rfl)
  have g0 := hid ((Grown.refl w).alloc (byteCells zeros24) 32)
  have HL := hid (patFlag_length borderB g f)
  go_enter Try.func37, Try.ntmps37
  go_wp2_with fail
  refine (patternOf_any 70 borderB g f _ (callFunc_enter Try.func70 (by kernel_rfl) (by kernel_rfl)) (fun i hi w => by exact border1_any _ _ w)).mono ?_
  rintro e w1 ⟨rfl, g1⟩
  have b1 := hid (heap_grown g1 b0.out)
  have G1 := hid (Grown_trans g0.out g1)
  clear g1 b0 g0
  go_wp2_with (refine wpList_store_bytes rfl 32 _ _ rfl _ (patFlag borderB g f) zeros24 rfl rfl _ 24 b1.out (by kernel_rfl) HL.out rfl ?_)
  refine bodyPost_ret (results_bytes2 (by rfl) _ _ _ _ _ _ _ _ rfl rfl (heap_row_set b1.out) Try.underlying32 (by kernel_rfl) HL.out) rfl ⟨rfl, ?_⟩
  exact Grown_setRow G1.out (Nat.le_refl _) _

theorem spec_BorderOf_any (g f : Int) (w : World) :
    Calls Try.prog 36 #[.int .i64 g, .int .i64 f] w fun e w' => e = .returned (.tuple #[.agg (byteCells (patFlag borderB g f)), .int .i64 (patCode g f)]) ∧ Grown w w' := by
  have b0 := hid (heap_new (w := w) (o := .cells (byteCells zeros24) 32) rfl)
  have g0 := hid ((Grown.refl w).alloc (byteCells zeros24) 32)
  have HL := hid (patFlag_length borderB g f)
  go_enter Try.func36, Try.ntmps36
  go_wp2_with fail
  refine (made_border g f _).mono ?_
  rintro e w1 ⟨rfl, g1⟩
  have b1 := hid (heap_grown g1 b0.out)
  have G1 := hid (Grown_trans g0.out g1)
  clear g1 b0 g0
  go_wp2_with (refine wpList_store_bytes rfl 32 _ _ rfl _ (patFlag borderB g f) zeros24 rfl rfl _ 24 b1.out (by kernel_rfl) HL.out rfl ?_)
  refine bodyPost_ret (results_bytes2 (by rfl) _ _ _ _ _ _ _ _ rfl rfl (heap_row_set b1.out) Try.underlying32 (by kernel_rfl) HL.out) rfl ⟨rfl, ?_⟩
  exact Grown_setRow G1.out (Nat.le_refl _) _

set_option maxHeartbeats 1000000 in
theorem FnExactBorderOf_walk (a0 : Int) (_w0 : (Lit.int .i64 a0).wf = true) (a1 : Int) (_w1 : (Lit.int .i64 a1).wf = true) (w : World) :
    Calls Try.prog 8 #[.int .i64 a0, .int .i64 a1] w fun e w' => e = .returned (.bool true) ∧ Grown w w' := by
  have hs := spec_BorderOf_any a0 a1
  have hi := impl_BorderOf_any a0 a1
  have hl := patFlag_length borderB a0 a1
  generalize patFlag borderB a0 a1 = X at *
  generalize patCode a0 a1 = c at *
  have HS := hid hs
  have HI := hid hi
  have HL := hid hl
  clear hs hi hl
  go_enter Try.func8, Try.ntmps8
  go_wp2_with fail
  refine (HS.out _).mono ?_
  rintro e w1 ⟨rfl, g1⟩
  have n1 := hid (heap_new (w := w1) (o := .cells (byteCells zeros24) 32) rfl)
  go_wp2_with (refine wpList_store_bytes rfl 32 _ _ rfl _ X zeros24 rfl rfl _ 24 n1.out (by kernel_rfl) HL.out rfl ?_)
  have b1 := hid (heap_row_set (cs := byteCells X) n1.out)
  have G1 := hid (Grown_setRow (g1.alloc (byteCells zeros24) 32) g1.2.2 (byteCells X))
  clear n1 g1
  refine (HI.out _).mono ?_
  rintro e w3 ⟨rfl, g3⟩
  have b3 := heap_grown g3 b1.out
  have hlt := lt_of_heap b3
  have n3 := hid (heap_new (w := w3) (o := .cells (byteCells zeros24) 32) rfl)
  have B3 := hid (heap_row_kept (g := w3.heap.size) (cs := byteCells X) (by omega) (heap_kept (o := .cells (byteCells zeros24) 32) b3))
  have N3 := hid (heap_row_set (cs := byteCells X) n3.out)
  have G3 := hid (Grown_setRow ((Grown_trans G1.out g3).alloc (byteCells zeros24) 32) (Grown_trans G1.out g3).2.2 (byteCells X))
  clear b1 G1 g3 b3 hlt
  go_wp2_with (first | (refine wpList_store_bytes rfl 32 _ _ rfl _ X zeros24 rfl rfl _ 24 n3.out (by kernel_rfl) HL.out rfl ?_) | (refine wpList_load_bytes rfl 32 _ rfl _ rfl _ X _ 24 N3.out Try.underlying32 (by kernel_rfl) HL.out ?_) | (refine wpList_load_bytes rfl 32 _ rfl _ rfl _ X _ 24 B3.out Try.underlying32 (by kernel_rfl) HL.out ?_))
  refine (eqFlag_same X HL.out _).mono ?_
  rintro e w5 ⟨rfl, g5⟩
  have G5 := hid (Grown_trans G3.out g5)
  clear g5 G3 B3 N3 n3
  go_wp2_with fail
  go_ret
  exact ⟨rfl, G5.out⟩

theorem impl_ChequersOf_any (g f : Int) (w : World) :
    Calls Try.prog 39 #[.int .i64 g, .int .i64 f] w fun e w' => e = .returned (.tuple #[.agg (byteCells (patFlag chequersB g f)), .int .i64 (patCode g f)]) ∧ Grown w w' := by
  have b0 := hid (heap_new (w := w) (o := .cells (byteCells zeros24) 32) rfl)
  have g0 := hid ((Grown.refl w).alloc (byteCells zeros24) 32)
  have HL := hid (patFlag_length chequersB g f)
  go_enter Try.func39, Try.ntmps39
  go_wp2_with fail
  refine (patternOf_any 71 chequersB g f _ (callFunc_enter Try.func71 (by kernel_rfl) (by kernel_rfl)) (fun i hi w => by exact chequers1_any _ _ ⟨by omega, by omega⟩ ⟨by omega, by omega⟩ w)).mono ?_
  rintro e w1 ⟨rfl, g1⟩
  have b1 := hid (heap_grown g1 b0.out)
  have G1 := hid (Grown_trans g0.out g1)
  clear g1 b0 g0
  go_wp2_with (refine wpList_store_bytes rfl 32 _ _ rfl _ (patFlag chequersB g f) zeros24 rfl rfl _ 24 b1.out (by kernel_rfl) HL.out rfl ?_)
  refine bodyPost_ret (results_bytes2 (by rfl) _ _ _ _ _ _ _ _ rfl rfl (heap_row_set b1.out) Try.underlying32 (by kernel_rfl) HL.out) rfl ⟨rfl, ?_⟩
  exact Grown_setRow G1.out (Nat.le_refl _) _

theorem spec_ChequersOf_any (g f : Int) (w : World) :
    Calls Try.prog 38 #[.int .i64 g, .int .i64 f] w fun e w' => e = .returned (.tuple #[.agg (byteCells (patFlag chequersB g f)), .int .i64 (patCode g f)]) ∧ Grown w w' := by
  have b0 := hid (heap_new (w := w) (o := .cells (byteCells zeros24) 32) rfl)
  have g0 := hid ((Grown.refl w).alloc (byteCells zeros24) 32)
  have HL := hid (patFlag_length chequersB g f)
  go_enter Try.func38, Try.ntmps38
  go_wp2_with fail
  refine (made_chequers g f _).mono ?_
  rintro e w1 ⟨rfl, g1⟩
  have b1 := hid (heap_grown g1 b0.out)
  have G1 := hid (Grown_trans g0.out g1)
  clear g1 b0 g0
  go_wp2_with (refine wpList_store_bytes rfl 32 _ _ rfl _ (patFlag chequersB g f) zeros24 rfl rfl _ 24 b1.out (by kernel_rfl) HL.out rfl ?_)
  refine bodyPost_ret (results_bytes2 (by rfl) _ _ _ _ _ _ _ _ rfl rfl (heap_row_set b1.out) Try.underlying32 (by kernel_rfl) HL.out) rfl ⟨rfl, ?_⟩
  exact Grown_setRow G1.out (Nat.le_refl _) _

set_option maxHeartbeats 1000000 in
theorem FnExactChequersOf_walk (a0 : Int) (_w0 : (Lit.int .i64 a0).wf = true) (a1 : Int) (_w1 : (Lit.int .i64 a1).wf = true) (w : World) :
    Calls Try.prog 9 #[.int .i64 a0, .int .i64 a1] w fun e w' => e = .returned (.bool true) ∧ Grown w w' := by
  have hs := spec_ChequersOf_any a0 a1
  have hi := impl_ChequersOf_any a0 a1
  have hl := patFlag_length chequersB a0 a1
  generalize patFlag chequersB a0 a1 = X at *
  generalize patCode a0 a1 = c at *
  have HS := hid hs
  have HI := hid hi
  have HL := hid hl
  clear hs hi hl
  go_enter Try.func9, Try.ntmps9
  go_wp2_with fail
  refine (HS.out _).mono ?_
  rintro e w1 ⟨rfl, g1⟩
  have n1 := hid (heap_new (w := w1) (o := .cells (byteCells zeros24) 32) rfl)
  go_wp2_with (refine wpList_store_bytes rfl 32 _ _ rfl _ X zeros24 rfl rfl _ 24 n1.out (by kernel_rfl) HL.out rfl ?_)
  have b1 := hid (heap_row_set (cs := byteCells X) n1.out)
  have G1 := hid (Grown_setRow (g1.alloc (byteCells zeros24) 32) g1.2.2 (byteCells X))
  clear n1 g1
  refine (HI.out _).mono ?_
  rintro e w3 ⟨rfl, g3⟩
  have b3 := heap_grown g3 b1.out
  have hlt := lt_of_heap b3
  have n3 := hid (heap_new (w := w3) (o := .cells (byteCells zeros24) 32) rfl)
  have B3 := hid (heap_row_kept (g := w3.heap.size) (cs := byteCells X) (by omega) (heap_kept (o := .cells (byteCells zeros24) 32) b3))
  have N3 := hid (heap_row_set (cs := byteCells X) n3.out)
  have G3 := hid (Grown_setRow ((Grown_trans G1.out g3).alloc (byteCells zeros24) 32) (Grown_trans G1.out g3).2.2 (byteCells X))
  clear b1 G1 g3 b3 hlt
  go_wp2_with (first | (refine wpList_store_bytes rfl 32 _ _ rfl _ X zeros24 rfl rfl _ 24 n3.out (by kernel_rfl) HL.out rfl ?_) | (refine wpList_load_bytes rfl 32 _ rfl _ rfl _ X _ 24 N3.out Try.underlying32 (by kernel_rfl) HL.out ?_) | (refine wpList_load_bytes rfl 32 _ rfl _ rfl _ X _ 24 B3.out Try.underlying32 (by kernel_rfl) HL.out ?_))
  refine (eqFlag_same X HL.out _).mono ?_
  rintro e w5 ⟨rfl, g5⟩
  have G5 := hid (Grown_trans G3.out g5)
  clear g5 G3 B3 N3 n3
  go_wp2_with fail
  go_ret
  exact ⟨rfl, G5.out⟩

end Go.Proofs.Ytflolmjgkmmllaa
