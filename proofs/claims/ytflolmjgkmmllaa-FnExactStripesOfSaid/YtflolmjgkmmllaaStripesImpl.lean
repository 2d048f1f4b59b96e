/- StripesOf of the program. -/
import Derived.Test.YtflolmjgkmmllaaStripes
import Derived.Test.YtflolmjgkmmllaaPainted
namespace Go.Proofs.Ytflolmjgkmmllaa
open Go.RowKit

theorem stripes1_true (bU bS bN : Nat) (a0 : Option Addr) (cap : Nat) (xs : List Int) (hn : xs.length ≤ 6) (hn1 : 1 ≤ xs.length) (hall : xs.all colourB = true) (m q : Nat) (hm : m < 6) (hq : q < 4) (w : World) (hs : SliceOf .i64 w a0 xs)
    (h0 : w.heap[bU]? = some (.cells #[.bool true] 4 (0, 0))) (h1 : w.heap[bS]? = some (.cells #[.slice a0 xs.length cap] 27 (0, 0))) (h2 : w.heap[bN]? = some (.cells #[.int .i64 6] 3 (0, 0))) :
    Calls Try.prog 66 #[.int .i64 m, .int .i64 q, .pointer (some ⟨bU, 0, none⟩), .pointer (some ⟨bS, 0, none⟩), .pointer (some ⟨bN, 0, none⟩)] w fun e w' => e = .returned (.int .u8 (xs.getD (m * xs.length / 6) 0)) ∧ Grown w w' := by
  have cU := cell_of_one h0
  have cS := cell_of_one h1
  have cN := cell_of_one h2
  have hix : m * xs.length / 6 < xs.length := idx_lt (by omega) (by omega)
  obtain ⟨b, off, rfl, hcell⟩ := hs _ hix
  obtain ⟨hv0, hv1⟩ := all_get hall _ hix
  clear h0 h1 h2 hs hall
  generalize xs.length = n at *
  obtain ⟨p, hp⟩ : ∃ p, p = m * n := ⟨_, rfl⟩
  have hpb : p ≤ 6 * 6 := by rw [hp]; exact Nat.mul_le_mul (by omega) (by omega)
  have hpI : ((m : Int) * (n : Int)) = (p : Int) := by rw [hp]; simp
  rw [← hp] at hix hcell hv0 hv1 ⊢
  clear hp
  generalize xs.getD (p / 6) 0 = v at *
  have q0 : (0 : Int) ≤ (p : Int) := by omega
  have q1 : (0 : Int) ≤ (p : Int) / 6 := by omega
  have q2 : (p : Int) / 6 < n := by omega
  have w1 : IntKind.i64.wrap (p : Int) = p := IntWalk.i64_in _ (by omega)
  have w2 : IntKind.i64.wrap ((p : Int) / 6) = (p : Int) / 6 := IntWalk.i64_in _ (by omega)
  have w3 : (p : Int).tdiv 6 = (p : Int) / 6 := Int.tdiv_eq_ediv_of_nonneg q0
  have w4 : ((p : Int) / 6).toNat = p / 6 := by omega
  have w5 : IntKind.u8.wrap v = v := IntWalk.u8_in _ (by omega)
  have w6 : IntKind.i64.wrap v = v := IntWalk.i64_in _ (by omega)
  go_enter Try.func66, Try.ntmps66
  go_wp2_with fail
  go_quiet (fail)
  go_wp2_with fail
  go_ret
  exact ⟨rfl, (Grown.refl _).drewN _⟩

theorem stripes1_false (bU bS bN : Nat) (a0 : Option Addr) (cap : Nat) (xs : List Int) (hn : xs.length ≤ 6) (hn1 : 1 ≤ xs.length) (hall : xs.all colourB = true) (m q : Nat) (hm : m < 6) (hq : q < 4) (w : World) (hs : SliceOf .i64 w a0 xs)
    (h0 : w.heap[bU]? = some (.cells #[.bool false] 4 (0, 0))) (h1 : w.heap[bS]? = some (.cells #[.slice a0 xs.length cap] 27 (0, 0))) (h2 : w.heap[bN]? = some (.cells #[.int .i64 4] 3 (0, 0))) :
    Calls Try.prog 66 #[.int .i64 m, .int .i64 q, .pointer (some ⟨bU, 0, none⟩), .pointer (some ⟨bS, 0, none⟩), .pointer (some ⟨bN, 0, none⟩)] w fun e w' => e = .returned (.int .u8 (xs.getD (q * xs.length / 4) 0)) ∧ Grown w w' := by
  have cU := cell_of_one h0
  have cS := cell_of_one h1
  have cN := cell_of_one h2
  have hix : q * xs.length / 4 < xs.length := idx_lt (by omega) (by omega)
  obtain ⟨b, off, rfl, hcell⟩ := hs _ hix
  obtain ⟨hv0, hv1⟩ := all_get hall _ hix
  clear h0 h1 h2 hs hall
  generalize xs.length = n at *
  obtain ⟨p, hp⟩ : ∃ p, p = q * n := ⟨_, rfl⟩
  have hpb : p ≤ 6 * 6 := by rw [hp]; exact Nat.mul_le_mul (by omega) (by omega)
  have hpI : ((q : Int) * (n : Int)) = (p : Int) := by rw [hp]; simp
  rw [← hp] at hix hcell hv0 hv1 ⊢
  clear hp
  generalize xs.getD (p / 4) 0 = v at *
  have q0 : (0 : Int) ≤ (p : Int) := by omega
  have q1 : (0 : Int) ≤ (p : Int) / 4 := by omega
  have q2 : (p : Int) / 4 < n := by omega
  have w1 : IntKind.i64.wrap (p : Int) = p := IntWalk.i64_in _ (by omega)
  have w2 : IntKind.i64.wrap ((p : Int) / 4) = (p : Int) / 4 := IntWalk.i64_in _ (by omega)
  have w3 : (p : Int).tdiv 4 = (p : Int) / 4 := Int.tdiv_eq_ediv_of_nonneg q0
  have w4 : ((p : Int) / 4).toNat = p / 4 := by omega
  have w5 : IntKind.u8.wrap v = v := IntWalk.u8_in _ (by omega)
  have w6 : IntKind.i64.wrap v = v := IntWalk.i64_in _ (by omega)
  go_enter Try.func66, Try.ntmps66
  go_wp2_with fail
  go_quiet (fail)
  go_wp2_with fail
  go_ret
  exact ⟨rfl, (Grown.refl _).drewN _⟩

set_option maxHeartbeats 2000000 in
theorem impl_Stripes_true (a0 : Option Addr) (cap : Nat) (xs : List Int) (hn : xs.length ≤ 1048576) (w : World) (hs : SliceOf .i64 w a0 xs) :
    Calls Try.prog 32 #[.slice a0 xs.length cap, .bool true] w fun e w' => e = .returned (.tuple #[.agg (byteCells (stripeF xs true)), .int .i64 (stripeC xs true)]) ∧ Grown w w' := by
  have HS := hid hs
  clear hs
  obtain ⟨n, hxn⟩ : ∃ n, n = xs.length := ⟨_, rfl⟩
  rw [← hxn] at hn ⊢
  have HN := hid hxn
  clear hxn
  have bS : Hid (((((w.alloc (.cells #[.slice a0 n cap] 27)).alloc (.cells #[.bool true] 4)).alloc (.cells (byteCells zeros24) 32)).alloc (.cells #[.int .i64 6] 3)).heap[w.heap.size]? = some (.cells #[.slice a0 n cap] 27 (0, 0))) := hid (heap_kept (heap_kept (heap_kept (heap_new rfl))))
  have bU : Hid (((((w.alloc (.cells #[.slice a0 n cap] 27)).alloc (.cells #[.bool true] 4)).alloc (.cells (byteCells zeros24) 32)).alloc (.cells #[.int .i64 6] 3)).heap[w.heap.size + 1]? = some (.cells #[.bool true] 4 (0, 0))) := hid (heap_kept (heap_kept (heap_new (by simp))))
  have bZ : Hid (((((w.alloc (.cells #[.slice a0 n cap] 27)).alloc (.cells #[.bool true] 4)).alloc (.cells (byteCells zeros24) 32)).alloc (.cells #[.int .i64 6] 3)).heap[w.heap.size + 1 + 1]? = some (.cells (byteCells zeros24) 32 (0, 0))) := hid (heap_kept (heap_new (by simp)))
  have bN : Hid (((((w.alloc (.cells #[.slice a0 n cap] 27)).alloc (.cells #[.bool true] 4)).alloc (.cells (byteCells zeros24) 32)).alloc (.cells #[.int .i64 6] 3)).heap[w.heap.size + 1 + 1 + 1]? = some (.cells #[.int .i64 6] 3 (0, 0))) := hid (heap_new (by simp))
  have gr : Hid (Grown w ((((w.alloc (.cells #[.slice a0 n cap] 27)).alloc (.cells #[.bool true] 4)).alloc (.cells (byteCells zeros24) 32)).alloc (.cells #[.int .i64 6] 3))) := hid (((((Grown.refl w).alloc _ _).alloc _ _).alloc _ _).alloc _ _)
  cases ho : okLen n true
  · have E1 := hid (show stripeF xs true = zeros24 by unfold stripeF stripeB; rw [← HN.out, ho]; rfl)
    have E2 := hid (show stripeC xs true = 2 by unfold stripeC stripeB; rw [← HN.out, ho]; rfl)
    have hc : n < 1 ∨ 6 < n := by
      unfold okLen sideN at ho
      simp at ho
      omega
    clear ho
    by_cases h1 : n < 1
    · clear hc
      go_enter Try.func32, Try.ntmps32
      go_wp2_with (first | (refine wpList_build_to rfl 32 rfl built_flag ?_) | (refine wpList_store_bytes rfl 32 _ _ rfl _ zeros24 zeros24 rfl rfl _ 24 bZ.out (by kernel_rfl) rfl rfl ?_))
      refine bodyPost_ret (results_bytes2 (by rfl) _ _ _ _ _ _ _ _ rfl rfl (heap_row_set bZ.out) Try.underlying32 (by kernel_rfl) rfl) rfl ⟨by rw [E1.out, E2.out]; rfl, ?_⟩
      exact Grown_setRow gr.out (by omega) _
    · have h2 : 6 < n := by omega
      clear hc
      go_enter Try.func32, Try.ntmps32
      go_wp2_with (first | (refine wpList_build_to rfl 32 rfl built_flag ?_) | (refine wpList_store_bytes rfl 32 _ _ rfl _ zeros24 zeros24 rfl rfl _ 24 bZ.out (by kernel_rfl) rfl rfl ?_))
      refine bodyPost_ret (results_bytes2 (by rfl) _ _ _ _ _ _ _ _ rfl rfl (heap_row_set bZ.out) Try.underlying32 (by kernel_rfl) rfl) rfl ⟨by rw [E1.out, E2.out]; rfl, ?_⟩
      exact Grown_setRow gr.out (by omega) _
  · have hc : 1 ≤ n ∧ n ≤ 6 := by
      unfold okLen sideN at ho
      simp at ho
      omega
    obtain ⟨hn1, hn2⟩ := hc
    have HO := hid ho
    clear ho
    go_enter Try.func32, Try.ntmps32
    go_wp2_with fail
    go_loopw [22] (fun i wr => ∃ k : Nat, k ≤ n ∧ i = .int .i64 k ∧ Hid ((xs.take k).all colourB = true) ∧ Hid (Grown w wr) ∧ Hid (wr.heap[w.heap.size]? = some (.cells #[.slice a0 n cap] 27 (0, 0))) ∧ Hid (wr.heap[w.heap.size + 1]? = some (.cells #[.bool true] 4 (0, 0))) ∧ Hid (wr.heap[w.heap.size + 1 + 1]? = some (.cells (byteCells zeros24) 32 (0, 0))) ∧ Hid (wr.heap[w.heap.size + 1 + 1 + 1]? = some (.cells #[.int .i64 6] 3 (0, 0)))) (fun i _ => n - (intOf i).toNat)
    case atStart => exact ⟨0, Nat.zero_le _, rfl, hid rfl, gr, bS, bU, bZ, bN⟩
    case round =>
      clear gr bS bU bZ bN
      obtain ⟨k, hk, rfl, hb, gr, bS, bU, bZ, bN⟩ := hrel
      by_cases hlt : k < n
      · obtain ⟨b, off, rfl, hc⟩ := HS.out k (by rw [← HN.out]; exact hlt)
        have hcell := cell_grown gr.out hc
        have HT := take_all_succ xs k (by rw [← HN.out]; exact hlt)
        rw [hb.out, Bool.true_and] at HT
        clear hc
        cases hx : colourB (xs.getD k 0)
        · have hno : stripeB xs true = false := stripe_no (k := k + 1) (by rw [HT, hx]; simp)
          have E1 := hid (show stripeF xs true = zeros24 by unfold stripeF; rw [hno]; rfl)
          have E2 := hid (show stripeC xs true = 2 by unfold stripeC; rw [hno]; rfl)
          clear hno HT
          generalize xs.getD k 0 = x at *
          go_wp2_with (first | (go_at_call 62; refine (isColour_any _ _).mono ?_; rintro e w' ⟨rfl, rfl⟩) | (refine wpList_build_to rfl 32 rfl built_flag ?_) | (refine wpList_store_bytes rfl 32 _ _ rfl _ zeros24 zeros24 rfl rfl _ 24 bZ.out (by kernel_rfl) rfl rfl ?_))
          refine bodyPost_ret (results_bytes2 (by rfl) _ _ _ _ _ _ _ _ rfl rfl (heap_row_set bZ.out) Try.underlying32 (by kernel_rfl) rfl) rfl ⟨by rw [E1.out, E2.out]; rfl, ?_⟩
          exact Grown_setRow gr.out (by omega) _
        · rw [hx] at HT
          have HT' := hid HT
          clear HT
          generalize xs.getD k 0 = x at *
          go_wp2_with (go_at_call 62; refine (isColour_any _ _).mono ?_; rintro e w' ⟨rfl, rfl⟩)
          go_roundw
          case rel => exact ⟨k + 1, by omega, by go_num, HT', gr, bS, bU, bZ, bN⟩
          case measure => simp [intOf]; omega
      · have hall : xs.all colourB = true := by
          have h := hb.out
          rwa [List.take_of_length_le (by rw [← HN.out]; omega)] at h
        have hB : stripeB xs true = true := by unfold stripeB; rw [← HN.out, HO.out, hall]; rfl
        have E1 := hid (show stripeF xs true = (List.range 24).map (stripeCol xs true) by unfold stripeF; rw [if_pos hB])
        have E2 := hid (show stripeC xs true = 0 by unfold stripeC; rw [if_pos hB])
        have ALL := hid hall
        clear hB hall HO hb
        go_wp2_with fail
        refine (painted_any 66 _ (stripeCol xs true) _ (callFunc_enter Try.func66 (by kernel_rfl) (by kernel_rfl)) ?_).mono ?_
        · intro i hi wq hg1
          have h := stripes1_true (w.heap.size + 1) w.heap.size (w.heap.size + 1 + 1 + 1) a0 cap xs (by rw [← HN.out]; omega) (by rw [← HN.out]; omega) ALL.out (i % 6) (i / 6) (by omega) (by omega) wq ((HS.out.grown gr.out).grown hg1) (heap_grown hg1 bU.out) (by rw [← HN.out]; exact heap_grown hg1 bS.out) (heap_grown hg1 bN.out)
          have e1 : ((i % 6 : Nat) : Int) = (i : Int) % 6 := by omega
          have e2 : ((i / 6 : Nat) : Int) = (i : Int) / 6 := by omega
          rw [e1, e2] at h
          exact h
        · rintro e w1 ⟨rfl, g1⟩
          replace bZ := hid (heap_grown g1 bZ.out)
          replace gr := hid (Grown_trans gr.out g1)
          clear g1 bS bU bN
          go_wp2_with (refine wpList_store_bytes rfl 32 _ _ rfl _ ((List.range 24).map (stripeCol xs true)) zeros24 rfl rfl _ 24 bZ.out (by kernel_rfl) (by simp) rfl ?_)
          refine bodyPost_ret (results_bytes2 (by rfl) _ _ _ _ _ _ _ _ rfl rfl (heap_row_set bZ.out) Try.underlying32 (by kernel_rfl) (by simp)) rfl ⟨by rw [E1.out, E2.out]; rfl, ?_⟩
          exact Grown_setRow gr.out (by omega) _

set_option maxHeartbeats 2000000 in
theorem impl_Stripes_false (a0 : Option Addr) (cap : Nat) (xs : List Int) (hn : xs.length ≤ 1048576) (w : World) (hs : SliceOf .i64 w a0 xs) :
    Calls Try.prog 32 #[.slice a0 xs.length cap, .bool false] w fun e w' => e = .returned (.tuple #[.agg (byteCells (stripeF xs false)), .int .i64 (stripeC xs false)]) ∧ Grown w w' := by
  have HS := hid hs
  clear hs
  obtain ⟨n, hxn⟩ : ∃ n, n = xs.length := ⟨_, rfl⟩
  rw [← hxn] at hn ⊢
  have HN := hid hxn
  clear hxn
  have bS : Hid (((((w.alloc (.cells #[.slice a0 n cap] 27)).alloc (.cells #[.bool false] 4)).alloc (.cells (byteCells zeros24) 32)).alloc (.cells #[.int .i64 4] 3)).heap[w.heap.size]? = some (.cells #[.slice a0 n cap] 27 (0, 0))) := hid (heap_kept (heap_kept (heap_kept (heap_new rfl))))
  have bU : Hid (((((w.alloc (.cells #[.slice a0 n cap] 27)).alloc (.cells #[.bool false] 4)).alloc (.cells (byteCells zeros24) 32)).alloc (.cells #[.int .i64 4] 3)).heap[w.heap.size + 1]? = some (.cells #[.bool false] 4 (0, 0))) := hid (heap_kept (heap_kept (heap_new (by simp))))
  have bZ : Hid (((((w.alloc (.cells #[.slice a0 n cap] 27)).alloc (.cells #[.bool false] 4)).alloc (.cells (byteCells zeros24) 32)).alloc (.cells #[.int .i64 4] 3)).heap[w.heap.size + 1 + 1]? = some (.cells (byteCells zeros24) 32 (0, 0))) := hid (heap_kept (heap_new (by simp)))
  have bN : Hid (((((w.alloc (.cells #[.slice a0 n cap] 27)).alloc (.cells #[.bool false] 4)).alloc (.cells (byteCells zeros24) 32)).alloc (.cells #[.int .i64 4] 3)).heap[w.heap.size + 1 + 1 + 1]? = some (.cells #[.int .i64 4] 3 (0, 0))) := hid (heap_new (by simp))
  have gr : Hid (Grown w ((((w.alloc (.cells #[.slice a0 n cap] 27)).alloc (.cells #[.bool false] 4)).alloc (.cells (byteCells zeros24) 32)).alloc (.cells #[.int .i64 4] 3))) := hid (((((Grown.refl w).alloc _ _).alloc _ _).alloc _ _).alloc _ _)
  cases ho : okLen n false
  · have E1 := hid (show stripeF xs false = zeros24 by unfold stripeF stripeB; rw [← HN.out, ho]; rfl)
    have E2 := hid (show stripeC xs false = 2 by unfold stripeC stripeB; rw [← HN.out, ho]; rfl)
    have hc : n < 1 ∨ 4 < n := by
      unfold okLen sideN at ho
      simp at ho
      omega
    clear ho
    by_cases h1 : n < 1
    · clear hc
      go_enter Try.func32, Try.ntmps32
      go_wp2_with (first | (refine wpList_build_to rfl 32 rfl built_flag ?_) | (refine wpList_store_bytes rfl 32 _ _ rfl _ zeros24 zeros24 rfl rfl _ 24 bZ.out (by kernel_rfl) rfl rfl ?_))
      refine bodyPost_ret (results_bytes2 (by rfl) _ _ _ _ _ _ _ _ rfl rfl (heap_row_set bZ.out) Try.underlying32 (by kernel_rfl) rfl) rfl ⟨by rw [E1.out, E2.out]; rfl, ?_⟩
      exact Grown_setRow gr.out (by omega) _
    · have h2 : 4 < n := by omega
      clear hc
      go_enter Try.func32, Try.ntmps32
      go_wp2_with (first | (refine wpList_build_to rfl 32 rfl built_flag ?_) | (refine wpList_store_bytes rfl 32 _ _ rfl _ zeros24 zeros24 rfl rfl _ 24 bZ.out (by kernel_rfl) rfl rfl ?_))
      refine bodyPost_ret (results_bytes2 (by rfl) _ _ _ _ _ _ _ _ rfl rfl (heap_row_set bZ.out) Try.underlying32 (by kernel_rfl) rfl) rfl ⟨by rw [E1.out, E2.out]; rfl, ?_⟩
      exact Grown_setRow gr.out (by omega) _
  · have hc : 1 ≤ n ∧ n ≤ 4 := by
      unfold okLen sideN at ho
      simp at ho
      omega
    obtain ⟨hn1, hn2⟩ := hc
    have HO := hid ho
    clear ho
    go_enter Try.func32, Try.ntmps32
    go_wp2_with fail
    go_loopw [22] (fun i wr => ∃ k : Nat, k ≤ n ∧ i = .int .i64 k ∧ Hid ((xs.take k).all colourB = true) ∧ Hid (Grown w wr) ∧ Hid (wr.heap[w.heap.size]? = some (.cells #[.slice a0 n cap] 27 (0, 0))) ∧ Hid (wr.heap[w.heap.size + 1]? = some (.cells #[.bool false] 4 (0, 0))) ∧ Hid (wr.heap[w.heap.size + 1 + 1]? = some (.cells (byteCells zeros24) 32 (0, 0))) ∧ Hid (wr.heap[w.heap.size + 1 + 1 + 1]? = some (.cells #[.int .i64 4] 3 (0, 0)))) (fun i _ => n - (intOf i).toNat)
    case atStart => exact ⟨0, Nat.zero_le _, rfl, hid rfl, gr, bS, bU, bZ, bN⟩
    case round =>
      clear gr bS bU bZ bN
      obtain ⟨k, hk, rfl, hb, gr, bS, bU, bZ, bN⟩ := hrel
      by_cases hlt : k < n
      · obtain ⟨b, off, rfl, hc⟩ := HS.out k (by rw [← HN.out]; exact hlt)
        have hcell := cell_grown gr.out hc
        have HT := take_all_succ xs k (by rw [← HN.out]; exact hlt)
        rw [hb.out, Bool.true_and] at HT
        clear hc
        cases hx : colourB (xs.getD k 0)
        · have hno : stripeB xs false = false := stripe_no (k := k + 1) (by rw [HT, hx]; simp)
          have E1 := hid (show stripeF xs false = zeros24 by unfold stripeF; rw [hno]; rfl)
          have E2 := hid (show stripeC xs false = 2 by unfold stripeC; rw [hno]; rfl)
          clear hno HT
          generalize xs.getD k 0 = x at *
          go_wp2_with (first | (go_at_call 62; refine (isColour_any _ _).mono ?_; rintro e w' ⟨rfl, rfl⟩) | (refine wpList_build_to rfl 32 rfl built_flag ?_) | (refine wpList_store_bytes rfl 32 _ _ rfl _ zeros24 zeros24 rfl rfl _ 24 bZ.out (by kernel_rfl) rfl rfl ?_))
          refine bodyPost_ret (results_bytes2 (by rfl) _ _ _ _ _ _ _ _ rfl rfl (heap_row_set bZ.out) Try.underlying32 (by kernel_rfl) rfl) rfl ⟨by rw [E1.out, E2.out]; rfl, ?_⟩
          exact Grown_setRow gr.out (by omega) _
        · rw [hx] at HT
          have HT' := hid HT
          clear HT
          generalize xs.getD k 0 = x at *
          go_wp2_with (go_at_call 62; refine (isColour_any _ _).mono ?_; rintro e w' ⟨rfl, rfl⟩)
          go_roundw
          case rel => exact ⟨k + 1, by omega, by go_num, HT', gr, bS, bU, bZ, bN⟩
          case measure => simp [intOf]; omega
      · have hall : xs.all colourB = true := by
          have h := hb.out
          rwa [List.take_of_length_le (by rw [← HN.out]; omega)] at h
        have hB : stripeB xs false = true := by unfold stripeB; rw [← HN.out, HO.out, hall]; rfl
        have E1 := hid (show stripeF xs false = (List.range 24).map (stripeCol xs false) by unfold stripeF; rw [if_pos hB])
        have E2 := hid (show stripeC xs false = 0 by unfold stripeC; rw [if_pos hB])
        have ALL := hid hall
        clear hB hall HO hb
        go_wp2_with fail
        refine (painted_any 66 _ (stripeCol xs false) _ (callFunc_enter Try.func66 (by kernel_rfl) (by kernel_rfl)) ?_).mono ?_
        · intro i hi wq hg1
          have h := stripes1_false (w.heap.size + 1) w.heap.size (w.heap.size + 1 + 1 + 1) a0 cap xs (by rw [← HN.out]; omega) (by rw [← HN.out]; omega) ALL.out (i % 6) (i / 6) (by omega) (by omega) wq ((HS.out.grown gr.out).grown hg1) (heap_grown hg1 bU.out) (by rw [← HN.out]; exact heap_grown hg1 bS.out) (heap_grown hg1 bN.out)
          have e1 : ((i % 6 : Nat) : Int) = (i : Int) % 6 := by omega
          have e2 : ((i / 6 : Nat) : Int) = (i : Int) / 6 := by omega
          rw [e1, e2] at h
          exact h
        · rintro e w1 ⟨rfl, g1⟩
          replace bZ := hid (heap_grown g1 bZ.out)
          replace gr := hid (Grown_trans gr.out g1)
          clear g1 bS bU bN
          go_wp2_with (refine wpList_store_bytes rfl 32 _ _ rfl _ ((List.range 24).map (stripeCol xs false)) zeros24 rfl rfl _ 24 bZ.out (by kernel_rfl) (by simp) rfl ?_)
          refine bodyPost_ret (results_bytes2 (by rfl) _ _ _ _ _ _ _ _ rfl rfl (heap_row_set bZ.out) Try.underlying32 (by kernel_rfl) (by simp)) rfl ⟨by rw [E1.out, E2.out]; rfl, ?_⟩
          exact Grown_setRow gr.out (by omega) _
end Go.Proofs.Ytflolmjgkmmllaa
