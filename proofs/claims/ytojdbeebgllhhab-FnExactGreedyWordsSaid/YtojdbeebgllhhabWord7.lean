/- WordAt: the functions. -/
import Derived.Test.YtojdbeebgllhhabWordK
namespace Go.Proofs.Ytojdbeebgllhhab
open Go.RowKit
set_option maxRecDepth 100000 in
theorem l05Asked_any (p l : Int) (w : World) :
    Calls Try.prog 69 #[.int .i64 p, .int .i64 l] w fun e w' => e = .returned (.bool (askedB p l)) ∧ w = w' := by
  have HQ := hid (show askedB p l = (betB p 2 37 && betB l 1 8) from rfl)
  generalize askedB p l = r at *
  cases hb : betB p 2 37
  · have HBV := hid hb
    rw [hb, Bool.false_and] at HQ
    clear hb
    go_enter Try.func69, Try.ntmps69
    go_wp2_with (go_at_call 70; refine (l00In_b _ _ _ _).mono ?_; rintro e w' ⟨rfl, rfl⟩; rw [HBV.out])
    go_ret
    exact ⟨ret_bool HQ.out.symm, rfl⟩
  · have HBV := hid hb
    rw [hb, Bool.true_and] at HQ
    have HX := HQ.out.symm
    have HXH := hid HX
    clear hb HX HQ
    go_enter Try.func69, Try.ntmps69
    go_wp2_with (go_at_call 70; refine (l00In_b _ _ _ _).mono ?_; rintro e w' ⟨rfl, rfl⟩; first | rw [HBV.out] | rw [HXH.out])
    go_ret
    exact ⟨rfl, rfl⟩
set_option maxRecDepth 100000 in
theorem areSizes_any (p l : Int) (w : World) :
    Calls Try.prog 74 #[.int .i64 p, .int .i64 l] w fun e w' => e = .returned (.bool (askedB p l)) ∧ w = w' := by
  have HQ := hid (show askedB p l = (betB p 2 37 && betB l 1 8) from rfl)
  generalize askedB p l = r at *
  cases hb : betB p 2 37
  · have HBV := hid hb
    rw [hb, Bool.false_and] at HQ
    clear hb
    go_enter Try.func74, Try.ntmps74
    go_wp2_with (go_at_call 75; refine (isBetween_any _ _ _ _).mono ?_; rintro e w' ⟨rfl, rfl⟩; rw [HBV.out])
    go_ret
    exact ⟨ret_bool HQ.out.symm, rfl⟩
  · have HBV := hid hb
    rw [hb, Bool.true_and] at HQ
    have HX := HQ.out.symm
    have HXH := hid HX
    clear hb HX HQ
    go_enter Try.func74, Try.ntmps74
    go_wp2_with (go_at_call 75; refine (isBetween_any _ _ _ _).mono ?_; rintro e w' ⟨rfl, rfl⟩; first | rw [HBV.out] | rw [HXH.out])
    go_ret
    exact ⟨rfl, rfl⟩
set_option maxRecDepth 100000 in
theorem l05Power_any (b : Int) (h0 : 0 ≤ b) (h1 : b ≤ 37) (e : Nat) (he : e ≤ 8) (w : World) :
    Calls Try.prog 71 #[.int .i64 b, .int .i64 e] w fun r w' => r = .returned (.int .i64 (b ^ e)) ∧ w = w' := by
  have HS := hid (fun k (hk : k < 8) => pow_step h0 h1 hk)
  have H0 := hid (Int.pow_zero b)
  go_enter Try.func71, Try.ntmps71
  go_wp2
  go_loop [1, 5] (fun i v => ∃ k j : Nat, k + j = e ∧ i = .int .i64 j ∧ v = .int .i64 (b ^ k)) (fun i _ => (intOf i).toNat)
  case atStart => exact ⟨0, e, by omega, rfl, by rw [H0.out]⟩
  case round =>
    obtain ⟨k, j, hk, rfl, rfl⟩ := hrel
    cases j with
    | zero =>
      obtain rfl : k = e := by omega
      go_wp2
      go_ret
      exact ⟨rfl, rfl⟩
    | succ j =>
      obtain ⟨m1, m2⟩ := HS.out k (by omega)
      have M2 := hid m2
      clear m2
      generalize hv : b ^ k = v at *
      clear hv
      go_wp2
      go_round
      case rel => exact ⟨k + 1, j, by omega, by go_num, by rw [M2.out]⟩
      case measure => simp [intOf]
set_option maxRecDepth 100000 in
theorem power_any (b : Int) (h0 : 0 ≤ b) (h1 : b ≤ 37) (e : Nat) (he : e ≤ 8) (w : World) :
    Calls Try.prog 76 #[.int .i64 b, .int .i64 e] w fun r w' => r = .returned (.int .i64 (b ^ e)) ∧ w = w' := by
  have HS := hid (fun k (hk : k < 8) => pow_step h0 h1 hk)
  have H0 := hid (Int.pow_zero b)
  go_enter Try.func76, Try.ntmps76
  go_wp2
  go_loop [5, 7] (fun v i => ∃ k : Nat, k ≤ e ∧ i = .int .i64 k ∧ v = .int .i64 (b ^ k)) (fun _ i => e - (intOf i).toNat)
  case atStart => exact ⟨0, Nat.zero_le _, rfl, by rw [H0.out]⟩
  case round =>
    obtain ⟨k, hk, rfl, rfl⟩ := hrel
    by_cases hlt : k < e
    · obtain ⟨m1, m2⟩ := HS.out k (by omega)
      have M2 := hid m2
      clear m2
      generalize hv : b ^ k = v at *
      clear hv
      go_wp2
      go_round
      case rel => exact ⟨k + 1, by omega, by go_num, by rw [M2.out]⟩
      case measure => simp [intOf]; omega
    · obtain rfl : k = e := by omega
      go_wp2
      go_ret
      exact ⟨rfl, rfl⟩
set_option maxRecDepth 100000 in
set_option maxHeartbeats 1000000 in
theorem l05At_any (p r : Int) (p2 : 2 ≤ p) (p37 : p ≤ 37) (n : Nat) (n8 : n ≤ 8) (r0 : 0 ≤ r) (r9 : r ≤ 3512479453921) (w : World) :
    Calls Try.prog 72 #[.int .i64 p, .int .i64 n, .int .i64 r] w (RetOwn .u8 5 (fun v => v) (atTo p r n n) w) := by
  have hmk := run_make_ints (P := Try.prog) (t := 82) (e := 5) (k := .u8) (bytes := 1) Try.underlying82 (by kernel_rfl) n (by omega) (by omega)
  have HB := hid (fun k => quoL_bd (n := p) (r := r) p2 r0 k)
  have HQ := hid (fun q (h : 0 ≤ q) => quo_step (n := p) (q := q) p2 p37 h)
  have HP := hid p2
  have hp0 : p ≠ 0 := by omega
  have h0 := hid (atTo_zero p r n)
  go_enter Try.func72, Try.ntmps72
  go_wp2_with fail
  clear hmk
  go_loopw [2, 8] (fun q i wr => ∃ k j : Nat, k + j = n ∧ i = .int .i64 ((j : Int) - 1) ∧ q = .int .i64 (quoL p r k) ∧ Hid (Gr w wr) ∧ Hid (wr.heap[w.heap.size]? = some (.cells (kCells .u8 (atTo p r n k)) 5 (0, 0)))) (fun _ i _ => (intOf i + 1).toNat)
  case atStart => exact ⟨0, n, by omega, by go_num, rfl, hid ((Gr.refl _).alloc _), hid (by rw [h0.out]; exact heap_new rfl)⟩
  case round =>
    obtain ⟨k, j, hk, rfl, rfl, hg, hb⟩ := hrel
    cases j with
    | zero =>
      obtain rfl : k = n := by omega
      go_wp2_with fail
      go_ret
      have O := Own.ofBlock (k := .u8) hb.out (by rw [atTo_length]; unfold maxLen; omega)
      rw [atTo_length] at O
      exact ⟨_, rfl, O.widen (Nat.le_refl _) (lt_of_heap hb.out), hg.out⟩
    | succ j =>
      obtain ⟨q0, q9⟩ := HB.out k
      obtain ⟨t1, t2, t3, t4⟩ := HQ.out _ q0
      have HSET := hid (atTo_set p r (len := n) (k := k) (by omega))
      have HN := hid (show quoL p r (k + 1) = quoL p r k / p from rfl)
      have hc1 := cell_ints (k := .u8) hb.out (i := j) (by rw [atTo_length]; omega)
      have hf1 : wr.frozen? ⟨w.heap.size, j, none⟩ = false := frozen_of_row _ _ _ _ _ hb.out
      have hd0 := Int.ediv_le_self p q0
      have hd1 := Int.ediv_nonneg q0 (show 0 ≤ p by have := HP.out; omega)
      rw [show n - 1 - k = j by omega] at HSET
      generalize (atTo p r n k).getD j 0 = y at *
      generalize quoL p r k = q at *
      have e1 : IntKind.u8.wrap (q.tmod p) = q % p := by rw [t1]; exact IntWalk.u8_in _ (by omega)
      have e2 : IntKind.i64.wrap (q.tdiv p) = q / p := by rw [t2]; exact IntWalk.i64_in _ (by omega)
      have T2 := hid t2
      skip
      go_wp2_with fail
      go_roundw
      case rel => exact ⟨k + 1, j, by omega, by go_num, by first | rw [HN.out] | rw [HN.out, T2.out], hid (hg.out.setCell (by dsimp only; omega) _), hid (by rw [← HSET.out]; exact heap_int_set hb.out)⟩
      case measure => simp [intOf] <;> omega

set_option maxRecDepth 100000 in
set_option maxHeartbeats 1000000 in
theorem ranked_any (p r : Int) (p2 : 2 ≤ p) (p37 : p ≤ 37) (n : Nat) (n8 : n ≤ 8) (r0 : 0 ≤ r) (r9 : r ≤ 3512479453921) (w : World) :
    Calls Try.prog 77 #[.int .i64 p, .int .i64 n, .int .i64 r] w (RetOwn .u8 5 (fun v => v) (atTo p r n n) w) := by
  have hmk := run_make_ints (P := Try.prog) (t := 82) (e := 5) (k := .u8) (bytes := 1) Try.underlying82 (by kernel_rfl) n (by omega) (by omega)
  have HB := hid (fun k => quoL_bd (n := p) (r := r) p2 r0 k)
  have HQ := hid (fun q (h : 0 ≤ q) => quo_step (n := p) (q := q) p2 p37 h)
  have HP := hid p2
  have hp0 : p ≠ 0 := by omega
  have h0 := hid (atTo_zero p r n)
  go_enter Try.func77, Try.ntmps77
  go_wp2_with fail
  clear hmk
  go_loopw [2, 13] (fun q i wr => ∃ k j : Nat, k + j = n ∧ i = .int .i64 k ∧ q = .int .i64 (quoL p r k) ∧ Hid (Gr w wr) ∧ Hid (wr.heap[w.heap.size]? = some (.cells (kCells .u8 (atTo p r n k)) 5 (0, 0)))) (fun _ i _ => n - (intOf i).toNat)
  case atStart => exact ⟨0, n, by omega, rfl, rfl, hid ((Gr.refl _).alloc _), hid (by rw [h0.out]; exact heap_new rfl)⟩
  case round =>
    obtain ⟨k, j, hk, rfl, rfl, hg, hb⟩ := hrel
    cases j with
    | zero =>
      obtain rfl : k = n := by omega
      go_wp2_with fail
      go_ret
      have O := Own.ofBlock (k := .u8) hb.out (by rw [atTo_length]; unfold maxLen; omega)
      rw [atTo_length] at O
      exact ⟨_, rfl, O.widen (Nat.le_refl _) (lt_of_heap hb.out), hg.out⟩
    | succ j =>
      obtain ⟨q0, q9⟩ := HB.out k
      obtain ⟨t1, t2, t3, t4⟩ := HQ.out _ q0
      have HSET := hid (atTo_set p r (len := n) (k := k) (by omega))
      have HN := hid (show quoL p r (k + 1) = quoL p r k / p from rfl)
      have hc1 := cell_ints (k := .u8) hb.out (i := j) (by rw [atTo_length]; omega)
      have hf1 : wr.frozen? ⟨w.heap.size, j, none⟩ = false := frozen_of_row _ _ _ _ _ hb.out
      have hd0 := Int.ediv_le_self p q0
      have hd1 := Int.ediv_nonneg q0 (show 0 ≤ p by have := HP.out; omega)
      rw [show n - 1 - k = j by omega] at HSET
      generalize (atTo p r n k).getD j 0 = y at *
      generalize quoL p r k = q at *
      have e1 : IntKind.u8.wrap (q.tmod p) = q % p := by rw [t1]; exact IntWalk.u8_in _ (by omega)
      have e2 : IntKind.i64.wrap (q.tdiv p) = q / p := by rw [t2]; exact IntWalk.i64_in _ (by omega)
      have T2 := hid t2
      have e3 : IntKind.i64.wrap ((n : Int) - 1) = (n : Int) - 1 := IntWalk.i64_in _ (by omega)
      have e4 : IntKind.i64.wrap ((n : Int) - 1 - (k : Int)) = (j : Int) := by rw [IntWalk.i64_in _ (by omega)]; omega
      go_wp2_with fail
      go_roundw
      case rel => exact ⟨k + 1, j, by omega, by go_num, by first | rw [HN.out] | rw [HN.out, T2.out], hid (hg.out.setCell (by dsimp only; omega) _), hid (by rw [← HSET.out]; exact heap_int_set hb.out)⟩
      case measure => simp [intOf] <;> omega

end Go.Proofs.Ytojdbeebgllhhab
