/- The greatest number of equal numbers: for whatever numbers of a hoist. -/
import Derived.Test.YtkbdblaciphmnaaHoistG
namespace Go.Proofs.Ytkbdblaciphmnaa
set_option linter.unusedVariables false
open Go.RowKit
/-- At most eight numbers of a hoist. -/
structure NumN (xs : List Int) : Prop where
  len : xs.length ≤ 8
  num : ∀ k, k < xs.length → xs.getD k 0 = -10 ∨ (-4 ≤ xs.getD k 0 ∧ xs.getD k 0 ≤ -1) ∨ (0 ≤ xs.getD k 0 ∧ xs.getD k 0 ≤ 39)
set_option maxRecDepth 100000 in
set_option maxHeartbeats 2000000 in
theorem l02Flags_n (a : Option Addr) (n cap : Nat) (xs : List Int) (hn : n = xs.length) (hv : NumN xs) (w : World) (hs : SliceOf .i8 w a xs) :
    Calls Try.prog 112 #[.slice a n cap] w fun e w' => e = .returned (.agg (kCells .i64 (colL 40 (fun c => (c : Int)) xs n))) ∧ Gr w w' := by
  have S := hid hs
  have HN := hid hn
  have HV := hid hv
  have hm := hv.len
  rw [← hn] at hm
  have HCL := hid (colL_length 40 (fun c => (c : Int)) xs n)
  have z1 := hid (heap_new (w := w.alloc (.cells (kCells .i64 zeros40) 129)) (o := (.cells (kCells .i64 zeros40) 129)) (n := w.heap.size + 1) (by simp))
  have b0 : Hid (((((w.alloc (.cells (kCells .i64 zeros40) 129)).alloc (.cells (kCells .i64 zeros40) 129)).setRow (w.heap.size + 1) (kCells .i64 zeros40))).heap[w.heap.size]? = some (.cells (kCells .i64 zeros40) 129 (0, 0))) := hid (heap_row_kept (by omega) (heap_kept (heap_new rfl)))
  have b1 : Hid (((((w.alloc (.cells (kCells .i64 zeros40) 129)).alloc (.cells (kCells .i64 zeros40) 129)).setRow (w.heap.size + 1) (kCells .i64 zeros40))).heap[w.heap.size + 1]? = some (.cells (kCells .i64 zeros40) 129 (0, 0))) := hid (heap_row_set z1.out)
  have gr : Hid (Gr w ((((w.alloc (.cells (kCells .i64 zeros40) 129)).alloc (.cells (kCells .i64 zeros40) 129)).setRow (w.heap.size + 1) (kCells .i64 zeros40)))) := hid ((((Gr.refl w).alloc _).alloc _).setRow (by omega) _)
  clear hs hn hv
  go_enter Try.func112, Try.ntmps112
  go_wp2_with (first | (refine wpList_build_to rfl 129 rfl builtFlags ?_) | (refine wpList_store_cells rfl 129 _ _ rfl _ (kCells .i64 (zeros40)) (kCells .i64 zeros40) rfl rfl _ 40 z1.out (by kernel_rfl) (by rw [kCells_size]; exact rfl) (by rw [kCells_size]; rfl) (kCells_one _ _) ?_))
  go_loopw [4] (fun i wr => ∃ k : Nat, k ≤ n ∧ i = .int .i64 k ∧ Hid (Gr w wr) ∧ Hid (wr.heap[w.heap.size]? = some (.cells (kCells .i64 zeros40) 129 (0, 0))) ∧ Hid (wr.heap[w.heap.size + 1]? = some (.cells (kCells .i64 (colL 40 (fun c => (c : Int)) xs k)) 129 (0, 0)))) (fun i _ => n - (intOf i).toNat)
  case atStart => exact ⟨0, Nat.zero_le _, rfl, gr, b0, hid (by rw [colL_zero]; exact b1.out)⟩
  case round =>
    clear gr b0 b1 z1
    obtain ⟨k, hk, rfl, gr, b0, b1⟩ := hrel
    by_cases hlt : k < n
    · have hlx : k < xs.length := by rw [← HN.out]; exact hlt
      obtain ⟨b, off, rfl, hc0⟩ := S.out k hlx
      have hc := gr.out.cell hc0
      have hnum := HV.out.num k hlx
      clear hc0 hlx
      rcases hnum with hx | hx | hx
      · have HM := hid (colL_miss (n := 40) (f := (fun c => (c : Int))) (h := xs) (k := k) (fun c _ => by omega))
        rw [hx] at hc
        clear hx
        go_wp2_with fail
        go_roundw
        case rel => exact ⟨k + 1, by omega, by go_num, gr, b0, by rw [HM.out]; exact b1⟩
        case measure => simp [intOf] <;> omega
      · have HM := hid (colL_miss (n := 40) (f := (fun c => (c : Int))) (h := xs) (k := k) (fun c _ => by omega))
        obtain ⟨x0, x1⟩ := hx
        generalize xs.getD k 0 = x at *
        have hx0 : ¬ 0 ≤ x := by omega
        go_wp2_with fail
        go_roundw
        case rel => exact ⟨k + 1, by omega, by go_num, gr, b0, by rw [HM.out]; exact b1⟩
        case measure => simp [intOf] <;> omega
      · obtain ⟨v, hv⟩ : ∃ v : Nat, xs.getD k 0 = (v : Int) := ⟨(xs.getD k 0).toNat, by omega⟩
        have hv40 : v < 40 := by omega
        have HM := hid (colL_hit (n := 40) (f := (fun c => (c : Int))) (h := xs) (k := k) hv40 hv (fun _ _ e => by exact_mod_cast e))
        have hc1 := cell_ints b1.out (i := v) (by rw [colL_length]; exact hv40)
        have hf1 : wr.frozen? ⟨w.heap.size + 1, v, none⟩ = false := frozen_of_row _ _ _ _ _ b1.out
        obtain ⟨y0, y1⟩ := colL_bd 40 (fun c => (c : Int)) xs k v
        rw [hv] at hc
        clear hv hx
        generalize (colL 40 (fun c => (c : Int)) xs k).getD v 0 = y at *
        have hv0 : (0 : Int) ≤ v := by omega
        have hv1 : (v : Int) < 40 := by omega
        go_wp2_with fail
        go_roundw
        case rel => exact ⟨k + 1, by omega, by go_num, hid (gr.out.setCell (by dsimp only; omega) _), hid (heap_stored (by dsimp only; omega) b0.out), hid (by rw [← HM.out]; exact heap_int_set b1.out)⟩
        case measure => simp [intOf] <;> omega
    · have hkn : k = n := by omega
      have H1 : Hid (wr.heap[w.heap.size + 1]? = some (.cells (kCells .i64 (colL 40 (fun c => (c : Int)) xs n)) 129 (0, 0))) := by rw [hkn] at b1; exact b1
      clear b1 hkn
      go_wp2_with (first | (refine wpList_load_cells rfl 129 _ rfl _ rfl _ (kCells .i64 (colL 40 (fun c => (c : Int)) xs n)) _ 40 H1.out Try.underlying129 (by kernel_rfl) (by rw [kCells_size]; exact HCL.out) ?_) | (refine wpList_store_cells rfl 129 _ _ rfl _ (kCells .i64 (colL 40 (fun c => (c : Int)) xs n)) (kCells .i64 zeros40) rfl rfl _ 40 b0.out (by kernel_rfl) (by rw [kCells_size]; exact HCL.out) (by rw [kCells_size]; rfl) (kCells_one _ _) ?_))
      refine bodyPost_ret (results_cells1 (by rfl) _ _ _ _ _ _ _ rfl (heap_row_set b0.out) Try.underlying129 (by kernel_rfl) (by rw [kCells_size]; exact HCL.out)) rfl ⟨rfl, ?_⟩
      exact gr.out.setRow (by omega) _
set_option maxRecDepth 100000 in
set_option maxHeartbeats 2000000 in
theorem l02Subs_n (a : Option Addr) (n cap : Nat) (xs : List Int) (hn : n = xs.length) (hv : NumN xs) (w : World) (hs : SliceOf .i8 w a xs) :
    Calls Try.prog 114 #[.slice a n cap] w fun e w' => e = .returned (.agg (kCells .i64 (colL 4 (fun c => -(c : Int) - 1) xs n))) ∧ Gr w w' := by
  have S := hid hs
  have HN := hid hn
  have HV := hid hv
  have hm := hv.len
  rw [← hn] at hm
  have HCL := hid (colL_length 4 (fun c => -(c : Int) - 1) xs n)
  have z1 := hid (heap_new (w := w.alloc (.cells (kCells .i64 zeros4) 131)) (o := (.cells (kCells .i64 zeros4) 131)) (n := w.heap.size + 1) (by simp))
  have b0 : Hid (((((w.alloc (.cells (kCells .i64 zeros4) 131)).alloc (.cells (kCells .i64 zeros4) 131)).setRow (w.heap.size + 1) (kCells .i64 zeros4))).heap[w.heap.size]? = some (.cells (kCells .i64 zeros4) 131 (0, 0))) := hid (heap_row_kept (by omega) (heap_kept (heap_new rfl)))
  have b1 : Hid (((((w.alloc (.cells (kCells .i64 zeros4) 131)).alloc (.cells (kCells .i64 zeros4) 131)).setRow (w.heap.size + 1) (kCells .i64 zeros4))).heap[w.heap.size + 1]? = some (.cells (kCells .i64 zeros4) 131 (0, 0))) := hid (heap_row_set z1.out)
  have gr : Hid (Gr w ((((w.alloc (.cells (kCells .i64 zeros4) 131)).alloc (.cells (kCells .i64 zeros4) 131)).setRow (w.heap.size + 1) (kCells .i64 zeros4)))) := hid ((((Gr.refl w).alloc _).alloc _).setRow (by omega) _)
  clear hs hn hv
  go_enter Try.func114, Try.ntmps114
  go_wp2_with (first | (refine wpList_build_to rfl 131 rfl builtSubs ?_) | (refine wpList_store_cells rfl 131 _ _ rfl _ (kCells .i64 (zeros4)) (kCells .i64 zeros4) rfl rfl _ 4 z1.out (by kernel_rfl) (by rw [kCells_size]; exact rfl) (by rw [kCells_size]; rfl) (kCells_one _ _) ?_))
  go_loopw [4] (fun i wr => ∃ k : Nat, k ≤ n ∧ i = .int .i64 k ∧ Hid (Gr w wr) ∧ Hid (wr.heap[w.heap.size]? = some (.cells (kCells .i64 zeros4) 131 (0, 0))) ∧ Hid (wr.heap[w.heap.size + 1]? = some (.cells (kCells .i64 (colL 4 (fun c => -(c : Int) - 1) xs k)) 131 (0, 0)))) (fun i _ => n - (intOf i).toNat)
  case atStart => exact ⟨0, Nat.zero_le _, rfl, gr, b0, hid (by rw [colL_zero]; exact b1.out)⟩
  case round =>
    clear gr b0 b1 z1
    obtain ⟨k, hk, rfl, gr, b0, b1⟩ := hrel
    by_cases hlt : k < n
    · have hlx : k < xs.length := by rw [← HN.out]; exact hlt
      obtain ⟨b, off, rfl, hc0⟩ := S.out k hlx
      have hc := gr.out.cell hc0
      have hnum := HV.out.num k hlx
      clear hc0 hlx
      rcases hnum with hx | hx | hx
      · have HM := hid (colL_miss (n := 4) (f := (fun c => -(c : Int) - 1)) (h := xs) (k := k) (fun c _ => by omega))
        rw [hx] at hc
        clear hx
        go_wp2_with fail
        go_roundw
        case rel => exact ⟨k + 1, by omega, by go_num, gr, b0, by rw [HM.out]; exact b1⟩
        case measure => simp [intOf] <;> omega
      · obtain ⟨v, hv⟩ : ∃ v : Nat, xs.getD k 0 = -(v : Int) - 1 := ⟨(-(xs.getD k 0)).toNat - 1, by omega⟩
        have hv4 : v < 4 := by omega
        have HM := hid (colL_hit (n := 4) (f := (fun c => -(c : Int) - 1)) (h := xs) (k := k) hv4 hv (fun _ _ e => by omega))
        have hc1 := cell_ints b1.out (i := v) (by rw [colL_length]; exact hv4)
        have hf1 : wr.frozen? ⟨w.heap.size + 1, v, none⟩ = false := frozen_of_row _ _ _ _ _ b1.out
        obtain ⟨y0, y1⟩ := colL_bd 4 (fun c => -(c : Int) - 1) xs k v
        rw [hv] at hc
        clear hv hx
        generalize (colL 4 (fun c => -(c : Int) - 1) xs k).getD v 0 = y at *
        have hv0 : (0 : Int) ≤ v := by omega
        have hv1 : (v : Int) < 4 := by omega
        have hb1 : (-(v : Int) - 1 == -10) = false := by rw [beq_eq_false_iff_ne]; omega
        have hb2 : (-(v : Int) - 1 != -10) = true := by rw [bne_iff_ne]; omega
        have hn0 : -(v : Int) - 1 < 0 := by omega
        have e1 : IntKind.i8.wrap (-(-(v : Int) - 1)) = (v : Int) + 1 := by rw [IntWalk.i8_in _ (by omega)]; omega
        have e2 : IntKind.i8.wrap ((v : Int) + 1 - 1) = (v : Int) := by rw [IntWalk.i8_in _ (by omega)]; omega
        have e3 : IntKind.i8.wrap (v : Int) = (v : Int) := IntWalk.i8_in _ (by omega)
        go_wp2_with fail
        clear e1 e2 e3
        go_roundw
        case rel => exact ⟨k + 1, by omega, by go_num, hid (gr.out.setCell (by dsimp only; omega) _), hid (heap_stored (by dsimp only; omega) b0.out), hid (by rw [← HM.out]; exact heap_int_set b1.out)⟩
        case measure => simp [intOf] <;> omega
      · have HM := hid (colL_miss (n := 4) (f := (fun c => -(c : Int) - 1)) (h := xs) (k := k) (fun c _ => by omega))
        obtain ⟨x0, x1⟩ := hx
        generalize xs.getD k 0 = x at *
        have hx0 : ¬ x < 0 := by omega
        go_wp2_with fail
        go_roundw
        case rel => exact ⟨k + 1, by omega, by go_num, gr, b0, by rw [HM.out]; exact b1⟩
        case measure => simp [intOf] <;> omega
    · have hkn : k = n := by omega
      have H1 : Hid (wr.heap[w.heap.size + 1]? = some (.cells (kCells .i64 (colL 4 (fun c => -(c : Int) - 1) xs n)) 131 (0, 0))) := by rw [hkn] at b1; exact b1
      clear b1 hkn
      go_wp2_with (first | (refine wpList_load_cells rfl 131 _ rfl _ rfl _ (kCells .i64 (colL 4 (fun c => -(c : Int) - 1) xs n)) _ 4 H1.out Try.underlying131 (by kernel_rfl) (by rw [kCells_size]; exact HCL.out) ?_) | (refine wpList_store_cells rfl 131 _ _ rfl _ (kCells .i64 (colL 4 (fun c => -(c : Int) - 1) xs n)) (kCells .i64 zeros4) rfl rfl _ 4 b0.out (by kernel_rfl) (by rw [kCells_size]; exact HCL.out) (by rw [kCells_size]; rfl) (kCells_one _ _) ?_))
      refine bodyPost_ret (results_cells1 (by rfl) _ _ _ _ _ _ _ rfl (heap_row_set b0.out) Try.underlying131 (by kernel_rfl) (by rw [kCells_size]; exact HCL.out)) rfl ⟨rfl, ?_⟩
      exact gr.out.setRow (by omega) _
theorem sets_eqn {xs : List Int} (hv : NumN xs) : maxFrom (maxFrom 0 (flgC xs xs.length) 40) (subC xs xs.length) 4 = setsTo xs xs.length xs.length := by
  have hz : ∀ c : Int, ¬ c = -10 → occ xs c xs.length ≤ setsTo xs xs.length xs.length := by
    intro c hc
    by_cases hi : ∃ i, i < xs.length ∧ xs.getD i 0 = c
    · obtain ⟨i, hi, rfl⟩ := hi
      exact (setsTo_le.1 (Int.le_refl (setsTo xs xs.length xs.length))).2 i hi hc
    · rw [occ_zero (fun i hi' e => hi ⟨i, hi', e⟩)]
      exact (setsTo_bd xs xs.length xs.length).1
  apply Int.le_antisymm
  · refine maxFrom_le.2 ⟨maxFrom_le.2 ⟨(setsTo_bd xs xs.length xs.length).1, fun c _ => hz _ (by omega)⟩, fun c _ => hz _ (by omega)⟩
  · obtain ⟨h1, h2⟩ := (maxFrom_le (m := maxFrom 0 (flgC xs xs.length) 40) (f := subC xs xs.length) (k := 4)).1 (Int.le_refl _)
    obtain ⟨h3, h4⟩ := maxFrom_le.1 h1
    refine setsTo_le.2 ⟨h3, fun i hi hne => ?_⟩
    rcases hv.num i hi with h | h | h
    · exact absurd h hne
    · have := h2 ((-(xs.getD i 0)).toNat - 1) (by omega)
      unfold subC at this
      rw [show -(((-(xs.getD i 0)).toNat - 1 : Nat) : Int) - 1 = xs.getD i 0 by omega] at this
      exact this
    · have := h4 (xs.getD i 0).toNat (by omega)
      unfold flgC at this
      rw [show (((xs.getD i 0).toNat : Nat) : Int) = xs.getD i 0 by omega] at this
      exact this
set_option maxRecDepth 100000 in
set_option maxHeartbeats 2000000 in
theorem l02Sets_n (a : Option Addr) (n cap : Nat) (xs : List Int) (hn : n = xs.length) (hv : NumN xs) (w : World) (hs : SliceOf .i8 w a xs) :
    Calls Try.prog 108 #[.slice a n cap] w fun e w' => e = .returned (.int .i64 (setsTo xs n n)) ∧ Gr w w' := by
  have h1 := hid (l02Flags_n a n cap xs hn hv w hs)
  have h2 := hid (fun (W : World) (g : Gr w W) => l02Subs_n a n cap xs hn hv W (hs.gr g))
  have HE := hid (show maxFrom (maxFrom 0 (flgC xs n) 40) (subC xs n) 4 = setsTo xs n n by rw [hn]; exact sets_eqn hv)
  have hm := hv.len
  rw [← hn] at hm
  have HF := hid (colL_length 40 (fun c => (c : Int)) xs n)
  have HS := hid (colL_length 4 (fun c => -(c : Int) - 1) xs n)
  have HB := hid (fun i => occ_bd xs i n)
  clear hs hn hv
  go_enter Try.func108, Try.ntmps108
  go_wp2_with fail
  refine h1.out.mono ?_
  rintro e w1 ⟨rfl, g⟩
  have z1 := hid (heap_new (w := w1) (o := (.cells (kCells .i64 zeros40) 129)) rfl)
  have b1 := hid (heap_row_set (cs := kCells .i64 (colL 40 (fun c => (c : Int)) xs n)) z1.out)
  have gl := ((Gr.refl w1).alloc (.cells (kCells .i64 zeros40) 129)).setRow (Nat.le_refl _) (kCells .i64 (colL 40 (fun c => (c : Int)) xs n))
  have gr := hid (g.trans gl)
  clear g gl h1
  go_wp2_with (refine wpList_store_cells rfl 129 _ _ rfl _ (kCells .i64 (colL 40 (fun c => (c : Int)) xs n)) (kCells .i64 zeros40) rfl rfl _ 40 z1.out (by kernel_rfl) (by rw [kCells_size]; exact HF.out) (by rw [kCells_size]; rfl) (kCells_one _ _) ?_)
  clear z1
  generalize hz : w1.heap.size = z1 at *
  clear hz
  go_loopw [3, 5] (fun q i wr => ∃ k : Nat, k ≤ 40 ∧ i = .int .i64 k ∧ q = .int .i64 (maxFrom 0 (flgC xs n) k) ∧ Hid (Gr w wr) ∧ Hid (wr.heap[z1]? = some (.cells (kCells .i64 (colL 40 (fun c => (c : Int)) xs n)) 129 (0, 0)))) (fun _ i _ => 40 - (intOf i).toNat)
  case atStart => exact ⟨0, Nat.zero_le _, rfl, rfl, gr, b1⟩
  case round =>
    clear gr b1
    obtain ⟨k, hk, rfl, rfl, gr, b1⟩ := hrel
    by_cases hlt : k < 40
    · have hc := cell_ints b1.out (i := k) (by rw [HF.out]; exact hlt)
      rw [colF_get hlt] at hc
      have HST := hid (maxFrom_step 0 (flgC xs n) k)
      generalize maxFrom 0 (flgC xs n) k = m at *
      generalize flgC xs n k = q at *
      go_wp2_with (go_at_call 113; refine (l00Max_any _ _ _).mono ?_; rintro e w' ⟨rfl, rfl⟩)
      go_roundw
      case rel => exact ⟨k + 1, by omega, by go_num, by rw [HST.out], gr, b1⟩
      case measure => simp [intOf] <;> omega
    · have hk40 : k = 40 := by omega
      have hmm : maxFrom 0 (flgC xs n) k = maxFrom 0 (flgC xs n) 40 := by rw [hk40]
      rw [hmm]
      clear hmm hk40
      go_wp2_with fail
      refine (h2.out _ gr.out).mono ?_
      rintro e w2 ⟨rfl, g⟩
      have z2 := hid (heap_new (w := w2) (o := (.cells (kCells .i64 zeros4) 131)) rfl)
      have b2 := hid (heap_row_set (cs := kCells .i64 (colL 4 (fun c => -(c : Int) - 1) xs n)) z2.out)
      have gl := ((Gr.refl w2).alloc (.cells (kCells .i64 zeros4) 131)).setRow (Nat.le_refl _) (kCells .i64 (colL 4 (fun c => -(c : Int) - 1) xs n))
      have gr2 := hid ((gr.out.trans g).trans gl)
      clear g gl h2 b1 gr hlt hk
      generalize hm40 : maxFrom 0 (flgC xs n) 40 = m40 at *
      clear hm40
      go_wp2_with (refine wpList_store_cells rfl 131 _ _ rfl _ (kCells .i64 (colL 4 (fun c => -(c : Int) - 1) xs n)) (kCells .i64 zeros4) rfl rfl _ 4 z2.out (by kernel_rfl) (by rw [kCells_size]; exact HS.out) (by rw [kCells_size]; rfl) (kCells_one _ _) ?_)
      clear z2
      generalize hz : w2.heap.size = z2 at *
      clear hz
      go_loopw [3, 7] (fun q i wr => ∃ k : Nat, k ≤ 4 ∧ i = .int .i64 k ∧ q = .int .i64 (maxFrom m40 (subC xs n) k) ∧ Hid (Gr w wr) ∧ Hid (wr.heap[z2]? = some (.cells (kCells .i64 (colL 4 (fun c => -(c : Int) - 1) xs n)) 131 (0, 0)))) (fun _ i _ => 4 - (intOf i).toNat)
      case atStart => exact ⟨0, Nat.zero_le _, rfl, rfl, gr2, b2⟩
      case round =>
        clear gr2 b2
        obtain ⟨j, hj, rfl, rfl, gr2, b2⟩ := hrel
        by_cases hlt : j < 4
        · have hc := cell_ints b2.out (i := j) (by rw [HS.out]; exact hlt)
          rw [colS_get hlt] at hc
          have HST := hid (maxFrom_step m40 (subC xs n) j)
          generalize maxFrom m40 (subC xs n) j = m at *
          generalize subC xs n j = q at *
          go_wp2_with (go_at_call 113; refine (l00Max_any _ _ _).mono ?_; rintro e w' ⟨rfl, rfl⟩)
          go_roundw
          case rel => exact ⟨j + 1, by omega, by go_num, by rw [HST.out], gr2, b2⟩
          case measure => simp [intOf] <;> omega
        · have hj4 : j = 4 := by omega
          have hmm : maxFrom m40 (subC xs n) j = setsTo xs n n := by rw [hj4]; exact HE.out
          rw [hmm]
          clear hmm hj4
          go_wp2_with fail
          go_ret
          exact ⟨rfl, gr2.out⟩
end Go.Proofs.Ytkbdblaciphmnaa
