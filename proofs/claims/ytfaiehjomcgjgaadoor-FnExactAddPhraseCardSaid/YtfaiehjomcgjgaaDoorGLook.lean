/- The greatest number of equal numbers: for whatever numbers of a hoist. -/
import Derived.Test.YtfaiehjomcgjgaaDoorGHst
import Derived.Deep.AppendLies
namespace Go.Proofs.YtfaiehjomcgjgaaDoor
set_option linter.unusedVariables false
open Go.RowKit
/-- At most eight numbers of a hoist. -/
structure NumN (xs : List Int) : Prop where
  len : xs.length ≤ 8
  num : ∀ k, k < xs.length → xs.getD k 0 = -10 ∨ (-4 ≤ xs.getD k 0 ∧ xs.getD k 0 ≤ -1) ∨ (0 ≤ xs.getD k 0 ∧ xs.getD k 0 ≤ 39)
set_option maxRecDepth 100000 in
set_option maxHeartbeats 2000000 in
theorem l02Flags_n (a : Option Addr) (n cap : Nat) (xs : List Int) (hn : n = xs.length) (hv : NumN xs) (w : World) (hs : SliceOf .i8 w a xs) :
    Calls Tryd.prog 111 #[.slice a n cap] w fun e w' => e = .returned (.agg (kCells .i64 (colL 40 (fun c => (c : Int)) xs n))) ∧ Gr w w' := by
  have S := hid hs
  have HN := hid hn
  have HV := hid hv
  have hm := hv.len
  rw [← hn] at hm
  have HCL := hid (colL_length 40 (fun c => (c : Int)) xs n)
  have z1 := hid (heap_new (w := w.alloc (.cells (kCells .i64 zeros40) 154)) (o := (.cells (kCells .i64 zeros40) 154)) (n := w.heap.size + 1) (by simp))
  have b0 : Hid (((((w.alloc (.cells (kCells .i64 zeros40) 154)).alloc (.cells (kCells .i64 zeros40) 154)).setRow (w.heap.size + 1) (kCells .i64 zeros40))).heap[w.heap.size]? = some (.cells (kCells .i64 zeros40) 154 (0, 0))) := hid (heap_row_kept (by omega) (heap_kept (heap_new rfl)))
  have b1 : Hid (((((w.alloc (.cells (kCells .i64 zeros40) 154)).alloc (.cells (kCells .i64 zeros40) 154)).setRow (w.heap.size + 1) (kCells .i64 zeros40))).heap[w.heap.size + 1]? = some (.cells (kCells .i64 zeros40) 154 (0, 0))) := hid (heap_row_set z1.out)
  have gr : Hid (Gr w ((((w.alloc (.cells (kCells .i64 zeros40) 154)).alloc (.cells (kCells .i64 zeros40) 154)).setRow (w.heap.size + 1) (kCells .i64 zeros40)))) := hid ((((Gr.refl w).alloc _).alloc _).setRow (by omega) _)
  clear hs hn hv
  go_enter Tryd.func111, Tryd.ntmps111
  go_wp2_with (first | (refine wpList_build_to rfl 154 rfl builtFlags ?_) | (refine wpList_store_cells rfl 154 _ _ rfl _ (kCells .i64 (zeros40)) (kCells .i64 zeros40) rfl rfl _ 40 z1.out (by kernel_rfl) (by rw [kCells_size]; exact rfl) (by rw [kCells_size]; rfl) (kCells_one _ _) ?_))
  go_loopw [4] (fun i wr => ∃ k : Nat, k ≤ n ∧ i = .int .i64 k ∧ Hid (Gr w wr) ∧ Hid (wr.heap[w.heap.size]? = some (.cells (kCells .i64 zeros40) 154 (0, 0))) ∧ Hid (wr.heap[w.heap.size + 1]? = some (.cells (kCells .i64 (colL 40 (fun c => (c : Int)) xs k)) 154 (0, 0)))) (fun i _ => n - (intOf i).toNat)
  case atStart => exact ⟨0, Nat.zero_le _, rfl, gr, b0, hid (by rw [colL_zero]; exact b1.out)⟩
  case round =>
    clear gr b0 b1 z1
    obtain ⟨k, hk, rfl, gr, b0, b1⟩ := hrel
    by_cases hlt : k < n
    · have hlx : k < xs.length := by rw [← HN.out]; exact hlt
      obtain ⟨b, off, rfl, hc0⟩ := S.out k hlx
      have hc := gr.out.cell hc0
      have hnum := HV.out.num k hlx
      clear hc0 hlx
      rcases hnum with hx | hx | hx
      · have HM := hid (colL_miss (n := 40) (f := (fun c => (c : Int))) (h := xs) (k := k) (fun c _ => by omega))
        rw [hx] at hc
        clear hx
        go_wp2_with fail
        go_roundw
        case rel => exact ⟨k + 1, by omega, by go_num, gr, b0, by rw [HM.out]; exact b1⟩
        case measure => simp [intOf] <;> omega
      · have HM := hid (colL_miss (n := 40) (f := (fun c => (c : Int))) (h := xs) (k := k) (fun c _ => by omega))
        obtain ⟨x0, x1⟩ := hx
        generalize xs.getD k 0 = x at *
        have hx0 : ¬ 0 ≤ x := by omega
        go_wp2_with fail
        go_roundw
        case rel => exact ⟨k + 1, by omega, by go_num, gr, b0, by rw [HM.out]; exact b1⟩
        case measure => simp [intOf] <;> omega
      · obtain ⟨v, hv⟩ : ∃ v : Nat, xs.getD k 0 = (v : Int) := ⟨(xs.getD k 0).toNat, by omega⟩
        have hv40 : v < 40 := by omega
        have HM := hid (colL_hit (n := 40) (f := (fun c => (c : Int))) (h := xs) (k := k) hv40 hv (fun _ _ e => by exact_mod_cast e))
        have hc1 := cell_ints b1.out (i := v) (by rw [colL_length]; exact hv40)
        have hf1 : wr.frozen? ⟨w.heap.size + 1, v, none⟩ = false := frozen_of_row _ _ _ _ _ b1.out
        obtain ⟨y0, y1⟩ := colL_bd 40 (fun c => (c : Int)) xs k v
        rw [hv] at hc
        clear hv hx
        generalize (colL 40 (fun c => (c : Int)) xs k).getD v 0 = y at *
        have hv0 : (0 : Int) ≤ v := by omega
        have hv1 : (v : Int) < 40 := by omega
        go_wp2_with fail
        go_roundw
        case rel => exact ⟨k + 1, by omega, by go_num, hid (gr.out.setCell (by dsimp only; omega) _), hid (heap_stored (by dsimp only; omega) b0.out), hid (by rw [← HM.out]; exact heap_int_set b1.out)⟩
        case measure => simp [intOf] <;> omega
    · have hkn : k = n := by omega
      have H1 : Hid (wr.heap[w.heap.size + 1]? = some (.cells (kCells .i64 (colL 40 (fun c => (c : Int)) xs n)) 154 (0, 0))) := by rw [hkn] at b1; exact b1
      clear b1 hkn
      go_wp2_with (first | (refine wpList_load_cells rfl 154 _ rfl _ rfl _ (kCells .i64 (colL 40 (fun c => (c : Int)) xs n)) _ 40 H1.out Tryd.underlying154 (by kernel_rfl) (by rw [kCells_size]; exact HCL.out) ?_) | (refine wpList_store_cells rfl 154 _ _ rfl _ (kCells .i64 (colL 40 (fun c => (c : Int)) xs n)) (kCells .i64 zeros40) rfl rfl _ 40 b0.out (by kernel_rfl) (by rw [kCells_size]; exact HCL.out) (by rw [kCells_size]; rfl) (kCells_one _ _) ?_))
      refine bodyPost_ret (results_cells1 (by rfl) _ _ _ _ _ _ _ rfl (heap_row_set b0.out) Tryd.underlying154 (by kernel_rfl) (by rw [kCells_size]; exact HCL.out)) rfl ⟨rfl, ?_⟩
      exact gr.out.setRow (by omega) _
set_option maxRecDepth 100000 in
set_option maxHeartbeats 2000000 in
theorem l02Subs_n (a : Option Addr) (n cap : Nat) (xs : List Int) (hn : n = xs.length) (hv : NumN xs) (w : World) (hs : SliceOf .i8 w a xs) :
    Calls Tryd.prog 113 #[.slice a n cap] w fun e w' => e = .returned (.agg (kCells .i64 (colL 4 (fun c => -(c : Int) - 1) xs n))) ∧ Gr w w' := by
  have S := hid hs
  have HN := hid hn
  have HV := hid hv
  have hm := hv.len
  rw [← hn] at hm
  have HCL := hid (colL_length 4 (fun c => -(c : Int) - 1) xs n)
  have z1 := hid (heap_new (w := w.alloc (.cells (kCells .i64 zeros4) 156)) (o := (.cells (kCells .i64 zeros4) 156)) (n := w.heap.size + 1) (by simp))
  have b0 : Hid (((((w.alloc (.cells (kCells .i64 zeros4) 156)).alloc (.cells (kCells .i64 zeros4) 156)).setRow (w.heap.size + 1) (kCells .i64 zeros4))).heap[w.heap.size]? = some (.cells (kCells .i64 zeros4) 156 (0, 0))) := hid (heap_row_kept (by omega) (heap_kept (heap_new rfl)))
  have b1 : Hid (((((w.alloc (.cells (kCells .i64 zeros4) 156)).alloc (.cells (kCells .i64 zeros4) 156)).setRow (w.heap.size + 1) (kCells .i64 zeros4))).heap[w.heap.size + 1]? = some (.cells (kCells .i64 zeros4) 156 (0, 0))) := hid (heap_row_set z1.out)
  have gr : Hid (Gr w ((((w.alloc (.cells (kCells .i64 zeros4) 156)).alloc (.cells (kCells .i64 zeros4) 156)).setRow (w.heap.size + 1) (kCells .i64 zeros4)))) := hid ((((Gr.refl w).alloc _).alloc _).setRow (by omega) _)
  clear hs hn hv
  go_enter Tryd.func113, Tryd.ntmps113
  go_wp2_with (first | (refine wpList_build_to rfl 156 rfl builtSubs ?_) | (refine wpList_store_cells rfl 156 _ _ rfl _ (kCells .i64 (zeros4)) (kCells .i64 zeros4) rfl rfl _ 4 z1.out (by kernel_rfl) (by rw [kCells_size]; exact rfl) (by rw [kCells_size]; rfl) (kCells_one _ _) ?_))
  go_loopw [4] (fun i wr => ∃ k : Nat, k ≤ n ∧ i = .int .i64 k ∧ Hid (Gr w wr) ∧ Hid (wr.heap[w.heap.size]? = some (.cells (kCells .i64 zeros4) 156 (0, 0))) ∧ Hid (wr.heap[w.heap.size + 1]? = some (.cells (kCells .i64 (colL 4 (fun c => -(c : Int) - 1) xs k)) 156 (0, 0)))) (fun i _ => n - (intOf i).toNat)
  case atStart => exact ⟨0, Nat.zero_le _, rfl, gr, b0, hid (by rw [colL_zero]; exact b1.out)⟩
  case round =>
    clear gr b0 b1 z1
    obtain ⟨k, hk, rfl, gr, b0, b1⟩ := hrel
    by_cases hlt : k < n
    · have hlx : k < xs.length := by rw [← HN.out]; exact hlt
      obtain ⟨b, off, rfl, hc0⟩ := S.out k hlx
      have hc := gr.out.cell hc0
      have hnum := HV.out.num k hlx
      clear hc0 hlx
      rcases hnum with hx | hx | hx
      · have HM := hid (colL_miss (n := 4) (f := (fun c => -(c : Int) - 1)) (h := xs) (k := k) (fun c _ => by omega))
        rw [hx] at hc
        clear hx
        go_wp2_with fail
        go_roundw
        case rel => exact ⟨k + 1, by omega, by go_num, gr, b0, by rw [HM.out]; exact b1⟩
        case measure => simp [intOf] <;> omega
      · obtain ⟨v, hv⟩ : ∃ v : Nat, xs.getD k 0 = -(v : Int) - 1 := ⟨(-(xs.getD k 0)).toNat - 1, by omega⟩
        have hv4 : v < 4 := by omega
        have HM := hid (colL_hit (n := 4) (f := (fun c => -(c : Int) - 1)) (h := xs) (k := k) hv4 hv (fun _ _ e => by omega))
        have hc1 := cell_ints b1.out (i := v) (by rw [colL_length]; exact hv4)
        have hf1 : wr.frozen? ⟨w.heap.size + 1, v, none⟩ = false := frozen_of_row _ _ _ _ _ b1.out
        obtain ⟨y0, y1⟩ := colL_bd 4 (fun c => -(c : Int) - 1) xs k v
        rw [hv] at hc
        clear hv hx
        generalize (colL 4 (fun c => -(c : Int) - 1) xs k).getD v 0 = y at *
        have hv0 : (0 : Int) ≤ v := by omega
        have hv1 : (v : Int) < 4 := by omega
        have hb1 : (-(v : Int) - 1 == -10) = false := by rw [beq_eq_false_iff_ne]; omega
        have hb2 : (-(v : Int) - 1 != -10) = true := by rw [bne_iff_ne]; omega
        have hn0 : -(v : Int) - 1 < 0 := by omega
        have e1 : IntKind.i8.wrap (-(-(v : Int) - 1)) = (v : Int) + 1 := by rw [IntWalk.i8_in _ (by omega)]; omega
        have e2 : IntKind.i8.wrap ((v : Int) + 1 - 1) = (v : Int) := by rw [IntWalk.i8_in _ (by omega)]; omega
        have e3 : IntKind.i8.wrap (v : Int) = (v : Int) := IntWalk.i8_in _ (by omega)
        go_wp2_with fail
        clear e1 e2 e3
        go_roundw
        case rel => exact ⟨k + 1, by omega, by go_num, hid (gr.out.setCell (by dsimp only; omega) _), hid (heap_stored (by dsimp only; omega) b0.out), hid (by rw [← HM.out]; exact heap_int_set b1.out)⟩
        case measure => simp [intOf] <;> omega
      · have HM := hid (colL_miss (n := 4) (f := (fun c => -(c : Int) - 1)) (h := xs) (k := k) (fun c _ => by omega))
        obtain ⟨x0, x1⟩ := hx
        generalize xs.getD k 0 = x at *
        have hx0 : ¬ x < 0 := by omega
        go_wp2_with fail
        go_roundw
        case rel => exact ⟨k + 1, by omega, by go_num, gr, b0, by rw [HM.out]; exact b1⟩
        case measure => simp [intOf] <;> omega
    · have hkn : k = n := by omega
      have H1 : Hid (wr.heap[w.heap.size + 1]? = some (.cells (kCells .i64 (colL 4 (fun c => -(c : Int) - 1) xs n)) 156 (0, 0))) := by rw [hkn] at b1; exact b1
      clear b1 hkn
      go_wp2_with (first | (refine wpList_load_cells rfl 156 _ rfl _ rfl _ (kCells .i64 (colL 4 (fun c => -(c : Int) - 1) xs n)) _ 4 H1.out Tryd.underlying156 (by kernel_rfl) (by rw [kCells_size]; exact HCL.out) ?_) | (refine wpList_store_cells rfl 156 _ _ rfl _ (kCells .i64 (colL 4 (fun c => -(c : Int) - 1) xs n)) (kCells .i64 zeros4) rfl rfl _ 4 b0.out (by kernel_rfl) (by rw [kCells_size]; exact HCL.out) (by rw [kCells_size]; rfl) (kCells_one _ _) ?_))
      refine bodyPost_ret (results_cells1 (by rfl) _ _ _ _ _ _ _ rfl (heap_row_set b0.out) Tryd.underlying156 (by kernel_rfl) (by rw [kCells_size]; exact HCL.out)) rfl ⟨rfl, ?_⟩
      exact gr.out.setRow (by omega) _
theorem sets_eqn {xs : List Int} (hv : NumN xs) : maxFrom (maxFrom 0 (flgC xs xs.length) 40) (subC xs xs.length) 4 = setsTo xs xs.length xs.length := by
  have hz : ∀ c : Int, ¬ c = -10 → occ xs c xs.length ≤ setsTo xs xs.length xs.length := by
    intro c hc
    by_cases hi : ∃ i, i < xs.length ∧ xs.getD i 0 = c
    · obtain ⟨i, hi, rfl⟩ := hi
      exact (setsTo_le.1 (Int.le_refl (setsTo xs xs.length xs.length))).2 i hi hc
    · rw [occ_zero (fun i hi' e => hi ⟨i, hi', e⟩)]
      exact (setsTo_bd xs xs.length xs.length).1
  apply Int.le_antisymm
  · refine maxFrom_le.2 ⟨maxFrom_le.2 ⟨(setsTo_bd xs xs.length xs.length).1, fun c _ => hz _ (by omega)⟩, fun c _ => hz _ (by omega)⟩
  · obtain ⟨h1, h2⟩ := (maxFrom_le (m := maxFrom 0 (flgC xs xs.length) 40) (f := subC xs xs.length) (k := 4)).1 (Int.le_refl _)
    obtain ⟨h3, h4⟩ := maxFrom_le.1 h1
    refine setsTo_le.2 ⟨h3, fun i hi hne => ?_⟩
    rcases hv.num i hi with h | h | h
    · exact absurd h hne
    · have := h2 ((-(xs.getD i 0)).toNat - 1) (by omega)
      unfold subC at this
      rw [show -(((-(xs.getD i 0)).toNat - 1 : Nat) : Int) - 1 = xs.getD i 0 by omega] at this
      exact this
    · have := h4 (xs.getD i 0).toNat (by omega)
      unfold flgC at this
      rw [show (((xs.getD i 0).toNat : Nat) : Int) = xs.getD i 0 by omega] at this
      exact this
set_option maxRecDepth 100000 in
set_option maxHeartbeats 2000000 in
theorem l02Sets_n (a : Option Addr) (n cap : Nat) (xs : List Int) (hn : n = xs.length) (hv : NumN xs) (w : World) (hs : SliceOf .i8 w a xs) :
    Calls Tryd.prog 99 #[.slice a n cap] w fun e w' => e = .returned (.int .i64 (setsTo xs n n)) ∧ Gr w w' := by
  have h1 := hid (l02Flags_n a n cap xs hn hv w hs)
  have h2 := hid (fun (W : World) (g : Gr w W) => l02Subs_n a n cap xs hn hv W (hs.gr g))
  have HE := hid (show maxFrom (maxFrom 0 (flgC xs n) 40) (subC xs n) 4 = setsTo xs n n by rw [hn]; exact sets_eqn hv)
  have hm := hv.len
  rw [← hn] at hm
  have HF := hid (colL_length 40 (fun c => (c : Int)) xs n)
  have HS := hid (colL_length 4 (fun c => -(c : Int) - 1) xs n)
  have HB := hid (fun i => occ_bd xs i n)
  clear hs hn hv
  go_enter Tryd.func99, Tryd.ntmps99
  go_wp2_with fail
  refine h1.out.mono ?_
  rintro e w1 ⟨rfl, g⟩
  have z1 := hid (heap_new (w := w1) (o := (.cells (kCells .i64 zeros40) 154)) rfl)
  have b1 := hid (heap_row_set (cs := kCells .i64 (colL 40 (fun c => (c : Int)) xs n)) z1.out)
  have gl := ((Gr.refl w1).alloc (.cells (kCells .i64 zeros40) 154)).setRow (Nat.le_refl _) (kCells .i64 (colL 40 (fun c => (c : Int)) xs n))
  have gr := hid (g.trans gl)
  clear g gl h1
  go_wp2_with (refine wpList_store_cells rfl 154 _ _ rfl _ (kCells .i64 (colL 40 (fun c => (c : Int)) xs n)) (kCells .i64 zeros40) rfl rfl _ 40 z1.out (by kernel_rfl) (by rw [kCells_size]; exact HF.out) (by rw [kCells_size]; rfl) (kCells_one _ _) ?_)
  clear z1
  generalize hz : w1.heap.size = z1 at *
  clear hz
  go_loopw [3, 5] (fun q i wr => ∃ k : Nat, k ≤ 40 ∧ i = .int .i64 k ∧ q = .int .i64 (maxFrom 0 (flgC xs n) k) ∧ Hid (Gr w wr) ∧ Hid (wr.heap[z1]? = some (.cells (kCells .i64 (colL 40 (fun c => (c : Int)) xs n)) 154 (0, 0)))) (fun _ i _ => 40 - (intOf i).toNat)
  case atStart => exact ⟨0, Nat.zero_le _, rfl, rfl, gr, b1⟩
  case round =>
    clear gr b1
    obtain ⟨k, hk, rfl, rfl, gr, b1⟩ := hrel
    by_cases hlt : k < 40
    · have hc := cell_ints b1.out (i := k) (by rw [HF.out]; exact hlt)
      rw [colF_get hlt] at hc
      have HST := hid (maxFrom_step 0 (flgC xs n) k)
      generalize maxFrom 0 (flgC xs n) k = m at *
      generalize flgC xs n k = q at *
      go_wp2_with (go_at_call 112; refine (l00Max_any _ _ _).mono ?_; rintro e w' ⟨rfl, rfl⟩)
      go_roundw
      case rel => exact ⟨k + 1, by omega, by go_num, by rw [HST.out], gr, b1⟩
      case measure => simp [intOf] <;> omega
    · have hk40 : k = 40 := by omega
      have hmm : maxFrom 0 (flgC xs n) k = maxFrom 0 (flgC xs n) 40 := by rw [hk40]
      rw [hmm]
      clear hmm hk40
      go_wp2_with fail
      refine (h2.out _ gr.out).mono ?_
      rintro e w2 ⟨rfl, g⟩
      have z2 := hid (heap_new (w := w2) (o := (.cells (kCells .i64 zeros4) 156)) rfl)
      have b2 := hid (heap_row_set (cs := kCells .i64 (colL 4 (fun c => -(c : Int) - 1) xs n)) z2.out)
      have gl := ((Gr.refl w2).alloc (.cells (kCells .i64 zeros4) 156)).setRow (Nat.le_refl _) (kCells .i64 (colL 4 (fun c => -(c : Int) - 1) xs n))
      have gr2 := hid ((gr.out.trans g).trans gl)
      clear g gl h2 b1 gr hlt hk
      generalize hm40 : maxFrom 0 (flgC xs n) 40 = m40 at *
      clear hm40
      go_wp2_with (refine wpList_store_cells rfl 156 _ _ rfl _ (kCells .i64 (colL 4 (fun c => -(c : Int) - 1) xs n)) (kCells .i64 zeros4) rfl rfl _ 4 z2.out (by kernel_rfl) (by rw [kCells_size]; exact HS.out) (by rw [kCells_size]; rfl) (kCells_one _ _) ?_)
      clear z2
      generalize hz : w2.heap.size = z2 at *
      clear hz
      go_loopw [3, 7] (fun q i wr => ∃ k : Nat, k ≤ 4 ∧ i = .int .i64 k ∧ q = .int .i64 (maxFrom m40 (subC xs n) k) ∧ Hid (Gr w wr) ∧ Hid (wr.heap[z2]? = some (.cells (kCells .i64 (colL 4 (fun c => -(c : Int) - 1) xs n)) 156 (0, 0)))) (fun _ i _ => 4 - (intOf i).toNat)
      case atStart => exact ⟨0, Nat.zero_le _, rfl, rfl, gr2, b2⟩
      case round =>
        clear gr2 b2
        obtain ⟨j, hj, rfl, rfl, gr2, b2⟩ := hrel
        by_cases hlt : j < 4
        · have hc := cell_ints b2.out (i := j) (by rw [HS.out]; exact hlt)
          rw [colS_get hlt] at hc
          have HST := hid (maxFrom_step m40 (subC xs n) j)
          generalize maxFrom m40 (subC xs n) j = m at *
          generalize subC xs n j = q at *
          go_wp2_with (go_at_call 112; refine (l00Max_any _ _ _).mono ?_; rintro e w' ⟨rfl, rfl⟩)
          go_roundw
          case rel => exact ⟨j + 1, by omega, by go_num, by rw [HST.out], gr2, b2⟩
          case measure => simp [intOf] <;> omega
        · have hj4 : j = 4 := by omega
          have hmm : maxFrom m40 (subC xs n) j = setsTo xs n n := by rw [hj4]; exact HE.out
          rw [hmm]
          clear hmm hj4
          go_wp2_with fail
          go_ret
          exact ⟨rfl, gr2.out⟩
end Go.Proofs.YtfaiehjomcgjgaaDoor

/- The hoists for a meaning: plain lists. -/
namespace Go.Proofs.YtfaiehjomcgjgaaDoor
set_option linter.unusedVariables false
open Go.RowKit
/-- The substitute n repeats what is at a place. -/
def repB (m : List Int) (i n : Nat) : Bool := decide (startOf m i + n ≤ i) && (m.getD (startOf m i + n - 1) 0 == m.getD i 0)
/-- There is one more of a number. -/
def okX (S : Int) (h : List Int) (x : Int) : Bool := decide (x = -10) || decide (occ h x h.length < S)
def goN (next : List Int → List (List Int)) (m : List Int) (S : Int) (h : List Int) : Nat → List (List Int)
  | 0 => if okX S h (m.getD h.length 0) then next (h ++ [m.getD h.length 0]) else []
  | n + 1 => (if repB m h.length (n + 1) && okX S h (-((n + 1 : Nat) : Int)) then next (h ++ [-((n + 1 : Nat) : Int)]) else []) ++ goN next m S h n
/-- All that go on from h, with f numbers more. -/
def goF (m : List Int) (S : Int) (B : Nat) : Nat → List Int → List (List Int)
  | 0, h => [h]
  | f + 1, h => goN (goF m S B f) m S h B
theorem goF_zero (m : List Int) (S : Int) (B : Nat) (h : List Int) : goF m S B 0 h = [h] := rfl
theorem goF_succ (m : List Int) (S : Int) (B f : Nat) (h : List Int) : goF m S B (f + 1) h = goN (goF m S B f) m S h B := rfl
theorem repB_brk {m : List Int} {i n : Nat} (hb : m.getD i 0 = -10) (hn : 1 ≤ n) : repB m i n = false := by
  unfold repB
  by_cases h : startOf m i + n ≤ i
  · have := startOf_in (h := m) (i := i) (j := startOf m i + n - 1) (by omega) (by omega)
    rw [hb]
    simp only [Bool.and_eq_false_iff, decide_eq_false_iff_not, beq_eq_false_iff_ne]
    exact .inr this
  · simp [h]
theorem goN_brk {next : List Int → List (List Int)} {m : List Int} {S : Int} {h : List Int} {n : Nat} (hb : m.getD h.length 0 = -10) : goN next m S h n = next (h ++ [-10]) := by
  induction n with
  | zero => rw [goN, hb, if_pos (by unfold okX; simp)]
  | succ n ih => rw [goN, repB_brk hb (by omega), Bool.false_and, if_neg (by simp), List.nil_append, ih]
theorem goN_length {next : List Int → List (List Int)} {m : List Int} {S : Int} {h : List Int} {P : Nat} (hp : ∀ g, (next g).length ≤ P) (n : Nat) : (goN next m S h n).length ≤ (n + 1) * P := by
  induction n with
  | zero =>
    rw [goN]
    split
    · have := hp (h ++ [m.getD h.length 0]); omega
    · simp
  | succ n ih =>
    rw [goN, List.length_append, Nat.succ_mul]
    split
    · have := hp (h ++ [-((n + 1 : Nat) : Int)]); omega
    · simp only [List.length_nil]; omega
theorem goF_length (m : List Int) (S : Int) (B : Nat) (hB : B ≤ 4) (f : Nat) : ∀ h, (goF m S B f h).length ≤ 5 ^ f := by
  induction f with
  | zero => intro h; simp [goF]
  | succ f ih =>
    intro h
    rw [goF_succ, Nat.pow_succ]
    have h1 := goN_length (m := m) (S := S) (h := h) ih B
    have h2 : (B + 1) * 5 ^ f ≤ 5 * 5 ^ f := Nat.mul_le_mul_right _ (by omega)
    omega
/-- No number comes too often. -/
def Fine (S : Int) (h : List Int) : Prop := setsTo h h.length h.length ≤ S
theorem occ_snoc_lt {h : List Int} {x c : Int} : ∀ {k : Nat}, k ≤ h.length → occ (h ++ [x]) c k = occ h c k := by
  intro k
  induction k with
  | zero => intro _; rfl
  | succ k ih =>
    intro hk
    have e : (h ++ [x]).getD k 0 = h.getD k 0 := getD_snoc_lt (by omega)
    simp only [occ]
    rw [e, ih (by omega)]
theorem occ_snoc {h : List Int} {x c : Int} : occ (h ++ [x]) c (h.length + 1) = if x = c then occ h c h.length + 1 else occ h c h.length := by
  have e : (h ++ [x]).getD h.length 0 = x := getD_snoc_eq rfl
  by_cases hc : x = c
  · rw [if_pos hc, occ_yes (by rw [e]; exact hc), occ_snoc_lt (Nat.le_refl _)]
  · rw [if_neg hc, occ_no (by rw [e]; exact hc), occ_snoc_lt (Nat.le_refl _)]
theorem Fine.snoc {S : Int} {h : List Int} {x : Int} (hf : Fine S h) : Fine S (h ++ [x]) ↔ okX S h x = true := by
  unfold Fine at hf ⊢
  have hl : (h ++ [x]).length = h.length + 1 := by simp
  rw [hl]
  obtain ⟨h0, h1⟩ := setsTo_le.1 hf
  unfold okX
  simp only [Bool.or_eq_true, decide_eq_true_eq]
  rw [setsTo_le]
  constructor
  · rintro ⟨_, g⟩
    by_cases hx : x = -10
    · exact .inl hx
    · right
      have := g h.length (by omega) (by rw [getD_snoc_eq rfl]; exact hx)
      rw [getD_snoc_eq rfl, occ_snoc, if_pos rfl] at this
      omega
  · intro hx
    refine ⟨h0, fun i hi hne => ?_⟩
    by_cases e : i = h.length
    · subst e
      rw [getD_snoc_eq rfl] at hne ⊢
      rw [occ_snoc, if_pos rfl]
      rcases hx with hx | hx
      · exact absurd hx hne
      · omega
    · have hi' : i < h.length := by omega
      rw [getD_snoc_lt hi'] at hne ⊢
      have h2 := h1 i hi' hne
      rw [occ_snoc]
      by_cases hxc : x = h.getD i 0
      · rw [if_pos hxc, ← hxc]
        rcases hx with hx | hx
        · rw [hx] at hxc; exact absurd hxc.symm hne
        · omega
      · rw [if_neg hxc]; exact h2
theorem Fine.nil {S : Int} (hS : 0 ≤ S) : Fine S [] := by
  unfold Fine
  exact setsTo_le.2 ⟨hS, fun i hi => by simp at hi⟩
theorem NumN.snoc {h : List Int} {x : Int} (hn : NumN h) (hl : h.length < 8) (hx : x = -10 ∨ (-4 ≤ x ∧ x ≤ -1) ∨ (0 ≤ x ∧ x ≤ 39)) : NumN (h ++ [x]) := by
  refine ⟨by rw [List.length_append, List.length_singleton]; omega, fun k hk => ?_⟩
  rw [List.length_append, List.length_singleton] at hk
  by_cases e : k = h.length
  · rw [getD_snoc_eq e]; exact hx
  · rw [getD_snoc_lt (by omega)]; exact hn.num k (by omega)
theorem NumN.nil : NumN [] := ⟨by simp, fun k hk => by simp at hk⟩
/-- The hoists for a meaning, in ascending order. -/
def hoistsL (m : List Int) (S : Int) (B : Nat) : List (List Int) := goF m S B m.length []
end Go.Proofs.YtfaiehjomcgjgaaDoor

/- The model's search of hoists: its state; at the end of a hoist. -/
namespace Go.Proofs.YtfaiehjomcgjgaaDoor
set_option linter.unusedVariables false
open Go.RowKit
/-- Of what was there only one block has turned. -/
def Mt (Bs : Nat) (w w' : World) : Prop := w.grownBy w' (some Bs)
theorem Mt.refl (Bs : Nat) (w : World) : Mt Bs w w := ⟨rfl, rfl, rfl, Nat.le_refl _, fun _ _ _ => rfl⟩
theorem Mt.size {Bs : Nat} {w w' : World} (h : Mt Bs w w') : w.heap.size ≤ w'.heap.size := World.grownBy.size h
theorem Mt.by_ {Bs : Nat} {w w1 w2 : World} {row : Option Nat} (h : Mt Bs w w1) (g : w1.grownBy w2 row) (hr : ∀ k, row = some k → k = Bs ∨ w.heap.size ≤ k) : Mt Bs w w2 := by
  refine ⟨g.os.trans h.os, g.tape.trans h.tape, g.output.trans h.output, Nat.le_trans h.size g.size, fun k hk hne => ?_⟩
  rw [g.block k (Nat.lt_of_lt_of_le hk h.size) (fun e => ?_)]
  · exact h.block k hk hne
  · rcases hr k e.symm with e1 | e1
    · exact hne (by rw [e1])
    · omega
theorem Mt.trans {Bs : Nat} {w w1 w2 : World} (h : Mt Bs w w1) (g : Mt Bs w1 w2) : Mt Bs w w2 := h.by_ (World.grownBy.mk g.os g.tape g.output g.size g.block) (fun k e => .inl (by cases e; rfl))
theorem Mt.gr {Bs : Nat} {w w1 w2 : World} (h : Mt Bs w w1) (g : Gr w1 w2) : Mt Bs w w2 :=
  h.by_ (row := none) ⟨g.1, g.2, g.3, g.4, fun k hk _ => g.5 k hk⟩ (fun k e => by cases e)
theorem Mt.set {Bs : Nat} {w w1 : World} (h : Mt Bs w w1) (i : Nat) (v : Value) : Mt Bs w (w1.setCell ⟨Bs, i, none⟩ v) :=
  h.by_ (row := some Bs) ⟨rfl, rfl, rfl, by simp, fun k _ hne => heap_setCell_other w1 ⟨Bs, i, none⟩ k v (fun e => hne (by rw [e]))⟩ (fun k e => .inl (by cases e; rfl))
theorem Mt.drewN {Bs : Nat} {w w1 : World} (h : Mt Bs w w1) (n : Nat) : Mt Bs w (w1.drewN n) := h.gr ((Gr.refl _).drewN n)
theorem Mt.cell {Bs : Nat} {w w' : World} (h : Mt Bs w w') {a : Addr} {v : Value} (hc : w.cell? a = some v) (hne : a.block ≠ Bs) : w'.cell? a = some v :=
  World.grownBy.cell h hc (fun e => hne (by cases e; rfl))
theorem Mt.slice {Bs : Nat} {k : IntKind} {w w' : World} {b o : Nat} {xs : List Int} (h : Mt Bs w w') (hs : SliceOf k w (some ⟨b, o, none⟩) xs) (hne : b ≠ Bs) : SliceOf k w' (some ⟨b, o, none⟩) xs := by
  intro i hi
  obtain ⟨b', o', e, hc⟩ := hs i hi
  refine ⟨b', o', e, h.cell hc ?_⟩
  simp only [Option.some.injEq, Addr.mk.injEq, and_true] at e
  obtain ⟨rfl, rfl⟩ := e
  exact hne
theorem Mt.below {Bs B : Nat} {w w' : World} (h : Mt Bs w w') (hB : B ≤ Bs) (hB2 : B ≤ w.heap.size) : Below B w w' :=
  ⟨h.os, h.tape, h.output, h.size, fun k hk => h.block k (by omega) (fun e => by cases e; omega)⟩
/-- What has been found so far: how many, and the first one. -/
def FstOk (w : World) (Bs : Nat) (L : List (List Int)) (F : Value) : Prop :=
  match L with
  | [] => F = .slice none 0 0
  | h :: _ => Own .i8 22 w (Bs + 1) w.heap.size F h
structure Srch (w : World) (Bs : Nat) (M : Value) (S B : Int) (L : List (List Int)) (F : Value) : Prop where
  blk : w.heap[Bs]? = some (.cells #[M, .int .i64 S, .int .i64 B, .int .i64 (L.length : Int), F] 95 (0, 0))
  fst : FstOk w Bs L F
section
variable {w w' : World} {Bs : Nat} {M F : Value} {S B : Int} {L : List (List Int)}
theorem FstOk.by_ {row : Option Nat} (h : FstOk w Bs L F) (g : w.grownBy w' row) (hr : ∀ k, row = some k → k = Bs ∨ w.heap.size ≤ k) : FstOk w' Bs L F := by
  cases L with
  | nil => exact h
  | cons x L => exact (Own.by_ h g (fun b e => by rcases hr b e with e1 | e1 <;> omega)).widen (Nat.le_refl _) g.size
theorem Srch.by_ {row : Option Nat} (h : Srch w Bs M S B L F) (g : w.grownBy w' row) (hr : ∀ k, row = some k → w.heap.size ≤ k) : Srch w' Bs M S B L F :=
  ⟨by rw [g.block Bs (lt_of_heap h.blk) (fun e => by have := hr Bs e.symm; have := lt_of_heap h.blk; omega)]; exact h.blk, h.fst.by_ g (fun k e => .inr (hr k e))⟩
theorem Srch.gr (h : Srch w Bs M S B L F) (g : Gr w w') : Srch w' Bs M S B L F :=
  h.by_ (row := none) ⟨g.1, g.2, g.3, g.4, fun k hk _ => g.5 k hk⟩ (fun k e => by cases e)
theorem Srch.cellM (h : Srch w Bs M S B L F) : w.cell? ⟨Bs, 0, none⟩ = some M := by rw [cell_of_row w Bs 0 _ _ _ h.blk]; rfl
theorem Srch.cellS (h : Srch w Bs M S B L F) : w.cell? ⟨Bs, 1, none⟩ = some (.int .i64 S) := by rw [cell_of_row w Bs 1 _ _ _ h.blk]; rfl
theorem Srch.cellB (h : Srch w Bs M S B L F) : w.cell? ⟨Bs, 2, none⟩ = some (.int .i64 B) := by rw [cell_of_row w Bs 2 _ _ _ h.blk]; rfl
theorem Srch.cellC (h : Srch w Bs M S B L F) : w.cell? ⟨Bs, 3, none⟩ = some (.int .i64 (L.length : Int)) := by rw [cell_of_row w Bs 3 _ _ _ h.blk]; rfl
theorem Srch.cellF (h : Srch w Bs M S B L F) : w.cell? ⟨Bs, 4, none⟩ = some F := by rw [cell_of_row w Bs 4 _ _ _ h.blk]; rfl
theorem Srch.free (h : Srch w Bs M S B L F) (i : Nat) : w.frozen? ⟨Bs, i, none⟩ = false := frozen_of_row _ _ _ _ _ h.blk
theorem Srch.lt (h : Srch w Bs M S B L F) : Bs < w.heap.size := lt_of_heap h.blk
/-- One hoist more, and it is not the first one. -/
theorem Srch.more {x : List Int} (h : Srch w Bs M S B L F) (hL : L ≠ []) : Srch (w.setCell ⟨Bs, 3, none⟩ (.int .i64 ((L.length : Int) + 1))) Bs M S B (L ++ [x]) F := by
  refine ⟨?_, ?_⟩
  · rw [heap_setCell_same w Bs 3 _ _ _ h.blk, List.length_append, List.length_singleton]
    push_cast
    rfl
  · have hf := h.fst
    cases L with
    | nil => exact absurd rfl hL
    | cons y L =>
      have g : w.grownBy (w.setCell ⟨Bs, 3, none⟩ (.int .i64 ((((y :: L).length : Nat) : Int) + 1))) (some Bs) := (Mt.refl Bs w).set 3 _
      exact (Own.by_ hf g (fun b e => by cases e; left; omega)).widen (Nat.le_refl _) (by simp)
/-- The first hoist. -/
theorem Srch.one {x : List Int} {V : Value} (h : Srch w Bs M S B [] F) (hV : Own .i8 22 w (Bs + 1) w.heap.size V x) : Srch ((w.setCell ⟨Bs, 4, none⟩ V).setCell ⟨Bs, 3, none⟩ (.int .i64 1)) Bs M S B [x] V := by
  have h1 := heap_setCell_same w Bs 4 _ _ V h.blk
  have h2 := heap_setCell_same (w.setCell ⟨Bs, 4, none⟩ V) Bs 3 _ _ (.int .i64 1) h1
  refine ⟨by rw [h2]; rfl, ?_⟩
  have g : w.grownBy ((w.setCell ⟨Bs, 4, none⟩ V).setCell ⟨Bs, 3, none⟩ (.int .i64 1)) (some Bs) := ((Mt.refl Bs w).set 4 V).set 3 (.int .i64 1)
  exact (Own.by_ hV g (fun b e => by cases e; left; omega)).widen (Nat.le_refl _) (by simp)
end
theorem news_of_slice {w : World} {b o : Nat} {xs : List Int} (hs : SliceOf .i8 w (some ⟨b, o, none⟩) xs) : ∀ j u, (xs.map (Value.int .i8))[j]? = some u → w.cell? ((⟨b, o, none⟩ : Addr).add j) = some u := by
  intro j u hj
  have hadd : (⟨b, o, none⟩ : Addr).add j = ⟨b, o + j, none⟩ := by unfold Addr.add; split <;> simp_all
  have hjl : j < xs.length := by
    rcases Nat.lt_or_ge j xs.length with h | h
    · exact h
    · simp [List.getElem?_eq_none (show (xs.map (Value.int .i8)).length ≤ j by simpa using h)] at hj
  obtain ⟨b', o', e, hc⟩ := hs j hjl
  simp only [Option.some.injEq, Addr.mk.injEq, and_true] at e
  obtain ⟨rfl, rfl⟩ := e
  rw [hadd, hc]
  simp [List.getElem?_eq_getElem hjl] at hj
  subst hj
  simp [List.getD, List.getElem?_eq_getElem hjl]
/-- A call of the search goes on from h. -/
def LookPost (Bs : Nat) (M : Value) (S B : Int) (R : List (List Int)) (w : World) (e : Ending) (w' : World) : Prop := e = .returned (.tuple #[]) ∧ Mt Bs w w' ∧ ∃ F, Srch w' Bs M S B R F
set_option maxRecDepth 100000 in
set_option maxHeartbeats 2000000 in
theorem look_end_more (Bs bh oh bm om k ch cm st : Nat) (S B : Int) (h : List Int) (L : List (List Int)) (F : Value) (hk : k = h.length) (hk8 : k ≤ 8) (hL : L ≠ []) (hc : L.length ≤ 1000000) (hbm : bm ≠ Bs) (w : World)
    (hS : Srch w Bs (.slice (some ⟨bm, om, none⟩) k cm) S B L F) :
    Calls Tryd.prog 83 #[.pointer (some ⟨Bs, 0, none⟩), .slice (some ⟨bh, oh, none⟩) k ch, .int .i64 st] w (LookPost Bs (.slice (some ⟨bm, om, none⟩) k cm) S B (L ++ [h]) w) := by
  have c0 := hS.cellM
  have c3 := hS.cellC
  have f3 := hS.free 3
  have HM := hid (hS.more (x := h) hL)
  have hne : ((L.length : Int) == 0) = false := by
    have : 0 < L.length := List.length_pos_iff.2 hL
    simp; omega
  clear hS hL hk
  generalize L.length = c at *
  go_enter Tryd.func83, Tryd.ntmps83
  go_wp2_with fail
  go_end0
  exact ⟨rfl, (Mt.refl _ _).set 3 _, F, HM.out⟩
set_option maxRecDepth 100000 in
set_option maxHeartbeats 2000000 in
theorem look_end_first (Bs bh oh bm om k ch cm st : Nat) (S B : Int) (h : List Int) (F : Value) (hk : k = h.length) (hk8 : k ≤ 8) (hbm : bm ≠ Bs) (w : World)
    (hS : Srch w Bs (.slice (some ⟨bm, om, none⟩) k cm) S B [] F) (hh : SliceOf .i8 w (some ⟨bh, oh, none⟩) h) :
    Calls Tryd.prog 83 #[.pointer (some ⟨Bs, 0, none⟩), .slice (some ⟨bh, oh, none⟩) k ch, .int .i64 st] w (LookPost Bs (.slice (some ⟨bm, om, none⟩) k cm) S B ([] ++ [h]) w) := by
  have c0 := hS.cellM
  have c3 : w.cell? ⟨Bs, 3, none⟩ = some (.int .i64 0) := hS.cellC
  have hlt := hS.lt
  have HS := hid hS
  have HH := hid (news_of_slice (hh.gr ((Gr.refl w).alloc (.cells #[] 22))))
  have OE := hid ((Own.new (k := .i8) (e := 22) w [] (by simp)).row)
  have HK := hid hk
  clear hS hh hk
  obtain ⟨i0, hi, hz0, hz1, hz2⟩ := info_parts infoI8
  go_enter Tryd.func83, Tryd.ntmps83
  go_wp2_with (at_builtin; refine wpList_append_own _ rfl _ _ 28 rfl w.heap.size 22 i0 (.int .i8 0) 1 1 Tryd.underlying28 hi hz0 hz1 hz2 rfl (by decide) _ _ _ rfl OE.out ⟨bh, oh, none⟩ k ch (h.map (Value.int .i8)) rfl (by rw [List.length_map, Nat.mul_one]; exact HK.out.symm) HH.out (by simp [Value.oneCell']) (by unfold maxLen; simp; omega) (by simp; omega) (by simp) ?_)
  intro v1 w1 hown hgrow _
  have OV := hid (Own.ofRow (k := .i8) (xs := h) hown (by simp) (by rw [← HK.out]))
  have GW : Gr w w1 := ((Gr.refl w).alloc (.cells #[] 22)).by_ hgrow (fun b e => by cases e; exact Nat.le_refl _)
  have SR := hid (HS.out.gr GW)
  have MT := hid ((Mt.refl Bs w).gr GW)
  clear GW
  have d3 : w1.cell? ⟨Bs, 3, none⟩ = some (.int .i64 0) := SR.out.cellC
  have d4 := SR.out.cellF
  have e3 := SR.out.free 3
  have e4 := SR.out.free 4
  have HO := hid (SR.out.one (x := h) (V := v1) (OV.out.widen (by omega) (Nat.le_refl _)))
  obtain ⟨av, cv, hv1⟩ := OV.out.shape
  subst hv1
  clear hown hgrow
  go_wp2_with fail
  go_end0
  exact ⟨rfl, (MT.out.set 4 _).set 3 _, _, HO.out⟩
/-- The call for the hoists that go on from h. -/
def LookOk (Bs bm om cm n : Nat) (m : List Int) (S : Int) (B f : Nat) : Prop :=
  ∀ (h : List Int), h.length + f = n → NumN h → Fine S h → ∀ (bh oh ch st : Nat) (L : List (List Int)) (F : Value) (w : World), st = startOf m h.length → bh ≠ Bs → L.length + 5 ^ f ≤ 1000000 →
    Srch w Bs (.slice (some ⟨bm, om, none⟩) n cm) S B L F → SliceOf .i8 w (some ⟨bm, om, none⟩) m → SliceOf .i8 w (some ⟨bh, oh, none⟩) h →
    Calls Tryd.prog 83 #[.pointer (some ⟨Bs, 0, none⟩), .slice (some ⟨bh, oh, none⟩) h.length ch, .int .i64 st] w (LookPost Bs (.slice (some ⟨bm, om, none⟩) n cm) S B (L ++ goF m S B f h) w)
theorem look_zero (Bs bm om cm n : Nat) (m : List Int) (S : Int) (B : Nat) (hn8 : n ≤ 8) (hbm : bm ≠ Bs) : LookOk Bs bm om cm n m S B 0 := by
  intro h hl hN hF bh oh ch st L F w hst hbh hc hS hm hh
  have hl' : h.length = n := by omega
  rw [goF_zero]
  subst hl'
  by_cases hL : L = []
  · subst hL
    exact look_end_first Bs bh oh bm om h.length ch cm st S B h F rfl hn8 hbm w hS hh
  · exact look_end_more Bs bh oh bm om h.length ch cm st S B h L F rfl hn8 hL (by omega) hbm w hS
theorem cell_l1 (w : World) (v : Value) (t : TypeId) : ∀ j u, [v][j]? = some u → (w.alloc (.cells #[v] t)).cell? ((⟨w.heap.size, 0, none⟩ : Addr).add j) = some u := by
  intro j u hj
  match j, hj with
  | 0, hj => simp at hj; subst hj; simp [Addr.add]
set_option maxRecDepth 100000 in
set_option maxHeartbeats 4000000 in
theorem look_brk (Bs bm om cm n : Nat) (m : List Int) (S : Int) (B f : Nat) (hn : n = m.length) (hn8 : n ≤ 8) (hbm : bm ≠ Bs) (ih : LookOk Bs bm om cm n m S B f)
    (h : List Int) (hl : h.length + (f + 1) = n) (hN : NumN h) (hF : Fine S h) (hb : m.getD h.length 0 = -10) (bh oh ch st : Nat) (L : List (List Int)) (F : Value) (w : World) (hbh : bh ≠ Bs) (hc : L.length + 5 ^ (f + 1) ≤ 1000000)
    (hS : Srch w Bs (.slice (some ⟨bm, om, none⟩) n cm) S B L F) (hm : SliceOf .i8 w (some ⟨bm, om, none⟩) m) (hh : SliceOf .i8 w (some ⟨bh, oh, none⟩) h) :
    Calls Tryd.prog 83 #[.pointer (some ⟨Bs, 0, none⟩), .slice (some ⟨bh, oh, none⟩) h.length ch, .int .i64 st] w (LookPost Bs (.slice (some ⟨bm, om, none⟩) n cm) S B (L ++ goF m S B (f + 1) h) w) := by
  rw [goF_succ, goN_brk hb]
  have c0 := hS.cellM
  obtain ⟨b', o', e', cm0⟩ := hm h.length (by omega)
  simp only [Option.some.injEq, Addr.mk.injEq, and_true] at e'
  obtain ⟨rfl, rfl⟩ := e'
  rw [hb] at cm0
  have HI := hid (fun (w' : World) (bg : Nat) (cg : Nat) (g : Gr w w') (hg : bg ≠ Bs) (hs : SliceOf .i8 w' (some ⟨bg, 0, none⟩) (h ++ [-10])) =>
    ih (h ++ [-10]) (by rw [List.length_append, List.length_singleton]; omega) (hN.snoc (by omega) (.inl rfl)) (hF.snoc.2 (by unfold okX; simp)) bg 0 cg (h.length + 1) L F w' (by rw [List.length_append, List.length_singleton, startOf_brk hb]) hg (by rw [Nat.pow_succ] at hc; omega) (hS.gr g) (hm.gr g) hs)
  have hlt := hS.lt
  have HH := hid (news_of_slice (hh.gr ((Gr.refl w).alloc (.cells #[] 22))))
  have OE := hid ((Own.new (k := .i8) (e := 22) w [] (by simp)).row)
  obtain ⟨k, hk⟩ : ∃ k, k = h.length := ⟨_, rfl⟩
  have HLA := hid (show (h ++ [-10]).length = k + 1 by rw [List.length_append, List.length_singleton, hk])
  rw [HLA.out] at HI
  rw [← hk] at HI cm0 hl ⊢
  have HK := hid hk
  have hk8 : k ≤ 8 := by omega
  have hkn : ((k : Int) == (n : Int)) = false := by simp; omega
  have hk0 : (0 : Int) ≤ (k : Int) := by omega
  have hk1 : (k : Int) < (n : Int) := by omega
  clear hS hm hh hk hb ih hc hN hF
  obtain ⟨i0, hi, hz0, hz1, hz2⟩ := info_parts infoI8
  go_enter Tryd.func83, Tryd.ntmps83
  go_wp2_with (at_builtin; refine wpList_append_own _ rfl _ _ 28 rfl w.heap.size 22 i0 (.int .i8 0) 1 1 Tryd.underlying28 hi hz0 hz1 hz2 rfl (by decide) _ _ _ rfl OE.out ⟨bh, oh, none⟩ k ch (h.map (Value.int .i8)) rfl (by rw [List.length_map, Nat.mul_one]; exact HK.out.symm) HH.out (by simp [Value.oneCell']) (by unfold maxLen; simp; omega) (by simp; omega) (by simp) ?_)
  intro v1 w1 hown hgrow _
  have OV := hid (Own.ofRow (k := .i8) (xs := h) hown (by simp) (by rw [← HK.out]))
  have G1 := hid (((Gr.refl w).alloc (.cells #[] 22)).by_ hgrow (fun b e => by cases e; exact Nat.le_refl _))
  obtain ⟨av, cv, hv1⟩ := OV.out.shape
  rw [← HK.out] at hv1
  subst hv1
  have ROW1 := hid OV.out.row
  rw [← HK.out] at ROW1
  clear hown hgrow
  go_wp2_with (at_builtin; refine wpList_append_own _ rfl _ _ 28 rfl w.heap.size 22 i0 (.int .i8 0) 1 1 Tryd.underlying28 hi hz0 hz1 hz2 rfl (by decide) _ _ _ rfl (ROW1.out.alloc _) ⟨w1.heap.size, 0, none⟩ 1 1 [.int .i8 (-10)] rfl rfl (cell_l1 _ _ _) (by simp [Value.oneCell']) (by unfold maxLen; omega) (by omega) (by have := G1.out.size; simp; omega) ?_)
  intro v2 w2 hown2 hgrow2 _
  obtain ⟨g2, c2, rfl, hg2, _⟩ := hown2.form (by omega)
  have OX := hid (Own.ofRow (k := .i8) (xs := h ++ [-10]) hown2 (by simp) (by rw [HLA.out])).reads
  have G2 := hid ((G1.out.alloc (.cells #[.int .i8 (-10)] 22)).by_ hgrow2 (fun b e => by have := (ROW1.out.lt b e).1; omega))
  push_cast at HI
  clear hown2 hgrow2
  go_wp2_with fail
  refine (HI.out w2 g2 c2 G2.out (by omega) OX.out).mono ?_
  rintro e w3 ⟨rfl, mt, F', sr⟩
  have MT := hid (((Mt.refl Bs w).gr G2.out).trans mt)
  have SR := hid sr
  clear mt sr
  go_wp2_with fail
  go_end0
  exact ⟨rfl, MT.out, F', SR.out⟩
end Go.Proofs.YtfaiehjomcgjgaaDoor

/- The model's search of hoists: where a flag is to be placed. -/
namespace Go.Proofs.YtfaiehjomcgjgaaDoor
set_option linter.unusedVariables false
open Go.RowKit
/-- What one number gives; what the numbers below a place give. -/
def partN (next : List Int → List (List Int)) (m : List Int) (S : Int) (h : List Int) : Nat → List (List Int)
  | 0 => if okX S h (m.getD h.length 0) then next (h ++ [m.getD h.length 0]) else []
  | n + 1 => if repB m h.length (n + 1) && okX S h (-((n + 1 : Nat) : Int)) then next (h ++ [-((n + 1 : Nat) : Int)]) else []
def restN (next : List Int → List (List Int)) (m : List Int) (S : Int) (h : List Int) : Nat → List (List Int)
  | 0 => []
  | q + 1 => goN next m S h q
theorem restN_succ (next : List Int → List (List Int)) (m : List Int) (S : Int) (h : List Int) (q : Nat) : restN next m S h (q + 1) = partN next m S h q ++ restN next m S h q := by
  cases q with
  | zero => simp only [restN, goN, partN, List.append_nil]
  | succ q => rfl
theorem partN_length {next : List Int → List (List Int)} {m : List Int} {S : Int} {h : List Int} {P : Nat} (hp : ∀ g, (next g).length ≤ P) (q : Nat) : (partN next m S h q).length ≤ P := by
  cases q with
  | zero =>
    simp only [partN]
    split
    · exact hp _
    · simp
  | succ q =>
    simp only [partN]
    split
    · exact hp _
    · simp
theorem partN_skip {next : List Int → List (List Int)} {m : List Int} {S : Int} {h : List Int} {q : Nat} (hq : 1 ≤ q) (hr : repB m h.length q = false) : partN next m S h q = [] := by
  obtain ⟨p, rfl⟩ : ∃ p, q = p + 1 := ⟨q - 1, by omega⟩
  simp only [partN]
  rw [hr, Bool.false_and, if_neg (by simp)]
theorem partN_rep {next : List Int → List (List Int)} {m : List Int} {S : Int} {h : List Int} {q : Nat} (hq : 1 ≤ q) (hr : repB m h.length q = true) : partN next m S h q = if okX S h (-(q : Int)) then next (h ++ [-(q : Int)]) else [] := by
  obtain ⟨p, rfl⟩ : ∃ p, q = p + 1 := ⟨q - 1, by omega⟩
  simp only [partN]
  rw [hr, Bool.true_and]
theorem fine_dec {S : Int} {h : List Int} {x : Int} (hF : Fine S h) : decide (setsTo (h ++ [x]) (h.length + 1) (h.length + 1) ≤ S) = okX S h x := by
  have := hF.snoc (x := x)
  unfold Fine at this
  rw [List.length_append, List.length_singleton] at this
  rw [Bool.eq_iff_iff, decide_eq_true_eq]
  exact this
theorem Mt.sliceM {Bs : Nat} {w w' : World} {b o : Nat} {xs : List Int} (h : Mt Bs w w') (hs : SliceOf .i8 w (some ⟨b, o, none⟩) xs) (hne : b ≠ Bs) : SliceOf .i8 w' (some ⟨b, o, none⟩) xs := h.slice hs hne
set_option maxHeartbeats 3000000 in
set_option maxRecDepth 100000 in
theorem look_kind (Bs bm om cm n : Nat) (m : List Int) (S : Int) (B f : Nat) (hn : n = m.length) (hn8 : n ≤ 8) (hB : B ≤ 4) (hbm : bm ≠ Bs) (hnum : ∀ i, i < n → m.getD i 0 = -10 ∨ (0 ≤ m.getD i 0 ∧ m.getD i 0 ≤ 39)) (ih : LookOk Bs bm om cm n m S B f)
    (h : List Int) (hl : h.length + (f + 1) = n) (hN : NumN h) (hF : Fine S h) (hb : ¬ m.getD h.length 0 = -10) (bh oh ch : Nat) (L : List (List Int)) (F : Value) (w : World) (hbh : bh ≠ Bs) (hc : L.length + 5 ^ (f + 1) ≤ 1000000)
    (hS : Srch w Bs (.slice (some ⟨bm, om, none⟩) n cm) S B L F) (hm : SliceOf .i8 w (some ⟨bm, om, none⟩) m) (hh : SliceOf .i8 w (some ⟨bh, oh, none⟩) h) :
    Calls Tryd.prog 83 #[.pointer (some ⟨Bs, 0, none⟩), .slice (some ⟨bh, oh, none⟩) h.length ch, .int .i64 (startOf m h.length : Nat)] w (LookPost Bs (.slice (some ⟨bm, om, none⟩) n cm) S B (L ++ goF m S B (f + 1) h) w) := by
  rw [goF_succ]
  have HI := hid (fun (x : Int) (hx : (-4 ≤ x ∧ x ≤ -1) ∨ (0 ≤ x ∧ x ≤ 39)) (hfx : okX S h x = true) (bg cg : Nat) (L' : List (List Int)) (F' : Value) (w' : World) (hg : bg ≠ Bs) (hc' : L'.length + 5 ^ f ≤ 1000000) (hS' : Srch w' Bs (.slice (some ⟨bm, om, none⟩) n cm) S B L' F') (hm' : SliceOf .i8 w' (some ⟨bm, om, none⟩) m) (hs : SliceOf .i8 w' (some ⟨bg, 0, none⟩) (h ++ [x])) =>
    ih (h ++ [x]) (by rw [List.length_append, List.length_singleton]; omega) (hN.snoc (by omega) (.inr hx)) (hF.snoc.2 hfx) bg 0 cg (startOf m h.length) L' F' w' (by rw [List.length_append, List.length_singleton, startOf_no hb]) hg hc' hS' hm' hs)
  have HGL := hid (goF_length m S B hB f)
  have HPL := hid (fun q => partN_length (m := m) (S := S) (h := h) (goF_length m S B hB f) q)
  have HSK := hid (fun q (hq : 1 ≤ q) hr => partN_skip (next := goF m S B f) (m := m) (S := S) (h := h) (q := q) hq hr)
  have HRP := hid (fun q (hq : 1 ≤ q) hr => partN_rep (next := goF m S B f) (m := m) (S := S) (h := h) (q := q) hq hr)
  have HP0 := hid (show partN (goF m S B f) m S h 0 = if okX S h (m.getD h.length 0) then goF m S B f (h ++ [m.getD h.length 0]) else [] from rfl)
  have HRS := hid (fun q => restN_succ (goF m S B f) m S h q)
  have HSETS := hid (fun (x : Int) (hx : x = -10 ∨ (-4 ≤ x ∧ x ≤ -1) ∨ (0 ≤ x ∧ x ≤ 39)) (a : Option Addr) (cap : Nat) (w' : World) (hs : SliceOf .i8 w' a (h ++ [x])) => l02Sets_n a (h.length + 1) cap (h ++ [x]) (by rw [List.length_append, List.length_singleton]) (hN.snoc (by omega) hx) w' hs)
  have HFD := hid (fun x => fine_dec (x := x) hF)
  have HLA := hid (fun (x : Int) => show (h ++ [x]).length = h.length + 1 by rw [List.length_append, List.length_singleton])
  have hst := startOf_le m h.length
  have HREP := hid (fun q => show repB m h.length q = (decide (startOf m h.length + q ≤ h.length) && (m.getD (startOf m h.length + q - 1) 0 == m.getD h.length 0)) from rfl)
  have hlt := hS.lt
  have hkind := hnum h.length (by omega)
  have HB5 := hid (show (B + 1) * 5 ^ f ≤ 5 * 5 ^ f from Nat.mul_le_mul_right _ (by omega))
  have HC := hid (show L.length + 5 * 5 ^ f ≤ 1000000 by rw [Nat.pow_succ] at hc; omega)
  generalize hP : 5 ^ f = P at *
  generalize hG : goN (goF m S B f) m S h B = G at *
  have HG := hid (show restN (goF m S B f) m S h (B + 1) = G from hG)
  obtain ⟨k, hk⟩ : ∃ k, k = h.length := ⟨_, rfl⟩
  rw [← hk] at HI HSETS HFD HLA HREP HP0 HSK HRP hl hb hkind hst ⊢
  generalize hstv : startOf m k = st at *
  have HK := hid hk
  have HM := hid hm
  have HH := hid hh
  have HS := hid hS
  have HN := hid hn
  have hk8 : k + 1 ≤ 8 := by omega
  have hkn : ((k : Int) == (n : Int)) = false := by simp; omega
  have hk0 : (0 : Int) ≤ (k : Int) := by omega
  have hk1 : (k : Int) < (n : Int) := by omega
  have c0 := hS.cellM
  have c2 := hS.cellB
  obtain ⟨b', o', e', cm0⟩ := hm k (by omega)
  simp only [Option.some.injEq, Addr.mk.injEq, and_true] at e'
  obtain ⟨rfl, rfl⟩ := e'
  have CMK := hid cm0
  have hkd : 0 ≤ m.getD k 0 ∧ m.getD k 0 ≤ 39 := hkind.resolve_left hb
  obtain ⟨hkd0, hkd1⟩ := hkd
  have hbx : (m.getD k 0 == -10) = false := by simpa using hb
  clear hS hm hh hk hb ih hc hN hF hG hP hstv hn hnum hkind
  generalize hkv : m.getD k 0 = kd at *
  have HKV := hid hkv
  clear hkv
  obtain ⟨i0, hi, hz0, hz1, hz2⟩ := info_parts infoI8
  go_enter Tryd.func83, Tryd.ntmps83
  go_wp2_with fail
  clear c0 c2 cm0
  go_loopw [7] (fun s wr => ∃ (v : Int) (D : List (List Int)) (F' : Value), -1 ≤ v ∧ v ≤ B ∧ s = .int .i64 v ∧ Hid (D ++ restN (goF m S B f) m S h (v + 1).toNat = G) ∧ Hid (D.length + (v + 1).toNat * P ≤ (B + 1) * P) ∧ Hid (Srch wr Bs (.slice (some ⟨bm, om, none⟩) n cm) S B (L ++ D) F') ∧ Hid (Mt Bs w wr)) (fun s _ => (intOf s + 1).toNat)
  case atStart => exact ⟨B, [], F, by omega, by omega, rfl, hid (by rw [show ((B : Int) + 1).toNat = B + 1 by omega]; exact HG.out), hid (by rw [show ((B : Int) + 1).toNat = B + 1 by omega]; simp), hid (by rw [List.append_nil]; exact HS.out), hid (Mt.refl _ _)⟩
  case round =>
    obtain ⟨v, D, F', hv0, hv1, rfl, hD, hDL, hSr, hMt⟩ := hrel
    by_cases h0 : v = 0
    · subst h0
      rw [show ((0 : Int) + 1).toNat = 1 from rfl] at hD hDL
      have hD2 := hD.out
      rw [HRS.out 0, ← List.append_assoc, HP0.out] at hD2
      have HD2 := hid hD2
      have HDB : Hid (D.length + P ≤ (B + 1) * P) := hid (by have := hDL.out; omega)
      have c0 := hSr.out.cellM
      have CMr := hMt.out.cell CMK.out hbm
      have HMr := hid (hMt.out.sliceM HM.out hbm)
      have HHr := hid (hMt.out.slice HH.out hbh)
      have HX := hid (show (-4 ≤ kd ∧ kd ≤ -1) ∨ (0 ≤ kd ∧ kd ≤ 39) from .inr ⟨hkd0, hkd1⟩)
      have HV1 := hid (show ((0 : Int) - 1 + 1).toNat = 0 from rfl)
      have HV2 := hid (show (-1 : Int) ≤ 0 - 1 ∧ (0 : Int) - 1 ≤ B from ⟨by omega, by omega⟩)
      clear hD2 hD hv0 hv1
      go_wp2_with (at_builtin; refine wpList_append_own _ rfl _ _ 28 rfl _ 22 i0 (.int .i8 0) 1 1 Tryd.underlying28 hi hz0 hz1 hz2 rfl (by decide) _ _ _ rfl (Own.new (k := .i8) (e := 22) _ [] (by simp)).row ⟨bh, oh, none⟩ k ch (h.map (Value.int .i8)) rfl (by rw [List.length_map, Nat.mul_one]; exact HK.out.symm) (news_of_slice (HHr.out.gr (((Gr.refl wr).drewN 0).alloc (.cells #[] 22)))) (by simp [Value.oneCell']) (by unfold maxLen; simp; omega) (by simp; omega) (by simp) ?_)
      intro v1 w1 hown hgrow _
      have OV := hid (Own.ofRow (k := .i8) (xs := h) hown (by simp) (by rw [← HK.out]))
      have G1 : Hid (Gr wr w1) := hid ((((Gr.refl wr).drewN 0).alloc (.cells #[] 22)).by_ hgrow (fun b e => by cases e; exact Nat.le_refl _))
      obtain ⟨av, cv, hv1'⟩ := OV.out.shape
      rw [← HK.out] at hv1'
      subst hv1'
      have ROW1 := hid OV.out.row
      rw [← HK.out] at ROW1
      clear hown hgrow
      go_wp2_with (at_builtin; refine wpList_append_own _ rfl _ _ 28 rfl _ 22 i0 (.int .i8 0) 1 1 Tryd.underlying28 hi hz0 hz1 hz2 rfl (by decide) _ _ _ rfl (ROW1.out.alloc _) ⟨w1.heap.size, 0, none⟩ 1 1 [.int .i8 (kd)] rfl rfl (cell_l1 _ _ _) (by simp [Value.oneCell']) (by unfold maxLen; omega) (by omega) (by have := G1.out.size; simp; omega) ?_)
      intro v2 w2 hown2 hgrow2 _
      obtain ⟨g2, c2', rfl, hg2, _⟩ := hown2.form (by omega)
      have OX := hid (Own.ofRow (k := .i8) (xs := h ++ [kd]) hown2 (by simp) (by rw [HLA.out])).reads
      have G2 := hid ((G1.out.alloc (.cells #[.int .i8 (kd)] 22)).by_ hgrow2 (fun b e => (ROW1.out.lt b e).1))
      have hg2' : g2 ≠ Bs := by have h1 : wr.heap.size ≤ g2 := hg2; have h2 := hMt.out.size; omega
      have d1 := G2.out.cell hSr.out.cellS
      obtain ⟨sv, hsv⟩ : ∃ sv, sv = setsTo (h ++ [kd]) (k + 1) (k + 1) := ⟨_, rfl⟩
      have HSX := hid (HSETS.out (kd) (.inr HX.out))
      rw [← hsv] at HSX
      have t5 := HFD.out (kd)
      rw [← hsv] at t5
      have HIX := hid (HI.out (kd) HX.out)
      rw [HLA.out] at HIX
      clear hown2 hgrow2 hsv
      cases hok : okX S h (kd) with
      | false =>
        rw [hok] at t5
        have HE := hid (show D ++ restN (goF m S B f) m S h 0 = G by have := HD2.out; rw [hok, if_neg (by simp), List.append_nil] at this; exact this)
        clear hok
        go_wp2_with fail
        go_region_held3 (fun V => V.cell? ⟨Bs, 1, none⟩ = some (.int .i64 S)) (first | go_keep | exact gV.cell (by assumption) | assumption) ((go_at_call 99; refine (HSX.out _ _ _ (OX.out.gr (by first | exact Gr.refl _ | exact (Gr.refl _).drew | exact (Gr.refl _).drewN _))).mono ?_; rintro e V ⟨rfl, gV⟩; have GV : Gr w2 V := Gr.trans (by first | exact Gr.refl _ | exact (Gr.refl _).drew | exact (Gr.refl _).drewN _) gV))
        all_goals
          have GZ := hid (G2.out.trans GV)
          clear GV gV
          go_wp2_with fail
          go_roundw
          case rel => exact ⟨_, D, F', HV2.out.1, HV2.out.2, rfl, hid (by rw [HV1.out]; exact HE.out), hid (by rw [HV1.out]; have := HDB.out; omega), hid (by first | exact hSr.out.gr GZ.out | exact hSr.out.gr (GZ.out.drew) | exact hSr.out.gr (GZ.out.drewN _)), hid (by first | exact hMt.out.gr GZ.out | exact hMt.out.gr (GZ.out.drew) | exact hMt.out.gr (GZ.out.drewN _))⟩
          case measure => simp [intOf] <;> omega
      | true =>
        rw [hok] at t5
        have HE := hid (show D ++ goF m S B f (h ++ [(kd)]) ++ restN (goF m S B f) m S h 0 = G by have := HD2.out; rw [hok, if_pos rfl] at this; exact this)
        have HLD := hid (show (L ++ D).length + P ≤ 1000000 by have h1 := HDB.out; have h2 := HB5.out; have h3 := HC.out; rw [List.length_append]; omega)
        have HGX := hid (HGL.out (h ++ [(kd)]))
        have HIY := hid (fun V (g : Gr w2 V) => HIX.out hok g2 c2' (L ++ D) F' V hg2' HLD.out (hSr.out.gr (G2.out.trans g)) (HMr.out.gr (G2.out.trans g)) (OX.out.gr g))
        clear hok
        go_wp2_with fail
        go_region_held3 (fun V => V.cell? ⟨Bs, 1, none⟩ = some (.int .i64 S)) (first | go_keep | exact gV.cell (by assumption) | assumption) ((go_at_call 99; refine (HSX.out _ _ _ (OX.out.gr (by first | exact Gr.refl _ | exact (Gr.refl _).drew | exact (Gr.refl _).drewN _))).mono ?_; rintro e V ⟨rfl, gV⟩; have GV : Gr w2 V := Gr.trans (by first | exact Gr.refl _ | exact (Gr.refl _).drew | exact (Gr.refl _).drewN _) gV))
        all_goals
          have GZ := hid GV
          clear GV gV
          go_wp2_with fail
          refine (HIY.out _ (by first | exact GZ.out | exact GZ.out.drew | exact GZ.out.drewN _)).mono ?_
          rintro e w4 ⟨rfl, mt, F2, sr⟩
          have MT : Hid (Mt Bs w w4) := hid ((hMt.out.gr (G2.out.trans (by first | exact GZ.out | exact GZ.out.drew | exact GZ.out.drewN _))).trans mt)
          have SR := hid sr
          clear mt sr
          go_wp2_with fail
          go_roundw
          case rel => exact ⟨_, D ++ goF m S B f (h ++ [(kd)]), F2, HV2.out.1, HV2.out.2, rfl, hid (by rw [HV1.out]; exact HE.out), hid (by rw [HV1.out, List.length_append]; have h1 := HDB.out; have h2 := HGX.out; omega), hid (by rw [← List.append_assoc]; exact SR.out), MT⟩
          case measure => simp [intOf] <;> omega
    · by_cases hv : 0 ≤ v
      · obtain ⟨q, rfl⟩ := Int.eq_ofNat_of_zero_le hv
        have hqB : q ≤ B := by omega
        have hq1 : 1 ≤ q := by omega
        rw [show ((q : Int) + 1).toNat = q + 1 by omega] at hD hDL
        have hD2 := hD.out
        rw [HRS.out q, ← List.append_assoc] at hD2
        have HDB : Hid (D.length + P + q * P ≤ (B + 1) * P) := hid (by have := hDL.out; rw [Nat.succ_mul] at this; omega)
        have c0 := hSr.out.cellM
        have CMr := hMt.out.cell CMK.out hbm
        have HMr := hid (hMt.out.sliceM HM.out hbm)
        have HHr := hid (hMt.out.slice HH.out hbh)
        have HX := hid (show (-4 ≤ -(q : Int) ∧ -(q : Int) ≤ -1) ∨ (0 ≤ -(q : Int) ∧ -(q : Int) ≤ 39) from .inl ⟨by omega, by omega⟩)
        have HV1 := hid (show ((q : Int) - 1 + 1).toNat = q by omega)
        have HV2 := hid (show (-1 : Int) ≤ (q : Int) - 1 ∧ (q : Int) - 1 ≤ B from ⟨by omega, by omega⟩)
        have e1 : IntKind.i64.wrap (-(q : Int)) = -(q : Int) := IntWalk.i64_in _ (by omega)
        have e2 : IntKind.i8.wrap (-(q : Int)) = -(q : Int) := IntWalk.i8_in _ (by omega)
        have hqz : ((q : Int) == 0) = false := by simp; omega
        have e3 : IntKind.i64.wrap ((st : Int) + (q : Int)) = (st : Int) + (q : Int) := IntWalk.i64_in _ (by omega)
        obtain ⟨p, hp⟩ : ∃ p, p = st + q - 1 := ⟨_, rfl⟩
        have e4 : IntKind.i64.wrap ((st : Int) + (q : Int) - 1) = (p : Int) := by rw [IntWalk.i64_in _ (by omega)]; omega
        by_cases hpk : k ≤ p
        · have t1 : decide ((k : Int) ≤ (p : Int)) = true := by rw [decide_eq_true_iff]; omega
          rw [HSK.out q hq1 (by rw [HREP.out q, decide_eq_false (by omega), Bool.false_and]), List.append_nil] at hD2
          have HD2 := hid hD2
          clear hp hD2 hD hv hv0 hv1 h0
          go_wp2_with fail
          go_quiet (fail)
          go_wp2_with fail
          go_roundw
          case rel => exact ⟨_, D, F', HV2.out.1, HV2.out.2, rfl, hid (by rw [HV1.out]; exact HD2.out), hid (by rw [HV1.out]; have := HDB.out; omega), hid (hSr.out.gr ((Gr.refl _).drewN _)), hid (hMt.out.drewN _)⟩
          case measure => simp [intOf] <;> omega
        · have t1 : decide ((k : Int) ≤ (p : Int)) = false := by rw [decide_eq_false_iff_not]; omega
          have t2 : decide (k ≤ p) = false := decide_eq_false hpk
          obtain ⟨b2, o2, e5, cp0⟩ := HMr.out p (by rw [← HN.out]; omega)
          simp only [Option.some.injEq, Addr.mk.injEq, and_true] at e5
          obtain ⟨rfl, rfl⟩ := e5
          have hp0 : (0 : Int) ≤ (p : Int) := by omega
          have hp1 : (p : Int) < (n : Int) := by omega
          have hrep := HREP.out q
          rw [decide_eq_true (by omega), Bool.true_and, ← hp] at hrep
          generalize m.getD p 0 = y at *
          cases hy : (y == kd) with
          | false =>
            rw [HSK.out q hq1 (by rw [hrep, hy]), List.append_nil] at hD2
            have HD2 := hid hD2
            have hy' : (y != kd) = true := by rw [bne, hy]; rfl
            clear hp hD2 hD hv hv0 hv1 h0 hrep hpk
            go_wp2_with fail
            go_quiet (fail)
            go_wp2_with fail
            go_roundw
            case rel => exact ⟨_, D, F', HV2.out.1, HV2.out.2, rfl, hid (by rw [HV1.out]; exact HD2.out), hid (by rw [HV1.out]; have := HDB.out; omega), hid (hSr.out.gr ((Gr.refl _).drewN _)), hid (hMt.out.drewN _)⟩
            case measure => simp [intOf] <;> omega
          | true =>
            rw [HRP.out q hq1 (by rw [hrep, hy])] at hD2
            have HD2 := hid hD2
            have hy' : (y != kd) = false := by rw [bne, hy]; rfl
            clear hp hD2 hD hv hv0 hv1 h0 hrep hpk
            go_wp2_with fail
            go_quiet (fail)
            go_wp2_with (at_builtin; refine wpList_append_own _ rfl _ _ 28 rfl _ 22 i0 (.int .i8 0) 1 1 Tryd.underlying28 hi hz0 hz1 hz2 rfl (by decide) _ _ _ rfl (Own.new (k := .i8) (e := 22) _ [] (by simp)).row ⟨bh, oh, none⟩ k ch (h.map (Value.int .i8)) rfl (by rw [List.length_map, Nat.mul_one]; exact HK.out.symm) (news_of_slice (HHr.out.gr (((Gr.refl wr).drewN _).alloc (.cells #[] 22)))) (by simp [Value.oneCell']) (by unfold maxLen; simp; omega) (by simp; omega) (by simp) ?_)
            intro v1 w1 hown hgrow _
            have OV := hid (Own.ofRow (k := .i8) (xs := h) hown (by simp) (by rw [← HK.out]))
            have G1 : Hid (Gr wr w1) := hid ((((Gr.refl wr).drewN _).alloc (.cells #[] 22)).by_ hgrow (fun b e => by cases e; exact Nat.le_refl _))
            obtain ⟨av, cv, hv1'⟩ := OV.out.shape
            rw [← HK.out] at hv1'
            subst hv1'
            have ROW1 := hid OV.out.row
            rw [← HK.out] at ROW1
            clear hown hgrow
            go_wp2_with (at_builtin; refine wpList_append_own _ rfl _ _ 28 rfl _ 22 i0 (.int .i8 0) 1 1 Tryd.underlying28 hi hz0 hz1 hz2 rfl (by decide) _ _ _ rfl (ROW1.out.alloc _) ⟨w1.heap.size, 0, none⟩ 1 1 [.int .i8 (-(q : Int))] rfl rfl (cell_l1 _ _ _) (by simp [Value.oneCell']) (by unfold maxLen; omega) (by omega) (by have := G1.out.size; simp; omega) ?_)
            intro v2 w2 hown2 hgrow2 _
            obtain ⟨g2, c2', rfl, hg2, _⟩ := hown2.form (by omega)
            have OX := hid (Own.ofRow (k := .i8) (xs := h ++ [-(q : Int)]) hown2 (by simp) (by rw [HLA.out])).reads
            have G2 := hid ((G1.out.alloc (.cells #[.int .i8 (-(q : Int))] 22)).by_ hgrow2 (fun b e => (ROW1.out.lt b e).1))
            have hg2' : g2 ≠ Bs := by have h1 : wr.heap.size ≤ g2 := hg2; have h2 := hMt.out.size; omega
            have d1 := G2.out.cell hSr.out.cellS
            obtain ⟨sv, hsv⟩ : ∃ sv, sv = setsTo (h ++ [-(q : Int)]) (k + 1) (k + 1) := ⟨_, rfl⟩
            have HSX := hid (HSETS.out (-(q : Int)) (.inr HX.out))
            rw [← hsv] at HSX
            have t5 := HFD.out (-(q : Int))
            rw [← hsv] at t5
            have HIX := hid (HI.out (-(q : Int)) HX.out)
            rw [HLA.out] at HIX
            clear hown2 hgrow2 hsv
            cases hok : okX S h (-(q : Int)) with
            | false =>
              rw [hok] at t5
              have HE := hid (show D ++ restN (goF m S B f) m S h q = G by have := HD2.out; rw [hok, if_neg (by simp), List.append_nil] at this; exact this)
              clear hok
              go_wp2_with fail
              go_region_held3 (fun V => V.cell? ⟨Bs, 1, none⟩ = some (.int .i64 S)) (first | go_keep | exact gV.cell (by assumption) | assumption) ((go_at_call 99; refine (HSX.out _ _ _ (OX.out.gr (by first | exact Gr.refl _ | exact (Gr.refl _).drew | exact (Gr.refl _).drewN _))).mono ?_; rintro e V ⟨rfl, gV⟩; have GV : Gr w2 V := Gr.trans (by first | exact Gr.refl _ | exact (Gr.refl _).drew | exact (Gr.refl _).drewN _) gV))
              all_goals
                have GZ := hid (G2.out.trans GV)
                clear GV gV
                go_wp2_with fail
                go_roundw
                case rel => exact ⟨_, D, F', HV2.out.1, HV2.out.2, rfl, hid (by rw [HV1.out]; exact HE.out), hid (by rw [HV1.out]; have := HDB.out; omega), hid (by first | exact hSr.out.gr GZ.out | exact hSr.out.gr (GZ.out.drew) | exact hSr.out.gr (GZ.out.drewN _)), hid (by first | exact hMt.out.gr GZ.out | exact hMt.out.gr (GZ.out.drew) | exact hMt.out.gr (GZ.out.drewN _))⟩
                case measure => simp [intOf] <;> omega
            | true =>
              rw [hok] at t5
              have HE := hid (show D ++ goF m S B f (h ++ [(-(q : Int))]) ++ restN (goF m S B f) m S h q = G by have := HD2.out; rw [hok, if_pos rfl] at this; exact this)
              have HLD := hid (show (L ++ D).length + P ≤ 1000000 by have h1 := HDB.out; have h2 := HB5.out; have h3 := HC.out; rw [List.length_append]; omega)
              have HGX := hid (HGL.out (h ++ [(-(q : Int))]))
              have HIY := hid (fun V (g : Gr w2 V) => HIX.out hok g2 c2' (L ++ D) F' V hg2' HLD.out (hSr.out.gr (G2.out.trans g)) (HMr.out.gr (G2.out.trans g)) (OX.out.gr g))
              clear hok
              go_wp2_with fail
              go_region_held3 (fun V => V.cell? ⟨Bs, 1, none⟩ = some (.int .i64 S)) (first | go_keep | exact gV.cell (by assumption) | assumption) ((go_at_call 99; refine (HSX.out _ _ _ (OX.out.gr (by first | exact Gr.refl _ | exact (Gr.refl _).drew | exact (Gr.refl _).drewN _))).mono ?_; rintro e V ⟨rfl, gV⟩; have GV : Gr w2 V := Gr.trans (by first | exact Gr.refl _ | exact (Gr.refl _).drew | exact (Gr.refl _).drewN _) gV))
              all_goals
                have GZ := hid GV
                clear GV gV
                go_wp2_with fail
                refine (HIY.out _ (by first | exact GZ.out | exact GZ.out.drew | exact GZ.out.drewN _)).mono ?_
                rintro e w4 ⟨rfl, mt, F2, sr⟩
                have MT : Hid (Mt Bs w w4) := hid ((hMt.out.gr (G2.out.trans (by first | exact GZ.out | exact GZ.out.drew | exact GZ.out.drewN _))).trans mt)
                have SR := hid sr
                clear mt sr
                go_wp2_with fail
                go_roundw
                case rel => exact ⟨_, D ++ goF m S B f (h ++ [(-(q : Int))]), F2, HV2.out.1, HV2.out.2, rfl, hid (by rw [HV1.out]; exact HE.out), hid (by rw [HV1.out, List.length_append]; have h1 := HDB.out; have h2 := HGX.out; omega), hid (by rw [← List.append_assoc]; exact SR.out), MT⟩
                case measure => simp [intOf] <;> omega
      · have HV1 := hid (show (v + 1).toNat = 0 by omega)
        have HE := hid (show D = G by have := hD.out; rw [HV1.out] at this; simpa [restN] using this)
        clear h0 hD hDL
        go_wp2_with fail
        go_end0
        exact ⟨rfl, hMt.out, F', by rw [← HE.out]; exact hSr.out⟩
end Go.Proofs.YtfaiehjomcgjgaaDoor

/- The model's search of hoists, whole; HoistFor, WaysToHoist of the model. -/
namespace Go.Proofs.YtfaiehjomcgjgaaDoor
set_option linter.unusedVariables false
open Go.RowKit
theorem look_all (Bs bm om cm n : Nat) (m : List Int) (S : Int) (B : Nat) (hn : n = m.length) (hn8 : n ≤ 8) (hB : B ≤ 4) (hbm : bm ≠ Bs) (hnum : ∀ i, i < n → m.getD i 0 = -10 ∨ (0 ≤ m.getD i 0 ∧ m.getD i 0 ≤ 39)) (f : Nat) : LookOk Bs bm om cm n m S B f := by
  induction f with
  | zero => exact look_zero Bs bm om cm n m S B hn8 hbm
  | succ f ih =>
    intro h hl hN hF bh oh ch st L F w hst hbh hc hS hm hh
    by_cases hb : m.getD h.length 0 = -10
    · exact look_brk Bs bm om cm n m S B f hn hn8 hbm ih h hl hN hF hb bh oh ch st L F w hbh hc hS hm hh
    · subst hst
      exact look_kind Bs bm om cm n m S B f hn hn8 hB hbm hnum ih h hl hN hF hb bh oh ch L F w hbh hc hS hm hh
theorem plain_nums {m : List Int} (h : plainH m = true) : ∀ i, i < m.length → m.getD i 0 = -10 ∨ (0 ≤ m.getD i 0 ∧ m.getD i 0 ≤ 39) := by
  intro i hi
  have hv := plainH_valid h
  rcases validH_num hv hi with h1 | h1 | h1
  · exact .inl h1
  · have h2 := h
    unfold plainH at h2
    simp only [Bool.and_eq_true] at h2
    have h3 := allTo_iff.1 h2.2 i hi
    unfold ownAt at h3
    rw [subI_iff.2 h1] at h3
    cases h3
  · exact .inr h1
/-- All hoists have been found. -/
def FindPost (M : Value) (S B : Int) (R : List (List Int)) (w : World) (e : Ending) (w' : World) : Prop := e = .returned (.pointer (some ⟨w.heap.size, 0, none⟩)) ∧ (∃ F, Srch w' w.heap.size M S B R F) ∧ Gr w w'
set_option maxRecDepth 100000 in
set_option maxHeartbeats 2000000 in
theorem l02Find_any (bm om cm n : Nat) (m : List Int) (S : Int) (B : Nat) (hn : n = m.length) (hv : plainH m = true) (hS0 : 0 ≤ S) (hB : B ≤ 4) (w : World) (hm : SliceOf .i8 w (some ⟨bm, om, none⟩) m) :
    Calls Tryd.prog 65 #[.slice (some ⟨bm, om, none⟩) n cm, .int .i64 S, .int .i64 B] w (FindPost (.slice (some ⟨bm, om, none⟩) n cm) S B (hoistsL m S B) w) := by
  obtain ⟨h1, h8⟩ := validH_len (plainH_valid hv)
  obtain ⟨b', o', e', cm0⟩ := hm 0 (by omega)
  simp only [Option.some.injEq, Addr.mk.injEq, and_true] at e'
  obtain ⟨rfl, rfl⟩ := e'
  have hbl := World.block_lt_of_cell? _ _ cm0
  dsimp only at hbl
  have HP := hid (Nat.pow_le_pow_right (show 0 < 5 by omega) h8)
  have LA := hid (look_all w.heap.size bm om cm n m S B hn (by omega) hB (by omega) (fun i hi => plain_nums hv i (by omega)) n)
  have HL := hid (show hoistsL m S B = [] ++ goF m S B n [] by rw [hn]; rfl)
  have HN := hid hn
  have HM := hid hm
  clear cm0 hm hv hn
  go_enter Tryd.func65, Tryd.ntmps65
  go_wp2_with fail
  have SR := hid (Srch.mk (L := []) (S := S) (B := (B : Int)) (M := .slice (some ⟨bm, om, none⟩) n cm) (F := .slice none 0 0) (heap_kept (o := .cells #[] 22) (heap_new (w := w) (o := .cells #[.slice (some ⟨bm, om, none⟩) n cm, .int .i64 S, .int .i64 B, .int .i64 0, .slice none 0 0] 95) rfl)) (show FstOk _ w.heap.size [] (.slice none 0 0) from rfl))
  have G := hid (((Gr.refl w).alloc (.cells #[.slice (some ⟨bm, om, none⟩) n cm, .int .i64 S, .int .i64 B, .int .i64 0, .slice none 0 0] 95)).alloc (.cells #[] 22))
  have hb : ([] : List (List Int)).length + 5 ^ n ≤ 1000000 := by rw [HN.out, List.length_nil, Nat.zero_add]; exact Nat.le_trans HP.out (by decide)
  have hz : ([] : List Int).length + n = n := by rw [List.length_nil, Nat.zero_add]
  refine (LA.out [] hz NumN.nil (Fine.nil hS0) (w.heap.size + 1) 0 0 0 [] (.slice none 0 0) _ rfl (by omega) hb SR.out (HM.out.gr G.out) (fun i hi => absurd hi (Nat.not_lt_zero i))).mono ?_
  rintro e w1 ⟨rfl, mt, F, sr⟩
  have MT := hid (Below.trans G.out (mt.below (Nat.le_refl _) (by simp; omega)))
  have SO := hid sr
  clear mt sr
  go_wp2_with fail
  go_ret
  exact ⟨rfl, ⟨F, by rw [HL.out]; exact SO.out⟩, MT.out⟩
/-- What is wrong with a wish. -/
def askC (m : List Int) (S B : Int) : Int := if plainH m then (if betB S 1 8 && betB B 0 4 then 0 else 2) else 1
theorem askC_yes {m : List Int} {S B : Int} (h : askC m S B = 0) : plainH m = true ∧ (1 ≤ S ∧ S ≤ 8) ∧ (0 ≤ B ∧ B ≤ 4) := by
  unfold askC at h
  cases hv : plainH m
  · rw [hv] at h; cases h
  · rw [hv, if_pos rfl] at h
    cases hb : (betB S 1 8 && betB B 0 4)
    · rw [hb] at h; cases h
    · simp only [Bool.and_eq_true] at hb
      unfold betB at hb
      simp only [Bool.and_eq_true, decide_eq_true_eq] at hb
      exact ⟨rfl, hb.1, hb.2⟩
set_option maxRecDepth 100000 in
set_option maxHeartbeats 1000000 in
theorem l02Asked_any (a : Option Addr) (n cap : Nat) (m : List Int) (hn : n = m.length) (hm : n ≤ 1048576) (hf : Fits .i8 m) (S B : Int) (w : World) (hs : SliceOf .i8 w a m) :
    Calls Tryd.prog 64 #[.slice a n cap, .int .i64 S, .int .i64 B] w fun e w' => e = .returned (.int .i64 (askC m S B)) ∧ Gr w w' := by
  have HP := hid (l02Plain_any a n cap m hn hm hf w hs)
  have HA : Hid (askC m S B = if plainH m then (if betB S 1 8 && betB B 0 4 then 0 else 2) else 1) := hid rfl
  clear hs hf hn
  generalize askC m S B = c at *
  generalize plainH m = p at *
  cases p with
  | false =>
    have HC := hid (show c = 1 from HA.out)
    clear HA
    go_enter Tryd.func64, Tryd.ntmps64
    go_wp2_with fail
    refine HP.out.mono ?_
    rintro e w1 ⟨rfl, g1⟩
    have G1 := hid g1
    clear g1
    go_wp2_with fail
    go_ret
    exact ⟨ret_int HC.out.symm, G1.out⟩
  | true =>
    cases hb : betB S 1 8 with
    | false =>
      have HC := hid (show c = 2 by have := HA.out; rw [hb] at this; exact this)
      have HB := hid hb
      clear HA hb
      go_enter Tryd.func64, Tryd.ntmps64
      go_wp2_with fail
      refine HP.out.mono ?_
      rintro e w1 ⟨rfl, g1⟩
      have G1 := hid g1
      clear g1
      go_wp2_with fail
      refine (l00In_b _ _ _ _).mono ?_
      rintro e w' ⟨rfl, rfl⟩
      rw [HB.out]
      go_wp2_with fail
      go_ret
      exact ⟨ret_int HC.out.symm, G1.out⟩
    | true =>
      cases hb2 : betB B 0 4 with
      | false =>
        have HC := hid (show c = 2 by have := HA.out; rw [hb, hb2] at this; exact this)
        have HB := hid hb
        have HB2 := hid hb2
        clear HA hb hb2
        go_enter Tryd.func64, Tryd.ntmps64
        go_wp2_with fail
        refine HP.out.mono ?_
        rintro e w1 ⟨rfl, g1⟩
        have G1 := hid g1
        clear g1
        go_wp2_with fail
        refine (l00In_b _ _ _ _).mono ?_
        rintro e w' ⟨rfl, rfl⟩
        rw [HB.out]
        go_wp2_with fail
        refine (l00In_b _ _ _ _).mono ?_
        rintro e w' ⟨rfl, rfl⟩
        rw [HB2.out]
        go_wp2_with fail
        go_ret
        exact ⟨ret_int HC.out.symm, G1.out⟩
      | true =>
        have HC := hid (show c = 0 by have := HA.out; rw [hb, hb2] at this; exact this)
        have HB := hid hb
        have HB2 := hid hb2
        clear HA hb hb2
        go_enter Tryd.func64, Tryd.ntmps64
        go_wp2_with fail
        refine HP.out.mono ?_
        rintro e w1 ⟨rfl, g1⟩
        have G1 := hid g1
        clear g1
        go_wp2_with fail
        refine (l00In_b _ _ _ _).mono ?_
        rintro e w' ⟨rfl, rfl⟩
        rw [HB.out]
        go_wp2_with fail
        refine (l00In_b _ _ _ _).mono ?_
        rintro e w' ⟨rfl, rfl⟩
        rw [HB2.out]
        go_wp2_with fail
        go_ret
        exact ⟨ret_int HC.out.symm, G1.out⟩
def headL (R : List (List Int)) : List Int := match R with | [] => [] | h :: _ => h
def headC (R : List (List Int)) : Int := match R with | [] => 6 | _ :: _ => 0
def hforL (m : List Int) (S B : Int) : List Int := if askC m S B = 0 then headL (hoistsL m S B.toNat) else []
def hforC (m : List Int) (S B : Int) : Int := if askC m S B = 0 then headC (hoistsL m S B.toNat) else askC m S B
def waysV (m : List Int) (S B : Int) : Int := if askC m S B = 0 then ((hoistsL m S B.toNat).length : Int) else 0
theorem hfor_no {m : List Int} {S B : Int} (h : ¬ askC m S B = 0) : hforL m S B = [] ∧ hforC m S B = askC m S B ∧ waysV m S B = 0 := by
  unfold hforL hforC waysV
  rw [if_neg h, if_neg h, if_neg h]
  exact ⟨rfl, rfl, rfl⟩
theorem hfor_yes {m : List Int} {S B : Int} (h : askC m S B = 0) : hforL m S B = headL (hoistsL m S B.toNat) ∧ hforC m S B = headC (hoistsL m S B.toNat) ∧ waysV m S B = ((hoistsL m S B.toNat).length : Int) := by
  unfold hforL hforC waysV
  rw [if_pos h, if_pos h, if_pos h]
  exact ⟨rfl, rfl, rfl⟩
theorem slice_some {w : World} {a : Option Addr} {m : List Int} (h1 : 1 ≤ m.length) (hs : SliceOf .i8 w a m) : ∃ b o, a = some ⟨b, o, none⟩ := by
  obtain ⟨b, o, e, _⟩ := hs 0 (by omega)
  exact ⟨b, o, e⟩
set_option maxRecDepth 100000 in
set_option maxHeartbeats 2000000 in
theorem spec_HoistFor_cap (a : Option Addr) (cap : Nat) (m : List Int) (hm : m.length ≤ 1048576) (hcap : m.length ≤ cap) (hf : Fits .i8 m) (S : Int) (_hS : (Lit.int .i64 S).wf = true) (B : Int) (_hB : (Lit.int .i64 B).wf = true) (w : World) (hs : SliceOf .i8 w a m) :
    Calls Tryd.prog 38 #[.slice a m.length cap, .int .i64 S, .int .i64 B] w (RetOwn .i8 22 (withCode (hforC m S B)) (hforL m S B) w) := by
  have HQ := hid (l02Asked_any a m.length cap m rfl hm hf S B w hs)
  by_cases hc : askC m S B = 0
  · obtain ⟨hv, ⟨hS1, hS8⟩, hB0, hB4⟩ := askC_yes hc
    obtain ⟨eL, eC, _⟩ := hfor_yes hc
    rw [eL, eC]
    rw [hc] at HQ
    obtain ⟨bb, rfl⟩ := Int.eq_ofNat_of_zero_le hB0
    obtain ⟨bm, om, rfl⟩ := slice_some (validH_len (plainH_valid hv)).1 hs
    rw [Int.toNat_natCast]
    have HF := hid (fun (W : World) (g : Gr w W) => l02Find_any bm om cap m.length m S bb rfl hv (by omega) (by omega) W (hs.gr g))
    clear eL eC hs hf hv hc
    generalize m.length = n at *
    generalize hR : hoistsL m S bb = R at *
    clear hR
    cases R with
    | nil =>
      go_enter Tryd.func38, Tryd.ntmps38
      go_wp2_with fail
      refine HQ.out.mono ?_
      rintro e w1 ⟨rfl, g1⟩
      have G1 := hid g1
      clear g1
      go_wp2_with fail
      refine (HF.out w1 G1.out).mono ?_
      rintro e w2 ⟨rfl, ⟨F, sr⟩, g2⟩
      have SR := hid sr
      have G2 := hid (G1.out.trans g2)
      have c3 : w2.cell? ⟨w1.heap.size, 3, none⟩ = some (.int .i64 0) := sr.cellC
      clear g2 sr
      go_wp2_with fail
      go_ret2
      exact ret_empty G2.out _
    | cons x R =>
      go_enter Tryd.func38, Tryd.ntmps38
      go_wp2_with fail
      refine HQ.out.mono ?_
      rintro e w1 ⟨rfl, g1⟩
      have G1 := hid g1
      clear g1
      go_wp2_with fail
      refine (HF.out w1 G1.out).mono ?_
      rintro e w2 ⟨rfl, ⟨F, sr⟩, g2⟩
      have G2 := hid (G1.out.trans g2)
      have c3 : w2.cell? ⟨w1.heap.size, 3, none⟩ = some (.int .i64 ((x :: R).length : Int)) := sr.cellC
      have c4 := sr.cellF
      have OF : Hid (Own .i8 22 w2 w.heap.size w2.heap.size F x) := hid ((show Own .i8 22 w2 (w1.heap.size + 1) w2.heap.size F x from sr.fst).widen (by have := G1.out.size; omega) (Nat.le_refl _))
      have hne : (((x :: R).length : Int) == 0) = false := by simp; omega
      generalize (x :: R).length = q at *
      clear g2 sr
      go_wp2_with fail
      go_ret2
      exact ⟨F, rfl, OF.out, G2.out⟩
  · obtain ⟨eL, eC, _⟩ := hfor_no hc
    rw [eL, eC]
    have hcb : (askC m S B != 0) = true := by rw [bne_iff_ne]; exact hc
    clear eL eC hs hf hc
    generalize askC m S B = c at *
    generalize m.length = n at *
    go_enter Tryd.func38, Tryd.ntmps38
    go_wp2_with fail
    refine HQ.out.mono ?_
    rintro e w1 ⟨rfl, g1⟩
    have G1 := hid g1
    clear g1
    go_wp2_with fail
    go_ret2
    exact ret_empty G1.out _
theorem spec_HoistFor_any (a : Option Addr) (m : List Int) (hm : m.length ≤ 1048576) (hf : Fits .i8 m) (S : Int) (_hS : (Lit.int .i64 S).wf = true) (B : Int) (_hB : (Lit.int .i64 B).wf = true) (w : World) (hs : SliceOf .i8 w a m) :
    Calls Tryd.prog 38 #[.slice a m.length m.length, .int .i64 S, .int .i64 B] w (RetOwn .i8 22 (withCode (hforC m S B)) (hforL m S B) w) := spec_HoistFor_cap a _ m hm (Nat.le_refl _) hf S _hS B _hB w hs
end Go.Proofs.YtfaiehjomcgjgaaDoor

/- LeastSets of the model. -/
namespace Go.Proofs.YtfaiehjomcgjgaaDoor
set_option linter.unusedVariables false
open Go.RowKit
theorem goN_some {next : List Int → List (List Int)} {m : List Int} {S : Int} {h : List Int} (hx : okX S h (m.getD h.length 0) = true) (hn : next (h ++ [m.getD h.length 0]) ≠ []) (n : Nat) : goN next m S h n ≠ [] := by
  induction n with
  | zero => rw [goN, if_pos hx]; exact hn
  | succ n ih =>
    rw [goN]
    intro e
    exact ih (List.append_eq_nil_iff.1 e).2
theorem goF_some (m : List Int) (S : Int) (hS : 8 ≤ S) (B f : Nat) : ∀ h : List Int, h.length + f ≤ 8 → goF m S B f h ≠ [] := by
  induction f with
  | zero => intro h _; rw [goF_zero]; simp
  | succ f ih =>
    intro h hl
    rw [goF_succ]
    refine goN_some ?_ (ih _ (by rw [List.length_append, List.length_singleton]; omega)) B
    unfold okX
    have := (occ_bd h (m.getD h.length 0) h.length).2
    rw [Bool.or_eq_true]
    right
    rw [decide_eq_true_eq]
    omega
theorem hoistsL_some {m : List Int} (hl : m.length ≤ 8) (B : Nat) : hoistsL m (8 : Nat) B ≠ [] := goF_some m _ (by omega) B _ [] (by simpa using hl)
/-- The least number of sets from s on, within f more. -/
def leastN (m : List Int) (B : Nat) : Nat → Nat → Nat
  | 0, s => s
  | f + 1, s => if hoistsL m (s : Nat) B = [] then leastN m B f (s + 1) else s
def leastC (m : List Int) (B : Int) : Int := askC m 1 B
def leastV (m : List Int) (B : Int) : Int := if askC m 1 B = 0 then (leastN m B.toNat 7 1 : Nat) else 0
theorem leastV_no {m : List Int} {B : Int} (h : ¬ askC m 1 B = 0) : leastV m B = 0 := by unfold leastV; rw [if_neg h]
theorem leastV_yes {m : List Int} {B : Int} (h : askC m 1 B = 0) : leastV m B = (leastN m B.toNat 7 1 : Nat) := by unfold leastV; rw [if_pos h]
theorem leastN_stop {m : List Int} {B s : Nat} (h : hoistsL m (s : Nat) B ≠ []) (f : Nat) : leastN m B f s = s := by
  cases f with
  | zero => rfl
  | succ f => rw [leastN, if_neg h]
end Go.Proofs.YtfaiehjomcgjgaaDoor
