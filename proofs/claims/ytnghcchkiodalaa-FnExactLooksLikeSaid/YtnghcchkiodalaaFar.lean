/- From afar: BlurDistance, IsUpsideDown: the functions. -/
import Derived.Test.YtnghcchkiodalaaBlurI
import Derived.Test.YtnghcchkiodalaaDist
import Derived.Test.YtnghcchkiodalaaEqArr
import Derived.Test.YtnghcchkiodalaaViewWalks
namespace Go.Proofs.Ytnghcchkiodalaa
open Go.RowKit
set_option maxHeartbeats 2000000 in
set_option maxRecDepth 100000 in
theorem l01Far_any (b0 o0 b1 o1 : Nat) (xs ys : List Int) (lx : xs.length = 24) (ly : ys.length = 24) (hx : Bytes xs) (hy : Bytes ys) (ox : okB xs = true) (oy : okB ys = true) (w : World) (h0 : BytesAt w b0 o0 xs) (h1 : BytesAt w b1 o1 ys) (t0 : b0 < w.heap.size) (t1 : b1 < w.heap.size) :
    Calls Try.prog 49 #[.pointer (some ⟨b0, o0, none⟩), .pointer (some ⟨b1, o1, none⟩)] w fun e w' => e = .returned (.int .i64 (diffTo (blurL xs) (blurL ys) 6)) ∧ Grown w w' := by
  have HX := hid (l01Blur_any b0 o0 xs lx hx ox w h0 t0)
  have HY := hid (fun (W : World) (g : Grown w W) => l01Blur_any b1 o1 ys ly hy oy W (fun i hi => cell_grown g (h1 i hi)) (Nat.lt_of_lt_of_le t1 g.size))
  have LX := hid (blurL_length xs)
  have LY := hid (blurL_length ys)
  clear lx ly hx hy ox oy h0 h1 t0 t1
  generalize blurL xs = us at *
  generalize blurL ys = vs at *
  go_enter Try.func49, Try.ntmps49
  go_wp2_with fail
  refine HX.out.mono ?_
  rintro e w1 ⟨rfl, g⟩
  have n1 := hid (heap_new (w := w1) (o := (.cells (byteCells zeros6) 23)) rfl)
  have c1 := hid (heap_row_set (cs := byteCells us) n1.out)
  have gr := hid (Grown_setRow (g.alloc (byteCells zeros6) 23) g.size (byteCells us))
  clear g HX
  go_wp2_with (refine wpList_store_bytes rfl 23 _ _ rfl _ us zeros6 rfl rfl _ 6 n1.out (by kernel_rfl) LX.out rfl ?_)
  refine (HY.out _ gr.out).mono ?_
  rintro e w2 ⟨rfl, g⟩
  replace c1 := hid (heap_grown g c1.out)
  replace gr := hid (Grown_trans gr.out g)
  have n2 := hid (heap_new (w := w2) (o := (.cells (byteCells zeros6) 23)) rfl)
  have c2 := hid (heap_row_set (cs := byteCells vs) n2.out)
  replace c1 := hid (heap_row_kept (g := w2.heap.size) (cs := byteCells vs) (by have := lt_of_heap c1.out; omega) (heap_kept (o := (.cells (byteCells zeros6) 23)) c1.out))
  have hgz := gr.out.size
  replace gr := hid (Grown_setRow (gr.out.alloc (byteCells zeros6) 23) hgz (byteCells vs))
  clear g HY n1 hgz
  go_wp2_with (refine wpList_store_bytes rfl 23 _ _ rfl _ vs zeros6 rfl rfl _ 6 n2.out (by kernel_rfl) LY.out rfl ?_)
  clear n2
  obtain ⟨z1, hz1⟩ : ∃ z, z = w1.heap.size := ⟨_, rfl⟩
  obtain ⟨z2, hz2⟩ : ∃ z, z = w2.heap.size := ⟨_, rfl⟩
  rw [← hz1] at c1 ⊢
  rw [← hz2] at c1 c2 gr ⊢
  have HZ2 := hid hz2
  clear hz1 hz2
  go_loopw [7, 8] (fun d i wr => ∃ k : Nat, k ≤ 6 ∧ i = .int .i64 k ∧ d = .int .i64 (diffTo us vs k) ∧ Hid (Grown w wr) ∧ Hid (wr.heap[z1]? = some (.cells (byteCells us) 23 (0, 0))) ∧ Hid (wr.heap[z2]? = some (.cells (byteCells vs) 23 (0, 0)))) (fun _ i _ => 6 - (intOf i).toNat)
  case atStart => exact ⟨0, Nat.zero_le _, rfl, rfl, gr, c1, c2⟩
  case round =>
    clear gr c1 c2
    obtain ⟨k, hk, rfl, rfl, gr, c1, c2⟩ := hrel
    by_cases hlt : k < 6
    · have hc0 := cell_ints (k := .u8) c1.out (i := k) (by rw [LX.out]; exact hlt)
      have hc1 := cell_ints (k := .u8) c2.out (i := k) (by rw [LY.out]; exact hlt)
      obtain ⟨hb0, hb1⟩ := diffTo_bd us vs k
      have hk0 : (0 : Int) ≤ k := by omega
      have hk1 : (k : Int) < 6 := by omega
      cases hv : (us.getD k 0 != vs.getD k 0)
      case true =>
        have HD := hid (diffTo_yes us vs k hv)
        generalize us.getD k 0 = x at *
        generalize vs.getD k 0 = y at *
        generalize diffTo us vs k = d at *
        go_wp2_with fail
        go_quiet (fail)
        go_wp2_with fail
        go_roundw
        case rel => exact ⟨k + 1, by omega, by go_num, by rw [HD.out], hid (gr.out.drewN _), c1, c2⟩
        case measure => simp [intOf] <;> omega
      case false =>
        have HD := hid (diffTo_no us vs k hv)
        generalize us.getD k 0 = x at *
        generalize vs.getD k 0 = y at *
        generalize diffTo us vs k = d at *
        go_wp2_with fail
        go_quiet (fail)
        go_wp2_with fail
        go_roundw
        case rel => exact ⟨k + 1, by omega, by go_num, by rw [HD.out], hid (gr.out.drewN _), c1, c2⟩
        case measure => simp [intOf] <;> omega
    · have hk6 : diffTo us vs k = diffTo us vs 6 := by rw [show k = 6 by omega]
      rw [hk6]
      clear hk6
      go_wp2_with fail
      go_ret
      exact ⟨rfl, gr.out⟩
def far (xs ys : List Int) : Int := diffTo (blurL xs) (blurL ys) 6
def farV (xs ys : List Int) : Int := if okB xs && okB ys then far xs ys else 0
def farC (xs ys : List Int) : Int := if okB xs && okB ys then 0 else 1
theorem far_no {xs ys : List Int} (h : (okB xs && okB ys) = false) : farV xs ys = 0 ∧ farC xs ys = 1 := by unfold farV farC; rw [h]; exact ⟨rfl, rfl⟩
theorem far_yes {xs ys : List Int} (h1 : okB xs = true) (h2 : okB ys = true) : farV xs ys = far xs ys ∧ farC xs ys = 0 := by unfold farV farC; rw [h1, h2]; exact ⟨rfl, rfl⟩
def downV (xs ys : List Int) : Bool := (okB xs && okB ys) && sameFrom (turnL xs) ys 0 24
theorem down_no {xs ys : List Int} (h : (okB xs && okB ys) = false) : downV xs ys = false := by unfold downV; rw [h]; rfl
theorem down_yes {xs ys : List Int} (h1 : okB xs = true) (h2 : okB ys = true) : downV xs ys = sameFrom (turnL xs) ys 0 24 := by unfold downV; rw [h1, h2]; rfl
theorem blocksApart_any (us vs : List Int) (lu : us.length = 6) (lv : vs.length = 6) (w : World) :
    Calls Try.prog 50 #[.agg (byteCells us), .agg (byteCells vs)] w fun e w' => e = .returned (.int .i64 (diffTo us vs 6)) ∧ Grown w w' := by
  have LU := hid lu
  have LV := hid lv
  clear lu lv
  have b0 : Hid (((w.alloc (.cells (byteCells us) 23)).alloc (.cells (byteCells vs) 23)).heap[w.heap.size]? = some (.cells (byteCells us) 23 (0, 0))) := hid (heap_kept (heap_new rfl))
  have b1 : Hid (((w.alloc (.cells (byteCells us) 23)).alloc (.cells (byteCells vs) 23)).heap[w.heap.size + 1]? = some (.cells (byteCells vs) 23 (0, 0))) := hid (heap_new (by simp))
  have gr : Hid (Grown w ((w.alloc (.cells (byteCells us) 23)).alloc (.cells (byteCells vs) 23))) := hid (((Grown.refl w).alloc _ _).alloc _ _)
  go_enter Try.func50, Try.ntmps50
  go_wp2_with fail
  go_quiet ((go_at_call 79; exact Calls.quiet_of (placesApart_any _ _ _ _ 6 us vs LU.out LV.out (by omega) _ (sliceOf_block (k := .u8) (w := ((w.alloc (.cells (byteCells us) 23)).alloc (.cells (byteCells vs) 23)).drewN _) b0.out) (sliceOf_block (k := .u8) (w := ((w.alloc (.cells (byteCells us) 23)).alloc (.cells (byteCells vs) 23)).drewN _) b1.out))))
  go_wp2_with fail
  go_ret
  exact ⟨rfl, gr.out.drewN _⟩

set_option maxHeartbeats 2000000 in
set_option maxRecDepth 100000 in
theorem spec_BlurDistance_any (xs : List Int) (lx : xs.length = 24) (hx : Bytes xs) (ys : List Int) (ly : ys.length = 24) (hy : Bytes ys) (w : World) :
    Calls Try.prog 17 #[.agg (byteCells xs), .agg (byteCells ys)] w fun e w' => e = .returned (.tuple #[.int .i64 (farV xs ys), .int .i64 (farC xs ys)]) ∧ Grown w w' := by
  have LX := hid lx
  have LY := hid ly
  have BX := hid hx
  have BY := hid hy
  clear lx ly hx hy
  have b0 : Hid (((w.alloc (.cells (byteCells xs) 26)).alloc (.cells (byteCells ys) 26)).heap[w.heap.size]? = some (.cells (byteCells xs) 26 (0, 0))) := hid (heap_kept (heap_new rfl))
  have b1 : Hid (((w.alloc (.cells (byteCells xs) 26)).alloc (.cells (byteCells ys) 26)).heap[w.heap.size + 1]? = some (.cells (byteCells ys) 26 (0, 0))) := hid (heap_new (by simp))
  have gr : Hid (Grown w ((w.alloc (.cells (byteCells xs) 26)).alloc (.cells (byteCells ys) 26))) := hid (((Grown.refl w).alloc _ _).alloc _ _)
  cases ho : okB xs
  · obtain ⟨e0, e2⟩ := far_no (xs := xs) (ys := ys) (by rw [ho]; rfl)
    rw [e0, e2]; skip -- ho
    clear e0 e2
    go_enter Try.func17, Try.ntmps17
    go_wp2_with fail
    refine (l01Ok_any _ _ xs LX.out _ (bytesAt_of_block b0.out)).mono ?_
    rintro e w' ⟨rfl, rfl⟩
    go_wp2_with fail
    go_ret2
    exact ⟨rfl, gr.out⟩
  · cases hp : okB ys
    · obtain ⟨e0, e2⟩ := far_no (xs := xs) (ys := ys) (by rw [ho, hp]; rfl)
      rw [e0, e2]; skip -- ho, hp
      clear e0 e2
      go_enter Try.func17, Try.ntmps17
      go_wp2_with fail
      refine (l01Ok_any _ _ xs LX.out _ (bytesAt_of_block b0.out)).mono ?_
      rintro e w' ⟨rfl, rfl⟩
      go_wp2_with fail
      refine (l01Ok_any _ _ ys LY.out _ (bytesAt_of_block b1.out)).mono ?_
      rintro e w' ⟨rfl, rfl⟩
      go_wp2_with fail
      go_ret2
      exact ⟨rfl, gr.out⟩
    · obtain ⟨e1, e2⟩ := far_yes (xs := xs) (ys := ys) ho hp
      rw [e1, e2]
      have OX := hid ho
      have OY := hid hp
      clear e1 e2
      go_enter Try.func17, Try.ntmps17
      go_wp2_with fail
      refine (l01Ok_any _ _ xs LX.out _ (bytesAt_of_block b0.out)).mono ?_
      rintro e w' ⟨rfl, rfl⟩
      go_wp2_with fail
      refine (l01Ok_any _ _ ys LY.out _ (bytesAt_of_block b1.out)).mono ?_
      rintro e w' ⟨rfl, rfl⟩
      go_wp2_with fail
      refine (l01Far_any _ _ _ _ xs ys LX.out LY.out BX.out BY.out OX.out OY.out _ (bytesAt_of_block b0.out) (bytesAt_of_block b1.out) (lt_of_heap b0.out) (lt_of_heap b1.out)).mono ?_
      rintro e w3 ⟨rfl, g⟩
      have G3 := hid (Grown_trans gr.out g)
      clear g
      go_wp2_with fail
      go_ret2
      exact ⟨rfl, G3.out⟩

@[local go_sem ↓] theorem load_flag (ρ : Operand → Value) (o : Oper) (w : World) (ho : loadsOf 26 o = true) (h : (rowOf w (ρ (loadsFrom o)) 24).isSome = true) :
    (execOp ρ o).run Try.prog w = .ok (.value (.agg ((rowOf w (ρ (loadsFrom o)) 24).getD #[]))) w := run_execOp_rowOf Try.underlying26 (by kernel_rfl) ρ o w ho h
attribute [local go_sem] rowOf_drew loadsOf loadsFrom

set_option maxHeartbeats 4000000 in
set_option maxRecDepth 100000 in
theorem impl_BlurDistance_any (xs : List Int) (lx : xs.length = 24) (hx : Bytes xs) (ys : List Int) (ly : ys.length = 24) (hy : Bytes ys) (w : World) :
    Calls Try.prog 18 #[.agg (byteCells xs), .agg (byteCells ys)] w fun e w' => e = .returned (.tuple #[.int .i64 (farV xs ys), .int .i64 (farC xs ys)]) ∧ Grown w w' := by
  have LX := hid lx
  have LY := hid ly
  have BX := hid hx
  have BY := hid hy
  clear lx ly hx hy
  have b0 : Hid (((w.alloc (.cells (byteCells xs) 26)).alloc (.cells (byteCells ys) 26)).heap[w.heap.size]? = some (.cells (byteCells xs) 26 (0, 0))) := hid (heap_kept (heap_new rfl))
  have b1 : Hid (((w.alloc (.cells (byteCells xs) 26)).alloc (.cells (byteCells ys) 26)).heap[w.heap.size + 1]? = some (.cells (byteCells ys) 26 (0, 0))) := hid (heap_new (by simp))
  have gr : Hid (Grown w ((w.alloc (.cells (byteCells xs) 26)).alloc (.cells (byteCells ys) 26))) := hid (((Grown.refl w).alloc _ _).alloc _ _)
  cases ho : okB xs
  · obtain ⟨e0, e2⟩ := far_no (xs := xs) (ys := ys) (by rw [ho]; rfl)
    rw [e0, e2]; skip -- ho
    clear e0 e2
    go_enter Try.func18, Try.ntmps18
    go_wp2_with (first | (refine wpList_load_bytes rfl 26 _ rfl _ rfl _ xs _ 24 b0.out Try.underlying26 (by kernel_rfl) LX.out ?_))
    refine (impl_ValidFlag_any xs LX.out BX.out _).mono ?_
    rintro e w1 ⟨rfl, g⟩
    replace b0 := hid (heap_grown g b0.out)
    replace b1 := hid (heap_grown g b1.out)
    replace gr := hid (Grown_trans gr.out g)
    clear g
    go_wp2_with fail
    go_ret2
    exact ⟨rfl, gr.out⟩
  · cases hp : okB ys
    · obtain ⟨e0, e2⟩ := far_no (xs := xs) (ys := ys) (by rw [ho, hp]; rfl)
      rw [e0, e2]; skip -- ho, hp
      clear e0 e2
      go_enter Try.func18, Try.ntmps18
      go_wp2_with (first | (refine wpList_load_bytes rfl 26 _ rfl _ rfl _ xs _ 24 b0.out Try.underlying26 (by kernel_rfl) LX.out ?_))
      refine (impl_ValidFlag_any xs LX.out BX.out _).mono ?_
      rintro e w1 ⟨rfl, g⟩
      replace b0 := hid (heap_grown g b0.out)
      replace b1 := hid (heap_grown g b1.out)
      replace gr := hid (Grown_trans gr.out g)
      clear g
      go_wp2_with (first | (refine wpList_load_bytes rfl 26 _ rfl _ rfl _ ys _ 24 b1.out Try.underlying26 (by kernel_rfl) LY.out ?_))
      refine (impl_ValidFlag_any ys LY.out BY.out _).mono ?_
      rintro e w2 ⟨rfl, g⟩
      replace b0 := hid (heap_grown g b0.out)
      replace b1 := hid (heap_grown g b1.out)
      replace gr := hid (Grown_trans gr.out g)
      clear g
      go_wp2_with fail
      go_ret2
      exact ⟨rfl, gr.out⟩
    · obtain ⟨e1, e2⟩ := far_yes (xs := xs) (ys := ys) ho hp
      rw [e1, e2]
      have OX := hid ho
      have OY := hid hp
      clear e1 e2
      go_enter Try.func18, Try.ntmps18
      go_wp2_with (first | (refine wpList_load_bytes rfl 26 _ rfl _ rfl _ xs _ 24 b0.out Try.underlying26 (by kernel_rfl) LX.out ?_))
      refine (impl_ValidFlag_any xs LX.out BX.out _).mono ?_
      rintro e w1 ⟨rfl, g⟩
      replace b0 := hid (heap_grown g b0.out)
      replace b1 := hid (heap_grown g b1.out)
      replace gr := hid (Grown_trans gr.out g)
      clear g
      go_wp2_with (first | (refine wpList_load_bytes rfl 26 _ rfl _ rfl _ ys _ 24 b1.out Try.underlying26 (by kernel_rfl) LY.out ?_))
      refine (impl_ValidFlag_any ys LY.out BY.out _).mono ?_
      rintro e w2 ⟨rfl, g⟩
      replace b0 := hid (heap_grown g b0.out)
      replace b1 := hid (heap_grown g b1.out)
      replace gr := hid (Grown_trans gr.out g)
      clear g
      go_wp2_with fail
      have q0 : rowOf w2 (.pointer (some ⟨w.heap.size, 0, none⟩)) 24 = some (byteCells xs) := rowOf_block b0.out (by rw [byteCells_size]; exact LX.out)
      have q1 : rowOf w2 (.pointer (some ⟨w.heap.size + 1, 0, none⟩)) 24 = some (byteCells ys) := rowOf_block b1.out (by rw [byteCells_size]; exact LY.out)
      have g0 : Grown w w2 := gr.out
      clear b0 b1 gr
      have LU := hid (blurL_length xs)
      have LV := hid (blurL_length ys)
      have HU := hid (fun W => blurred_any xs LX.out BX.out OX.out W)
      have HV := hid (fun W => blurred_any ys LY.out BY.out OY.out W)
      go_region_with (first | ((with_reducible refine (HU.out _).mono ?_); rintro e Va ⟨rfl, ga⟩; have gra : Grown w Va := (by first | exact Grown_trans (by assumption) ga | exact Grown_trans (Grown.drew (by assumption)) ga); have pa := rowOf_grown ga (by assumption : rowOf _ (.pointer (some ⟨w.heap.size, 0, none⟩)) 24 = some (byteCells xs)); have oa := rowOf_grown ga (by assumption : rowOf _ (.pointer (some ⟨w.heap.size + 1, 0, none⟩)) 24 = some (byteCells ys))) | ((with_reducible refine (HV.out _).mono ?_); rintro e Vb ⟨rfl, gb⟩; have grb : Grown w Vb := (by first | exact Grown_trans (by assumption) gb | exact Grown_trans (Grown.drew (by assumption)) gb); have pb := rowOf_grown gb (by assumption : rowOf _ (.pointer (some ⟨w.heap.size, 0, none⟩)) 24 = some (byteCells xs)); have ob := rowOf_grown gb (by assumption : rowOf _ (.pointer (some ⟨w.heap.size + 1, 0, none⟩)) 24 = some (byteCells ys))) | ((with_reducible refine (blocksApart_any (blurL xs) (blurL ys) LU.out LV.out _).mono ?_); rintro e Vc ⟨rfl, gc⟩; have grc : Grown w Vc := (by first | exact Grown_trans (by assumption) gc | exact Grown_trans (Grown.drew (by assumption)) gc); have pc := rowOf_grown gc (by assumption : rowOf _ (.pointer (some ⟨w.heap.size, 0, none⟩)) 24 = some (byteCells xs)); have oc := rowOf_grown gc (by assumption : rowOf _ (.pointer (some ⟨w.heap.size + 1, 0, none⟩)) 24 = some (byteCells ys))))
      all_goals
        go_wp2_with fail
        go_ret2
        exact ⟨rfl, by first | assumption | exact Grown.drew (by assumption)⟩

theorem l01Turn_row (xs : List Int) (lx : xs.length = 24) (hx : Bytes xs) (w : World) (g : Nat) (h : rowOf w (.pointer (some ⟨g, 0, none⟩)) 24 = some (byteCells xs)) :
    Calls Try.prog 54 #[.pointer (some ⟨g, 0, none⟩)] w fun e w' => e = .returned (.agg (byteCells (turnL xs))) ∧ Grown w w' := by
  obtain ⟨g', t, fr, e, hb, _⟩ := rowOf_cells h
  simp only [Value.pointer.injEq, Option.some.injEq, Addr.mk.injEq, and_true] at e
  subst e
  exact l01Turn_any _ 0 xs lx hx w (fun i hi => by rw [Nat.zero_add, cell_of_row _ _ _ _ _ _ hb, byteCells_get xs i hi]) (lt_of_heap hb)
set_option maxHeartbeats 2000000 in
set_option maxRecDepth 100000 in
theorem spec_IsUpsideDown_any (xs : List Int) (lx : xs.length = 24) (hx : Bytes xs) (ys : List Int) (ly : ys.length = 24) (hy : Bytes ys) (w : World) :
    Calls Try.prog 21 #[.agg (byteCells xs), .agg (byteCells ys)] w fun e w' => e = .returned (.tuple #[.bool (downV xs ys), .int .i64 (farC xs ys)]) ∧ Grown w w' := by
  have LX := hid lx
  have LY := hid ly
  have BX := hid hx
  have BY := hid hy
  clear lx ly hx hy
  have b0 : Hid (((w.alloc (.cells (byteCells xs) 26)).alloc (.cells (byteCells ys) 26)).heap[w.heap.size]? = some (.cells (byteCells xs) 26 (0, 0))) := hid (heap_kept (heap_new rfl))
  have b1 : Hid (((w.alloc (.cells (byteCells xs) 26)).alloc (.cells (byteCells ys) 26)).heap[w.heap.size + 1]? = some (.cells (byteCells ys) 26 (0, 0))) := hid (heap_new (by simp))
  have gr : Hid (Grown w ((w.alloc (.cells (byteCells xs) 26)).alloc (.cells (byteCells ys) 26))) := hid (((Grown.refl w).alloc _ _).alloc _ _)
  cases ho : okB xs
  · obtain ⟨e0, e2⟩ := far_no (xs := xs) (ys := ys) (by rw [ho]; rfl)
    rw [down_no (by rw [ho]; rfl), e2]
    clear e0 e2
    go_enter Try.func21, Try.ntmps21
    go_wp2_with fail
    refine (l01Ok_any _ _ xs LX.out _ (bytesAt_of_block b0.out)).mono ?_
    rintro e w' ⟨rfl, rfl⟩
    go_wp2_with fail
    go_ret2
    exact ⟨rfl, gr.out⟩
  · cases hp : okB ys
    · obtain ⟨e0, e2⟩ := far_no (xs := xs) (ys := ys) (by rw [ho, hp]; rfl)
      rw [down_no (by rw [ho, hp]; rfl), e2]
      clear e0 e2
      go_enter Try.func21, Try.ntmps21
      go_wp2_with fail
      refine (l01Ok_any _ _ xs LX.out _ (bytesAt_of_block b0.out)).mono ?_
      rintro e w' ⟨rfl, rfl⟩
      go_wp2_with fail
      refine (l01Ok_any _ _ ys LY.out _ (bytesAt_of_block b1.out)).mono ?_
      rintro e w' ⟨rfl, rfl⟩
      go_wp2_with fail
      go_ret2
      exact ⟨rfl, gr.out⟩
    · obtain ⟨e1, e2⟩ := far_yes (xs := xs) (ys := ys) ho hp
      rw [down_yes ho hp, e2]
      have OX := hid ho
      have OY := hid hp
      clear e1 e2
      go_enter Try.func21, Try.ntmps21
      go_wp2_with fail
      refine (l01Ok_any _ _ xs LX.out _ (bytesAt_of_block b0.out)).mono ?_
      rintro e w' ⟨rfl, rfl⟩
      go_wp2_with fail
      refine (l01Ok_any _ _ ys LY.out _ (bytesAt_of_block b1.out)).mono ?_
      rintro e w' ⟨rfl, rfl⟩
      go_wp2_with fail
      have LT := hid (turnL_length xs)
      have heq := run_eql_bytes (P := Try.prog) (t := 26) (e := 5) Try.underlying26 Try.underlying5 (by kernel_rfl) (turnL xs) ys LT.out LY.out
      have hgd : Try.prog.eqGuardType Try.prog.depth 26 = false := by kernel_rfl
      obtain ⟨W, hW⟩ : ∃ W, W = ((w.alloc (.cells (byteCells xs) 26)).alloc (.cells (byteCells ys) 26)) := ⟨_, rfl⟩
      have q0 := rowOf_block b0.out (n := 24) (by rw [byteCells_size]; exact LX.out)
      have q1 := rowOf_block b1.out (n := 24) (by rw [byteCells_size]; exact LY.out)
      have hb0 := hid (fun (V : World) (h : rowOf V (.pointer (some ⟨w.heap.size, 0, none⟩)) 24 = some (byteCells xs)) => l01Turn_row xs LX.out BX.out V w.heap.size h)
      have g0 := gr.out
      rw [← hW] at q0 q1 g0 ⊢
      clear hW b0 b1 gr
      go_region_with (first | ((with_reducible refine (hb0.out _ (by first | assumption | (rw [rowOf_drew]; assumption))).mono ?_); rintro e Va ⟨rfl, ga⟩; have gra : Grown w Va := (by first | exact Grown_trans (by assumption) ga | exact Grown_trans (Grown.drew (by assumption)) ga); have pa := rowOf_grown ga (by assumption : rowOf _ (.pointer (some ⟨w.heap.size, 0, none⟩)) 24 = some (byteCells xs)); have oa := rowOf_grown ga (by assumption : rowOf _ (.pointer (some ⟨w.heap.size + 1, 0, none⟩)) 24 = some (byteCells ys))))
      all_goals
        go_wp2_with fail
        go_ret2
        exact ⟨rfl, by first | assumption | exact Grown.drew (by assumption)⟩

set_option maxHeartbeats 4000000 in
set_option maxRecDepth 100000 in
theorem impl_IsUpsideDown_any (xs : List Int) (lx : xs.length = 24) (hx : Bytes xs) (ys : List Int) (ly : ys.length = 24) (hy : Bytes ys) (w : World) :
    Calls Try.prog 22 #[.agg (byteCells xs), .agg (byteCells ys)] w fun e w' => e = .returned (.tuple #[.bool (downV xs ys), .int .i64 (farC xs ys)]) ∧ Grown w w' := by
  have LX := hid lx
  have LY := hid ly
  have BX := hid hx
  have BY := hid hy
  clear lx ly hx hy
  have b0 : Hid (((w.alloc (.cells (byteCells xs) 26)).alloc (.cells (byteCells ys) 26)).heap[w.heap.size]? = some (.cells (byteCells xs) 26 (0, 0))) := hid (heap_kept (heap_new rfl))
  have b1 : Hid (((w.alloc (.cells (byteCells xs) 26)).alloc (.cells (byteCells ys) 26)).heap[w.heap.size + 1]? = some (.cells (byteCells ys) 26 (0, 0))) := hid (heap_new (by simp))
  have gr : Hid (Grown w ((w.alloc (.cells (byteCells xs) 26)).alloc (.cells (byteCells ys) 26))) := hid (((Grown.refl w).alloc _ _).alloc _ _)
  cases ho : okB xs
  · obtain ⟨e0, e2⟩ := far_no (xs := xs) (ys := ys) (by rw [ho]; rfl)
    rw [down_no (by rw [ho]; rfl), e2]
    clear e0 e2
    go_enter Try.func22, Try.ntmps22
    go_wp2_with (first | (refine wpList_load_bytes rfl 26 _ rfl _ rfl _ xs _ 24 b0.out Try.underlying26 (by kernel_rfl) LX.out ?_))
    refine (impl_ValidFlag_any xs LX.out BX.out _).mono ?_
    rintro e w1 ⟨rfl, g⟩
    replace b0 := hid (heap_grown g b0.out)
    replace b1 := hid (heap_grown g b1.out)
    replace gr := hid (Grown_trans gr.out g)
    clear g
    go_wp2_with fail
    go_ret2
    exact ⟨rfl, gr.out⟩
  · cases hp : okB ys
    · obtain ⟨e0, e2⟩ := far_no (xs := xs) (ys := ys) (by rw [ho, hp]; rfl)
      rw [down_no (by rw [ho, hp]; rfl), e2]
      clear e0 e2
      go_enter Try.func22, Try.ntmps22
      go_wp2_with (first | (refine wpList_load_bytes rfl 26 _ rfl _ rfl _ xs _ 24 b0.out Try.underlying26 (by kernel_rfl) LX.out ?_))
      refine (impl_ValidFlag_any xs LX.out BX.out _).mono ?_
      rintro e w1 ⟨rfl, g⟩
      replace b0 := hid (heap_grown g b0.out)
      replace b1 := hid (heap_grown g b1.out)
      replace gr := hid (Grown_trans gr.out g)
      clear g
      go_wp2_with (first | (refine wpList_load_bytes rfl 26 _ rfl _ rfl _ ys _ 24 b1.out Try.underlying26 (by kernel_rfl) LY.out ?_))
      refine (impl_ValidFlag_any ys LY.out BY.out _).mono ?_
      rintro e w2 ⟨rfl, g⟩
      replace b0 := hid (heap_grown g b0.out)
      replace b1 := hid (heap_grown g b1.out)
      replace gr := hid (Grown_trans gr.out g)
      clear g
      go_wp2_with fail
      go_ret2
      exact ⟨rfl, gr.out⟩
    · obtain ⟨e1, e2⟩ := far_yes (xs := xs) (ys := ys) ho hp
      rw [down_yes ho hp, e2]
      have OX := hid ho
      have OY := hid hp
      clear e1 e2
      go_enter Try.func22, Try.ntmps22
      go_wp2_with (first | (refine wpList_load_bytes rfl 26 _ rfl _ rfl _ xs _ 24 b0.out Try.underlying26 (by kernel_rfl) LX.out ?_))
      refine (impl_ValidFlag_any xs LX.out BX.out _).mono ?_
      rintro e w1 ⟨rfl, g⟩
      replace b0 := hid (heap_grown g b0.out)
      replace b1 := hid (heap_grown g b1.out)
      replace gr := hid (Grown_trans gr.out g)
      clear g
      go_wp2_with (first | (refine wpList_load_bytes rfl 26 _ rfl _ rfl _ ys _ 24 b1.out Try.underlying26 (by kernel_rfl) LY.out ?_))
      refine (impl_ValidFlag_any ys LY.out BY.out _).mono ?_
      rintro e w2 ⟨rfl, g⟩
      replace b0 := hid (heap_grown g b0.out)
      replace b1 := hid (heap_grown g b1.out)
      replace gr := hid (Grown_trans gr.out g)
      clear g
      go_wp2_with fail
      have q0 : rowOf w2 (.pointer (some ⟨w.heap.size, 0, none⟩)) 24 = some (byteCells xs) := rowOf_block b0.out (by rw [byteCells_size]; exact LX.out)
      have q1 : rowOf w2 (.pointer (some ⟨w.heap.size + 1, 0, none⟩)) 24 = some (byteCells ys) := rowOf_block b1.out (by rw [byteCells_size]; exact LY.out)
      have g0 : Grown w w2 := gr.out
      clear b0 b1 gr
      have LT := hid (turnL_length xs)
      have heq := run_eql_bytes (P := Try.prog) (t := 26) (e := 5) Try.underlying26 Try.underlying5 (by kernel_rfl) (turnL xs) ys LT.out LY.out
      have hgd : Try.prog.eqGuardType Try.prog.depth 26 = false := by kernel_rfl
      have HU := hid (fun W => turned_any xs LX.out W)
      go_region_with (first | ((with_reducible refine (HU.out _).mono ?_); rintro e Va ⟨rfl, ga⟩; have gra : Grown w Va := (by first | exact Grown_trans (by assumption) ga | exact Grown_trans (Grown.drew (by assumption)) ga); have pa := rowOf_grown ga (by assumption : rowOf _ (.pointer (some ⟨w.heap.size, 0, none⟩)) 24 = some (byteCells xs)); have oa := rowOf_grown ga (by assumption : rowOf _ (.pointer (some ⟨w.heap.size + 1, 0, none⟩)) 24 = some (byteCells ys))))
      all_goals
        go_wp2_with fail
        go_ret2
        exact ⟨rfl, by first | assumption | exact Grown.drew (by assumption)⟩
end Go.Proofs.Ytnghcchkiodalaa
