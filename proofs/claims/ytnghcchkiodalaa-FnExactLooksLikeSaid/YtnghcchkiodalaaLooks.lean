/- LooksLike: the functions. -/
import Derived.Test.YtnghcchkiodalaaFar
namespace Go.Proofs.Ytnghcchkiodalaa
open Go.RowKit
theorem diffTo_zero (xs ys : List Int) (k : Nat) : diffTo xs ys k = 0 ↔ ∀ i, i < k → xs.getD i 0 = ys.getD i 0 := by
  induction k with
  | zero => simp [diffTo]
  | succ k ih =>
    have hb := diffTo_bd xs ys k
    cases hv : (xs.getD k 0 != ys.getD k 0)
    · rw [diffTo_no xs ys k hv, ih]
      constructor
      · intro h i hi
        by_cases e : i = k
        · rw [e]; simpa using hv
        · exact h i (by omega)
      · intro h i hi; exact h i (by omega)
    · rw [diffTo_yes xs ys k hv]
      constructor
      · intro h; omega
      · intro h
        have := h k (by omega)
        rw [this] at hv; simp at hv
theorem same_diff (xs ys : List Int) (n : Nat) : sameFrom xs ys 0 n = decide (diffTo xs ys n = 0) := by
  rw [Bool.eq_iff_iff, decide_eq_true_iff, sameFrom_iff, diffTo_zero]
  simp
theorem mirL_get (xs : List Int) (i : Nat) (hi : i < 24) : (mirL xs).getD i 0 = xs.getD (mirI i) 0 := by simp [mirL, List.getD, hi]
theorem mirL_ok {xs : List Int} (lx : xs.length = 24) (ho : okB xs = true) : okB (mirL xs) = true := by
  unfold okB at ho ⊢
  rw [List.all_eq_true] at ho ⊢
  intro x hx
  simp only [mirL, List.mem_map, List.mem_range] at hx
  obtain ⟨i, hi, rfl⟩ := hx
  have hm : mirI i < xs.length := by unfold mirI; omega
  have := ho _ (List.getElem_mem hm)
  simpa [List.getD, List.getElem?_eq_getElem hm] using this
theorem mirL_bytes {xs : List Int} (hx : Bytes xs) : Bytes (mirL xs) := by
  intro x h
  simp only [mirL, List.mem_map, List.mem_range] at h
  obtain ⟨i, hi, rfl⟩ := h
  exact hx.get _
def alikeV (xs ys : List Int) (t : Bool) : Bool := decide (far xs ys = 0) || (t && decide (far (mirL xs) ys = 0))
def lookV (xs ys : List Int) (t : Bool) : Bool := (okB xs && okB ys) && alikeV xs ys t
theorem look_no {xs ys : List Int} {t : Bool} (h : (okB xs && okB ys) = false) : lookV xs ys t = false := by unfold lookV; rw [h]; rfl
theorem look_yes {xs ys : List Int} {t : Bool} (h1 : okB xs = true) (h2 : okB ys = true) : lookV xs ys t = alikeV xs ys t := by unfold lookV; rw [h1, h2]; rfl
set_option maxHeartbeats 4000000 in
set_option maxRecDepth 100000 in
theorem spec_LooksLike_any (xs : List Int) (lx : xs.length = 24) (hx : Bytes xs) (ys : List Int) (ly : ys.length = 24) (hy : Bytes ys) (t : Bool) (w : World) :
    Calls Try.prog 19 #[.agg (byteCells xs), .agg (byteCells ys), .bool t] w fun e w' => e = .returned (.tuple #[.bool (lookV xs ys t), .int .i64 (farC xs ys)]) ∧ Grown w w' := by
  have LX := hid lx
  have LY := hid ly
  have BX := hid hx
  have BY := hid hy
  clear lx ly hx hy
  have b0 : Hid (((w.alloc (.cells (byteCells xs) 26)).alloc (.cells (byteCells ys) 26)).heap[w.heap.size]? = some (.cells (byteCells xs) 26 (0, 0))) := hid (heap_kept (heap_new rfl))
  have b1 : Hid (((w.alloc (.cells (byteCells xs) 26)).alloc (.cells (byteCells ys) 26)).heap[w.heap.size + 1]? = some (.cells (byteCells ys) 26 (0, 0))) := hid (heap_new (by simp))
  have gr : Hid (Grown w ((w.alloc (.cells (byteCells xs) 26)).alloc (.cells (byteCells ys) 26))) := hid (((Grown.refl w).alloc _ _).alloc _ _)
  cases ho : okB xs
  · obtain ⟨e0, e2⟩ := far_no (xs := xs) (ys := ys) (by rw [ho]; rfl)
    rw [look_no (by rw [ho]; rfl), e2]
    clear e0 e2
    go_enter Try.func19, Try.ntmps19
    go_wp2_with fail
    refine (l01Ok_any _ _ xs LX.out _ (bytesAt_of_block b0.out)).mono ?_
    rintro e w' ⟨rfl, rfl⟩
    go_wp2_with fail
    go_ret2
    exact ⟨rfl, gr.out⟩
  · cases hp : okB ys
    · obtain ⟨e0, e2⟩ := far_no (xs := xs) (ys := ys) (by rw [ho, hp]; rfl)
      rw [look_no (by rw [ho, hp]; rfl), e2]
      clear e0 e2
      go_enter Try.func19, Try.ntmps19
      go_wp2_with fail
      refine (l01Ok_any _ _ xs LX.out _ (bytesAt_of_block b0.out)).mono ?_
      rintro e w' ⟨rfl, rfl⟩
      go_wp2_with fail
      refine (l01Ok_any _ _ ys LY.out _ (bytesAt_of_block b1.out)).mono ?_
      rintro e w' ⟨rfl, rfl⟩
      go_wp2_with fail
      go_ret2
      exact ⟨rfl, gr.out⟩
    · obtain ⟨e1, e2⟩ := far_yes (xs := xs) (ys := ys) ho hp
      rw [look_yes ho hp, e2]
      have OX := hid ho
      have OY := hid hp
      have LM := hid (mirL_length xs)
      have OM := hid (mirL_ok LX.out ho)
      have BM := hid (mirL_bytes BX.out)
      have HF1 := hid (fun b0 o0 b1 o1 W h0 h1 t0 t1 => l01Far_any b0 o0 b1 o1 xs ys LX.out LY.out BX.out BY.out OX.out OY.out W h0 h1 t0 t1)
      have HF2 := hid (fun b0 o0 b1 o1 W h0 h1 t0 t1 => l01Far_any b0 o0 b1 o1 (mirL xs) ys LM.out LY.out BM.out BY.out OM.out OY.out W h0 h1 t0 t1)
      have hf1 : diffTo (blurL xs) (blurL ys) 6 = far xs ys := rfl
      have hf2 : diffTo (blurL (mirL xs)) (blurL ys) 6 = far (mirL xs) ys := rfl
      rw [hf1] at HF1
      rw [hf2] at HF2
      have HA := hid (show alikeV xs ys t = (decide (far xs ys = 0) || (t && decide (far (mirL xs) ys = 0))) from rfl)
      clear e1 e2 hf1 hf2
      generalize far xs ys = d1 at *
      generalize far (mirL xs) ys = d2 at *
      go_enter Try.func19, Try.ntmps19
      go_wp2_with fail
      refine (l01Ok_any _ _ xs LX.out _ (bytesAt_of_block b0.out)).mono ?_
      rintro e w' ⟨rfl, rfl⟩
      go_wp2_with fail
      refine (l01Ok_any _ _ ys LY.out _ (bytesAt_of_block b1.out)).mono ?_
      rintro e w' ⟨rfl, rfl⟩
      go_wp2_with fail
      refine (l01Mirror_any _ _ xs LX.out BX.out _ (bytesAt_of_block b0.out) (lt_of_heap b0.out)).mono ?_
      rintro e w1 ⟨rfl, g⟩
      replace b0 := hid (heap_grown g b0.out)
      replace b1 := hid (heap_grown g b1.out)
      replace gr := hid (Grown_trans gr.out g)
      have n1 := hid (heap_new (w := w1) (o := (.cells (byteCells zeros24) 26)) rfl)
      have c1 := hid (heap_row_set (cs := byteCells (mirL xs)) n1.out)
      replace b0 := hid (heap_row_kept (g := w1.heap.size) (cs := byteCells (mirL xs)) (by have := lt_of_heap b0.out; omega) (heap_kept (o := (.cells (byteCells zeros24) 26)) b0.out))
      replace b1 := hid (heap_row_kept (g := w1.heap.size) (cs := byteCells (mirL xs)) (by have := lt_of_heap b1.out; omega) (heap_kept (o := (.cells (byteCells zeros24) 26)) b1.out))
      have hgz := gr.out.size
      replace gr := hid (Grown_setRow (gr.out.alloc (byteCells zeros24) 26) hgz (byteCells (mirL xs)))
      clear g hgz
      go_wp2_with (refine wpList_store_bytes rfl 26 _ _ rfl _ (mirL xs) zeros24 rfl rfl _ 24 n1.out (by kernel_rfl) LM.out rfl ?_)
      clear n1
      refine (HF1.out _ _ _ _ _ (bytesAt_of_block b0.out) (bytesAt_of_block b1.out) (lt_of_heap b0.out) (lt_of_heap b1.out)).mono ?_
      rintro e w2 ⟨rfl, g⟩
      replace b1 := hid (heap_grown g b1.out)
      replace c1 := hid (heap_grown g c1.out)
      replace gr := hid (Grown_trans gr.out g)
      clear g b0
      by_cases h1 : d1 = 0
      · have e1 : (d1 == 0) = true := by rw [beq_iff_eq]; exact h1
        have HR := hid (show alikeV xs ys t = true by rw [HA.out, decide_eq_true h1]; rfl)
        clear h1
        go_wp2_with fail
        go_ret2
        exact ⟨by rw [HR.out]; rfl, gr.out⟩
      · have e1 : (d1 == 0) = false := by rw [beq_eq_false_iff_ne]; exact h1
        cases t
        · have HR := hid (show alikeV xs ys false = false by rw [HA.out, decide_eq_false h1]; rfl)
          clear h1
          go_wp2_with fail
          go_ret2
          exact ⟨by rw [HR.out]; rfl, gr.out⟩
        · have HR := hid (show alikeV xs ys true = (d2 == 0) by rw [HA.out, decide_eq_false h1]; simp [Bool.beq_eq_decide_eq])
          clear h1
          go_wp2_with fail
          refine (HF2.out _ _ _ _ _ (bytesAt_of_block c1.out) (bytesAt_of_block b1.out) (lt_of_heap c1.out) (lt_of_heap b1.out)).mono ?_
          rintro e w3 ⟨rfl, g⟩
          replace gr := hid (Grown_trans gr.out g)
          clear g
          go_wp2_with fail
          go_ret2
          exact ⟨by rw [HR.out]; rfl, gr.out⟩
theorem itself_any (xs : List Int) (lx : xs.length = 24) (w : World) :
    Calls Try.prog 52 #[.agg (byteCells xs)] w fun e w' => e = .returned (.agg (byteCells xs)) ∧ Grown w w' := by
  have LX := hid lx
  clear lx
  have b0 : Hid (((w.alloc (.cells (byteCells xs) 26)).alloc (.cells (byteCells zeros24) 26)).heap[w.heap.size]? = some (.cells (byteCells xs) 26 (0, 0))) := hid (heap_kept (heap_new rfl))
  have b1 : Hid (((w.alloc (.cells (byteCells xs) 26)).alloc (.cells (byteCells zeros24) 26)).heap[w.heap.size + 1]? = some (.cells (byteCells zeros24) 26 (0, 0))) := hid (heap_new (by simp))
  have gr : Hid (Grown w ((w.alloc (.cells (byteCells xs) 26)).alloc (.cells (byteCells zeros24) 26))) := hid (((Grown.refl w).alloc _ _).alloc _ _)
  go_enter Try.func52, Try.ntmps52
  go_wp2_with (first | (refine wpList_load_bytes rfl 26 _ rfl _ rfl _ xs _ 24 b0.out Try.underlying26 (by kernel_rfl) LX.out ?_) | (refine wpList_store_bytes rfl 26 _ _ rfl _ xs zeros24 rfl rfl _ 24 b1.out (by kernel_rfl) LX.out rfl ?_))
  refine bodyPost_ret (results_bytes1 (by rfl) _ _ _ _ _ _ _ rfl (heap_row_set b1.out) Try.underlying26 (by kernel_rfl) LX.out) rfl ⟨rfl, ?_⟩
  exact Grown_setRow gr.out (by omega) _
end Go.Proofs.Ytnghcchkiodalaa
