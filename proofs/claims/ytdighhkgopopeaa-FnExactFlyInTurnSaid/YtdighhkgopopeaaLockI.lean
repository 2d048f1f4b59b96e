/- Lockers of the program: stocks, pieces, the way through all pieces. -/
import Derived.Test.YtdighhkgopopeaaLockA
import Derived.Test.YtdighhkgopopeaaRange
namespace Go.Proofs.Ytdighhkgopopeaa
set_option linter.unusedVariables false
open Go.RowKit
attribute [local go_sem] Oper.semAt_some
theorem placesStock : placesOf Try.prog 64 = some (kCells .i16 zeros44, [(0, 4), (4, 40)]) := by kernel_rfl
theorem placesLocker : placesOf Try.prog 31 = some (kCells .i16 zeros44, [(0, 40), (40, 4)]) := by kernel_rfl
set_option maxRecDepth 100000 in
set_option maxHeartbeats 1000000 in
theorem stockOf_any (xs : List Int) (hl : xs.length = 44) (w : World) :
    Calls Try.prog 29 #[.agg (kCells .i16 xs)] w fun e w' => e = .returned (.agg (kCells .i16 (stk xs))) ∧ Gr w w' := by
  have L := hid hl
  have LS := hid (stk_length hl)
  clear hl
  have b0 : Hid (((w.alloc (.cells (kCells .i16 xs) 31)).alloc (.cells (kCells .i16 zeros44) 64)).heap[w.heap.size]? = some (.cells (kCells .i16 xs) 31 (0, 0))) := hid (heap_kept (heap_new rfl))
  have b1 : Hid (((w.alloc (.cells (kCells .i16 xs) 31)).alloc (.cells (kCells .i16 zeros44) 64)).heap[w.heap.size + 1]? = some (.cells (kCells .i16 zeros44) 64 (0, 0))) := hid (heap_new (by simp))
  have gr : Hid (Gr w ((w.alloc (.cells (kCells .i16 xs) 31)).alloc (.cells (kCells .i16 zeros44) 64))) := hid (((Gr.refl _).alloc _).alloc _)
  go_enter Try.func29, Try.ntmps29
  go_wp2_with (first | (refine wpList_build_two rfl 64 _ _ rfl ((xs.drop 40).take 4) ((xs.drop 0).take 40) zeros44 (stk xs) rfl rfl placesStock rfl (by simp [L.out]) (by simp [L.out]) (stk_parts L.out) ?_) | (refine wpList_load_part rfl 24 _ rfl w.heap.size 40 4 rfl xs _ _ (0, 0) b0.out (by rw [L.out]; omega) Try.underlying24 (by kernel_rfl) ?_) | (refine wpList_load_part rfl 23 _ rfl w.heap.size 0 40 rfl xs _ _ (0, 0) b0.out (by rw [L.out]; omega) Try.underlying23 (by kernel_rfl) ?_) | (refine wpList_store_cells rfl 64 _ _ rfl _ (kCells .i16 (stk xs)) (kCells .i16 zeros44) rfl rfl _ 44 b1.out (by kernel_rfl) (by rw [kCells_size, LS.out]) rfl (kCells_one _ _) ?_))
  refine bodyPost_ret (results_cell_row (by rfl) _ _ _ _ _ _ _ rfl (heap_row_set b1.out) Try.underlying64 rfl (by rw [kCells_size, LS.out]; kernel_rfl)) rfl ⟨rfl, ?_⟩
  exact gr.out.setRow (by omega) _
set_option maxRecDepth 100000 in
theorem isBetween_r {n a b : Int} {r : Bool} (h : (decide (a ≤ n) && decide (n ≤ b)) = r) (w : World) :
    Calls Try.prog 49 #[.int .i64 n, .int .i64 a, .int .i64 b] w fun e w' => e = .returned (.bool r) ∧ w = w' := by
  have H := hid h
  clear h
  by_cases h1 : a ≤ n
  · have d1 : decide (a ≤ n) = true := by simpa using h1
    go_enter Try.func49, Try.ntmps49
    go_wp2
    go_ret
    exact ⟨ret_bool (by rw [← H.out]; simp [h1]), rfl⟩
  · have d1 : decide (a ≤ n) = false := by simpa using h1
    go_enter Try.func49, Try.ntmps49
    go_wp2
    go_ret
    exact ⟨ret_bool (by rw [← H.out, d1]; rfl), rfl⟩
set_option maxRecDepth 100000 in
theorem isSub_p {k : Nat} (hk : k < 44) (w : World) : Calls Try.prog 46 #[.int .i8 (pNum k)] w fun e w' => e = .returned (.bool (decide (40 ≤ k))) ∧ w = w' := by
  have hb := pNum_bd hk
  have h1 : (decide (-4 ≤ pNum k) && decide (pNum k ≤ -1)) = decide (40 ≤ k) := by
    unfold pNum
    by_cases h : 40 ≤ k
    · rw [if_neg (by omega), decide_eq_true h]; simp; omega
    · rw [if_pos (by omega), decide_eq_false h]; simp; omega
  have HB := hid (isBetween_r h1)
  have hb0 := hb.1
  have hb1 := hb.2
  clear hb h1
  generalize pNum k = x at *
  generalize decide (40 ≤ k) = r at *
  go_enter Try.func46, Try.ntmps46
  go_wp2_with (refine (HB.out _).mono ?_; rintro e w' ⟨rfl, rfl⟩)
  go_ret
  exact ⟨rfl, rfl⟩
set_option maxRecDepth 100000 in
theorem sub_p (b : Nat) {k : Nat} (hk : 40 ≤ k ∧ k < 44) (w : World) :
    Calls Try.prog 47 #[.pointer (some ⟨b, 0, none⟩), .int .i8 (pNum k)] w fun e w' => e = .returned (.pointer (some ⟨b, sOff k, none⟩)) ∧ w = w' := by
  obtain ⟨j, rfl⟩ : ∃ j, k = 40 + j := ⟨k - 40, by omega⟩
  have e1 : pNum (40 + j) = -((j : Int) + 1) := by unfold pNum; rw [if_neg (by omega)]; omega
  have e2 : sOff (40 + j) = j := by unfold sOff; rw [if_neg (by omega)]; omega
  have hj : j < 4 := by omega
  have e3 : IntKind.i8.wrap (-(-((j : Int) + 1))) = (j : Int) + 1 := (IntWalk.i8_in _ (by omega)).trans (by omega)
  have e4 : IntKind.i8.wrap ((j : Int) + 1 - 1) = (j : Int) := (IntWalk.i8_in _ (by omega)).trans (by omega)
  have h0 : (0 : Int) ≤ j := by omega
  have h4 : (j : Int) < 4 := by omega
  rw [e1, e2]
  clear e1 e2 hk
  go_enter Try.func47, Try.ntmps47
  go_wp2_with fail
  go_ret
  exact ⟨rfl, rfl⟩
set_option maxRecDepth 100000 in
theorem piece_p (b : Nat) {k : Nat} (hk : k < 44) (w : World) :
    Calls Try.prog 40 #[.pointer (some ⟨b, 0, none⟩), .int .i8 (pNum k)] w fun e w' => e = .returned (.pointer (some ⟨b, sOff k, none⟩)) ∧ w = w' := by
  have HS := hid (isSub_p hk)
  by_cases h : 40 ≤ k
  · have h3 : decide (40 ≤ k) = true := by simpa using h
    have HP := hid (fun w => sub_p b ⟨h, hk⟩ w)
    rw [h3] at HS
    clear h h3
    generalize pNum k = x at *
    generalize sOff k = o at *
    go_enter Try.func40, Try.ntmps40
    go_wp2_with (first | (go_at_call 46; refine (HS.out _).mono ?_; rintro e w' ⟨rfl, rfl⟩) | (go_at_call 47; refine (HP.out _).mono ?_; rintro e w' ⟨rfl, rfl⟩))
    go_ret
    exact ⟨rfl, rfl⟩
  · have h3 : decide (40 ≤ k) = false := by simpa using h
    have e1 : pNum k = (k : Int) := by unfold pNum; rw [if_pos (by omega)]
    have e2 : sOff k = 4 + k := by unfold sOff; rw [if_pos (by omega)]
    rw [h3] at HS
    rw [e1] at HS ⊢
    rw [e2]
    have hk4 : k < 40 := by omega
    clear h h3 e1 e2 hk
    go_enter Try.func40, Try.ntmps40
    go_wp2_with (go_at_call 46; refine (HS.out _).mono ?_; rintro e w' ⟨rfl, rfl⟩)
    go_ret
    exact ⟨rfl, rfl⟩
set_option maxRecDepth 100000 in
theorem there_p (b : Nat) {k : Nat} (hk : k < 44) (x : Int) (hx : -32768 ≤ x ∧ x ≤ 32767) (w : World) (hc : w.cell? ⟨b, sOff k, none⟩ = some (.int .i16 x)) :
    Calls Try.prog 31 #[.pointer (some ⟨b, 0, none⟩), .int .i8 (pNum k)] w fun e w' => e = .returned (.int .i64 x) ∧ w = w' := by
  have HP := hid (fun w => piece_p b hk w)
  obtain ⟨hx0, hx1⟩ := hx
  clear hk
  generalize pNum k = y at *
  generalize sOff k = o at *
  go_enter Try.func31, Try.ntmps31
  go_wp2_with (refine (HP.out _).mono ?_; rintro e w' ⟨rfl, rfl⟩)
  go_ret
  exact ⟨rfl, rfl⟩
theorem built_locker : Try.prog.built 31 [] = some (kCells .i16 zeros44) := by kernel_rfl
/-- A stock as a locker again. -/
def unstk (xs : List Int) : List Int := xs.drop 4 ++ xs.take 4
theorem unstk_stk {xs : List Int} (h : xs.length = 44) : unstk (stk xs) = xs := by
  unfold unstk stk
  rw [List.drop_append_of_le_length (by simp [h]), List.drop_eq_nil_of_le (by simp [h]), List.nil_append, List.take_append_of_le_length (by simp [h]), List.take_of_length_le (l := xs.drop 40) (by simp [h]), List.take_append_drop]
/-- The way through all pieces. -/
theorem everyPiece_iter (W : World) : Iter Try.prog 69 #[] (fun k : Nat => #[.int .i8 (pNum k)]) (fun _ _ _ => True) (fun pre k => k = pre.length ∧ k < 44) (fun xs => xs.length = 44) (fun _ => True) W := by
  intro l J Jx h0 hY
  have HY := hid hY
  have H0 := hid (h0 _ _ (Below.refl _ _) rfl)
  obtain ⟨n0, hn0⟩ : ∃ n0, n0 = W.heap.size := ⟨_, rfl⟩
  rw [← hn0] at HY H0
  have HN := hid hn0
  clear hY h0
  refine callsIn_of_wp Try.func69 rfl trivial ?_ rfl
  simp only [Try.ntmps69, List.size_toArray, List.length_cons, List.length_nil, Nat.reduceAdd, Nat.reduceSub, Array.replicate_succ, Array.replicate_zero, List.push_toArray, List.append_toArray, List.nil_append, List.cons_append, Array.append_empty]
  gi_wp2
  gi_loopw [4] (fun i wr => ∃ (k : Nat) (pre : List Nat), k ≤ 44 ∧ i = .int .i8 k ∧ Hid (pre.length = k ∧ n0 ≤ wr.heap.size ∧ J n0 pre wr)) (fun i _ => 44 - (intOf i).toNat)
  case atStart => exact ⟨0, [], by omega, rfl, hid ⟨rfl, by rw [HN.out]; exact Nat.le_refl _, H0.out⟩⟩
  case round =>
    obtain ⟨k, pre, hk, rfl, HJ⟩ := hrel
    by_cases hlt : k < 44
    · have hy := HY.out n0 pre k wr wr (Nat.le_refl _) HJ.out.2.1 HJ.out.2.2 (Out.refl _ _ _) trivial ⟨HJ.out.1.symm, hlt⟩
      obtain ⟨fn, tmps, assign, body, hyr, hR⟩ := hy
      have HR := hid hR
      clear hR
      have HL := HJ.out.1
      by_cases h40 : k < 40
      · have ep : pNum k = (k : Int) := by unfold pNum; rw [if_pos h40]
        rw [ep] at hyr
        clear ep
        have HLL := hid HL
        clear HL
        gi_wp2
        refine HR.out.mono ?_
        rintro e C (⟨rfl, hJ, hin⟩ | ⟨rfl, hJx⟩)
        · have HJC := hid hJ
          have HSZ := hid (Nat.le_trans HJ.out.2.1 hin.size)
          clear hJ hin
          gi_wp2
          go_roundw
          case rel => exact ⟨k + 1, pre ++ [k], by omega, by go_num, hid ⟨by rw [List.length_append, HLL.out]; rfl, HSZ.out, HJC.out⟩⟩
          case measure => simp [intOf]; omega
        · have HJC := hid hJx
          clear hJx
          gi_wp2
          refine bodyPost_ret (results_none rfl _ _ _) rfl ?_
          exact ⟨⟨_, rfl⟩, .inr ⟨pre ++ [k], C, trivial, HJC.out, Below.refl _ _⟩⟩
      · have ep : pNum k = 39 - (k : Int) := by unfold pNum; rw [if_neg h40]
        rw [ep] at hyr
        clear ep
        have HLL := hid HL
        clear HL
        gi_wp2
        refine HR.out.mono ?_
        rintro e C (⟨rfl, hJ, hin⟩ | ⟨rfl, hJx⟩)
        · have HJC := hid hJ
          have HSZ := hid (Nat.le_trans HJ.out.2.1 hin.size)
          clear hJ hin
          gi_wp2
          go_roundw
          case rel => exact ⟨k + 1, pre ++ [k], by omega, by go_num, hid ⟨by rw [List.length_append, HLL.out]; rfl, HSZ.out, HJC.out⟩⟩
          case measure => simp [intOf]; omega
        · have HJC := hid hJx
          clear hJx
          gi_wp2
          refine bodyPost_ret (results_none rfl _ _ _) rfl ?_
          exact ⟨⟨_, rfl⟩, .inr ⟨pre ++ [k], C, trivial, HJC.out, Below.refl _ _⟩⟩
    · have H44 := hid (show pre.length = 44 by rw [HJ.out.1]; omega)
      gi_wp2
      go_end0
      exact ⟨⟨_, rfl⟩, .inl ⟨n0, pre, wr, by rw [HN.out]; exact Nat.le_refl _, HJ.out.2.1, H44.out, HJ.out.2.2, Out.refl _ _ _⟩⟩
end Go.Proofs.Ytdighhkgopopeaa
