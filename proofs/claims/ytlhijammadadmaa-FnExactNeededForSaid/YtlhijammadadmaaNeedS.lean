/- What hoists need: the model's functions. -/
import Derived.Test.YtlhijammadadmaaNeedM
import Derived.Test.YtlhijammadadmaaHoistsA
import Derived.Test.YtlhijammadadmaaHoistS
import Derived.Test.YtlhijammadadmaaLockA
import Derived.Laws.ResultCell
import Derived.Laws.Rows
import Derived.Deep.RegionHeld3
namespace Go.Proofs.Ytlhijammadadmaa
set_option linter.unusedVariables false
open Go.RowKit
theorem grownN_cell {W : World} {g i : Nat} {u : Value} : W.grownBy (W.setCell ⟨g, i, none⟩ u) (some g) :=
  ⟨rfl, rfl, rfl, by rw [World.size_setCell]; exact Nat.le_refl _, fun k _ hk => heap_setCell_other W ⟨g, i, none⟩ k u (fun e => hk (by rw [e]))⟩
theorem SliceOf.byN {k : IntKind} {w w' : World} {a : Option Addr} {xs : List Int} {b : Nat} (h : SliceOf k w a xs) (g : w.grownBy w' (some b)) (hne : ∀ x off s, a = some ⟨x, off, s⟩ → x ≠ b) : SliceOf k w' a xs := by
  intro i hi
  obtain ⟨b0, o0, e, hc⟩ := h i hi
  exact ⟨b0, o0, e, (World.cell?_of_block (w := w) (a := ⟨b0, o0 + i, none⟩) (g.block b0 (World.block_lt_of_cell? w _ hc) (fun e' => hne b0 o0 none e (Option.some.inj e')))).trans hc⟩
set_option maxHeartbeats 4000000 in
set_option maxRecDepth 100000 in
theorem l04Add_any (b : Nat) (T : TypeId) (ys h : List Int) (hy : ys.length = 44) (hyb : ∀ q, 0 ≤ ys.getD q 0 ∧ ys.getD q 0 ≤ 1000) (a : Option Addr) (n cap : Nat) (hn : n = h.length) (h8 : n ≤ 8) (hnum : ∀ i, i < n → h.getD i 0 = -10 ∨ (-4 ≤ h.getD i 0 ∧ h.getD i 0 ≤ 39)) (w : World)
    (hb : w.heap[b]? = some (.cells (kCells .i16 ys) T (0, 0))) (hs : SliceOf .i8 w a h) (hne : ∀ x off s, a = some ⟨x, off, s⟩ → x ≠ b) :
    Calls Try.prog 36 #[.pointer (some ⟨b, 0, none⟩), .slice a n cap, .int .i16 1] w fun e w' => e = .returned (.tuple #[]) ∧ w'.heap[b]? = some (.cells (kCells .i16 (addTo ys h n)) T (0, 0)) ∧ w.grownBy w' (some b) := by
  have HS := hid hs
  have HN := hid hn
  have HY := hid hy
  have HYB := hid hyb
  have HX := hid hnum
  have HNEA := hid hne
  have HB0 := hid hb
  have HBD := hid (fun j (hj : j ≤ n) q => addTo_bd hy (fun i hi => hnum i (by omega)) j (by omega) q)
  have HJB := hid (fun j (e : h.getD j 0 = -10) => addTo_brk (xs := ys) e)
  have HJO := hid (fun j (e : ¬ h.getD j 0 = -10) => show addTo ys h (j + 1) = (addTo ys h j).set (pIdx (h.getD j 0)) ((addTo ys h j).getD (pIdx (h.getD j 0)) 0 + 1) from addTo_on e)
  clear hs hn hy hyb hnum hne hb
  go_enter Try.func36, Try.ntmps36
  go_wp2_with fail
  go_loopw [6] (fun i wr => ∃ j : Nat, j ≤ n ∧ i = .int .i64 j ∧ Hid (wr.heap[b]? = some (.cells (kCells .i16 (addTo ys h j)) T (0, 0))) ∧ Hid (w.grownBy wr (some b))) (fun i _ => n - (intOf i).toNat)
  case atStart => exact ⟨0, Nat.zero_le _, rfl, HB0, hid ⟨rfl, rfl, rfl, Nat.le_refl _, fun _ _ _ => rfl⟩⟩
  case round =>
    obtain ⟨j, hj, rfl, hb, gr⟩ := hrel
    by_cases hlt : j < n
    · obtain ⟨b0, o0, rfl, hcj⟩ := (HS.out.byN gr.out HNEA.out) j (by rw [← HN.out]; exact hlt)
      have HNE := hid (HNEA.out b0 o0 none rfl)
      have hxj := HX.out j hlt
      have HJBj := hid (HJB.out j)
      have HJ0 := hid (HJO.out j)
      clear HJB HJO
      generalize h.getD j 0 = v at *
      by_cases hbr : v = -10
      · have HE := hid (HJBj.out hbr)
        subst hbr
        clear HJBj HJ0 hxj
        go_wp2_with fail
        go_roundw
        case rel => exact ⟨j + 1, by omega, by go_num, hid (by rw [HE.out]; exact hb.out), gr⟩
        case measure => simp [intOf] <;> omega
      · have HJ := hid (HJ0.out hbr)
        have hv4 := hxj.resolve_left hbr
        have hbr' : (v == -10) = false := by simpa using hbr
        clear HJBj HJ0 hxj
        by_cases hs0 : v < 0
        · obtain ⟨q, hq, hv⟩ : ∃ q : Nat, q < 4 ∧ v = -((q : Int) + 1) := ⟨(-v - 1).toNat, by omega, by omega⟩
          have hpi : pIdx v = 40 + q := by unfold pIdx; split <;> omega
          rw [hpi] at HJ
          have hc2 := cell_ints hb.out (i := 40 + q) (by rw [addTo_length, HY.out]; omega)
          have hf2 : wr.frozen? ⟨b, 40 + q, none⟩ = false := frozen_of_row _ _ _ _ _ hb.out
          have hbd := HBD.out j (by omega) (40 + q)
          have hbY := HYB.out (40 + q)
          have HJ2 : Hid (addTo ys h (j + 1) = (addTo ys h j).set (40 + q) ((addTo ys h j).getD (40 + q) 0 + 1)) := hid HJ.out
          generalize (addTo ys h j).getD (40 + q) 0 = y at *
          have e5 : IntKind.i16.wrap (y + 1) = y + 1 := IntWalk.i16_in _ (by omega)
          have e3 : IntKind.i8.wrap (-v) = (q : Int) + 1 := (IntWalk.i8_in _ (by omega)).trans (by omega)
          have e4 : IntKind.i8.wrap ((q : Int) + 1 - 1) = (q : Int) := (IntWalk.i8_in _ (by omega)).trans (by omega)
          have e3b : IntKind.i8.wrap ((q : Int) + 1) = (q : Int) + 1 := IntWalk.i8_in _ (by omega)
          have e4b : IntKind.i8.wrap (q : Int) = (q : Int) := IntWalk.i8_in _ (by omega)
          have hneg : v < 0 := by omega
          have hq0 : (0 : Int) ≤ (q : Int) := by omega
          have hq1 : (q : Int) < 4 := by omega
          have hc0 : wr.drew.cell? ⟨b0, o0 + j, none⟩ = some (.int .i8 v) := hcj
          have hc2' : wr.drew.cell? ⟨b, 40 + q, none⟩ = some (.int .i16 y) := hc2
          have hf2' : wr.drew.frozen? ⟨b, 40 + q, none⟩ = false := hf2
          clear hpi hbd hbY HJ hc2 hf2
          go_wp2_with fail
          refine wp_region_held_drew (S := fun V => V.cell? ⟨b0, o0 + j, none⟩ = some (.int .i8 v)) (by kernel_rfl) hc0 (fun hH => ?_)
          have HH := hid hH
          clear hH
          refine wpAnyH_take (i := 0) (v := .pointer (some ⟨b, 0, none⟩)) rfl (by kernel_rfl) (by kernel_rfl) (by kernel_rfl) (fun _ _ _ h => h) (Or.inl ⟨by rfl, fun _ _ => by first | rfl | (go_simp; done) | (go_simp; rfl) | (go_simp; intro h; exfalso; omega)⟩) HH.out ?_
          simp only [Act.put, List.getElem_toArray, List.getElem_cons_zero, List.setIfInBounds_toArray, List.set_cons_zero, List.set_cons_succ]
          refine wpAnyH_take (i := 1) (v := .slice (some ⟨b0, o0, none⟩) n cap) rfl (by kernel_rfl) (by kernel_rfl) (by kernel_rfl) (fun _ _ _ h => h) (Or.inl ⟨by rfl, fun _ _ => by first | rfl | (go_simp; done) | (go_simp; rfl) | (go_simp; intro h; exfalso; omega)⟩) HH.out ?_
          simp only [Act.put, List.getElem_toArray, List.getElem_cons_zero, List.getElem_cons_succ, List.setIfInBounds_toArray, List.set_cons_zero, List.set_cons_succ]
          refine wpAnyH_take (i := 2) (v := .int .i64 (j : Int)) rfl (by kernel_rfl) (by kernel_rfl) (by kernel_rfl) (fun _ _ _ h => h) (Or.inl ⟨by rfl, fun _ _ => by first | rfl | (go_simp; done) | (go_simp; rfl) | (go_simp; intro h; exfalso; omega)⟩) HH.out ?_
          simp only [Act.put, List.getElem_toArray, List.getElem_cons_zero, List.getElem_cons_succ, List.setIfInBounds_toArray, List.set_cons_zero, List.set_cons_succ]
          refine wpAnyH_take (i := 3) (v := .pointer (some ⟨b0, o0 + j, none⟩)) rfl (by kernel_rfl) (by kernel_rfl) (by kernel_rfl) (fun _ _ _ h => h) (Or.inl ⟨by rfl, fun _ _ => by first | rfl | (go_simp; done) | (go_simp; rfl) | (go_simp; intro h; exfalso; omega)⟩) HH.out ?_
          simp only [Act.put, List.getElem_toArray, List.getElem_cons_zero, List.getElem_cons_succ, List.setIfInBounds_toArray, List.set_cons_zero, List.set_cons_succ]
          refine wpAnyH_take (i := 4) (v := .int .i8 v) rfl (by kernel_rfl) (by kernel_rfl) (by kernel_rfl) (fun _ _ _ h => h) (Or.inl ⟨by rfl, fun V hV => by have hc := hV; first | (go_simp; done) | (go_simp; rfl)⟩) HH.out ?_
          simp only [Act.put, List.getElem_toArray, List.getElem_cons_zero, List.getElem_cons_succ, List.setIfInBounds_toArray, List.set_cons_zero, List.set_cons_succ]
          refine wpAnyH_take (i := 5) (v := .int .i8 ((q : Int) + 1)) rfl (by kernel_rfl) (by kernel_rfl) (by kernel_rfl) (fun _ _ _ h => h) (Or.inl ⟨by rfl, fun _ _ => by first | rfl | (go_simp; done) | (go_simp; rfl) | (go_simp; intro h; exfalso; omega)⟩) HH.out ?_
          simp only [Act.put, List.getElem_toArray, List.getElem_cons_zero, List.getElem_cons_succ, List.setIfInBounds_toArray, List.set_cons_zero, List.set_cons_succ]
          refine wpAnyH_take (i := 6) (v := .int .i8 (q : Int)) rfl (by kernel_rfl) (by kernel_rfl) (by kernel_rfl) (fun _ _ _ h => h) (Or.inl ⟨by rfl, fun _ _ => by first | rfl | (go_simp; done) | (go_simp; rfl) | (go_simp; intro h; exfalso; omega)⟩) HH.out ?_
          simp only [Act.put, List.getElem_toArray, List.getElem_cons_zero, List.getElem_cons_succ, List.setIfInBounds_toArray, List.set_cons_zero, List.set_cons_succ]
          refine wpAnyH_take (i := 7) (v := .pointer (some ⟨b, 0, none⟩)) rfl (by kernel_rfl) (by kernel_rfl) (by kernel_rfl) (fun _ _ _ h => h) (Or.inl ⟨by rfl, fun _ _ => by first | rfl | (go_simp; done) | (go_simp; rfl) | (go_simp; intro h; exfalso; omega)⟩) HH.out ?_
          simp only [Act.put, List.getElem_toArray, List.getElem_cons_zero, List.getElem_cons_succ, List.setIfInBounds_toArray, List.set_cons_zero, List.set_cons_succ]
          refine wpAnyH_take (i := 8) (v := .pointer (some ⟨b, 40, none⟩)) rfl (by kernel_rfl) (by kernel_rfl) (by kernel_rfl) (fun _ _ _ h => h) (Or.inl ⟨by rfl, fun _ _ => by first | rfl | (go_simp; done) | (go_simp; rfl) | (go_simp; intro h; exfalso; omega)⟩) HH.out ?_
          simp only [Act.put, List.getElem_toArray, List.getElem_cons_zero, List.getElem_cons_succ, List.setIfInBounds_toArray, List.set_cons_zero, List.set_cons_succ]
          refine wpAnyH_take (i := 9) (v := .pointer (some ⟨b, 40 + q, none⟩)) rfl (by kernel_rfl) (by kernel_rfl) (by kernel_rfl) (fun _ _ _ h => h) (Or.inl ⟨by rfl, fun _ _ => by first | rfl | (go_simp; done) | (go_simp; rfl) | (go_simp; intro h; exfalso; omega)⟩) HH.out ?_
          simp only [Act.put, List.getElem_toArray, List.getElem_cons_zero, List.getElem_cons_succ, List.setIfInBounds_toArray, List.set_cons_zero, List.set_cons_succ]
          refine wpAnyH_take (i := 13) (v := .pointer (some ⟨b, 0, none⟩)) rfl (by kernel_rfl) (by kernel_rfl) (by kernel_rfl) (fun _ _ _ h => h) (Or.inl ⟨by rfl, fun _ _ => by first | rfl | (go_simp; done) | (go_simp; rfl) | (go_simp; intro h; exfalso; omega)⟩) HH.out ?_
          simp only [Act.put, List.getElem_toArray, List.getElem_cons_zero, List.getElem_cons_succ, List.setIfInBounds_toArray, List.set_cons_zero, List.set_cons_succ]
          refine wpAnyH_take (i := 14) (v := .pointer (some ⟨b, 40, none⟩)) rfl (by kernel_rfl) (by kernel_rfl) (by kernel_rfl) (fun _ _ _ h => h) (Or.inl ⟨by rfl, fun _ _ => by first | rfl | (go_simp; done) | (go_simp; rfl) | (go_simp; intro h; exfalso; omega)⟩) HH.out ?_
          simp only [Act.put, List.getElem_toArray, List.getElem_cons_zero, List.getElem_cons_succ, List.setIfInBounds_toArray, List.set_cons_zero, List.set_cons_succ]
          refine wpAnyH_take (i := 11) (v := .int .i16 1) rfl (by kernel_rfl) (by kernel_rfl) (by kernel_rfl) (fun _ _ _ h => h) (Or.inl ⟨by rfl, fun _ _ => by first | rfl | (go_simp; done) | (go_simp; rfl) | (go_simp; intro h; exfalso; omega)⟩) HH.out ?_
          simp only [Act.put, List.getElem_toArray, List.getElem_cons_zero, List.getElem_cons_succ, List.setIfInBounds_toArray, List.set_cons_zero, List.set_cons_succ]
          refine wpAnyH_ready (rs := [10]) (by kernel_rfl) (by simp) (AllReadyH.cons rfl (fun KK hKK => ?_) AllReadyH.nil)
          rw [if_pos (by rfl)]
          go_simp
          refine hKK.out _ _ HH.out (fun hH => ?_)
          clear HH hKK KK
          have HH := hid hH
          clear hH
          refine wpAnyH_take (i := 12) (v := .int .i16 (y + 1)) rfl (by kernel_rfl) (by kernel_rfl) (by kernel_rfl) (fun _ _ _ h => h) (Or.inl ⟨by rfl, fun _ _ => by first | rfl | (go_simp; done) | (go_simp; rfl) | (go_simp; intro h; exfalso; omega)⟩) HH.out ?_
          simp only [Act.put, List.getElem_toArray, List.getElem_cons_zero, List.getElem_cons_succ, List.setIfInBounds_toArray, List.set_cons_zero, List.set_cons_succ]
          refine wpAnyH_take (i := 15) (v := .pointer (some ⟨b, 40 + q, none⟩)) rfl (by kernel_rfl) (by kernel_rfl) (by kernel_rfl) (fun _ _ _ h => h) (Or.inl ⟨by rfl, fun _ _ => by first | rfl | (go_simp; done) | (go_simp; rfl) | (go_simp; intro h; exfalso; omega)⟩) HH.out ?_
          simp only [Act.put, List.getElem_toArray, List.getElem_cons_zero, List.getElem_cons_succ, List.setIfInBounds_toArray, List.set_cons_zero, List.set_cons_succ]
          refine wpAnyH_ready (rs := [16]) (by kernel_rfl) (by simp) (AllReadyH.cons rfl (fun KK hKK => ?_) AllReadyH.nil)
          rw [if_pos (by rfl)]
          go_simp
          refine hKK.out _ _ ((World.cell?_of_block (heap_setCell_other wr.drew ⟨b, 40 + q, none⟩ b0 (.int .i16 (y + 1)) HNE.out) (a := ⟨b0, o0 + j, none⟩)).trans HH.out) (fun hH => ?_)
          clear HH hKK KK hH
          refine wpAnyH_done (by kernel_rfl) ?_ _
          have HB9 := hid (heap_int_set (i := 40 + q) (x := y + 1) (show wr.drew.heap[b]? = some (.cells (kCells .i16 (addTo ys h j)) T (0, 0)) from hb.out))
          rw [← HJ2.out] at HB9
          have HG9 := hid ((gr.out.trans (row := some b) ⟨rfl, rfl, rfl, Nat.le_refl _, fun _ _ _ => rfl⟩ : w.grownBy wr.drew (some b)).trans (grownN_cell (W := wr.drew) (g := b) (i := 40 + q) (u := .int .i16 (y + 1))))
          go_wp2_with fail
          go_roundw
          case rel => exact ⟨j + 1, by omega, by go_num, HB9, HG9⟩
          case measure => simp [intOf] <;> omega
        · obtain ⟨q, hq, hv⟩ : ∃ q : Nat, q < 40 ∧ v = (q : Int) := ⟨v.toNat, by omega, by omega⟩
          have hpi : pIdx v = q := by unfold pIdx; split <;> omega
          rw [hpi] at HJ
          have hc2 := cell_ints hb.out (i := q) (by rw [addTo_length, HY.out]; omega)
          have hf2 : wr.frozen? ⟨b, q, none⟩ = false := frozen_of_row _ _ _ _ _ hb.out
          have hbd := HBD.out j (by omega) (q)
          have hbY := HYB.out (q)
          have HJ2 : Hid (addTo ys h (j + 1) = (addTo ys h j).set (q) ((addTo ys h j).getD (q) 0 + 1)) := hid HJ.out
          generalize (addTo ys h j).getD (q) 0 = y at *
          have e5 : IntKind.i16.wrap (y + 1) = y + 1 := IntWalk.i16_in _ (by omega)
          have hneg : ¬ v < 0 := by omega
          have hq0 : (0 : Int) ≤ (q : Int) := by omega
          have hq1 : (q : Int) < 40 := by omega
          have hc0 : wr.drew.cell? ⟨b0, o0 + j, none⟩ = some (.int .i8 v) := hcj
          have hc2' : wr.drew.cell? ⟨b, q, none⟩ = some (.int .i16 y) := hc2
          have hf2' : wr.drew.frozen? ⟨b, q, none⟩ = false := hf2
          clear hpi hbd hbY HJ hc2 hf2
          go_wp2_with fail
          refine wp_region_held_drew (S := fun V => V.cell? ⟨b0, o0 + j, none⟩ = some (.int .i8 v)) (by kernel_rfl) hc0 (fun hH => ?_)
          have HH := hid hH
          clear hH
          refine wpAnyH_take (i := 0) (v := .pointer (some ⟨b, 0, none⟩)) rfl (by kernel_rfl) (by kernel_rfl) (by kernel_rfl) (fun _ _ _ h => h) (Or.inl ⟨by rfl, fun _ _ => by first | rfl | (go_simp; done) | (go_simp; rfl) | (go_simp; intro h; exfalso; omega)⟩) HH.out ?_
          simp only [Act.put, List.getElem_toArray, List.getElem_cons_zero, List.setIfInBounds_toArray, List.set_cons_zero, List.set_cons_succ]
          refine wpAnyH_take (i := 1) (v := .slice (some ⟨b0, o0, none⟩) n cap) rfl (by kernel_rfl) (by kernel_rfl) (by kernel_rfl) (fun _ _ _ h => h) (Or.inl ⟨by rfl, fun _ _ => by first | rfl | (go_simp; done) | (go_simp; rfl) | (go_simp; intro h; exfalso; omega)⟩) HH.out ?_
          simp only [Act.put, List.getElem_toArray, List.getElem_cons_zero, List.getElem_cons_succ, List.setIfInBounds_toArray, List.set_cons_zero, List.set_cons_succ]
          refine wpAnyH_take (i := 2) (v := .int .i64 (j : Int)) rfl (by kernel_rfl) (by kernel_rfl) (by kernel_rfl) (fun _ _ _ h => h) (Or.inl ⟨by rfl, fun _ _ => by first | rfl | (go_simp; done) | (go_simp; rfl) | (go_simp; intro h; exfalso; omega)⟩) HH.out ?_
          simp only [Act.put, List.getElem_toArray, List.getElem_cons_zero, List.getElem_cons_succ, List.setIfInBounds_toArray, List.set_cons_zero, List.set_cons_succ]
          refine wpAnyH_take (i := 3) (v := .pointer (some ⟨b0, o0 + j, none⟩)) rfl (by kernel_rfl) (by kernel_rfl) (by kernel_rfl) (fun _ _ _ h => h) (Or.inl ⟨by rfl, fun _ _ => by first | rfl | (go_simp; done) | (go_simp; rfl) | (go_simp; intro h; exfalso; omega)⟩) HH.out ?_
          simp only [Act.put, List.getElem_toArray, List.getElem_cons_zero, List.getElem_cons_succ, List.setIfInBounds_toArray, List.set_cons_zero, List.set_cons_succ]
          refine wpAnyH_take (i := 4) (v := .int .i8 v) rfl (by kernel_rfl) (by kernel_rfl) (by kernel_rfl) (fun _ _ _ h => h) (Or.inl ⟨by rfl, fun V hV => by have hc := hV; first | (go_simp; done) | (go_simp; rfl)⟩) HH.out ?_
          simp only [Act.put, List.getElem_toArray, List.getElem_cons_zero, List.getElem_cons_succ, List.setIfInBounds_toArray, List.set_cons_zero, List.set_cons_succ]
          refine wpAnyH_take (i := 5) (v := .pointer (some ⟨b, 0, none⟩)) rfl (by kernel_rfl) (by kernel_rfl) (by kernel_rfl) (fun _ _ _ h => h) (Or.inl ⟨by rfl, fun _ _ => by first | rfl | (go_simp; done) | (go_simp; rfl) | (go_simp; intro h; exfalso; omega)⟩) HH.out ?_
          simp only [Act.put, List.getElem_toArray, List.getElem_cons_zero, List.getElem_cons_succ, List.setIfInBounds_toArray, List.set_cons_zero, List.set_cons_succ]
          refine wpAnyH_take (i := 6) (v := .pointer (some ⟨b, 0, none⟩)) rfl (by kernel_rfl) (by kernel_rfl) (by kernel_rfl) (fun _ _ _ h => h) (Or.inl ⟨by rfl, fun _ _ => by first | rfl | (go_simp; done) | (go_simp; rfl) | (go_simp; intro h; exfalso; omega)⟩) HH.out ?_
          simp only [Act.put, List.getElem_toArray, List.getElem_cons_zero, List.getElem_cons_succ, List.setIfInBounds_toArray, List.set_cons_zero, List.set_cons_succ]
          refine wpAnyH_take (i := 7) (v := .pointer (some ⟨b, q, none⟩)) rfl (by kernel_rfl) (by kernel_rfl) (by kernel_rfl) (fun _ _ _ h => h) (Or.inl ⟨by rfl, fun _ _ => by first | rfl | (go_simp; done) | (go_simp; rfl) | (go_simp; intro h; exfalso; omega)⟩) HH.out ?_
          simp only [Act.put, List.getElem_toArray, List.getElem_cons_zero, List.getElem_cons_succ, List.setIfInBounds_toArray, List.set_cons_zero, List.set_cons_succ]
          refine wpAnyH_take (i := 11) (v := .pointer (some ⟨b, 0, none⟩)) rfl (by kernel_rfl) (by kernel_rfl) (by kernel_rfl) (fun _ _ _ h => h) (Or.inl ⟨by rfl, fun _ _ => by first | rfl | (go_simp; done) | (go_simp; rfl) | (go_simp; intro h; exfalso; omega)⟩) HH.out ?_
          simp only [Act.put, List.getElem_toArray, List.getElem_cons_zero, List.getElem_cons_succ, List.setIfInBounds_toArray, List.set_cons_zero, List.set_cons_succ]
          refine wpAnyH_take (i := 12) (v := .pointer (some ⟨b, 0, none⟩)) rfl (by kernel_rfl) (by kernel_rfl) (by kernel_rfl) (fun _ _ _ h => h) (Or.inl ⟨by rfl, fun _ _ => by first | rfl | (go_simp; done) | (go_simp; rfl) | (go_simp; intro h; exfalso; omega)⟩) HH.out ?_
          simp only [Act.put, List.getElem_toArray, List.getElem_cons_zero, List.getElem_cons_succ, List.setIfInBounds_toArray, List.set_cons_zero, List.set_cons_succ]
          refine wpAnyH_take (i := 9) (v := .int .i16 1) rfl (by kernel_rfl) (by kernel_rfl) (by kernel_rfl) (fun _ _ _ h => h) (Or.inl ⟨by rfl, fun _ _ => by first | rfl | (go_simp; done) | (go_simp; rfl) | (go_simp; intro h; exfalso; omega)⟩) HH.out ?_
          simp only [Act.put, List.getElem_toArray, List.getElem_cons_zero, List.getElem_cons_succ, List.setIfInBounds_toArray, List.set_cons_zero, List.set_cons_succ]
          refine wpAnyH_ready (rs := [8]) (by kernel_rfl) (by simp) (AllReadyH.cons rfl (fun KK hKK => ?_) AllReadyH.nil)
          rw [if_pos (by rfl)]
          go_simp
          refine hKK.out _ _ HH.out (fun hH => ?_)
          clear HH hKK KK
          have HH := hid hH
          clear hH
          refine wpAnyH_take (i := 10) (v := .int .i16 (y + 1)) rfl (by kernel_rfl) (by kernel_rfl) (by kernel_rfl) (fun _ _ _ h => h) (Or.inl ⟨by rfl, fun _ _ => by first | rfl | (go_simp; done) | (go_simp; rfl) | (go_simp; intro h; exfalso; omega)⟩) HH.out ?_
          simp only [Act.put, List.getElem_toArray, List.getElem_cons_zero, List.getElem_cons_succ, List.setIfInBounds_toArray, List.set_cons_zero, List.set_cons_succ]
          refine wpAnyH_take (i := 13) (v := .pointer (some ⟨b, q, none⟩)) rfl (by kernel_rfl) (by kernel_rfl) (by kernel_rfl) (fun _ _ _ h => h) (Or.inl ⟨by rfl, fun _ _ => by first | rfl | (go_simp; done) | (go_simp; rfl) | (go_simp; intro h; exfalso; omega)⟩) HH.out ?_
          simp only [Act.put, List.getElem_toArray, List.getElem_cons_zero, List.getElem_cons_succ, List.setIfInBounds_toArray, List.set_cons_zero, List.set_cons_succ]
          refine wpAnyH_ready (rs := [14]) (by kernel_rfl) (by simp) (AllReadyH.cons rfl (fun KK hKK => ?_) AllReadyH.nil)
          rw [if_pos (by rfl)]
          go_simp
          refine hKK.out _ _ ((World.cell?_of_block (heap_setCell_other wr.drew ⟨b, q, none⟩ b0 (.int .i16 (y + 1)) HNE.out) (a := ⟨b0, o0 + j, none⟩)).trans HH.out) (fun hH => ?_)
          clear HH hKK KK hH
          refine wpAnyH_done (by kernel_rfl) ?_ _
          have HB9 := hid (heap_int_set (i := q) (x := y + 1) (show wr.drew.heap[b]? = some (.cells (kCells .i16 (addTo ys h j)) T (0, 0)) from hb.out))
          rw [← HJ2.out] at HB9
          have HG9 := hid ((gr.out.trans (row := some b) ⟨rfl, rfl, rfl, Nat.le_refl _, fun _ _ _ => rfl⟩ : w.grownBy wr.drew (some b)).trans (grownN_cell (W := wr.drew) (g := b) (i := q) (u := .int .i16 (y + 1))))
          go_wp2_with fail
          go_roundw
          case rel => exact ⟨j + 1, by omega, by go_num, HB9, HG9⟩
          case measure => simp [intOf] <;> omega
    · have hjn : j = n := by omega
      have HK := hid hjn
      clear hjn
      go_wp2_with fail
      have hb2 := hb.out
      rw [HK.out] at hb2
      refine bodyPost_end (results_none (by rfl) _ _ _) rfl ?_
      exact ⟨rfl, hb2, gr.out⟩
end Go.Proofs.Ytlhijammadadmaa
