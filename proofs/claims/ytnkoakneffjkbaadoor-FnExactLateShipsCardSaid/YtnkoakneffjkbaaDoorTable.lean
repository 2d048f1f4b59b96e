/- The table of two logs: the program's function, for whatever is told. -/
import Derived.Test.YtnkoakneffjkbaaDoorAccts
import Derived.Test.YtnkoakneffjkbaaDoorTab
import Derived.Test.YtnkoakneffjkbaaDoorGoOn
import Derived.Deep.RegionHeld3
namespace Go.Proofs.YtnkoakneffjkbaaDoor
set_option linter.unusedVariables false
open Go.RowKit
theorem run_make_rows {P : Program} {t e : TypeId} (ht : P.underlying t = some (.slice e)) (hi' : (P.info? e).map (fun i => (i.zero, i.size, i.bytes)) = some (some (.slice none 0 0), 1, 24))
    (n : Nat) (hn : n ≤ 1048577) (w : World) :
    (Instr.makeSlice t (.int .i64 n) (.int .i64 n)).run P w = .ok (.slice (some ⟨w.heap.size, 0, none⟩) n n) (w.alloc (.cells (List.replicate n (Value.slice none 0 0)).toArray e)) := by
  obtain ⟨i0, hi, hh⟩ := Option.map_eq_some_iff.1 hi'
  simp only [Prod.mk.injEq] at hh
  obtain ⟨h1, h2, h3⟩ := hh
  have hb' : (i0.bytes : Int) * (n : Int) ≤ 281474976710656 := by
    have h : ((24 * n : Nat) : Int) ≤ 281474976710656 := by omega
    rw [Int.natCast_mul] at h; rw [h3]; exact h
  have := run_make (P := P) w t e i0 (.slice none 0 0) ht hi h1 .i64 .i64 n n (by omega) (Int.le_refl _) hb' (by omega)
  rw [this, h2]
  simp only [Int.toNat_natCast]
  congr 3
  unfold madeCells
  apply Array.ext_getElem?
  intro i
  by_cases h : i < n
  · simp [Value.cells, h, Nat.mod_one]
  · simp [Value.cells, h]
theorem infoRow : (Tryd.prog.info? 44).map (fun i => (i.zero, i.size, i.bytes)) = some (some (.slice none 0 0), 1, 24) := by kernel_rfl
theorem info64t : (Tryd.prog.info? 2).map (fun i => (i.zero, i.size, i.bytes)) = some (some (.int .i64 0), 1, 8) := by kernel_rfl
/-- A row of zeros; rows that are not there yet. -/
def zeroRow (m : Nat) : Obj := .cells ((List.replicate (m + 1) 0).map (Value.int .i64)).toArray 2
def noRows (n : Nat) : Obj := .cells (List.replicate (n + 1) (Value.slice none 0 0)).toArray 44
theorem make_row (m : Nat) (hm : m ≤ 1048576) (W : World) : (Instr.makeSlice 44 (.int .i64 ((m : Int) + 1)) (.int .i64 ((m : Int) + 1))).run Tryd.prog W = .ok (.slice (some ⟨W.heap.size, 0, none⟩) (m + 1) (m + 1)) (W.alloc (zeroRow m)) := by
  have h := run_make_ints (P := Tryd.prog) (t := 44) Tryd.underlying44 info64t (m + 1) (by omega) (by omega) W
  unfold zeroRow
  simpa [kCells] using h
theorem make_rows (m : Nat) (hm : m ≤ 1048576) (W : World) : (Instr.makeSlice 52 (.int .i64 ((m : Int) + 1)) (.int .i64 ((m : Int) + 1))).run Tryd.prog W = .ok (.slice (some ⟨W.heap.size, 0, none⟩) (m + 1) (m + 1)) (W.alloc (noRows m)) := by
  have h := run_make_rows (P := Tryd.prog) (t := 52) Tryd.underlying52 infoRow (m + 1) (by omega) W
  unfold noRows
  simpa using h
set_option maxRecDepth 100000 in
set_option maxHeartbeats 4000000 in
theorem table_any (a b : Option Addr) (n m ca cb : Nat) (es fs : List En) (hn6 : n ≤ 60) (hm6 : m ≤ 60) (K : FuncId) (caps : Array Value) (T : Nat → Nat → Int) (hK : ∀ (args : Array Value) (w : World), (callFunc K args).run Tryd.prog w = .ok (.enter K args) w) (w : World) (h2 : Logs2 w a b n m es fs)
    (HT : ∀ V lo tb cap rb (i k : Nat), Gr w V → i ≤ n → k ≤ m → Tab V lo tb (n + 1) (m + 1) T i i (k + 1) rb → Calls Tryd.prog K (#[.slice (some ⟨tb, 0, none⟩) (n + 1) cap, .int .i64 i, .int .i64 k] ++ caps) V fun e w' => e = .returned (.int .i64 (T i k)) ∧ Gr V w') :
    Calls Tryd.prog 70 #[.agg (sidesC a b n m ca cb), .func (.func K) #[] caps] w fun e w' => ∃ tb rb, e = .returned (.slice (some ⟨tb, 0, none⟩) (n + 1) (n + 1)) ∧ Tab w' (w.heap.size + 1) tb (n + 1) (m + 1) T 0 0 0 rb ∧ Gr w w' := by
  have H := hid HT
  have hmk := make_row m (by omega)
  have hmt := make_rows n (by omega)
  clear HT h2
  unfold sidesC
  obtain ⟨W1, hW1⟩ : ∃ W1, W1 = w.alloc (.cells #[.slice a n ca, .slice b m cb] 67) := ⟨_, rfl⟩
  have GW := hid (show Gr w W1 by rw [hW1]; exact (Gr.refl w).alloc _)
  have B1 := hid (show W1.heap[w.heap.size]? = some (.cells #[.slice a n ca, .slice b m cb] 67 (0, 0)) by rw [hW1]; exact heap_new rfl)
  have HS1 := hid (show W1.heap.size = w.heap.size + 1 by rw [hW1]; simp)
  have T0 := hid (Tab.empty (w := W1.alloc (noRows n)) (lo := w.heap.size + 1) (N := n + 1) (M := m + 1) (T := T) (i := n + 1) (j := 0) (rb := fun _ => 0) (tb := W1.heap.size) (heap_new rfl) (by simp) (by rw [hW1]; simp))
  have HW1 := hid hW1
  clear hW1
  go_enter Tryd.func70, Tryd.ntmps70
  go_wp2_with fail
  go_loopw [6, 7] (fun iv _ wr => ∃ (q : Nat) (rb : Nat → Nat), q ≤ n + 1 ∧ iv = .int .i64 ((q : Int) - 1) ∧ Hid (Tab wr (w.heap.size + 1) (w.heap.size + 1) (n + 1) (m + 1) T q q 0 rb) ∧ Hid (Gr W1 wr)) (fun iv _ _ => (intOf iv + 1).toNat)
  case atStart => exact ⟨n + 1, fun _ => 0, Nat.le_refl _, by go_num, hid (by have h := T0.out; rw [HS1.out, HW1.out] at h; exact h), hid (by rw [HW1.out]; exact (Gr.refl _).alloc _)⟩
  case round =>
    obtain ⟨q, rb, hq, rfl, I, hg⟩ := hrel
    by_cases hq0 : q = 0
    · subst hq0
      go_wp2_with fail
      go_ret
      exact ⟨_, rb, rfl, I.out, GW.out.trans hg.out⟩
    · obtain ⟨i, rfl⟩ : ∃ i, q = i + 1 := ⟨q - 1, by omega⟩
      have hei : ((i + 1 : Nat) : Int) - 1 = i := by omega
      rw [hei]
      clear hei hq0
      have B2 := hid (hg.out.heap B1.out)
      have c0 : wr.cell? ⟨w.heap.size, 0, none⟩ = some (.slice a n ca) := by rw [cell_of_row _ _ _ _ _ _ B2.out]; rfl
      have c1 : wr.cell? ⟨w.heap.size, 1, none⟩ = some (.slice b m cb) := by rw [cell_of_row _ _ _ _ _ _ B2.out]; rfl
      have hi0 : (0 : Int) ≤ i := by omega
      have hi1 : (i : Int) < (n + 1 : Nat) := by omega
      have HG2 := hid (hg.out.alloc (zeroRow m))
      have I2 := hid (I.out.gr ((Gr.refl wr).alloc (zeroRow m)))
      obtain ⟨⟨x, c2⟩, f2⟩ := I2.out.outerSome (r := i) (by omega)
      obtain ⟨W5, hW5⟩ : ∃ W5, W5 = (wr.alloc (zeroRow m)).setCell ⟨w.heap.size + 1, i, none⟩ (.slice (some ⟨wr.heap.size, 0, none⟩) (m + 1) (m + 1)) := ⟨_, rfl⟩
      have HW5 := hid hW5
      have J := hid (show Tab W5 (w.heap.size + 1) (w.heap.size + 1) (n + 1) (m + 1) T i i (m + 1) (fun r => if r = i then wr.heap.size else rb r) from by rw [hW5]; exact I.out.next.grow (by omega))
      have G5 := hid (show Gr W1 W5 from by rw [hW5]; exact HG2.out.setCell (p := ⟨w.heap.size + 1, i, none⟩) (by rw [HS1.out]; exact Nat.le_refl _) _)
      clear hW5
      go_upto_region 6 with (fail)
      clear c0 c1 c2 f2 I I2 HG2
      rw [← HW5.out]
      have B5 := hid (G5.out.heap B1.out)
      have c1 : W5.cell? ⟨w.heap.size, 1, none⟩ = some (.slice b m cb) := by rw [cell_of_row _ _ _ _ _ _ B5.out]; rfl
      generalize (fun r => if r = i then wr.heap.size else rb r) = rb2 at *
      go_wp2_with fail
      go_loopw [7] (fun jv wq => ∃ c : Nat, c ≤ m + 1 ∧ jv = .int .i64 ((c : Int) - 1) ∧ Hid (Tab wq (w.heap.size + 1) (w.heap.size + 1) (n + 1) (m + 1) T i i c rb2) ∧ Hid (Gr W1 wq)) (fun jv _ => (intOf jv + 1).toNat)
      case atStart => exact ⟨m + 1, Nat.le_refl _, by go_num, J, G5⟩
      case round =>
        obtain ⟨c, hc, rfl, Q, hgq⟩ := hrel
        by_cases hc0 : c = 0
        · subst hc0
          go_wp2_with fail
          go_roundw
          case rel => exact ⟨i, rb2, by omega, by go_num, Q, hgq⟩
          case measure => simp [intOf]
        · obtain ⟨k, rfl⟩ : ∃ k, c = k + 1 := ⟨c - 1, by omega⟩
          have hek : ((k + 1 : Nat) : Int) - 1 = k := by omega
          rw [hek]
          clear hek hc0
          have hk0 : (0 : Int) ≤ k := by omega
          have hk1 : (k : Int) < (m + 1 : Nat) := by omega
          have hri := Q.out.row (r := i) (Nat.le_refl _) (by omega)
          have HRI := hid (fun (V : World) (h : Tab V (w.heap.size + 1) (w.heap.size + 1) (n + 1) (m + 1) T i i (k + 1) rb2) => And.intro (h.row (r := i) (Nat.le_refl _) (by omega)) (h.some_ (r := i) (c := k) (Nat.le_refl _) (by omega) (by omega)))
          have HPUT := hid (fun (V : World) (h : Tab V (w.heap.size + 1) (w.heap.size + 1) (n + 1) (m + 1) T i i (k + 1) rb2) => h.put (Nat.le_refl i) (by omega) (by omega) (x := T i k) rfl)
          have HLOW := hid (Q.out.low (r := i) (Nat.le_refl _) (by omega))
          have HCT := hid (fun V g h => H.out V (w.heap.size + 1) (w.heap.size + 1) (n + 1) rb2 i k g (by omega) (by omega) h)
          generalize hr2 : rb2 i = ri at *
          have HR2 := hid hr2
          clear hr2
          go_wp2_with fail
          refine wp_region_held_drew (S := fun V => V.cell? ⟨w.heap.size + 1, i, none⟩ = some (.slice (some ⟨ri, 0, none⟩) (m + 1) (m + 1)) ∧ Tab V (w.heap.size + 1) (w.heap.size + 1) (n + 1) (m + 1) T i i (k + 1) rb2 ∧ Gr W1 V) (by kernel_rfl) ⟨hri, Q.out.gr ((Gr.refl _).drew), hgq.out.drew⟩ (fun hH => ?_)
          have HH := hid hH
          clear hH
          refine wpAnyH_take (i := 0) (v := .slice (some ⟨w.heap.size + 1, 0, none⟩) (n + 1) (n + 1)) rfl (by kernel_rfl) (by kernel_rfl) (by kernel_rfl) (fun _ _ _ h => h) (Or.inl ⟨by rfl, fun _ _ => by first | rfl | (go_simp; done) | (go_simp; rfl) | (go_simp; intro h; exfalso; omega)⟩) HH.out ?_
          simp only [Act.put, List.getElem_toArray, List.getElem_cons_zero, List.setIfInBounds_toArray, List.set_cons_zero, List.set_cons_succ]
          refine wpAnyH_take (i := 1) (v := .int .i64 i) rfl (by kernel_rfl) (by kernel_rfl) (by kernel_rfl) (fun _ _ _ h => h) (Or.inl ⟨by rfl, fun _ _ => by first | rfl | (go_simp; done) | (go_simp; rfl) | (go_simp; intro h; exfalso; omega)⟩) HH.out ?_
          simp only [Act.put, List.getElem_toArray, List.getElem_cons_zero, List.getElem_cons_succ, List.setIfInBounds_toArray, List.set_cons_zero, List.set_cons_succ]
          refine wpAnyH_take (i := 2) (v := .pointer (some ⟨w.heap.size + 1, i, none⟩)) rfl (by kernel_rfl) (by kernel_rfl) (by kernel_rfl) (fun _ _ _ h => h) (Or.inl ⟨by rfl, fun _ _ => by first | rfl | (go_simp; done) | (go_simp; rfl) | (go_simp; intro h; exfalso; omega)⟩) HH.out ?_
          simp only [Act.put, List.getElem_toArray, List.getElem_cons_zero, List.getElem_cons_succ, List.setIfInBounds_toArray, List.set_cons_zero, List.set_cons_succ]
          refine wpAnyH_take (i := 3) (v := .slice (some ⟨ri, 0, none⟩) (m + 1) (m + 1)) rfl (by kernel_rfl) (by kernel_rfl) (by kernel_rfl) (fun _ _ _ h => h) (Or.inl ⟨by rfl, fun V hV => by (have hc := hV.1; first | (go_simp; done) | (go_simp; rfl))⟩) HH.out ?_
          simp only [Act.put, List.getElem_toArray, List.getElem_cons_zero, List.getElem_cons_succ, List.setIfInBounds_toArray, List.set_cons_zero, List.set_cons_succ]
          refine wpAnyH_take (i := 4) (v := .int .i64 k) rfl (by kernel_rfl) (by kernel_rfl) (by kernel_rfl) (fun _ _ _ h => h) (Or.inl ⟨by rfl, fun _ _ => by first | rfl | (go_simp; done) | (go_simp; rfl) | (go_simp; intro h; exfalso; omega)⟩) HH.out ?_
          simp only [Act.put, List.getElem_toArray, List.getElem_cons_zero, List.getElem_cons_succ, List.setIfInBounds_toArray, List.set_cons_zero, List.set_cons_succ]
          refine wpAnyH_take (i := 5) (v := .func (.func K) #[] caps) rfl (by kernel_rfl) (by kernel_rfl) (by kernel_rfl) (fun _ _ _ h => h) (Or.inl ⟨by rfl, fun _ _ => by first | rfl | (go_simp; done) | (go_simp; rfl) | (go_simp; intro h; exfalso; omega)⟩) HH.out ?_
          simp only [Act.put, List.getElem_toArray, List.getElem_cons_zero, List.getElem_cons_succ, List.setIfInBounds_toArray, List.set_cons_zero, List.set_cons_succ]
          refine wpAnyH_take (i := 6) (v := .slice (some ⟨w.heap.size + 1, 0, none⟩) (n + 1) (n + 1)) rfl (by kernel_rfl) (by kernel_rfl) (by kernel_rfl) (fun _ _ _ h => h) (Or.inl ⟨by rfl, fun _ _ => by first | rfl | (go_simp; done) | (go_simp; rfl) | (go_simp; intro h; exfalso; omega)⟩) HH.out ?_
          simp only [Act.put, List.getElem_toArray, List.getElem_cons_zero, List.getElem_cons_succ, List.setIfInBounds_toArray, List.set_cons_zero, List.set_cons_succ]
          refine wpAnyH_take (i := 7) (v := .int .i64 i) rfl (by kernel_rfl) (by kernel_rfl) (by kernel_rfl) (fun _ _ _ h => h) (Or.inl ⟨by rfl, fun _ _ => by first | rfl | (go_simp; done) | (go_simp; rfl) | (go_simp; intro h; exfalso; omega)⟩) HH.out ?_
          simp only [Act.put, List.getElem_toArray, List.getElem_cons_zero, List.getElem_cons_succ, List.setIfInBounds_toArray, List.set_cons_zero, List.set_cons_succ]
          refine wpAnyH_take (i := 8) (v := .int .i64 k) rfl (by kernel_rfl) (by kernel_rfl) (by kernel_rfl) (fun _ _ _ h => h) (Or.inl ⟨by rfl, fun _ _ => by first | rfl | (go_simp; done) | (go_simp; rfl) | (go_simp; intro h; exfalso; omega)⟩) HH.out ?_
          simp only [Act.put, List.getElem_toArray, List.getElem_cons_zero, List.getElem_cons_succ, List.setIfInBounds_toArray, List.set_cons_zero, List.set_cons_succ]
          refine wpAnyH_ready (rs := [9]) (by kernel_rfl) (by simp) (AllReadyH.cons rfl (fun KK hKK => ?_) AllReadyH.nil)
          rw [if_pos (by rfl)]
          go_simp
          refine (HCT.out _ (GW.out.trans HH.out.2.2) HH.out.2.1).mono ?_
          rintro e V ⟨rfl, gV⟩
          dsimp only
          have h1 := HH.out.2.1.gr gV
          have h2 := HH.out.2.2.trans gV
          refine hKK.out _ _ ⟨(HRI.out V h1).1, h1, h2⟩ (fun hH => ?_)
          clear HH hKK KK
          have HH := hid hH
          clear hH
          refine wpAnyH_take (i := 10) (v := .pointer (some ⟨ri, k, none⟩)) rfl (by kernel_rfl) (by kernel_rfl) (by kernel_rfl) (fun _ _ _ h => h) (Or.inl ⟨by rfl, fun _ _ => by first | rfl | (go_simp; done) | (go_simp; rfl) | (go_simp; intro h; exfalso; omega)⟩) HH.out ?_
          simp only [Act.put, List.getElem_toArray, List.getElem_cons_zero, List.getElem_cons_succ, List.setIfInBounds_toArray, List.set_cons_zero, List.set_cons_succ]
          refine wpAnyH_ready (rs := [11]) (by kernel_rfl) (by simp) (AllReadyH.cons rfl (fun KK hKK => ?_) AllReadyH.nil)
          rw [if_pos (by rfl)]
          obtain ⟨⟨x2, c3⟩, f3⟩ := (HRI.out _ HH.out.2.1).2
          have HB := hid (HPUT.out _ HH.out.2.1)
          have HGB := hid (HH.out.2.2.setCell (p := ⟨ri, k, none⟩) (by rw [HS1.out]; exact HLOW.out) (.int .i64 (T i k)))
          go_simp
          have hs := HB.out.less (Nat.le_refl i) (i' := i) (j' := k + 1) (.inr ⟨rfl, Nat.le_succ _⟩)
          refine hKK.out _ _ ⟨(HRI.out _ hs).1, hs, HGB.out⟩ (fun hH => ?_)
          clear hKK KK HH hH hs c3 f3
          refine wpAnyH_done (by kernel_rfl) ?_ _
          go_wp2_with fail
          go_roundw
          case rel => exact ⟨k, by omega, by go_num, HB, HGB⟩
          case measure => simp [intOf]
end Go.Proofs.YtnkoakneffjkbaaDoor
