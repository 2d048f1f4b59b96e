/- When all haul down: the model's function. -/
import Derived.Test.YtflbjjcpkhldkaaDoorAllClosed
import Derived.Test.YtflbjjcpkhldkaaDoorWhere
import Derived.StillTailTactics
namespace Go.Proofs.YtflbjjcpkhldkaaDoor
set_option linter.unusedVariables false
open Go.RowKit
set_option maxRecDepth 100000 in
theorem l00Max_q (a b : Int) (w : World) : Calls Tryd.prog 77 #[.int .i64 a, .int .i64 b] w fun e w' => e = .returned (.int .i64 (max a b)) ∧ w' = w := by
  by_cases h : a > b
  · have e : max a b = a := by omega
    rw [e]
    go_enter Tryd.func77, Tryd.ntmps77
    go_wp2
    go_ret
    exact ⟨rfl, rfl⟩
  · have e : max a b = b := by omega
    rw [e]
    go_enter Tryd.func77, Tryd.ntmps77
    go_wp2
    go_ret
    exact ⟨rfl, rfl⟩
theorem kCells_cell {w : World} {g : Nat} {xs : List Int} {T : TypeId} (h : w.heap[g]? = some (.cells (kCells .i64 xs) T (0, 0))) {i : Nat} (hi : i < xs.length) : w.cell? ⟨g, i, none⟩ = some (.int .i64 (xs.getD i 0)) ∧ w.frozen? ⟨g, i, none⟩ = false := by
  refine ⟨?_, frozen_of_row _ _ _ _ _ h⟩
  rw [cell_of_row _ _ _ _ _ _ h]
  simp [kCells, List.getElem?_eq_getElem hi, List.getD]
theorem heap_kset {w : World} {g : Nat} {xs : List Int} {T : TypeId} {i : Nat} {x : Int} (h : w.heap[g]? = some (.cells (kCells .i64 xs) T (0, 0))) : (w.setCell ⟨g, i, none⟩ (.int .i64 x)).heap[g]? = some (.cells (kCells .i64 (xs.set i x)) T (0, 0)) := by
  rw [heap_setCell_same _ g i _ _ _ h]
  simp [kCells, List.map_set]
theorem grown_set (w : World) (g i : Nat) (v : Value) : w.grownBy (w.setCell ⟨g, i, none⟩ v) (some g) := ⟨rfl, rfl, rfl, by rw [World.size_setCell]; exact Nat.le_refl _, fun k _ hk => heap_setCell_other w _ k _ (fun e => hk (by rw [e]))⟩
theorem downTo_succ (ts : List Tm) {k : Nat} (h : 1 ≤ k) : downTo ts (k + 1) = downTo ts k ++ [if 0 ≤ (tmAt ts k).l then (downTo ts k).getD (tmAt ts k).f.toNat 0 + 1 else -1] := by
  rw [downTo, if_neg (by omega)]
theorem downTo_get (ts : List Tm) : ∀ k i, i < k → (downTo ts k).getD i 0 = (downTo ts (i + 1)).getD i 0
  | k + 1, i, h => by
    by_cases hik : i = k
    · rw [hik]
    · rw [downTo]
      have hl := downTo_length ts k
      have e : ∀ (a b : List Int), i < a.length → (a ++ b).getD i 0 = a.getD i 0 := fun a b hh => by simp [List.getD, List.getElem?_append_left hh]
      rw [e _ _ (by omega)]
      exact downTo_get ts k i (by omega)
theorem downTo_last (ts : List Tm) (k : Nat) : (downTo ts (k + 1)).getD k 0 = if k = 0 then max (lastC ts) (tmAt ts 0).l else if 0 ≤ (tmAt ts k).l then (downTo ts k).getD (tmAt ts k).f.toNat 0 + 1 else -1 := by
  have hl := downTo_length ts k
  have e : ∀ (a : List Int) (x : Int), a.length = k → (a ++ [x]).getD k 0 = x := fun a x hh => by subst hh; simp [List.getD]
  rw [downTo, e _ _ hl]
theorem downTo_range {ts : List Tm} (hok : TsOk ts) (hfr : TsFrom ts) (h0 : 0 < ts.length) (h20 : ts.length ≤ 20) : ∀ k, k ≤ 20 → ∀ i, -1 ≤ (downTo ts k).getD i 0 ∧ (downTo ts k).getD i 0 ≤ 4800 + k := by
  intro k
  induction k with
  | zero => intro _ i; simp [downTo, List.getD]
  | succ k ih =>
    intro hk i
    have hl := downTo_length ts k
    by_cases hik : i < k
    · have e : (downTo ts (k + 1)).getD i 0 = (downTo ts k).getD i 0 := by rw [downTo_get ts (k + 1) i (by omega), downTo_get ts k i hik]
      have := ih (by omega) i
      rw [e]; omega
    · by_cases hik2 : i = k
      · subst hik2
        rw [downTo_last]
        have hT := fun q (hq : q < ts.length) => tmL_rangeD (hok q hq) (by omega)
        have hC := fun q (hq : q < ts.length) => tmC_range (hok q hq) (by omega)
        split
        · have h1 := hT 0 h0
          have h2 := hC _ (lastTo_lt ts ts.length h0)
          change -1 ≤ lastC ts ∧ lastC ts ≤ 4800 at h2
          omega
        · split
          · have := ih (by omega) (tmAt ts i).f.toNat
            omega
          · omega
      · have : (downTo ts (k + 1)).getD i 0 = 0 := by
          have hl2 := downTo_length ts (k + 1)
          simp [List.getD, List.getElem?_eq_none (show (downTo ts (k + 1)).length ≤ i by omega)]
        rw [this]; omega
def DownI (w : World) (ts : List Tm) (n g : Nat) (av : Option Addr) (cv : Nat) (rd : List Int) (wr : World) : Prop :=
  OwnV 69 4 wr w.heap.size g (.slice av n cv) n (tmCells ts) ∧ wr.heap[g]? = some (.cells (kCells .i64 rd) 2 (0, 0)) ∧ Gr w wr ∧ w.heap.size ≤ g ∧ rd.length = n
theorem DownI.set {w : World} {ts : List Tm} {n g : Nat} {av : Option Addr} {cv : Nat} {rd : List Int} {wr : World} (h : DownI w ts n g av cv rd wr) (i : Nat) (x : Int) : DownI w ts n g av cv (rd.set i x) (wr.setCell ⟨g, i, none⟩ (.int .i64 x)) :=
  ⟨h.1.by_ (grown_set _ _ _ _) (fun b e => by cases e; exact .inr (Nat.le_refl _)), heap_kset h.2.1, h.2.2.1.setCell (p := ⟨g, i, none⟩) h.2.2.2.1 _, h.2.2.2.1, by rw [List.length_set]; exact h.2.2.2.2⟩
theorem DownI.gr {w : World} {ts : List Tm} {n g : Nat} {av : Option Addr} {cv : Nat} {rd : List Int} {wr wr' : World} (h : DownI w ts n g av cv rd wr) (hg : Gr wr wr') : DownI w ts n g av cv rd wr' :=
  ⟨h.1.gr hg, hg.heap h.2.1, h.2.2.1.trans hg, h.2.2.2⟩
theorem timesL_0 {n : Nat} {xs : List Int} (h : 0 < n) : tmAt (timesL n xs) 0 = ⟨-1, 0, 0, shD xs 0⟩ := by
  unfold timesL
  induction n with
  | zero => omega
  | succ k ih =>
    rw [timesTo]
    by_cases hk : k = 0
    · subst hk; rfl
    · rw [tmAt_append_left (by rw [timesTo_length]; omega)]
      exact ih (by omega)
theorem readyTo_succ (ts : List Tm) (j : Nat) : readyTo ts (j + 1) = readyStep ts (readyTo ts j) (ts.length - (j + 1)) := rfl
set_option maxRecDepth 100000 in
set_option maxHeartbeats 4000000 in
theorem l06Down_any (al : Option Addr) (n cal : Nat) (xs : List Int) (hl : xs.length = n * 3) (hv : lineB n xs = true) (w : World) (hs : SliceOf .i8 w al xs) :
    Calls Tryd.prog 74 #[.slice al n cal] w (RetOwn .i64 2 id (downTo (timesL n xs) n) w) := by
  obtain ⟨i0, hi, hz0, hz1, hz2⟩ := info_parts info64
  have HT := hid (fun V (g : Gr w V) => l06Times_any al n cal xs hl hv (-1) 0 (by omega) V (hs.gr g))
  rw [moreR_none] at HT
  change Hid (∀ V, Gr w V → Calls _ _ _ V (RetV _ _ _ _ (tmCells (timesL n xs)) V)) at HT
  have hlen : (timesL n xs).length = n := timesTo_length _ _ _ _
  obtain ⟨h0, h20⟩ := (lineOk_of hv).1
  have hok : TsOk (timesL n xs) := timesTo_ok (lineOk_line hv) n (Nat.le_refl _)
  have hfr : TsFrom (timesL n xs) := timesTo_from _ _ _ _
  have hx0 : tmAt (timesL n xs) 0 = ⟨-1, 0, 0, shD xs 0⟩ := timesL_0 h0
  have hb0 := (lineOk_of hv).2 0 h0 |>.2.2
  generalize timesL n xs = ts at *
  have hd0 : tmAt ts 0 = ⟨-1, 0, 0, shD xs 0⟩ := hx0
  have HL := hid hlen
  have HOK := hid hok
  have HFR := hid hfr
  have HC0 := hid (show (tmAt ts 0).c = 0 by rw [hd0])
  have HF0 := hid (show (tmAt ts 0).f = -1 by rw [hd0])
  have HL0 := hid (show 0 ≤ (tmAt ts 0).l by rw [hd0]; exact hb0.1)
  clear hd0 hx0 hb0
  clear hs hl hv hlen hok hfr
  have hmk := fun V => run_make (P := Tryd.prog) V 40 2 i0 _ Tryd.underlying40 hi hz0 .i64 .i64 n n (by omega) (Int.le_refl _) (by rw [hz2]; omega) (by omega)
  rw [hz1, Int.toNat_natCast, madeInts] at hmk
  go_enter Tryd.func74, Tryd.ntmps74
  go_wp2_with fail
  refine (HT.out _ (Gr.refl _)).mono ?_
  rintro e w2 ⟨v, rfl, o2, g2⟩
  obtain ⟨av, cv, rfl⟩ := o2.shape
  have O2 := hid o2
  have G2 := hid g2
  clear o2 g2
  unfold id
  have hmk2 := hmk w2
  clear hmk
  go_wp2_with fail
  clear hmk2
  go_loopw [5] (fun i wr => ∃ j : Nat, j ≤ n ∧ i = .int .i64 ((n : Int) - j - 1) ∧ Hid (DownI w ts n w2.heap.size av cv (readyTo ts j) wr)) (fun i _ => (intOf i + 1).toNat)
  case atStart =>
    refine ⟨0, Nat.zero_le _, by simp, hid ⟨(O2.out.gr ((Gr.refl _).alloc _)), ?_, G2.out.alloc _, G2.out.size, readyTo_length ts 0 |>.trans HL.out⟩⟩
    rw [readyTo, HL.out]; exact heap_new rfl
  case round =>
    obtain ⟨j, hj, rfl, D⟩ := hrel
    by_cases hlt : j < n
    · obtain ⟨k, hk⟩ : ∃ k, k = n - (j + 1) := ⟨_, rfl⟩
      have ek : (n : Int) - j - 1 = (k : Int) := by omega
      have hkn : k < n := by omega
      have hst := readyTo_succ ts j
      rw [HL.out, ← hk] at hst
      rw [ek]
      obtain ⟨b0, o0, rfl, t0, -, t2, -⟩ := tm_at D.out.1.reads (i := k) (by rw [HL.out]; exact hkn)
      obtain ⟨r1, r2⟩ := kCells_cell D.out.2.1 (i := k) (by rw [D.out.2.2.2.2]; exact hkn)
      have hTk := HOK.out k (by rw [HL.out]; exact hkn)
      have hFk := HFR.out k (by rw [HL.out]; exact hkn)
      have hb0 : (0 : Int) ≤ k := by omega
      have hb1 : (k : Int) < n := by omega
      have HMX := hid l00Max_q
      obtain ⟨rd, hrd⟩ : ∃ rd, rd = readyTo ts j := ⟨_, rfl⟩
      rw [← hrd] at D hst r1
      unfold readyStep at hst
      dsimp only at hst
      have D6 := hid ((D.out.set k (max (rd.getD k 0) (tmAt ts k).c)).gr ((Gr.refl _).drew))
      have HST := hid hst
      have HEK := hid (show ∃ jj : Nat, jj = j + 1 ∧ jj ≤ n ∧ (k : Int) - 1 = (n : Int) - jj - 1 from ⟨_, rfl, by omega, by omega⟩)
      clear hst hrd hk ek
      generalize rd.getD k 0 = y at *
      generalize (tmAt ts k).c = x at *
      obtain ⟨f, hf⟩ : ∃ f, f = (tmAt ts k).f := ⟨_, rfl⟩
      have HF := hid hf
      rw [← hf] at t0 HST hFk
      clear hf
      have hbg := D.out.1.top b0 rfl
      go_wp2_with fail
      refine wp_region_still_tail 13 (by kernel_rfl) (by kernel_rfl) ?_
      simp only [List.take_succ_cons, List.take_zero, List.drop_succ_cons, List.drop_zero]
      repeat still_step
      still_call (HMX.out _ _ _)
      repeat still_step
      refine wpStill_nil ?_
      by_cases hf0 : 0 ≤ f
      · obtain ⟨hfk, -⟩ := hFk hf0
        obtain ⟨q, rfl⟩ : ∃ q : Nat, f = (q : Int) := ⟨f.toNat, by omega⟩
        have hqk : q < k := by omega
        have hqk2 : q ≠ k := by omega
        have hqn : q < n := by omega
        have hqn2 : (q : Int) < n := by omega
        obtain ⟨r3, r4⟩ := kCells_cell D6.out.2.1 (i := q) (by rw [D6.out.2.2.2.2]; omega)
        obtain ⟨r5, -⟩ := kCells_cell D6.out.2.1 (i := k) (by rw [D6.out.2.2.2.2]; omega)
        have hrk : k < rd.length := by rw [D.out.2.2.2.2]; exact hkn
        rw [getD_set_int _ _ _ _ hrk, if_neg (by omega)] at r3
        rw [getD_set_int _ _ _ _ hrk, if_pos rfl] at r5
        obtain ⟨t0', -, -, -⟩ := tm_at' D6.out.1.reads (i := k) (by rw [HL.out]; exact hkn)
        rw [← HF.out] at t0'
        have HS := hid (by have h := HST.out; rw [if_pos hf0, Int.toNat_natCast, getD_set_int _ _ _ _ (by rw [D.out.2.2.2.2]; exact hkn), if_neg (by omega)] at h; exact h)
        have D8 := hid ((D6.out.set q (max (rd.getD q 0) (max y x))).gr ((Gr.refl _).drew))
        generalize rd.getD q 0 = z at *
        clear HST hrk
        have R3 := hid r3
        have R4 := hid r4
        have R5 := hid r5
        have T0 := hid t0'
        clear r3 r4 r5 t0'
        go_wp2_with fail
        generalize (wr.setCell ⟨w2.heap.size, k, none⟩ (.int .i64 (max y x))).drew = w6 at *
        clear r1 r2 t0 t2
        have r3 := R3.out
        have r4 := R4.out
        have r5 := R5.out
        have t0 := T0.out
        refine wp_region_still_tail 20 (by kernel_rfl) (by kernel_rfl) ?_
        simp only [List.take_succ_cons, List.take_zero, List.drop_succ_cons, List.drop_zero]
        repeat still_step
        still_call (HMX.out _ _ _)
        repeat still_step
        refine wpStill_nil ?_
        go_wp2_with fail
        go_roundw
        case rel =>
          obtain ⟨jj, rfl, hj1, hj2⟩ := HEK.out
          exact ⟨_, hj1, by first | (rw [← hj2]; done) | (rw [← hj2]; go_num), hid (by rw [HS.out]; exact D8.out)⟩
        case measure => simp [intOf] <;> omega
      · have HS := hid (by have h := HST.out; rw [if_neg hf0] at h; exact h)
        have hd0 : decide (0 ≤ f) = false := decide_eq_false hf0
        clear HST
        go_wp2_with fail
        go_roundw
        case rel =>
          obtain ⟨jj, rfl, hj1, hj2⟩ := HEK.out
          exact ⟨_, hj1, by first | (rw [← hj2]; done) | (rw [← hj2]; go_num), hid (by rw [HS.out]; exact D6.out)⟩
        case measure => simp [intOf] <;> omega
    · obtain rfl : j = n := by omega
      have hz := ready_zero HOK.out HFR.out (by rw [HL.out]; exact h0) HC0.out HL0.out HF0.out
      rw [HL.out] at hz
      obtain ⟨r1, -⟩ := kCells_cell D.out.2.1 (i := 0) (by rw [D.out.2.2.2.2]; exact h0)
      rw [hz] at r1
      obtain ⟨b0, o0, rfl, -, -, -, t3⟩ := tm_at D.out.1.reads (i := 0) (by rw [HL.out]; exact h0)
      have em : IntKind.i64.wrap ((j : Int) - j - 1) = -1 := by
        rw [show (j : Int) - j - 1 = -1 by omega]; decide
      have en : ((j : Int) - j - 1) = -1 := by omega
      rw [en]
      have hb0 : b0 < w2.heap.size := D.out.1.top b0 rfl
      have HMX := hid l00Max_q
      have DD := hid (fun nq => D.out.gr ((Gr.refl wr).drewN nq))
      have HD1 := hid (show downTo ts 1 = [max (lastC ts) (tmAt ts 0).l] from rfl)
      have HDL := hid (fun k => downTo_length ts k)
      have HDR := hid (fun k (h : k ≤ 20) i => downTo_range HOK.out HFR.out (by rw [HL.out]; exact h0) (by rw [HL.out]; exact h20) k h i)
      have HDS := hid (fun k (h : 1 ≤ k) => downTo_succ ts h)
      clear em en hz
      have h00 : 0 < j := h0
      have h01 : (0 : Int) < j := by omega
      go_wp2_with fail
      refine wp_region_still_tail 8 (by kernel_rfl) (by kernel_rfl) ?_
      simp only [List.take_succ_cons, List.take_zero, List.drop_succ_cons, List.drop_zero]
      repeat still_step
      still_call (HMX.out _ _ _)
      refine wpStill_nil ?_
      change wpList _ _ _ _ _ wr.drew
      obtain ⟨w3, hw3⟩ : ∃ w3, w3 = wr.drew := ⟨_, rfl⟩
      have D3 := hid (show DownI w ts j w2.heap.size (some ⟨b0, o0, none⟩) cv (readyTo ts j) w3 by rw [hw3]; exact D.out.gr (Gr.refl wr).drew)
      rw [← hw3]
      have O3 := hid (Own.ofBlock (k := .i64) (e := 2) (xs := [max (lastC ts) (tmAt ts 0).l]) (heap_new (w := w3) (o := .cells (kCells .i64 [max (lastC ts) (tmAt ts 0).l]) 2) rfl) (by unfold maxLen; simp))
      have hw3s : w2.heap.size ≤ w3.heap.size := by have := lt_of_heap D3.out.2.1; omega
      clear D DD hw3 r1 t3
      generalize max (lastC ts) (tmAt ts 0).l = m at *
      go_wp2_with fail
      go_loopw [6, 7] (fun v i wr => ∃ k : Nat, 1 ≤ k ∧ k ≤ j ∧ i = .int .i64 k ∧ Hid (Own .i64 2 wr w3.heap.size wr.heap.size v (downTo ts k)) ∧ Hid (OwnV 69 4 wr w.heap.size w2.heap.size (.slice (some ⟨b0, o0, none⟩) j cv) j (tmCells ts)) ∧ Hid (Gr w wr)) (fun _ i _ => j - (intOf i).toNat)
      case atStart =>
        exact ⟨1, Nat.le_refl _, h0, rfl, hid (by rw [HD1.out]; exact O3.out.widen (Nat.le_refl _) (by simp)), hid (D3.out.1.gr ((Gr.refl _).alloc _)), hid (D3.out.2.2.1.alloc _)⟩
      case round =>
        obtain ⟨k, hk1, hk, rfl, O, OL, G⟩ := hrel
        by_cases hlt : k < j
        · obtain ⟨av2, cv2, rfl⟩ := O.out.shape
          have ht := tm_at' OL.out.reads (i := k) (by rw [HL.out]; exact hlt)
          obtain ⟨t0, -, -, t3⟩ := ht
          have hFk := HFR.out k (by rw [HL.out]; exact hlt)
          have hTk := HOK.out k (by rw [HL.out]; exact hlt)
          have hds := HDS.out k hk1
          have hdl := HDL.out k
          have hb1 : (0 : Int) ≤ k := by omega
          have hb2 : (k : Int) < j := by omega
          have hsz2 : (downTo ts k).length ≤ 20 := by rw [hdl]; omega
          obtain ⟨g2, rfl, ⟨hg1, hg2⟩, -, -⟩ := O.out.at_ (i := 0) (by rw [hdl]; omega)
          have HSZ := hid (show w3.heap.size ≤ wr.heap.size by omega)
          have HW := hid (show w2.heap.size ≤ w3.heap.size ∧ w.heap.size ≤ w2.heap.size from ⟨hw3s, D3.out.2.2.2.1⟩)
          obtain ⟨l, hl⟩ : ∃ l, l = (tmAt ts k).l := ⟨_, rfl⟩
          rw [← hl] at t3 hds
          by_cases hl0 : 0 ≤ l
          · have hf0 : 0 ≤ (tmAt ts k).f := by
              rcases hTk with h | ⟨h1, -, h3, -⟩
              · rw [hl, h] at hl0; simp [noT] at hl0
              · by_cases h4 : (tmAt ts k).f = -1
                · have := h3 h4; omega
                · omega
            obtain ⟨hfk, -⟩ := hFk hf0
            obtain ⟨q, hq⟩ : ∃ q : Nat, (tmAt ts k).f = (q : Int) := ⟨(tmAt ts k).f.toNat, by omega⟩
            rw [hq] at t0 hds hfk
            rw [if_pos hl0, Int.toNat_natCast] at hds
            have hqk : q < k := by omega
            have hrg := HDR.out k (by omega) q
            obtain ⟨g3, e3, -, c3, -⟩ := O.out.at_ (i := q) (by rw [hdl]; omega)
            cases e3
            have hqn : q < (downTo ts k).length := by rw [hdl]; exact hqk
            generalize (downTo ts k).getD q 0 = y at *
            have HDX := hid hds
            have ey : IntKind.i64.wrap (y + 1) = y + 1 := IntWalk.i64_in _ (by omega)
            have hql : (q : Int) < (downTo ts k).length := by omega
            clear hq hl hf0 hFk hTk hds hdl
            go_wp2_with (at_builtin; refine wpList_append_own _ rfl _ _ 40 rfl w3.heap.size 2 i0 (.int .i64 0) 1 8 Tryd.underlying40 hi hz0 hz1 hz2 rfl (by decide) _ _ _ rfl (O.out.row.alloc _) ⟨wr.heap.size, 0, none⟩ 1 1 [.int .i64 (y + 1)] rfl rfl (news_one (heap_new rfl)) (by simp [Value.oneCell']) (by unfold maxLen; omega) (by omega) (by have := HSZ.out; simp; omega) ?_; intro v2 w5 hown2 hgrow2 _)
            have G5 := hid ((G.out.alloc (.cells #[.int .i64 (y + 1)] 2)).by_ hgrow2 (fun b e => by have := (O.out.row.lt b e).1; have := HW.out; omega))
            have OL5 := hid ((OL.out.gr ((Gr.refl wr).alloc (.cells #[.int .i64 (y + 1)] 2))).by_ hgrow2 (fun b e => by have := (O.out.row.lt b e).1; have := HW.out; right; omega))
            have O5 := hid (show Own .i64 2 w5 w3.heap.size w5.heap.size v2 (downTo ts (k + 1)) by rw [HDX.out]; exact Own.ofRow hown2 (by simp) (by simp))
            clear hown2 hgrow2
            go_wp2_with fail
            go_roundw
            case rel => exact ⟨k + 1, by omega, by omega, by go_num, O5, OL5, G5⟩
            case measure => simp [intOf] <;> omega
          · have hl1 : decide (0 ≤ l) = false := decide_eq_false hl0
            rw [if_neg hl0] at hds
            have HDX := hid hds
            clear hl hFk hTk hds hdl
            go_wp2_with (at_builtin; refine wpList_append_own _ rfl _ _ 40 rfl w3.heap.size 2 i0 (.int .i64 0) 1 8 Tryd.underlying40 hi hz0 hz1 hz2 rfl (by decide) _ _ _ rfl (O.out.row.alloc _) ⟨wr.heap.size, 0, none⟩ 1 1 [.int .i64 (-1)] rfl rfl (news_one (heap_new rfl)) (by simp [Value.oneCell']) (by unfold maxLen; omega) (by omega) (by have := HSZ.out; simp; omega) ?_; intro v2 w5 hown2 hgrow2 _)
            have G5 := hid ((G.out.alloc (.cells #[.int .i64 (-1)] 2)).by_ hgrow2 (fun b e => by have := (O.out.row.lt b e).1; have := HW.out; omega))
            have OL5 := hid ((OL.out.gr ((Gr.refl wr).alloc (.cells #[.int .i64 (-1)] 2))).by_ hgrow2 (fun b e => by have := (O.out.row.lt b e).1; have := HW.out; right; omega))
            have O5 := hid (show Own .i64 2 w5 w3.heap.size w5.heap.size v2 (downTo ts (k + 1)) by rw [HDX.out]; exact Own.ofRow hown2 (by simp) (by simp))
            clear hown2 hgrow2
            go_wp2_with fail
            go_roundw
            case rel => exact ⟨k + 1, by omega, by omega, by go_num, O5, OL5, G5⟩
            case measure => simp [intOf] <;> omega
        · obtain rfl : k = j := by omega
          go_wp2_with fail
          go_ret
          exact ⟨_, rfl, O.out.widen (Nat.le_trans D3.out.2.2.2.1 hw3s) (Nat.le_refl _), G.out⟩
end Go.Proofs.YtflbjjcpkhldkaaDoor
