/- Lines of ships: the times of a ship behind others: the model's function. -/
import Derived.Test.YtflbjjcpkhldkaaDoorLineT
import Derived.Test.YtflbjjcpkhldkaaDoorLineA
namespace Go.Proofs.YtflbjjcpkhldkaaDoor
open Go.RowKit
def outC (p s : Int) : Array Value := #[.int .i8 p, .int .i64 s, .int .i64 (-1), .int .i64 (-1)]
def tmZd : Array Value := #[.int .i8 0, .int .i64 0, .int .i64 0, .int .i64 0]
theorem tmL_rangeD {i : Nat} {t : Tm} (h : TmOk i t) (hi : i < 20) : -1 ≤ t.l ∧ t.l ≤ 4800 := by
  rcases h with h | ⟨h1, h2, h3, h4, h5, h6, h7⟩
  · subst h; exact ⟨Int.le_refl _, by decide⟩
  · omega
def seenOf (ts : List Tm) (p : Int) : Int := if p < 0 then -1 else (tmAt ts p.toNat).l
theorem outC_set (w : World) (g : Nat) (p s p' s' : Int) (h : w.heap[g]? = some (.cells (outC p s) 69 (0, 0))) : ((w.setCell ⟨g, 0, none⟩ (.int .i8 p')).setCell ⟨g, 1, none⟩ (.int .i64 s')).heap[g]? = some (.cells (outC p' s') 69 (0, 0)) := by
  rw [heap_setCell_same _ g 1 _ 69 _ (heap_setCell_same w g 0 _ 69 _ h)]
  rfl
theorem outC_end (w : World) (g : Nat) (p s c l : Int) (h : w.heap[g]? = some (.cells (outC p s) 69 (0, 0))) : ((w.setCell ⟨g, 2, none⟩ (.int .i64 c)).setCell ⟨g, 3, none⟩ (.int .i64 l)).heap[g]? = some (.cells #[.int .i8 p, .int .i64 s, .int .i64 c, .int .i64 l] 69 (0, 0)) := by
  rw [heap_setCell_same _ g 3 _ 69 _ (heap_setCell_same w g 2 _ 69 _ h)]
  rfl
theorem outC_cells {w : World} {g : Nat} {p s : Int} (h : w.heap[g]? = some (.cells (outC p s) 69 (0, 0))) :
    (w.cell? ⟨g, 0, none⟩ = some (.int .i8 p) ∧ w.cell? ⟨g, 1, none⟩ = some (.int .i64 s) ∧ w.cell? ⟨g, 2, none⟩ = some (.int .i64 (-1)) ∧ w.cell? ⟨g, 3, none⟩ = some (.int .i64 (-1))) ∧ (∀ j, w.frozen? ⟨g, j, none⟩ = false) := by
  refine ⟨⟨?_, ?_, ?_, ?_⟩, fun j => frozen_of_row _ _ _ _ _ h⟩ <;> (rw [cell_of_row _ _ _ _ _ _ h]; rfl)
theorem wpList_load_struct_ {P : Program} {ops : Array Oper} {rest : List Oper} {o : Oper} {a : Act} {w : World} {Q : Exit → Act → World → Prop} (hw : Region.wanted o (yielded ops a.tmps) = true) (ty : TypeId) (x : Operand) (ho : o.op = .load ty x)
    (g : Nat) (hx : a.eval x = .pointer (some ⟨g, 0, none⟩)) (t : TypeId) (cs : Array Value) (d : TypeDesc) (hg : w.heap[g]? = some (.cells cs t (0, 0)))
    (hu : P.underlying ty = some d) (hd : (match d with | .struct _ | .array _ _ => true | _ => false) = true) (hi : (P.info? ty).map (·.size) = some cs.size)
    (h : wpList P ops Q rest (a.put o.dst (.agg cs)) w) : wpList P ops Q (o :: rest) a w :=
  BigFrame.wpList_want hw fun _ hK => wp_load_row ty x ho g hx t _ _ _ hg hu hd hi (hK _ _ h)
set_option maxRecDepth 100000 in
set_option maxHeartbeats 1500000 in
theorem l06Due_any (al : Option Addr) (n cal : Nat) (xs : List Int) (hl : xs.length = n * 3) (i : Nat) (hi : i < n) (hn : n ≤ 20) (hs0 : 0 ≤ xs.getD (i * 3) 0 ∧ xs.getD (i * 3) 0 ≤ 6) (hb0 : 0 ≤ xs.getD (i * 3 + 2) 0 ∧ xs.getD (i * 3 + 2) 0 ≤ 60)
    (a : Option Addr) (cap : Nat) (ts : List Tm) (hlt : i = ts.length) (ht : TsOk ts) (r : Int) (hr0 : 0 ≤ r ∧ r ≤ 120) (w : World) (hsl : SliceOf .i8 w al xs) (hs : CellsOf w a (tmCells ts)) :
    Calls Tryd.prog 94 #[.slice al n cal, .slice a i cap, .int .i64 i, .int .i64 r] w fun e w' => e = .returned (.agg (if i = 0 then (⟨-1, 0, 0, xs.getD (i * 3 + 2) 0⟩ : Tm) else dueT ts (xs.getD (i * 3) 0) r (xs.getD (i * 3 + 2) 0)).cells.toArray) ∧ Gr w w' := by
  obtain ⟨bl, ol, rfl, l0, l1, l2⟩ := ship_cells hsl hl hi
  have hlt9 := World.block_lt_of_cell? w _ l2
  dsimp only at hlt9
  have ne1 : ¬ w.heap.size = bl := by omega
  have ne2 : ¬ w.heap.size + 1 = bl := by omega
  have ne3 : ¬ bl = w.heap.size := by omega
  have ne4 : ¬ bl = w.heap.size + 1 := by omega
  clear hsl hl hlt9
  generalize xs.getD (i * 3) 0 = s at *
  generalize xs.getD (i * 3 + 1) 0 = r1 at *
  generalize xs.getD (i * 3 + 2) 0 = b at *
  have e0 : IntKind.i64.wrap s = s := IntWalk.i64_in _ (by omega)
  have e1 : IntKind.i64.wrap ((i : Int) - s) = (i : Int) - s := IntWalk.i64_in _ (by omega)
  have e3 : IntKind.i64.wrap b = b := IntWalk.i64_in _ (by omega)
  have hb9 : (0 : Int) ≤ i := by omega
  have hb8 : (i : Int) < n := by omega
  have B1 := hid (heap_new (w := w) (o := .cells tmZd 69) rfl)
  have m0 := ((Gr.refl w).alloc (.cells tmZd 69)).cell l0
  have m2 := ((Gr.refl w).alloc (.cells tmZd 69)).cell l2
  have M0 := hid ((((Gr.refl w).alloc (.cells tmZd 69)).alloc (.cells (outC (-1) (-1)) 69)).cell l0)
  unfold tmZd at B1 m0 m2 M0
  by_cases hi0 : i = 0
  · rw [if_pos hi0]
    have hi0' : ((i : Int) == 0) = true := by simp; omega
    clear hi0 hlt ht hs
    have HG := hid ((Gr.refl w).alloc (.cells #[.int .i8 0, .int .i64 0, .int .i64 0, .int .i64 0] 69))
    go_enter Tryd.func94, Tryd.ntmps94
    go_wp2_with (refine wpList_store_cells rfl 69 _ _ rfl w.heap.size #[.int .i8 (-1), .int .i64 0, .int .i64 0, .int .i64 b] #[.int .i8 0, .int .i64 0, .int .i64 0, .int .i64 0] rfl rfl _ 4 B1.out (by kernel_rfl) rfl rfl (by simp [Value.oneCell']) ?_)
    refine bodyPost_ret (v := .agg (Tm.cells ⟨-1, 0, 0, b⟩).toArray) (results_cell_row (by rfl) _ _ _ _ _ _ _ rfl (heap_row_set B1.out) Tryd.underlying69 rfl (by kernel_rfl)) rfl ⟨rfl, ?_⟩
    exact HG.out.setRow (Nat.le_refl _) _
  · rw [if_neg hi0]
    have S := hid hs
    have HL := hid hlt
    have HT := hid ht
    obtain ⟨bb, off, rfl, _⟩ := tm_at hs (i := 0) (by omega)
    obtain ⟨lo, hlo⟩ : ∃ lo : Nat, lo = i - s.toNat := ⟨_, rfl⟩
    have hlo2 : lo ≤ i := by omega
    have hlo3 : ∀ k : Int, (i : Int) - s ≤ k → 0 ≤ k → lo ≤ k.toNat := by intro k h1 h2; omega
    have hlo4 : ∀ k : Int, k < 0 → (k + 1).toNat - lo = k.toNat - lo := by intro k h1; omega
    have HLO4 := hid hlo4
    have HLO3 := hid hlo3
    have HE := hid (show dueT ts s r b = fromT ts (bestTo ts lo (i - lo)) r b by unfold dueT bestOf; rw [← hlt, ← hlo])
    have HR := hid (fun j => bestTo_range ts lo j)
    have HY := hid (fun j (h : betterB ts (bestTo ts lo j) (lo + j) = true) => bestTo_yes h)
    have HZ := hid (fun j (h : betterB ts (bestTo ts lo j) (lo + j) = false) => bestTo_no h)
    have HB := hid (show ∀ p k, betterB ts p k = (decide (0 ≤ (tmAt ts k).l) && (decide (p < 0) || decide ((tmAt ts k).l < (tmAt ts p.toNat).l))) from fun _ _ => rfl)
    have HS0 := hid (show bestTo ts lo 0 = -1 from rfl)
    have HSn := hid (show ∀ p, seenOf ts p = if p < 0 then -1 else (tmAt ts p.toNat).l from fun _ => rfl)
    have HF := hid (fun p => show fromT ts p r b = if p < 0 then noT else ⟨p, (tmAt ts p.toNat).l, (tmAt ts p.toNat).l + r, (tmAt ts p.toNat).l + r + b⟩ from rfl)
    have HI0 := hid (show ((i : Int) - s).toNat - lo = 0 by omega)
    rw [HE.out]
    generalize fromT ts = ft at *
    obtain ⟨R, hR⟩ : ∃ R, R = ft (bestTo ts lo (i - lo)) r b := ⟨_, rfl⟩
    rw [← hR]
    have HRES := hid hR
    clear hR
    generalize seenOf ts = sn at *
    generalize hbt : bestTo ts lo = bt at *
    clear hs hlt ht hlo HE hbt hlo3 hlo4
    have n0 := M0.out
    unfold outC at n0
    have B2 := hid (heap_kept (o := .cells (outC (-1) (-1)) 69) B1.out)
    have B3 := hid (heap_new (w := w.alloc (.cells #[.int .i8 0, .int .i64 0, .int .i64 0, .int .i64 0] 69)) (o := .cells (outC (-1) (-1)) 69) (n := w.heap.size + 1) (by simp))
    have HG := hid (((Gr.refl w).alloc (.cells #[.int .i8 0, .int .i64 0, .int .i64 0, .int .i64 0] 69)).alloc (.cells (outC (-1) (-1)) 69))
    have hi0' : ((i : Int) == 0) = false := by simp; omega
    clear B1
    go_enter Tryd.func94, Tryd.ntmps94
    go_wp2_with fail
    go_loopw [11] (fun q wr => ∃ k : Int, (i : Int) - s ≤ k ∧ k ≤ i ∧ q = .int .i64 k ∧ Hid (Gr w wr) ∧ Hid (wr.heap[w.heap.size]? = some (.cells #[.int .i8 0, .int .i64 0, .int .i64 0, .int .i64 0] 69 (0, 0))) ∧ Hid (wr.heap[w.heap.size + 1]? = some (.cells (outC (bt (k.toNat - lo)) (sn (bt (k.toNat - lo)))) 69 (0, 0)))) (fun q _ => (i - (intOf q)).toNat)
    case atStart => exact ⟨_, Int.le_refl _, by omega, rfl, HG, B2, hid (by rw [HI0.out, HS0.out, HSn.out]; exact B3.out)⟩
    case round =>
      clear B2 B3 HG
      obtain ⟨k, hk0, hk1, rfl, hg, b2, b3⟩ := hrel
      by_cases hlt : k < i
      · by_cases hneg : k < 0
        · have HK4 := hid (HLO4.out k hneg)
          have hneg' : ¬ 0 ≤ k := by omega
          have hneg2 : decide (0 ≤ k) = false := decide_eq_false hneg'
          go_wp2_with fail
          go_quiet (fail)
          go_wp2_with fail
          go_roundw
          case rel => exact ⟨k + 1, by omega, by omega, by go_num, hid (hg.out.drewN _), hid b2.out, hid (by rw [HK4.out]; exact b3.out)⟩
          case measure => simp [intOf] <;> omega
        · have hpos : 0 ≤ k := by omega
          have hlk := HLO3.out k hk0 hpos
          obtain ⟨q, rfl⟩ := Int.eq_ofNat_of_zero_le hpos
          rw [Int.toNat_natCast] at b3 hlk
          obtain ⟨j, hj⟩ : ∃ j, q = lo + j := ⟨q - lo, by omega⟩
          have hq1 : ((q : Int) + 1).toNat - lo = j + 1 := by omega
          rw [show q - lo = j by omega] at b3
          have hql : q < ts.length := by rw [← HL.out]; omega
          have HD := hid ((tm_at' (S.out.gr hg.out) hql).2.2.2)
          have hlr := tmL_rangeD (HT.out _ hql) (by omega)
          have HBk := hid (HB.out (bt j) q)
          have HRj := hid (HR.out j)
          have HYj := hid (HY.out j)
          have HZj := hid (HZ.out j)
          rw [← hj] at HYj HZj HRj
          have HTp := hid (fun (p : Nat) (hp : p < q) => tmL_rangeD (HT.out p (by omega)) (by omega))
          have HSj := hid (HSn.out (bt j))
          have HSq := hid (HSn.out (q : Int))
          rw [Int.toNat_natCast, if_neg (by omega)] at HSq
          generalize bt j = P at *
          generalize (tmAt ts q).l = lk at *
          have HQ1 := hid hq1
          clear hj hq1
          have hc4 := HD.out
          obtain ⟨⟨o0, o1, o2, o3⟩, of⟩ := outC_cells b3.out
          have f0 := of 0
          have f1 := of 1
          clear of
          have hb0' : (0 : Int) ≤ q := by omega
          by_cases hq : 0 ≤ lk
          · by_cases hP : P < 0
            · have HQ := hid (HYj.out (by rw [HBk.out, decide_eq_true hq, decide_eq_true hP]; rfl))
              have w1 : IntKind.i8.wrap (q : Int) = (q : Int) := IntWalk.i8_in _ (by omega)
              have B3 := hid (outC_set wr (w.heap.size + 1) P (sn P) q lk b3.out)
              have HSe := hid (HSj.out.trans (if_pos hP))
              rw [HSe.out] at o1
              clear HTp HYj HZj HBk HRj HSj
              generalize sn P = sP at *
              go_wp2_with fail
              go_quiet (fail)
              go_wp2_with fail
              go_roundw
              case rel => exact ⟨q + 1, by omega, by omega, by go_num, hid (((hg.out.drewN _).setCell (by dsimp only; omega) _).setCell (by dsimp only; omega) _), hid (heap_stored (by dsimp only; omega) (heap_stored (by dsimp only; omega) b2.out)), hid (by rw [HQ1.out, HQ.out, HSq.out]; exact B3.out)⟩
              case measure => simp [intOf] <;> omega
            · obtain ⟨p, rfl⟩ := Int.eq_ofNat_of_zero_le (by omega : 0 ≤ P)
              have hpk : p < q := by rcases HRj.out with h | ⟨_, h, _⟩ <;> omega
              have hlp := HTp.out p hpk
              rw [Int.toNat_natCast] at HBk HSj
              rw [if_neg hP] at HSj
              rw [HSj.out] at o1
              have w1 : IntKind.i8.wrap (q : Int) = (q : Int) := IntWalk.i8_in _ (by omega)
              have B3 := hid (outC_set wr (w.heap.size + 1) p (sn p) q lk b3.out)
              generalize (tmAt ts p).l = lp at *
              by_cases hlq : lk < lp
              · have HQ := hid (HYj.out (by rw [HBk.out, decide_eq_true hq, decide_eq_true hlq, Bool.or_true]; rfl))
                clear HTp HYj HZj HBk HRj hpk
                go_wp2_with fail
                go_quiet (fail)
                go_wp2_with fail
                go_roundw
                case rel => exact ⟨q + 1, by omega, by omega, by go_num, hid (((hg.out.drewN _).setCell (by dsimp only; omega) _).setCell (by dsimp only; omega) _), hid (heap_stored (by dsimp only; omega) (heap_stored (by dsimp only; omega) b2.out)), hid (by rw [HQ1.out, HQ.out, HSq.out]; exact B3.out)⟩
                case measure => simp [intOf] <;> omega
              · have HQ := hid (HZj.out (by rw [HBk.out, decide_eq_false hlq, decide_eq_false hP, Bool.or_false, Bool.and_false]))
                clear HTp HYj HZj HBk HRj hpk
                go_wp2_with fail
                go_quiet (fail)
                go_wp2_with fail
                go_roundw
                case rel => exact ⟨q + 1, by omega, by omega, by go_num, hid (hg.out.drewN _), hid b2.out, hid (by rw [HQ1.out, HQ.out]; exact b3.out)⟩
                case measure => simp [intOf] <;> omega
          · have HQ := hid (HZj.out (by rw [HBk.out, decide_eq_false hq]; rfl))
            have hq2 : decide (0 ≤ lk) = false := decide_eq_false hq
            clear HTp HYj HZj HBk HRj HSj
            go_wp2_with fail
            go_quiet (fail)
            go_wp2_with fail
            go_roundw
            case rel => exact ⟨q + 1, by omega, by omega, by go_num, hid (hg.out.drewN _), hid b2.out, hid (by rw [HQ1.out, HQ.out]; exact b3.out)⟩
            case measure => simp [intOf] <;> omega
      · have hki : k = i := by omega
        subst hki
        rw [Int.toNat_natCast] at b3
        have HRj := hid (HR.out (i - lo))
        have HFj := hid (HF.out (bt (i - lo)))
        have HSj := hid (HSn.out (bt (i - lo)))
        have HTp := hid (fun (p : Nat) (hp : p < i) => tmL_rangeD (HT.out p (by rw [← HL.out]; omega)) (by omega))
        generalize bt (i - lo) = P at *
        by_cases hP : P < 0
        · have HX := hid (HRES.out.trans (HFj.out.trans (if_pos hP)))
          have hP1 : P = -1 := by rcases HRj.out with h | ⟨h, _⟩ <;> omega
          have HSe := hid (HSj.out.trans (if_pos hP))
          rw [HSe.out, hP1] at b3
          clear HFj HSj HSe HTp HRj HRES
          obtain ⟨⟨o0, o1, o2, o3⟩, of⟩ := outC_cells b3.out
          go_wp2_with (first | (refine wpList_load_struct_ rfl 69 _ rfl (w.heap.size + 1) rfl _ (outC (-1) (-1)) _ b3.out Tryd.underlying69 rfl (by kernel_rfl) ?_) | (refine wpList_store_cells rfl 69 _ _ rfl w.heap.size (outC (-1) (-1)) #[.int .i8 0, .int .i64 0, .int .i64 0, .int .i64 0] rfl rfl _ 4 b2.out (by kernel_rfl) rfl rfl (by simp [outC, Value.oneCell']) ?_))
          refine bodyPost_ret (v := .agg noT.cells.toArray) (results_cell_row (by rfl) _ _ _ _ _ _ _ rfl (heap_row_set b2.out) Tryd.underlying69 rfl (by kernel_rfl)) rfl ⟨by rw [HX.out], ?_⟩
          exact hg.out.setRow (by omega) _
        · obtain ⟨p, rfl⟩ := Int.eq_ofNat_of_zero_le (by omega : 0 ≤ P)
          have hpk : p < i := by rcases HRj.out with h | ⟨_, h, _⟩ <;> omega
          have hlp := HTp.out p hpk
          have hlp0 : 0 ≤ (tmAt ts p).l := by
            rcases HRj.out with h | ⟨_, _, h⟩
            · omega
            · rwa [Int.toNat_natCast] at h
          have HX := hid (HRES.out.trans (HFj.out.trans (if_neg hP)))
          rw [Int.toNat_natCast] at HX HSj
          rw [if_neg hP] at HSj
          rw [HSj.out] at b3
          generalize (tmAt ts p).l = lp at *
          have w2 : IntKind.i64.wrap (lp + r) = lp + r := IntWalk.i64_in _ (by omega)
          have w3 : IntKind.i64.wrap (lp + r + b) = lp + r + b := IntWalk.i64_in _ (by omega)
          clear HFj HTp HRj hpk HSj HRES
          obtain ⟨⟨o0, o1, o2, o3⟩, of⟩ := outC_cells b3.out
          have f2 := of 2
          have f3 := of 3
          clear of
          have B3 := hid (outC_end wr (w.heap.size + 1) p lp (lp + r) (lp + r + b) b3.out)
          have B2 := hid (heap_stored (a := ⟨w.heap.size + 1, 3, none⟩) (v := .int .i64 (lp + r + b)) (by dsimp only; omega) (heap_stored (a := ⟨w.heap.size + 1, 2, none⟩) (v := .int .i64 (lp + r)) (by dsimp only; omega) b2.out))
          go_wp2_with (first | (refine wpList_load_struct_ rfl 69 _ rfl (w.heap.size + 1) rfl _ #[.int .i8 p, .int .i64 lp, .int .i64 (lp + r), .int .i64 (lp + r + b)] _ B3.out Tryd.underlying69 rfl (by kernel_rfl) ?_) | (refine wpList_store_cells rfl 69 _ _ rfl w.heap.size #[.int .i8 p, .int .i64 lp, .int .i64 (lp + r), .int .i64 (lp + r + b)] #[.int .i8 0, .int .i64 0, .int .i64 0, .int .i64 0] rfl rfl _ 4 B2.out (by kernel_rfl) rfl rfl (by simp [Value.oneCell']) ?_))
          refine bodyPost_ret (v := .agg (Tm.cells ⟨p, lp, lp + r, lp + r + b⟩).toArray) (results_cell_row (by rfl) _ _ _ _ _ _ _ rfl (heap_row_set B2.out) Tryd.underlying69 rfl (by kernel_rfl)) rfl ⟨by rw [HX.out], ?_⟩
          exact ((hg.out.setCell (by dsimp only; omega) _).setCell (by dsimp only; omega) _).setRow (by omega) _
end Go.Proofs.YtflbjjcpkhldkaaDoor
