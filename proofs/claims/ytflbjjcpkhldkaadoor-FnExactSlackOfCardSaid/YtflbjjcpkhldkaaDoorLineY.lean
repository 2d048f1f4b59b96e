/- Slices of times: copies, comparisons, marks. -/
import Derived.Test.YtflbjjcpkhldkaaDoorLineX
namespace Go.Proofs.YtflbjjcpkhldkaaDoor
open Go.RowKit
/-- The cells of so many structs. -/
def TimessC (n : Nat) (cs : List Value) : Prop := cs.length = n * 4 ∧ ∀ k, k < n → ∃ x0 x1 x2 x3 : Int, (cs.drop (k * 4)).take 4 = [.int .i8 x0, .int .i64 x1, .int .i64 x2, .int .i64 x3]
theorem infoTimes : (Tryd.prog.info? 69).map (fun i => (i.zero, i.size, i.bytes)) = some (some (.agg #[.int .i8 0, .int .i64 0, .int .i64 0, .int .i64 0]), 4, 32) := by kernel_rfl
theorem sizeTimes : (Tryd.prog.info? 69).map (·.size) = some 4 := by kernel_rfl
theorem sizeLTimes : (Tryd.prog.info? 72).map (·.size) = some 4 := by kernel_rfl
set_option maxRecDepth 100000 in
theorem szTimesS_any (a : Option Addr) (cap n left : Nat) (hm : n ≤ 9223372036854775807) (hle : left ≤ 1048576) (w : World) :
    Calls Tryd.prog 23 #[.slice a n cap, .int .i64 left] w fun e w' => (∃ r : Int, e = .returned (.int .i64 r) ∧ (r = -1 ∨ (0 ≤ r ∧ r ≤ left ∧ n ≤ left))) ∧ w = w' := by
  have e1 : IntKind.i64.wrap ((left : Int) - (n : Int)) = (left : Int) - (n : Int) := IntWalk.i64_in _ (by omega)
  by_cases hlt : left < n
  · have t1 : (left : Int) - (n : Int) < 0 := by omega
    go_enter Tryd.func23, Tryd.ntmps23
    go_wp2_with fail
    go_ret
    exact ⟨⟨-1, rfl, .inl rfl⟩, rfl⟩
  · have t1 : ¬ (left : Int) - (n : Int) < 0 := by omega
    go_enter Tryd.func23, Tryd.ntmps23
    go_wp2_with fail
    go_ret
    exact ⟨⟨_, rfl, .inr ⟨by omega, by omega, by omega⟩⟩, rfl⟩
set_option maxRecDepth 100000 in
set_option maxHeartbeats 800000 in
theorem toTimes_any (x0 x1 x2 x3 : Int) (w : World) :
    Calls Tryd.prog 57 #[.agg #[.int .i8 x0, .int .i64 x1, .int .i64 x2, .int .i64 x3]] w fun e w' => e = .returned (.agg #[.int .i8 x0, .int .i64 x1, .int .i64 x2, .int .i64 x3]) ∧ Gr w w' := by
  go_enter Tryd.func57, Tryd.ntmps57
  go_wp2
  refine bodyPost_ret (v := .agg #[.int .i8 x0, .int .i64 x1, .int .i64 x2, .int .i64 x3]) (results_cell_row (by rfl) _ _ _ _ _ _ _ rfl (heap_kept (heap_new (by simp))) Tryd.underlying69 rfl (by kernel_rfl)) rfl ⟨rfl, ?_⟩
  exact (((Gr.refl _).alloc _).alloc _).alloc _
set_option maxRecDepth 100000 in
set_option maxHeartbeats 800000 in
theorem toTimesS_own (a0 : Option Addr) (cap n : Nat) (cs : List Value) (hc : TimessC n cs) (hn : n ≤ 1048576) (w : World) (hs : CellsOf w a0 cs) :
    Calls Tryd.prog 25 #[.slice a0 n cap] w fun e w' => e = .returned (.slice (some ⟨w.heap.size, 0, none⟩) n n) ∧ w'.heap[w.heap.size]? = some (.cells cs.toArray 69 (0, 0)) ∧ Gr w w' := by
  obtain ⟨i0, hi, hz0, hz1, hz2⟩ := info_parts infoTimes
  have hmk := run_make (P := Tryd.prog) w 24 69 i0 _ Tryd.underlying24 hi hz0 .i64 .i64 n n (by omega) (Int.le_refl _) (by rw [hz2]; omega) (by omega)
  rw [hz1, Int.toNat_natCast] at hmk
  obtain ⟨zs, hzs⟩ : ∃ zs : List Value, madeCells (Value.cells (.agg #[.int .i8 0, .int .i64 0, .int .i64 0, .int .i64 0])) (n * 4) = zs.toArray := ⟨_, (Array.toArray_toList ..).symm⟩
  have hzl : zs.length = n * 4 := by have := congrArg Array.size hzs; rw [size_madeCells] at this; simpa using this.symm
  rw [hzs] at hmk
  have S := hid hs
  have HC := hid hc
  have HL := hid hc.1
  have HZ := hid hzl
  clear hs hi hz0 hz1 hz2 hzs hc hzl
  go_enter Tryd.func25, Tryd.ntmps25
  go_wp2_with fail
  clear hmk
  go_loopw [4] (fun i wr => ∃ k : Nat, k ≤ n ∧ i = .int .i64 k ∧ Hid (Gr w wr) ∧ Hid (wr.heap[w.heap.size]? = some (.cells (filC cs zs (k * 4)).toArray 69 (0, 0)))) (fun i _ => n - (intOf i).toNat)
  case atStart => exact ⟨0, Nat.zero_le _, rfl, hid ((Gr.refl _).alloc _), hid (by rw [Nat.zero_mul, filC_zero]; exact heap_new rfl)⟩
  case round =>
    obtain ⟨k, hk, rfl, hg, h0⟩ := hrel
    by_cases hlt : k < n
    · obtain ⟨x0, x1, x2, x3, HX⟩ := HC.out.2 k hlt
      obtain ⟨b, off, rfl, _⟩ := S.out (k * 4) (by rw [HL.out]; omega)
      have RG := hid ((S.out.gr hg.out).range (k * 4) 4 (by rw [HL.out]; omega))
      rw [HX] at RG
      have HST := hid (filC_step (zs := zs) (by rw [HL.out, HZ.out]) (by rw [HL.out]; omega) HX rfl)
      have HFL := hid (filC_length (cs := cs) (zs := zs) (j := k * 4) (by rw [HL.out, HZ.out]) (by rw [HL.out]; omega))
      clear HX
      have HV := hid (fun V => toTimes_any x0 x1 x2 x3 V)
      generalize filC cs zs (k * 4) = us at *
      have hb0 : (0 : Int) ≤ k := by omega
      have hb1 : (k : Int) < n := by omega
      go_wp2_with (refine wpList_load_mid rfl 72 _ rfl b (off + k * 4) rfl _ _ RG.out Tryd.underlying72 rfl sizeLTimes ?_)
      refine (HV.out _).mono ?_
      rintro e w1 ⟨rfl, g1⟩
      have G1 := hid (hg.out.trans g1)
      have B1 := hid (g1.heap h0.out)
      have TH := hid (there_of_list B1.out (k * 4) 4 (by rw [HFL.out, HL.out]; omega))
      have GS := hid (gr_setCells (Nat.le_refl w.heap.size) [.int .i8 x0, .int .i64 x1, .int .i64 x2, .int .i64 x3] (k * 4) w1 G1.out)
      have BS := hid (heap_setCells_at w.heap.size _ [.int .i8 x0, .int .i64 x1, .int .i64 x2, .int .i64 x3] (k * 4) w1 us B1.out (by rw [HFL.out, HL.out]; simp only [List.length_cons, List.length_nil]; omega))
      rw [HST.out] at BS
      clear g1
      have TT : w1.there w.heap.size (k * 4) (#[Value.int .i8 x0, Value.int .i64 x1, Value.int .i64 x2, Value.int .i64 x3] : Array Value).size := TH.out
      have O1 : (#[Value.int .i8 x0, Value.int .i64 x1, Value.int .i64 x2, Value.int .i64 x3] : Array Value).all (·.oneCell') = true := by simp [Value.oneCell']
      obtain ⟨vs, hvs⟩ : ∃ vs : Array Value, vs = #[.int .i8 x0, .int .i64 x1, .int .i64 x2, .int .i64 x3] := ⟨_, rfl⟩
      rw [← hvs] at TT O1
      have SZ : (Tryd.prog.info? 69).map (·.size) = some vs.size := by rw [hvs]; exact sizeTimes
      have e2 : vs.toList = [.int .i8 x0, .int .i64 x1, .int .i64 x2, .int .i64 x3] := by rw [hvs]
      rw [← e2] at GS BS
      rw [← hvs]
      clear hvs e2 HV RG TH
      go_wp2_with (refine wpList_store_mid rfl 69 _ _ rfl w.heap.size (k * 4) vs rfl rfl TT SZ O1 ?_)
      go_roundw
      case rel => exact ⟨k + 1, by omega, by go_num, GS, hid (by rw [Nat.add_mul, Nat.one_mul]; exact BS.out)⟩
      case measure => simp [intOf]; omega
    · obtain rfl : k = n := by omega
      have SR := hid (show wr.heap[w.heap.size]? = some (.cells cs.toArray 69 (0, 0)) by rw [h0.out, filC_all HL.out HZ.out])
      clear h0
      go_wp2_with fail
      go_ret
      exact ⟨rfl, SR.out, hg.out⟩
theorem elemTimes_cells {w : World} {a : Option Addr} {cs : List Value} {k : Nat} {x0 x1 x2 x3 : Int} (h : CellsOf w a cs) (he : (cs.drop (k * 4)).take 4 = [.int .i8 x0, .int .i64 x1, .int .i64 x2, .int .i64 x3]) :
    ∃ b off, a = some ⟨b, off, none⟩ ∧ w.cell? ⟨b, off + k * 4, none⟩ = some (.int .i8 x0) ∧ w.cell? ⟨b, off + k * 4 + 1, none⟩ = some (.int .i64 x1) ∧ w.cell? ⟨b, off + k * 4 + 2, none⟩ = some (.int .i64 x2) ∧ w.cell? ⟨b, off + k * 4 + 3, none⟩ = some (.int .i64 x3) := by
  obtain ⟨b, off, rfl, h0⟩ := h.at_ (get_of_elem (q := 0) he rfl)
  obtain ⟨b1, off1, e1, h1⟩ := h.at_ (get_of_elem (q := 1) he rfl)
  cases e1
  obtain ⟨b2, off2, e2, h2⟩ := h.at_ (get_of_elem (q := 2) he rfl)
  cases e2
  obtain ⟨b3, off3, e3, h3⟩ := h.at_ (get_of_elem (q := 3) he rfl)
  cases e3
  exact ⟨b, off, rfl, h0, h1, h2, h3⟩
theorem elemTimes_at {w : World} {b0 o0 k : Nat} {x0 x1 x2 x3 : Int} (h : ∃ b off, some (⟨b0, o0, none⟩ : Addr) = some ⟨b, off, none⟩ ∧ w.cell? ⟨b, off + k * 4, none⟩ = some (.int .i8 x0) ∧ w.cell? ⟨b, off + k * 4 + 1, none⟩ = some (.int .i64 x1) ∧ w.cell? ⟨b, off + k * 4 + 2, none⟩ = some (.int .i64 x2) ∧ w.cell? ⟨b, off + k * 4 + 3, none⟩ = some (.int .i64 x3)) : w.cell? ⟨b0, o0 + k * 4, none⟩ = some (.int .i8 x0) ∧ w.cell? ⟨b0, o0 + k * 4 + 1, none⟩ = some (.int .i64 x1) ∧ w.cell? ⟨b0, o0 + k * 4 + 2, none⟩ = some (.int .i64 x2) ∧ w.cell? ⟨b0, o0 + k * 4 + 3, none⟩ = some (.int .i64 x3) := by
  obtain ⟨b, off, e, r⟩ := h
  cases e
  exact r
set_option maxRecDepth 100000 in
set_option maxHeartbeats 800000 in
theorem eqTimes_same (x0 x1 x2 x3 : Int) (w : World) :
    Calls Tryd.prog 54 #[.agg #[.int .i8 x0, .int .i64 x1, .int .i64 x2, .int .i64 x3], .agg #[.int .i8 x0, .int .i64 x1, .int .i64 x2, .int .i64 x3]] w fun e w' => e = .returned (.bool true) ∧ Gr w w' := by
  go_enter Tryd.func54, Tryd.ntmps54
  go_wp2
  go_ret
  exact ⟨rfl, ((Gr.refl _).alloc _).alloc _⟩
set_option maxRecDepth 100000 in
set_option maxHeartbeats 1600000 in
theorem eqTimesS_own (a b : Option Addr) (ca cb n : Nat) (cs : List Value) (hc : TimessC n cs) (hn : n ≤ 1048576) (w : World) (ha : CellsOf w a cs) (hb : CellsOf w b cs) :
    Calls Tryd.prog 18 #[.slice a n ca, .slice b n cb] w fun e w' => e = .returned (.bool true) ∧ Gr w w' := by
  have HA := hid ha
  have HB := hid hb
  have HC := hid hc
  clear ha hb hc
  go_enter Tryd.func18, Tryd.ntmps18
  go_wp2_with fail
  go_loopw [5] (fun i wr => ∃ k : Nat, k ≤ n ∧ i = .int .i64 k ∧ Hid (Gr w wr)) (fun i _ => n - (intOf i).toNat)
  case atStart => exact ⟨0, Nat.zero_le _, rfl, hid (Gr.refl _)⟩
  case round =>
    obtain ⟨k, hk, rfl, hg⟩ := hrel
    by_cases hlt : k < n
    · obtain ⟨x0, x1, x2, x3, HX⟩ := HC.out.2 k hlt
      have HD := hid (fun V (g : Gr w V) => elemTimes_cells (HA.out.gr g) HX)
      have HE := hid (fun V (g : Gr w V) => elemTimes_cells (HB.out.gr g) HX)
      have HV := hid (fun V => eqTimes_same x0 x1 x2 x3 V)
      clear HX
      obtain ⟨b0, o0, ea, _⟩ := HD.out wr hg.out
      obtain ⟨b1, o1, eb, _⟩ := HE.out wr hg.out
      subst ea
      subst eb
      replace HD := hid (fun V g => elemTimes_at (HD.out V g))
      replace HE := hid (fun V g => elemTimes_at (HE.out V g))
      have hb0 : (0 : Int) ≤ k := by omega
      have hb1 : (k : Int) < n := by omega
      go_wp2_with fail
      have gd : Gr w wr.drew := hg.out.drew
      obtain ⟨p0, p1, p2, p3⟩ := HD.out _ gd
      obtain ⟨q0, q1, q2, q3⟩ := HE.out _ gd
      go_region_held3 (fun V => V.cell? ⟨b0, o0 + k * 4, none⟩ = some (.int .i8 x0) ∧ V.cell? ⟨b0, o0 + k * 4 + 1, none⟩ = some (.int .i64 x1) ∧ V.cell? ⟨b0, o0 + k * 4 + 2, none⟩ = some (.int .i64 x2) ∧ V.cell? ⟨b0, o0 + k * 4 + 3, none⟩ = some (.int .i64 x3) ∧ V.cell? ⟨b1, o1 + k * 4, none⟩ = some (.int .i8 x0) ∧ V.cell? ⟨b1, o1 + k * 4 + 1, none⟩ = some (.int .i64 x1) ∧ V.cell? ⟨b1, o1 + k * 4 + 2, none⟩ = some (.int .i64 x2) ∧ V.cell? ⟨b1, o1 + k * 4 + 3, none⟩ = some (.int .i64 x3) ∧ Gr w V)
        (first | exact ⟨p0, p1, p2, p3, q0, q1, q2, q3, gd⟩ | exact ⟨(HD.out _ gW).1, (HD.out _ gW).2.1, (HD.out _ gW).2.2.1, (HD.out _ gW).2.2.2, (HE.out _ gW).1, (HE.out _ gW).2.1, (HE.out _ gW).2.2.1, (HE.out _ gW).2.2.2, gW⟩ | go_keep)
        (((with_reducible refine (HV.out _).mono ?_); rintro e V ⟨rfl, gV⟩; have gW : Gr w V := Gr.trans (by assumption) gV))
      all_goals
        go_wp2_with fail
        go_roundw
        case rel => exact ⟨k + 1, by omega, by go_num, hid (by first | assumption | exact Gr.drew (by assumption))⟩
        case measure => simp [intOf] <;> omega
    · go_wp2_with fail
      go_ret
      exact ⟨rfl, hg.out⟩
set_option maxRecDepth 100000 in
set_option maxHeartbeats 1600000 in
theorem markTimesS_one (a : Option Addr) (n cap lo hi : Nat) (cs : List Value) (hc : cs.length = n * 4) (hn : n ≤ 1048576) (w : World) (ho : OwnV 69 4 w lo hi (.slice a n cap) n cs) :
    Calls Tryd.prog 21 #[.slice a n cap, .int .i64 1] w fun e w' => e = .returned (.int .i64 (1 + (n * 4 : Nat) : Nat)) ∧ OwnV 69 4 w' lo hi (.slice a n cap) n (markC tmKind (n * 4)) ∧ w.grownBy w' (Value.slice a n cap).ownBlock := by
  have HO := hid ho
  have HC := hid hc
  clear ho hc
  go_enter Tryd.func21, Tryd.ntmps21
  go_wp2_with fail
  go_loopw [1, 5] (fun q i wr => ∃ k : Nat, k ≤ n ∧ i = .int .i64 k ∧ q = .int .i64 (1 + (k * 4 : Nat) : Nat) ∧ Hid (OwnV 69 4 wr lo hi (.slice a n cap) n (markCTo tmKind cs (k * 4))) ∧ Hid (w.grownBy wr (Value.slice a n cap).ownBlock)) (fun _ i _ => n - (intOf i).toNat)
  case atStart => exact ⟨0, Nat.zero_le _, rfl, by simp, hid (by rw [Nat.zero_mul, markCTo_zero]; exact HO.out), hid ⟨rfl, rfl, rfl, Nat.le_refl _, fun _ _ _ => rfl⟩⟩
  case round =>
    obtain ⟨k, hk, rfl, rfl, hw, hg⟩ := hrel
    by_cases hlt : k < n
    · obtain ⟨m, hm⟩ : ∃ m : Int, m = ((1 + k * 4 : Nat) : Int) := ⟨_, rfl⟩
      have HM := hid hm
      rw [← hm]
      have hm0 : 0 ≤ m := by omega
      have hm1 : m ≤ 5000000 := by omega
      clear hm
      have hlx : k * 4 + 4 ≤ cs.length := by rw [HC.out]; omega
      have hml : (markCTo tmKind cs (k * 4)).length = cs.length := markCTo_length (by omega)
      have hq0 : (markCTo tmKind cs (k * 4))[k * 4]? = some cs[k * 4] := (markCTo_get (by omega) (by omega)).trans (List.getElem?_eq_getElem (by omega))
      have hq1 : (markCTo tmKind cs (k * 4))[k * 4 + 1]? = some cs[k * 4 + 1] := (markCTo_get (by omega) (by omega)).trans (List.getElem?_eq_getElem (by omega))
      have hq2 : (markCTo tmKind cs (k * 4))[k * 4 + 2]? = some cs[k * 4 + 2] := (markCTo_get (by omega) (by omega)).trans (List.getElem?_eq_getElem (by omega))
      have hq3 : (markCTo tmKind cs (k * 4))[k * 4 + 3]? = some cs[k * 4 + 3] := (markCTo_get (by omega) (by omega)).trans (List.getElem?_eq_getElem (by omega))
      obtain ⟨g, ea, hgb, hc0, hf0⟩ := hw.out.at_ hq0
      subst ea
      obtain ⟨g1, ea, _, hc1, hf1⟩ := hw.out.at_ hq1
      cases ea
      obtain ⟨g2, ea, _, hc2, hf2⟩ := hw.out.at_ hq2
      cases ea
      obtain ⟨g3, ea, _, hc3, hf3⟩ := hw.out.at_ hq3
      cases ea
      have pp0 := hw.out.put (k * 4) (markV tmKind (k * 4))
      rw [markCTo_set (by omega)] at pp0
      have pp1 := pp0.1.put (k * 4 + 1) (markV tmKind (k * 4 + 1))
      rw [markCTo_set (by omega)] at pp1
      have pp2 := pp1.1.put (k * 4 + 2) (markV tmKind (k * 4 + 2))
      rw [markCTo_set (by omega)] at pp2
      have pp3 := pp2.1.put (k * 4 + 3) (markV tmKind (k * 4 + 3))
      rw [markCTo_set (by omega)] at pp3
      have gg := (((pp0.2.trans pp1.2).trans pp2.2).trans pp3.2)
      have ev0 : markV tmKind (k * 4) = .int .i8 (IntKind.wrap .i8 (m)) := by
        unfold markV
        rw [show tmKind (k * 4) = .i8 by (unfold tmKind; rw [if_pos (by omega)])]
        rw [HM.out] <;> (try (congr 2 <;> omega))
      have ev1 : markV tmKind (k * 4 + 1) = .int .i64 (m + 1) := by
        unfold markV
        rw [show tmKind (k * 4 + 1) = .i64 by (unfold tmKind; rw [if_neg (by omega)])]
        rw [IntWalk.i64_in _ (by omega), HM.out] <;> (try (congr 1 <;> omega))
      have ev2 : markV tmKind (k * 4 + 2) = .int .i64 (m + 1 + 1) := by
        unfold markV
        rw [show tmKind (k * 4 + 2) = .i64 by (unfold tmKind; rw [if_neg (by omega)])]
        rw [IntWalk.i64_in _ (by omega), HM.out] <;> (try (congr 1 <;> omega))
      have ev3 : markV tmKind (k * 4 + 3) = .int .i64 (m + 1 + 1 + 1) := by
        unfold markV
        rw [show tmKind (k * 4 + 3) = .i64 by (unfold tmKind; rw [if_neg (by omega)])]
        rw [IntWalk.i64_in _ (by omega), HM.out] <;> (try (congr 1 <;> omega))
      rw [ev0, ev1, ev2, ev3] at pp3 gg
      have P4 := hid pp3
      have GG := hid gg
      clear gg hq0 pp0 ev0 pp1 ev1 pp2 ev2 pp3 ev3 hq1 hq2 hq3 hgb
      generalize cs[k * 4] = y0 at *
      generalize cs[k * 4 + 1] = y1 at *
      generalize cs[k * 4 + 2] = y2 at *
      generalize cs[k * 4 + 3] = y3 at *
      clear hlx hml

      go_wp2_with fail
      go_roundw
      case rel => exact ⟨k + 1, by omega, by go_num, by rw [show m = ((1 + k * 4 : Nat) : Int) from HM.out]; go_num, hid (by rw [Nat.add_mul, Nat.one_mul]; exact P4.out.1), hid (hg.out.trans GG.out)⟩
      case measure => simp [intOf]; omega
    · have hkn : k = n := by omega
      have H0 : Hid (OwnV 69 4 wr lo hi (.slice a n cap) n (markC tmKind (n * 4))) := by
        rw [hkn, markCTo_all _ HC.out.symm] at hw; exact hw
      have HK := hid hkn
      clear hw hkn
      go_wp2_with fail
      go_ret
      exact ⟨ret_int (by rw [HK.out]), H0.out, hg.out⟩
set_option maxRecDepth 100000 in
set_option maxHeartbeats 1600000 in
theorem heldTimesS_one (a : Option Addr) (n cap : Nat) (hn : n ≤ 1048576) (w : World) (hs : CellsOf w a (markC tmKind (n * 4))) :
    Calls Tryd.prog 22 #[.slice a n cap, .int .i64 1] w fun e w' => e = .returned (.int .i64 (1 + (n * 4 : Nat) : Nat)) ∧ Gr w w' := by
  have HS := hid hs
  clear hs
  go_enter Tryd.func22, Tryd.ntmps22
  go_wp2_with fail
  go_loopw [1, 5] (fun q i wr => ∃ k : Nat, k ≤ n ∧ i = .int .i64 k ∧ q = .int .i64 (1 + (k * 4 : Nat) : Nat) ∧ Hid (Gr w wr)) (fun _ i _ => n - (intOf i).toNat)
  case atStart => exact ⟨0, Nat.zero_le _, rfl, by simp, hid (Gr.refl _)⟩
  case round =>
    obtain ⟨k, hk, rfl, rfl, hg⟩ := hrel
    by_cases hlt : k < n
    · obtain ⟨m, hm⟩ : ∃ m : Int, m = ((1 + k * 4 : Nat) : Int) := ⟨_, rfl⟩
      have HM := hid hm
      rw [← hm]
      have hm0 : 0 ≤ m := by omega
      have hm1 : m ≤ 5000000 := by omega
      clear hm
      obtain ⟨b0, off0, e0, h0⟩ := HS.out.at_ (markC_get (kd := tmKind) (n := n * 4) (i := k * 4) (by omega))
      subst e0
      have hc0 := hg.out.cell h0
      obtain ⟨b1, off1, e1, h1⟩ := HS.out.at_ (markC_get (kd := tmKind) (n := n * 4) (i := k * 4 + 1) (by omega))
      cases e1
      have hc1 := hg.out.cell h1
      obtain ⟨b2, off2, e2, h2⟩ := HS.out.at_ (markC_get (kd := tmKind) (n := n * 4) (i := k * 4 + 2) (by omega))
      cases e2
      have hc2 := hg.out.cell h2
      obtain ⟨b3, off3, e3, h3⟩ := HS.out.at_ (markC_get (kd := tmKind) (n := n * 4) (i := k * 4 + 3) (by omega))
      cases e3
      have hc3 := hg.out.cell h3
      have ev0 : markV tmKind (k * 4) = .int .i8 (IntKind.wrap .i8 (m)) := by
        unfold markV
        rw [show tmKind (k * 4) = .i8 by (unfold tmKind; rw [if_pos (by omega)])]
        rw [HM.out] <;> (try (congr 2 <;> omega))
      have ev1 : markV tmKind (k * 4 + 1) = .int .i64 (m + 1) := by
        unfold markV
        rw [show tmKind (k * 4 + 1) = .i64 by (unfold tmKind; rw [if_neg (by omega)])]
        rw [IntWalk.i64_in _ (by omega), HM.out] <;> (try (congr 1 <;> omega))
      have ev2 : markV tmKind (k * 4 + 2) = .int .i64 (m + 1 + 1) := by
        unfold markV
        rw [show tmKind (k * 4 + 2) = .i64 by (unfold tmKind; rw [if_neg (by omega)])]
        rw [IntWalk.i64_in _ (by omega), HM.out] <;> (try (congr 1 <;> omega))
      have ev3 : markV tmKind (k * 4 + 3) = .int .i64 (m + 1 + 1 + 1) := by
        unfold markV
        rw [show tmKind (k * 4 + 3) = .i64 by (unfold tmKind; rw [if_neg (by omega)])]
        rw [IntWalk.i64_in _ (by omega), HM.out] <;> (try (congr 1 <;> omega))
      rw [ev0] at hc0
      rw [ev1] at hc1
      rw [ev2] at hc2
      rw [ev3] at hc3
      rw [← Nat.add_assoc] at hc1
      rw [← Nat.add_assoc] at hc2
      rw [← Nat.add_assoc] at hc3
      clear ev0 h0 ev1 h1 ev2 h2 ev3 h3
      go_wp2_with fail
      go_roundw
      case rel => exact ⟨k + 1, by omega, by go_num, by rw [show m = ((1 + k * 4 : Nat) : Int) from HM.out]; go_num, hg⟩
      case measure => simp [intOf]; omega
    · have hkn : k = n := by omega
      have HK := hid hkn
      clear hkn
      go_wp2_with fail
      go_ret
      exact ⟨ret_int (by rw [HK.out]), hg.out⟩

end Go.Proofs.YtflbjjcpkhldkaaDoor
