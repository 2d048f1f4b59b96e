/- Slices of structs of integers: copies, comparisons, marks. -/
import Derived.Test.YtflbjjcpkhldkaaDoorOwnV
import Derived.Test.YtflbjjcpkhldkaaDoorLineV
namespace Go.Proofs.YtflbjjcpkhldkaaDoor
open Go.RowKit
theorem gr_setCells {W : World} {b : Nat} (hb : W.heap.size ≤ b) : ∀ (vs : List Value) (o : Nat) (w : World), Gr W w → Gr W (w.setCells b o vs)
  | [], _, _, h => h
  | v :: vs, o, _, h => gr_setCells hb vs (o + 1) _ (h.setCell (p := ⟨b, o, none⟩) hb v)
theorem grown_setCells {W : World} {b : Nat} : ∀ (vs : List Value) (o : Nat) (w : World), W.grownBy w (some b) → W.grownBy (w.setCells b o vs) (some b)
  | [], _, _, h => h
  | v :: vs, o, w, h => grown_setCells vs (o + 1) _ (h.trans ⟨rfl, rfl, rfl, by rw [World.size_setCell]; exact Nat.le_refl _, fun k _ hk => heap_setCell_other w ⟨b, o, none⟩ k v (fun e => hk (by rw [e]))⟩)
theorem set_splice (l : List Value) (o : Nat) (v : Value) (vs : List Value) (h : o < l.length) : (l.set o v).take (o + 1) ++ vs ++ (l.set o v).drop (o + 1 + vs.length) = l.take o ++ (v :: vs) ++ l.drop (o + (vs.length + 1)) := by
  rw [List.drop_set_of_lt (by omega), show o + 1 + vs.length = o + (vs.length + 1) by omega]
  rw [List.take_succ_eq_append_getElem (by simpa using h)]
  simp [List.take_set_of_le]
theorem heap_setCells_at (b : Nat) (t : TypeId) : ∀ (vs : List Value) (o : Nat) (w : World) (l : List Value), w.heap[b]? = some (.cells l.toArray t (0, 0)) → o + vs.length ≤ l.length → (w.setCells b o vs).heap[b]? = some (.cells (l.take o ++ vs ++ l.drop (o + vs.length)).toArray t (0, 0))
  | [], o, w, l, h, _ => by
    show w.heap[b]? = _
    rw [h]; simp
  | v :: vs, o, w, l, h, hl => by
    rw [List.length_cons] at hl
    have h1 : (w.setCell ⟨b, o, none⟩ v).heap[b]? = some (.cells (l.set o v).toArray t (0, 0)) := by
      rw [heap_setCell_same w b o _ t _ h]; simp
    have h2 := heap_setCells_at b t vs (o + 1) _ (l.set o v) h1 (by rw [List.length_set]; omega)
    rw [set_splice l o v vs (by omega)] at h2
    exact h2
theorem there_of_list {w : World} {b : Nat} {l : List Value} {t : TypeId} (h : w.heap[b]? = some (.cells l.toArray t (0, 0))) (o n : Nat) (hn : o + n ≤ l.length) : w.there b o n :=
  fun j hj => ⟨by
    rw [cell_of_row w b _ _ t _ h, Array.getElem?_eq_getElem (by rw [List.size_toArray]; omega)]
    rfl, frozen_of_row _ _ _ _ _ h⟩
/-- A list of which the first cells are there already. -/
def filC (cs zs : List Value) (j : Nat) : List Value := cs.take j ++ zs.drop j
theorem filC_zero (cs zs : List Value) : filC cs zs 0 = zs := by simp [filC]
theorem filC_all {cs zs : List Value} {j : Nat} (h : cs.length = j) (h2 : zs.length = j) : filC cs zs j = cs := by
  simp [filC, List.take_of_length_le (Nat.le_of_eq h), List.drop_of_length_le (Nat.le_of_eq h2)]
theorem filC_length {cs zs : List Value} {j : Nat} (h : cs.length = zs.length) (hj : j ≤ cs.length) : (filC cs zs j).length = cs.length := by simp [filC]; omega
theorem filC_step {cs zs us : List Value} {j n : Nat} (h : cs.length = zs.length) (hj : j + n ≤ cs.length) (hu : (cs.drop j).take n = us) (hn : us.length = n) : (filC cs zs j).take j ++ us ++ (filC cs zs j).drop (j + us.length) = filC cs zs (j + n) := by
  unfold filC
  have e1 : (cs.take j ++ zs.drop j).take j = cs.take j := by rw [List.take_append_of_le_length (by rw [List.length_take]; omega), List.take_take, Nat.min_self]
  have e2 : (cs.take j ++ zs.drop j).drop (j + us.length) = zs.drop (j + n) := by
    rw [hn, List.drop_append, List.drop_of_length_le (by simp; omega), List.nil_append, List.length_take, Nat.min_eq_left (by omega), List.drop_drop]
    congr 1; omega
  rw [e1, e2, ← hu, List.take_add]
theorem get_of_elem {cs us : List Value} {j n q : Nat} {v : Value} (h : (cs.drop j).take n = us) (hq : us[q]? = some v) : cs[j + q]? = some v := by
  rw [← h, List.getElem?_take] at hq
  split at hq
  · rwa [List.getElem?_drop] at hq
  · cases hq

/-- The cells of so many structs. -/
def ShipsC (n : Nat) (cs : List Value) : Prop := cs.length = n * 3 ∧ ∀ k, k < n → ∃ x0 x1 x2 : Int, (cs.drop (k * 3)).take 3 = [.int .i8 x0, .int .i8 x1, .int .i8 x2]
theorem infoShip : (Tryd.prog.info? 60).map (fun i => (i.zero, i.size, i.bytes)) = some (some (.agg #[.int .i8 0, .int .i8 0, .int .i8 0]), 3, 3) := by kernel_rfl
theorem sizeShip : (Tryd.prog.info? 60).map (·.size) = some 3 := by kernel_rfl
theorem sizeLShip : (Tryd.prog.info? 62).map (·.size) = some 3 := by kernel_rfl
set_option maxRecDepth 100000 in
theorem szShipS_any (a : Option Addr) (cap n left : Nat) (hm : n ≤ 9223372036854775807) (hle : left ≤ 1048576) (w : World) :
    Calls Tryd.prog 14 #[.slice a n cap, .int .i64 left] w fun e w' => (∃ r : Int, e = .returned (.int .i64 r) ∧ (r = -1 ∨ (0 ≤ r ∧ r ≤ left ∧ n ≤ left))) ∧ w = w' := by
  have e1 : IntKind.i64.wrap ((left : Int) - (n : Int)) = (left : Int) - (n : Int) := IntWalk.i64_in _ (by omega)
  by_cases hlt : left < n
  · have t1 : (left : Int) - (n : Int) < 0 := by omega
    go_enter Tryd.func14, Tryd.ntmps14
    go_wp2_with fail
    go_ret
    exact ⟨⟨-1, rfl, .inl rfl⟩, rfl⟩
  · have t1 : ¬ (left : Int) - (n : Int) < 0 := by omega
    go_enter Tryd.func14, Tryd.ntmps14
    go_wp2_with fail
    go_ret
    exact ⟨⟨_, rfl, .inr ⟨by omega, by omega, by omega⟩⟩, rfl⟩
set_option maxRecDepth 100000 in
set_option maxHeartbeats 800000 in
theorem toShip_any (x0 x1 x2 : Int) (w : World) :
    Calls Tryd.prog 51 #[.agg #[.int .i8 x0, .int .i8 x1, .int .i8 x2]] w fun e w' => e = .returned (.agg #[.int .i8 x0, .int .i8 x1, .int .i8 x2]) ∧ Gr w w' := by
  go_enter Tryd.func51, Tryd.ntmps51
  go_wp2
  refine bodyPost_ret (v := .agg #[.int .i8 x0, .int .i8 x1, .int .i8 x2]) (results_cell_row (by rfl) _ _ _ _ _ _ _ rfl (heap_kept (heap_new (by simp))) Tryd.underlying60 rfl (by kernel_rfl)) rfl ⟨rfl, ?_⟩
  exact (((Gr.refl _).alloc _).alloc _).alloc _
set_option maxRecDepth 100000 in
set_option maxHeartbeats 800000 in
theorem toShipS_own (a0 : Option Addr) (cap n : Nat) (cs : List Value) (hc : ShipsC n cs) (hn : n ≤ 1048576) (w : World) (hs : CellsOf w a0 cs) :
    Calls Tryd.prog 16 #[.slice a0 n cap] w fun e w' => e = .returned (.slice (some ⟨w.heap.size, 0, none⟩) n n) ∧ w'.heap[w.heap.size]? = some (.cells cs.toArray 60 (0, 0)) ∧ Gr w w' := by
  obtain ⟨i0, hi, hz0, hz1, hz2⟩ := info_parts infoShip
  have hmk := run_make (P := Tryd.prog) w 27 60 i0 _ Tryd.underlying27 hi hz0 .i64 .i64 n n (by omega) (Int.le_refl _) (by rw [hz2]; omega) (by omega)
  rw [hz1, Int.toNat_natCast] at hmk
  obtain ⟨zs, hzs⟩ : ∃ zs : List Value, madeCells (Value.cells (.agg #[.int .i8 0, .int .i8 0, .int .i8 0])) (n * 3) = zs.toArray := ⟨_, (Array.toArray_toList ..).symm⟩
  have hzl : zs.length = n * 3 := by have := congrArg Array.size hzs; rw [size_madeCells] at this; simpa using this.symm
  rw [hzs] at hmk
  have S := hid hs
  have HC := hid hc
  have HL := hid hc.1
  have HZ := hid hzl
  clear hs hi hz0 hz1 hz2 hzs hc hzl
  go_enter Tryd.func16, Tryd.ntmps16
  go_wp2_with fail
  clear hmk
  go_loopw [4] (fun i wr => ∃ k : Nat, k ≤ n ∧ i = .int .i64 k ∧ Hid (Gr w wr) ∧ Hid (wr.heap[w.heap.size]? = some (.cells (filC cs zs (k * 3)).toArray 60 (0, 0)))) (fun i _ => n - (intOf i).toNat)
  case atStart => exact ⟨0, Nat.zero_le _, rfl, hid ((Gr.refl _).alloc _), hid (by rw [Nat.zero_mul, filC_zero]; exact heap_new rfl)⟩
  case round =>
    obtain ⟨k, hk, rfl, hg, h0⟩ := hrel
    by_cases hlt : k < n
    · obtain ⟨x0, x1, x2, HX⟩ := HC.out.2 k hlt
      obtain ⟨b, off, rfl, _⟩ := S.out (k * 3) (by rw [HL.out]; omega)
      have RG := hid ((S.out.gr hg.out).range (k * 3) 3 (by rw [HL.out]; omega))
      rw [HX] at RG
      have HST := hid (filC_step (zs := zs) (by rw [HL.out, HZ.out]) (by rw [HL.out]; omega) HX rfl)
      have HFL := hid (filC_length (cs := cs) (zs := zs) (j := k * 3) (by rw [HL.out, HZ.out]) (by rw [HL.out]; omega))
      clear HX
      have HV := hid (fun V => toShip_any x0 x1 x2 V)
      generalize filC cs zs (k * 3) = us at *
      have hb0 : (0 : Int) ≤ k := by omega
      have hb1 : (k : Int) < n := by omega
      go_wp2_with (refine wpList_load_mid rfl 62 _ rfl b (off + k * 3) rfl _ _ RG.out Tryd.underlying62 rfl sizeLShip ?_)
      refine (HV.out _).mono ?_
      rintro e w1 ⟨rfl, g1⟩
      have G1 := hid (hg.out.trans g1)
      have B1 := hid (g1.heap h0.out)
      have TH := hid (there_of_list B1.out (k * 3) 3 (by rw [HFL.out, HL.out]; omega))
      have GS := hid (gr_setCells (Nat.le_refl w.heap.size) [.int .i8 x0, .int .i8 x1, .int .i8 x2] (k * 3) w1 G1.out)
      have BS := hid (heap_setCells_at w.heap.size _ [.int .i8 x0, .int .i8 x1, .int .i8 x2] (k * 3) w1 us B1.out (by rw [HFL.out, HL.out]; simp only [List.length_cons, List.length_nil]; omega))
      rw [HST.out] at BS
      clear g1
      have TT : w1.there w.heap.size (k * 3) (#[Value.int .i8 x0, Value.int .i8 x1, Value.int .i8 x2] : Array Value).size := TH.out
      have O1 : (#[Value.int .i8 x0, Value.int .i8 x1, Value.int .i8 x2] : Array Value).all (·.oneCell') = true := by simp [Value.oneCell']
      obtain ⟨vs, hvs⟩ : ∃ vs : Array Value, vs = #[.int .i8 x0, .int .i8 x1, .int .i8 x2] := ⟨_, rfl⟩
      rw [← hvs] at TT O1
      have SZ : (Tryd.prog.info? 60).map (·.size) = some vs.size := by rw [hvs]; exact sizeShip
      have e2 : vs.toList = [.int .i8 x0, .int .i8 x1, .int .i8 x2] := by rw [hvs]
      rw [← e2] at GS BS
      rw [← hvs]
      clear hvs e2 HV RG TH
      go_wp2_with (refine wpList_store_mid rfl 60 _ _ rfl w.heap.size (k * 3) vs rfl rfl TT SZ O1 ?_)
      go_roundw
      case rel => exact ⟨k + 1, by omega, by go_num, GS, hid (by rw [Nat.add_mul, Nat.one_mul]; exact BS.out)⟩
      case measure => simp [intOf]; omega
    · obtain rfl : k = n := by omega
      have SR := hid (show wr.heap[w.heap.size]? = some (.cells cs.toArray 60 (0, 0)) by rw [h0.out, filC_all HL.out HZ.out])
      clear h0
      go_wp2_with fail
      go_ret
      exact ⟨rfl, SR.out, hg.out⟩
theorem elemShip_cells {w : World} {a : Option Addr} {cs : List Value} {k : Nat} {x0 x1 x2 : Int} (h : CellsOf w a cs) (he : (cs.drop (k * 3)).take 3 = [.int .i8 x0, .int .i8 x1, .int .i8 x2]) :
    ∃ b off, a = some ⟨b, off, none⟩ ∧ w.cell? ⟨b, off + k * 3, none⟩ = some (.int .i8 x0) ∧ w.cell? ⟨b, off + k * 3 + 1, none⟩ = some (.int .i8 x1) ∧ w.cell? ⟨b, off + k * 3 + 2, none⟩ = some (.int .i8 x2) := by
  obtain ⟨b, off, rfl, h0⟩ := h.at_ (get_of_elem (q := 0) he rfl)
  obtain ⟨b1, off1, e1, h1⟩ := h.at_ (get_of_elem (q := 1) he rfl)
  cases e1
  obtain ⟨b2, off2, e2, h2⟩ := h.at_ (get_of_elem (q := 2) he rfl)
  cases e2
  exact ⟨b, off, rfl, h0, h1, h2⟩
theorem elemShip_at {w : World} {b0 o0 k : Nat} {x0 x1 x2 : Int} (h : ∃ b off, some (⟨b0, o0, none⟩ : Addr) = some ⟨b, off, none⟩ ∧ w.cell? ⟨b, off + k * 3, none⟩ = some (.int .i8 x0) ∧ w.cell? ⟨b, off + k * 3 + 1, none⟩ = some (.int .i8 x1) ∧ w.cell? ⟨b, off + k * 3 + 2, none⟩ = some (.int .i8 x2)) : w.cell? ⟨b0, o0 + k * 3, none⟩ = some (.int .i8 x0) ∧ w.cell? ⟨b0, o0 + k * 3 + 1, none⟩ = some (.int .i8 x1) ∧ w.cell? ⟨b0, o0 + k * 3 + 2, none⟩ = some (.int .i8 x2) := by
  obtain ⟨b, off, e, r⟩ := h
  cases e
  exact r
set_option maxRecDepth 100000 in
set_option maxHeartbeats 800000 in
theorem eqShip_same (x0 x1 x2 : Int) (w : World) :
    Calls Tryd.prog 55 #[.agg #[.int .i8 x0, .int .i8 x1, .int .i8 x2], .agg #[.int .i8 x0, .int .i8 x1, .int .i8 x2]] w fun e w' => e = .returned (.bool true) ∧ Gr w w' := by
  go_enter Tryd.func55, Tryd.ntmps55
  go_wp2
  go_ret
  exact ⟨rfl, ((Gr.refl _).alloc _).alloc _⟩
set_option maxRecDepth 100000 in
set_option maxHeartbeats 1600000 in
theorem eqShipS_own (a b : Option Addr) (ca cb n : Nat) (cs : List Value) (hc : ShipsC n cs) (hn : n ≤ 1048576) (w : World) (ha : CellsOf w a cs) (hb : CellsOf w b cs) :
    Calls Tryd.prog 19 #[.slice a n ca, .slice b n cb] w fun e w' => e = .returned (.bool true) ∧ Gr w w' := by
  have HA := hid ha
  have HB := hid hb
  have HC := hid hc
  clear ha hb hc
  go_enter Tryd.func19, Tryd.ntmps19
  go_wp2_with fail
  go_loopw [5] (fun i wr => ∃ k : Nat, k ≤ n ∧ i = .int .i64 k ∧ Hid (Gr w wr)) (fun i _ => n - (intOf i).toNat)
  case atStart => exact ⟨0, Nat.zero_le _, rfl, hid (Gr.refl _)⟩
  case round =>
    obtain ⟨k, hk, rfl, hg⟩ := hrel
    by_cases hlt : k < n
    · obtain ⟨x0, x1, x2, HX⟩ := HC.out.2 k hlt
      have HD := hid (fun V (g : Gr w V) => elemShip_cells (HA.out.gr g) HX)
      have HE := hid (fun V (g : Gr w V) => elemShip_cells (HB.out.gr g) HX)
      have HV := hid (fun V => eqShip_same x0 x1 x2 V)
      clear HX
      obtain ⟨b0, o0, ea, _⟩ := HD.out wr hg.out
      obtain ⟨b1, o1, eb, _⟩ := HE.out wr hg.out
      subst ea
      subst eb
      replace HD := hid (fun V g => elemShip_at (HD.out V g))
      replace HE := hid (fun V g => elemShip_at (HE.out V g))
      have hb0 : (0 : Int) ≤ k := by omega
      have hb1 : (k : Int) < n := by omega
      go_wp2_with fail
      have gd : Gr w wr.drew := hg.out.drew
      obtain ⟨p0, p1, p2⟩ := HD.out _ gd
      obtain ⟨q0, q1, q2⟩ := HE.out _ gd
      go_region_held3 (fun V => V.cell? ⟨b0, o0 + k * 3, none⟩ = some (.int .i8 x0) ∧ V.cell? ⟨b0, o0 + k * 3 + 1, none⟩ = some (.int .i8 x1) ∧ V.cell? ⟨b0, o0 + k * 3 + 2, none⟩ = some (.int .i8 x2) ∧ V.cell? ⟨b1, o1 + k * 3, none⟩ = some (.int .i8 x0) ∧ V.cell? ⟨b1, o1 + k * 3 + 1, none⟩ = some (.int .i8 x1) ∧ V.cell? ⟨b1, o1 + k * 3 + 2, none⟩ = some (.int .i8 x2) ∧ Gr w V)
        (first | exact ⟨p0, p1, p2, q0, q1, q2, gd⟩ | exact ⟨(HD.out _ gW).1, (HD.out _ gW).2.1, (HD.out _ gW).2.2, (HE.out _ gW).1, (HE.out _ gW).2.1, (HE.out _ gW).2.2, gW⟩ | go_keep)
        (((with_reducible refine (HV.out _).mono ?_); rintro e V ⟨rfl, gV⟩; have gW : Gr w V := Gr.trans (by assumption) gV))
      all_goals
        go_wp2_with fail
        go_roundw
        case rel => exact ⟨k + 1, by omega, by go_num, hid (by first | assumption | exact Gr.drew (by assumption))⟩
        case measure => simp [intOf] <;> omega
    · go_wp2_with fail
      go_ret
      exact ⟨rfl, hg.out⟩
set_option maxRecDepth 100000 in
set_option maxHeartbeats 1600000 in
theorem markShipS_one (a : Option Addr) (n cap lo hi : Nat) (cs : List Value) (hc : cs.length = n * 3) (hn : n ≤ 1048576) (w : World) (ho : OwnV 60 3 w lo hi (.slice a n cap) n cs) :
    Calls Tryd.prog 20 #[.slice a n cap, .int .i64 1] w fun e w' => e = .returned (.int .i64 (1 + (n * 3 : Nat) : Nat)) ∧ OwnV 60 3 w' lo hi (.slice a n cap) n (markC shKind (n * 3)) ∧ w.grownBy w' (Value.slice a n cap).ownBlock := by
  have HO := hid ho
  have HC := hid hc
  clear ho hc
  go_enter Tryd.func20, Tryd.ntmps20
  go_wp2_with fail
  go_loopw [1, 5] (fun q i wr => ∃ k : Nat, k ≤ n ∧ i = .int .i64 k ∧ q = .int .i64 (1 + (k * 3 : Nat) : Nat) ∧ Hid (OwnV 60 3 wr lo hi (.slice a n cap) n (markCTo shKind cs (k * 3))) ∧ Hid (w.grownBy wr (Value.slice a n cap).ownBlock)) (fun _ i _ => n - (intOf i).toNat)
  case atStart => exact ⟨0, Nat.zero_le _, rfl, by simp, hid (by rw [Nat.zero_mul, markCTo_zero]; exact HO.out), hid ⟨rfl, rfl, rfl, Nat.le_refl _, fun _ _ _ => rfl⟩⟩
  case round =>
    obtain ⟨k, hk, rfl, rfl, hw, hg⟩ := hrel
    by_cases hlt : k < n
    · obtain ⟨m, hm⟩ : ∃ m : Int, m = ((1 + k * 3 : Nat) : Int) := ⟨_, rfl⟩
      have HM := hid hm
      rw [← hm]
      have hm0 : 0 ≤ m := by omega
      have hm1 : m ≤ 5000000 := by omega
      clear hm
      have hlx : k * 3 + 3 ≤ cs.length := by rw [HC.out]; omega
      have hml : (markCTo shKind cs (k * 3)).length = cs.length := markCTo_length (by omega)
      have hq0 : (markCTo shKind cs (k * 3))[k * 3]? = some cs[k * 3] := (markCTo_get (by omega) (by omega)).trans (List.getElem?_eq_getElem (by omega))
      have hq1 : (markCTo shKind cs (k * 3))[k * 3 + 1]? = some cs[k * 3 + 1] := (markCTo_get (by omega) (by omega)).trans (List.getElem?_eq_getElem (by omega))
      have hq2 : (markCTo shKind cs (k * 3))[k * 3 + 2]? = some cs[k * 3 + 2] := (markCTo_get (by omega) (by omega)).trans (List.getElem?_eq_getElem (by omega))
      obtain ⟨g, ea, hgb, hc0, hf0⟩ := hw.out.at_ hq0
      subst ea
      obtain ⟨g1, ea, _, hc1, hf1⟩ := hw.out.at_ hq1
      cases ea
      obtain ⟨g2, ea, _, hc2, hf2⟩ := hw.out.at_ hq2
      cases ea
      have pp0 := hw.out.put (k * 3) (markV shKind (k * 3))
      rw [markCTo_set (by omega)] at pp0
      have pp1 := pp0.1.put (k * 3 + 1) (markV shKind (k * 3 + 1))
      rw [markCTo_set (by omega)] at pp1
      have pp2 := pp1.1.put (k * 3 + 2) (markV shKind (k * 3 + 2))
      rw [markCTo_set (by omega)] at pp2
      have gg := ((pp0.2.trans pp1.2).trans pp2.2)
      have ev0 : markV shKind (k * 3) = .int .i8 (IntKind.wrap .i8 (m)) := by
        unfold markV
        rw [show shKind (k * 3) = .i8 by rfl]
        rw [HM.out] <;> (try (congr 2 <;> omega))
      have ev1 : markV shKind (k * 3 + 1) = .int .i8 (IntKind.wrap .i8 (m + 1)) := by
        unfold markV
        rw [show shKind (k * 3 + 1) = .i8 by rfl]
        rw [HM.out] <;> (try (congr 2 <;> omega))
      have ev2 : markV shKind (k * 3 + 2) = .int .i8 (IntKind.wrap .i8 (m + 1 + 1)) := by
        unfold markV
        rw [show shKind (k * 3 + 2) = .i8 by rfl]
        rw [HM.out] <;> (try (congr 2 <;> omega))
      rw [ev0, ev1, ev2] at pp2 gg
      have P3 := hid pp2
      have GG := hid gg
      clear gg hq0 pp0 ev0 pp1 ev1 pp2 ev2 hq1 hq2 hgb
      generalize cs[k * 3] = y0 at *
      generalize cs[k * 3 + 1] = y1 at *
      generalize cs[k * 3 + 2] = y2 at *
      clear hlx hml

      go_wp2_with fail
      go_roundw
      case rel => exact ⟨k + 1, by omega, by go_num, by rw [show m = ((1 + k * 3 : Nat) : Int) from HM.out]; go_num, hid (by rw [Nat.add_mul, Nat.one_mul]; exact P3.out.1), hid (hg.out.trans GG.out)⟩
      case measure => simp [intOf]; omega
    · have hkn : k = n := by omega
      have H0 : Hid (OwnV 60 3 wr lo hi (.slice a n cap) n (markC shKind (n * 3))) := by
        rw [hkn, markCTo_all _ HC.out.symm] at hw; exact hw
      have HK := hid hkn
      clear hw hkn
      go_wp2_with fail
      go_ret
      exact ⟨ret_int (by rw [HK.out]), H0.out, hg.out⟩
set_option maxRecDepth 100000 in
set_option maxHeartbeats 1600000 in
theorem heldShipS_one (a : Option Addr) (n cap : Nat) (hn : n ≤ 1048576) (w : World) (hs : CellsOf w a (markC shKind (n * 3))) :
    Calls Tryd.prog 44 #[.slice a n cap, .int .i64 1] w fun e w' => e = .returned (.int .i64 (1 + (n * 3 : Nat) : Nat)) ∧ Gr w w' := by
  have HS := hid hs
  clear hs
  go_enter Tryd.func44, Tryd.ntmps44
  go_wp2_with fail
  go_loopw [1, 5] (fun q i wr => ∃ k : Nat, k ≤ n ∧ i = .int .i64 k ∧ q = .int .i64 (1 + (k * 3 : Nat) : Nat) ∧ Hid (Gr w wr)) (fun _ i _ => n - (intOf i).toNat)
  case atStart => exact ⟨0, Nat.zero_le _, rfl, by simp, hid (Gr.refl _)⟩
  case round =>
    obtain ⟨k, hk, rfl, rfl, hg⟩ := hrel
    by_cases hlt : k < n
    · obtain ⟨m, hm⟩ : ∃ m : Int, m = ((1 + k * 3 : Nat) : Int) := ⟨_, rfl⟩
      have HM := hid hm
      rw [← hm]
      have hm0 : 0 ≤ m := by omega
      have hm1 : m ≤ 5000000 := by omega
      clear hm
      obtain ⟨b0, off0, e0, h0⟩ := HS.out.at_ (markC_get (kd := shKind) (n := n * 3) (i := k * 3) (by omega))
      subst e0
      have hc0 := hg.out.cell h0
      obtain ⟨b1, off1, e1, h1⟩ := HS.out.at_ (markC_get (kd := shKind) (n := n * 3) (i := k * 3 + 1) (by omega))
      cases e1
      have hc1 := hg.out.cell h1
      obtain ⟨b2, off2, e2, h2⟩ := HS.out.at_ (markC_get (kd := shKind) (n := n * 3) (i := k * 3 + 2) (by omega))
      cases e2
      have hc2 := hg.out.cell h2
      have ev0 : markV shKind (k * 3) = .int .i8 (IntKind.wrap .i8 (m)) := by
        unfold markV
        rw [show shKind (k * 3) = .i8 by rfl]
        rw [HM.out] <;> (try (congr 2 <;> omega))
      have ev1 : markV shKind (k * 3 + 1) = .int .i8 (IntKind.wrap .i8 (m + 1)) := by
        unfold markV
        rw [show shKind (k * 3 + 1) = .i8 by rfl]
        rw [HM.out] <;> (try (congr 2 <;> omega))
      have ev2 : markV shKind (k * 3 + 2) = .int .i8 (IntKind.wrap .i8 (m + 1 + 1)) := by
        unfold markV
        rw [show shKind (k * 3 + 2) = .i8 by rfl]
        rw [HM.out] <;> (try (congr 2 <;> omega))
      rw [ev0] at hc0
      rw [ev1] at hc1
      rw [ev2] at hc2
      rw [← Nat.add_assoc] at hc1
      rw [← Nat.add_assoc] at hc2
      clear ev0 h0 ev1 h1 ev2 h2
      go_wp2_with fail
      go_roundw
      case rel => exact ⟨k + 1, by omega, by go_num, by rw [show m = ((1 + k * 3 : Nat) : Int) from HM.out]; go_num, hg⟩
      case measure => simp [intOf]; omega
    · have hkn : k = n := by omega
      have HK := hid hkn
      clear hkn
      go_wp2_with fail
      go_ret
      exact ⟨ret_int (by rw [HK.out]), hg.out⟩
end Go.Proofs.YtflbjjcpkhldkaaDoor
