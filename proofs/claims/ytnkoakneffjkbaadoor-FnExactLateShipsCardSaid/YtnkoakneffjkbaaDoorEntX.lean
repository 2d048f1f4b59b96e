/- Slices of structs: copies, comparisons. -/
import Derived.Test.YtnkoakneffjkbaaDoorStrX
namespace Go.Proofs.YtnkoakneffjkbaaDoor
set_option linter.unusedVariables false
open Go.RowKit
/-- The cells of so many structs. -/
def EntrysC (n : Nat) (cs : List Value) : Prop := cs.length = n * 3 ∧ ∀ k, k < n → ∃ (x0 : Int) (x1 : Int) (x2 : Bool), (cs.drop (k * 3)).take 3 = [.int .i64 x0, .int .i64 x1, .bool x2]
theorem infoEntry : (Tryd.prog.info? 58).map (fun i => (i.zero, i.size, i.bytes)) = some (some (.agg #[.int .i64 0, .int .i64 0, .bool false]), 3, 24) := by kernel_rfl
theorem sizeEntry : (Tryd.prog.info? 58).map (·.size) = some 3 := by kernel_rfl
theorem sizeLEntry : (Tryd.prog.info? 62).map (·.size) = some 3 := by kernel_rfl
set_option maxRecDepth 100000 in
theorem szEntryS_any (a : Option Addr) (cap n left : Nat) (hm : n ≤ 9223372036854775807) (hle : left ≤ 1048576) (w : World) :
    Calls Tryd.prog 7 #[.slice a n cap, .int .i64 left] w fun e w' => (∃ r : Int, e = .returned (.int .i64 r) ∧ (r = -1 ∨ (0 ≤ r ∧ r ≤ left ∧ n ≤ left))) ∧ w = w' := by
  have e1 : IntKind.i64.wrap ((left : Int) - (n : Int)) = (left : Int) - (n : Int) := IntWalk.i64_in _ (by omega)
  by_cases hlt : left < n
  · have t1 : (left : Int) - (n : Int) < 0 := by omega
    go_enter Tryd.func7, Tryd.ntmps7
    go_wp2_with fail
    go_ret
    exact ⟨⟨-1, rfl, .inl rfl⟩, rfl⟩
  · have t1 : ¬ (left : Int) - (n : Int) < 0 := by omega
    go_enter Tryd.func7, Tryd.ntmps7
    go_wp2_with fail
    go_ret
    exact ⟨⟨_, rfl, .inr ⟨by omega, by omega, by omega⟩⟩, rfl⟩
set_option maxRecDepth 100000 in
set_option maxHeartbeats 800000 in
theorem toEntry_any (x0 : Int) (x1 : Int) (x2 : Bool) (w : World) :
    Calls Tryd.prog 33 #[.agg #[.int .i64 x0, .int .i64 x1, .bool x2]] w fun e w' => e = .returned (.agg #[.int .i64 x0, .int .i64 x1, .bool x2]) ∧ Gr w w' := by
  go_enter Tryd.func33, Tryd.ntmps33
  go_wp2
  refine bodyPost_ret (v := .agg #[.int .i64 x0, .int .i64 x1, .bool x2]) (results_cell_row (by rfl) _ _ _ _ _ _ _ rfl (heap_kept (heap_new (by simp))) Tryd.underlying58 rfl (by kernel_rfl)) rfl ⟨rfl, ?_⟩
  exact (((Gr.refl _).alloc _).alloc _).alloc _
set_option maxRecDepth 100000 in
set_option maxHeartbeats 800000 in
theorem toEntryS_own (a0 : Option Addr) (cap n : Nat) (cs : List Value) (hc : EntrysC n cs) (hn : n ≤ 1048576) (w : World) (hs : CellsOf w a0 cs) :
    Calls Tryd.prog 9 #[.slice a0 n cap] w fun e w' => e = .returned (.slice (some ⟨w.heap.size, 0, none⟩) n n) ∧ w'.heap[w.heap.size]? = some (.cells cs.toArray 58 (0, 0)) ∧ Gr w w' := by
  obtain ⟨i0, hi, hz0, hz1, hz2⟩ := info_parts infoEntry
  have hmk := run_make (P := Tryd.prog) w 28 58 i0 _ Tryd.underlying28 hi hz0 .i64 .i64 n n (by omega) (Int.le_refl _) (by rw [hz2]; omega) (by omega)
  rw [hz1, Int.toNat_natCast] at hmk
  obtain ⟨zs, hzs⟩ : ∃ zs : List Value, madeCells (Value.cells (.agg #[.int .i64 0, .int .i64 0, .bool false])) (n * 3) = zs.toArray := ⟨_, (Array.toArray_toList ..).symm⟩
  have hzl : zs.length = n * 3 := by have := congrArg Array.size hzs; rw [size_madeCells] at this; simpa using this.symm
  rw [hzs] at hmk
  have S := hid hs
  have HC := hid hc
  have HL := hid hc.1
  have HZ := hid hzl
  clear hs hi hz0 hz1 hz2 hzs hc hzl
  go_enter Tryd.func9, Tryd.ntmps9
  go_wp2_with fail
  clear hmk
  go_loopw [4] (fun i wr => ∃ k : Nat, k ≤ n ∧ i = .int .i64 k ∧ Hid (Gr w wr) ∧ Hid (wr.heap[w.heap.size]? = some (.cells (filC cs zs (k * 3)).toArray 58 (0, 0)))) (fun i _ => n - (intOf i).toNat)
  case atStart => exact ⟨0, Nat.zero_le _, rfl, hid ((Gr.refl _).alloc _), hid (by rw [Nat.zero_mul, filC_zero]; exact heap_new rfl)⟩
  case round =>
    obtain ⟨k, hk, rfl, hg, h0⟩ := hrel
    by_cases hlt : k < n
    · obtain ⟨x0, x1, x2, HX⟩ := HC.out.2 k hlt
      obtain ⟨b, off, rfl, _⟩ := S.out (k * 3) (by rw [HL.out]; omega)
      have RG := hid ((S.out.gr hg.out).range (k * 3) 3 (by rw [HL.out]; omega))
      rw [HX] at RG
      have HST := hid (filC_step (zs := zs) (by rw [HL.out, HZ.out]) (by rw [HL.out]; omega) HX rfl)
      have HFL := hid (filC_length (cs := cs) (zs := zs) (j := k * 3) (by rw [HL.out, HZ.out]) (by rw [HL.out]; omega))
      clear HX
      have HV := hid (fun V => toEntry_any x0 x1 x2 V)
      generalize filC cs zs (k * 3) = us at *
      have hb0 : (0 : Int) ≤ k := by omega
      have hb1 : (k : Int) < n := by omega
      go_wp2_with (refine wpList_load_mid rfl 62 _ rfl b (off + k * 3) rfl _ _ RG.out Tryd.underlying62 rfl sizeLEntry ?_)
      refine (HV.out _).mono ?_
      rintro e w1 ⟨rfl, g1⟩
      have G1 := hid (hg.out.trans g1)
      have B1 := hid (g1.heap h0.out)
      have TH := hid (there_of_list B1.out (k * 3) 3 (by rw [HFL.out, HL.out]; omega))
      have GS := hid (gr_setCells (Nat.le_refl w.heap.size) [.int .i64 x0, .int .i64 x1, .bool x2] (k * 3) w1 G1.out)
      have BS := hid (heap_setCells_at w.heap.size _ [.int .i64 x0, .int .i64 x1, .bool x2] (k * 3) w1 us B1.out (by rw [HFL.out, HL.out]; simp only [List.length_cons, List.length_nil]; omega))
      rw [HST.out] at BS
      clear g1
      have TT : w1.there w.heap.size (k * 3) (#[Value.int .i64 x0, Value.int .i64 x1, Value.bool x2] : Array Value).size := TH.out
      have O1 : (#[Value.int .i64 x0, Value.int .i64 x1, Value.bool x2] : Array Value).all (·.oneCell') = true := by simp [Value.oneCell']
      obtain ⟨vs, hvs⟩ : ∃ vs : Array Value, vs = #[.int .i64 x0, .int .i64 x1, .bool x2] := ⟨_, rfl⟩
      rw [← hvs] at TT O1
      have SZ : (Tryd.prog.info? 58).map (·.size) = some vs.size := by rw [hvs]; exact sizeEntry
      have e2 : vs.toList = [.int .i64 x0, .int .i64 x1, .bool x2] := by rw [hvs]
      rw [← e2] at GS BS
      rw [← hvs]
      clear hvs e2 HV RG TH
      go_wp2_with (refine wpList_store_mid rfl 58 _ _ rfl w.heap.size (k * 3) vs rfl rfl TT SZ O1 ?_)
      go_roundw
      case rel => exact ⟨k + 1, by omega, by go_num, GS, hid (by rw [Nat.add_mul, Nat.one_mul]; exact BS.out)⟩
      case measure => simp [intOf]; omega
    · obtain rfl : k = n := by omega
      have SR := hid (show wr.heap[w.heap.size]? = some (.cells cs.toArray 58 (0, 0)) by rw [h0.out, filC_all HL.out HZ.out])
      clear h0
      go_wp2_with fail
      go_ret
      exact ⟨rfl, SR.out, hg.out⟩
theorem elemEntry_cells {w : World} {a : Option Addr} {cs : List Value} {k : Nat} {x0 : Int} {x1 : Int} {x2 : Bool} (h : CellsOf w a cs) (he : (cs.drop (k * 3)).take 3 = [.int .i64 x0, .int .i64 x1, .bool x2]) :
    ∃ b off, a = some ⟨b, off, none⟩ ∧ w.cell? ⟨b, off + k * 3, none⟩ = some (.int .i64 x0) ∧ w.cell? ⟨b, off + k * 3 + 1, none⟩ = some (.int .i64 x1) ∧ w.cell? ⟨b, off + k * 3 + 2, none⟩ = some (.bool x2) := by
  obtain ⟨b, off, rfl, h0⟩ := h.at_ (get_of_elem (q := 0) he rfl)
  obtain ⟨b1, off1, e1, h1⟩ := h.at_ (get_of_elem (q := 1) he rfl)
  cases e1
  obtain ⟨b2, off2, e2, h2⟩ := h.at_ (get_of_elem (q := 2) he rfl)
  cases e2
  exact ⟨b, off, rfl, h0, h1, h2⟩
theorem elemEntry_at {w : World} {b0 o0 k : Nat} {x0 : Int} {x1 : Int} {x2 : Bool} (h : ∃ b off, some (⟨b0, o0, none⟩ : Addr) = some ⟨b, off, none⟩ ∧ w.cell? ⟨b, off + k * 3, none⟩ = some (.int .i64 x0) ∧ w.cell? ⟨b, off + k * 3 + 1, none⟩ = some (.int .i64 x1) ∧ w.cell? ⟨b, off + k * 3 + 2, none⟩ = some (.bool x2)) : w.cell? ⟨b0, o0 + k * 3, none⟩ = some (.int .i64 x0) ∧ w.cell? ⟨b0, o0 + k * 3 + 1, none⟩ = some (.int .i64 x1) ∧ w.cell? ⟨b0, o0 + k * 3 + 2, none⟩ = some (.bool x2) := by
  obtain ⟨b, off, e, r⟩ := h
  cases e
  exact r
set_option maxRecDepth 100000 in
set_option maxHeartbeats 800000 in
theorem eqEntry_same (x0 : Int) (x1 : Int) (x2 : Bool) (w : World) :
    Calls Tryd.prog 41 #[.agg #[.int .i64 x0, .int .i64 x1, .bool x2], .agg #[.int .i64 x0, .int .i64 x1, .bool x2]] w fun e w' => e = .returned (.bool true) ∧ Gr w w' := by
  go_enter Tryd.func41, Tryd.ntmps41
  go_wp2
  go_ret
  exact ⟨rfl, ((Gr.refl _).alloc _).alloc _⟩
set_option maxRecDepth 100000 in
set_option maxHeartbeats 1600000 in
theorem eqLog_own (a b : Option Addr) (ca cb n : Nat) (cs : List Value) (hc : EntrysC n cs) (hn : n ≤ 1048576) (w : World) (ha : CellsOf w a cs) (hb : CellsOf w b cs) :
    Calls Tryd.prog 12 #[.slice a n ca, .slice b n cb] w fun e w' => e = .returned (.bool true) ∧ Gr w w' := by
  have HA := hid ha
  have HB := hid hb
  have HC := hid hc
  clear ha hb hc
  go_enter Tryd.func12, Tryd.ntmps12
  go_wp2_with fail
  go_loopw [5] (fun i wr => ∃ k : Nat, k ≤ n ∧ i = .int .i64 k ∧ Hid (Gr w wr)) (fun i _ => n - (intOf i).toNat)
  case atStart => exact ⟨0, Nat.zero_le _, rfl, hid (Gr.refl _)⟩
  case round =>
    obtain ⟨k, hk, rfl, hg⟩ := hrel
    by_cases hlt : k < n
    · obtain ⟨x0, x1, x2, HX⟩ := HC.out.2 k hlt
      have HD := hid (fun V (g : Gr w V) => elemEntry_cells (HA.out.gr g) HX)
      have HE := hid (fun V (g : Gr w V) => elemEntry_cells (HB.out.gr g) HX)
      have HV := hid (fun V => eqEntry_same x0 x1 x2 V)
      clear HX
      obtain ⟨b0, o0, ea, _⟩ := HD.out wr hg.out
      obtain ⟨b1, o1, eb, _⟩ := HE.out wr hg.out
      subst ea
      subst eb
      replace HD := hid (fun V g => elemEntry_at (HD.out V g))
      replace HE := hid (fun V g => elemEntry_at (HE.out V g))
      have hb0 : (0 : Int) ≤ k := by omega
      have hb1 : (k : Int) < n := by omega
      go_wp2_with fail
      have gd : Gr w wr.drew := hg.out.drew
      obtain ⟨p0, p1, p2⟩ := HD.out _ gd
      obtain ⟨q0, q1, q2⟩ := HE.out _ gd
      go_region_held3 (fun V => V.cell? ⟨b0, o0 + k * 3, none⟩ = some (.int .i64 x0) ∧ V.cell? ⟨b0, o0 + k * 3 + 1, none⟩ = some (.int .i64 x1) ∧ V.cell? ⟨b0, o0 + k * 3 + 2, none⟩ = some (.bool x2) ∧ V.cell? ⟨b1, o1 + k * 3, none⟩ = some (.int .i64 x0) ∧ V.cell? ⟨b1, o1 + k * 3 + 1, none⟩ = some (.int .i64 x1) ∧ V.cell? ⟨b1, o1 + k * 3 + 2, none⟩ = some (.bool x2) ∧ Gr w V)
        (first | exact ⟨p0, p1, p2, q0, q1, q2, gd⟩ | exact ⟨(HD.out _ gW).1, (HD.out _ gW).2.1, (HD.out _ gW).2.2, (HE.out _ gW).1, (HE.out _ gW).2.1, (HE.out _ gW).2.2, gW⟩ | go_keep)
        (((with_reducible refine (HV.out _).mono ?_); rintro e V ⟨rfl, gV⟩; have gW : Gr w V := Gr.trans (by assumption) gV))
      all_goals
        go_wp2_with fail
        go_roundw
        case rel => exact ⟨k + 1, by omega, by go_num, hid (by first | assumption | exact Gr.drew (by assumption))⟩
        case measure => simp [intOf] <;> omega
    · go_wp2_with fail
      go_ret
      exact ⟨rfl, hg.out⟩
end Go.Proofs.YtnkoakneffjkbaaDoor
