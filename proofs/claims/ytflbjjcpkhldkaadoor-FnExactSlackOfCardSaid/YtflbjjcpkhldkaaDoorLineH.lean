/- Lines of ships: the model's times of a whole line. -/
import Derived.Test.YtflbjjcpkhldkaaDoorLineD
import Derived.Test.YtflbjjcpkhldkaaDoorLineG
namespace Go.Proofs.YtflbjjcpkhldkaaDoor
open Go.RowKit
/-- The minutes for which each ship reads, if one of them needs more. -/
def moreR (xs : List Int) (c m : Int) (i : Nat) : Int := shR xs i + (if (i : Int) = c then m else 0)
theorem moreR_none (xs : List Int) : moreR xs (-1) 0 = shR xs := by
  funext i
  unfold moreR
  split <;> simp
theorem lineOk_of {n : Nat} {xs : List Int} (h : lineB n xs = true) : (1 ≤ n ∧ n ≤ 20) ∧ ∀ i, i < n → (0 ≤ shS xs i ∧ shS xs i ≤ 6) ∧ (0 ≤ shR xs i ∧ shR xs i ≤ 60) ∧ (0 ≤ shD xs i ∧ shD xs i ≤ 60) := by
  unfold lineB at h
  rw [Bool.and_eq_true] at h
  obtain ⟨h1, h2⟩ := h
  have h3 := rgV_iff.1 h1
  refine ⟨⟨by omega, by omega⟩, fun i hi => ?_⟩
  have h4 := allTo_iff.1 h2 i hi
  unfold shB at h4
  rw [Bool.and_eq_true, Bool.and_eq_true] at h4
  exact ⟨rgV_iff.1 h4.1, rgV_iff.1 h4.2.1, rgV_iff.1 h4.2.2⟩
theorem lineOk_more {n : Nat} {xs : List Int} (h : lineB n xs = true) (c m : Int) (hm : 0 ≤ m ∧ m ≤ 60) : LineOk n (shS xs) (moreR xs c m) (shD xs) := by
  obtain ⟨h1, h2⟩ := lineOk_of h
  refine ⟨h1.2, fun i hi => ?_⟩
  obtain ⟨a1, a2, a3⟩ := h2 i hi
  refine ⟨a1, ?_, a3⟩
  unfold moreR
  split <;> omega
theorem lineOk_line {n : Nat} {xs : List Int} (h : lineB n xs = true) : LineOk n (shS xs) (shR xs) (shD xs) := by
  have := lineOk_more h (-1) 0 (by omega)
  rwa [moreR_none] at this
set_option maxRecDepth 100000 in
set_option maxHeartbeats 3000000 in
theorem l06Times_any (al : Option Addr) (n cal : Nat) (xs : List Int) (hl : xs.length = n * 3) (hv : lineB n xs = true) (c m : Int) (hm : 0 ≤ m ∧ m ≤ 60) (w : World) (hs : SliceOf .i8 w al xs) :
    Calls Tryd.prog 50 #[.slice al n cal, .int .i64 c, .int .i64 m] w (RetV 69 4 id n (tmCells (timesTo (shS xs) (moreR xs c m) (shD xs) n)) w) := by
  obtain ⟨i0, hi, hz0, hz1, hz2⟩ := info_parts infoTimes
  have HK := hid (lineOk_more hv c m hm)
  obtain ⟨hn1, hn2⟩ := lineOk_of hv
  have HX := hid hn2
  have hn20 : n ≤ 20 := hn1.2
  have S := hid hs
  have HL := hid hl
  have HMR := hid (show ∀ i, moreR xs c m i = shR xs i + (if (i : Int) = c then m else 0) from fun _ => rfl)
  have HTS := hid (fun k => show timesTo (shS xs) (moreR xs c m) (shD xs) (k + 1) = timesTo (shS xs) (moreR xs c m) (shD xs) k ++ [if k = 0 then ⟨-1, 0, 0, shD xs 0⟩ else dueT (timesTo (shS xs) (moreR xs c m) (shD xs) k) (shS xs k) (moreR xs c m k) (shD xs k)] from rfl)
  have HTO := hid (fun k (hk : k ≤ n) => timesTo_ok HK.out k hk)
  have HTL := hid (fun k => timesTo_length (shS xs) (moreR xs c m) (shD xs) k)
  have HT0 := hid (show timesTo (shS xs) (moreR xs c m) (shD xs) 0 = [] from rfl)
  generalize timesTo (shS xs) (moreR xs c m) (shD xs) = tt at *
  have O0 := hid (OwnV.ofBlock (e := 69) (sz := 4) (n := 0) (heap_new (w := w) (o := .cells #[] 69) rfl) rfl (by unfold maxLen; omega))
  have G0 := hid ((Gr.refl w).alloc (.cells #[] 69))
  clear hs hl hv hn2 hn1
  go_enter Tryd.func50, Tryd.ntmps50
  go_wp2_with fail
  go_loopw [7, 8] (fun v i wr => ∃ k : Nat, k ≤ n ∧ i = .int .i64 k ∧ Hid (OwnV 69 4 wr w.heap.size wr.heap.size v k (tmCells (tt k))) ∧ Hid (Gr w wr)) (fun _ i _ => n - (intOf i).toNat)
  case atStart => exact ⟨0, Nat.zero_le _, rfl, hid (by rw [HT0.out]; exact O0.out.widen (Nat.le_refl _) (by simp)), G0⟩
  case round =>
    clear O0 G0
    obtain ⟨k, hk, rfl, O, G⟩ := hrel
    obtain ⟨av, cv, rfl⟩ := O.out.shape
    by_cases hlt : k < n
    · obtain ⟨bl, ol, rfl, l0, l1, l2⟩ := ship_cells (S.out.gr G.out) HL.out hlt
      obtain ⟨d0, d1, d2⟩ := HX.out k hlt
      obtain ⟨_, q1, _⟩ := HK.out.2 k hlt
      have HV := hid (l06Due_any (some ⟨bl, ol, none⟩) n cal xs HL.out k hlt hn20 d0 d2 av cv (tt k) (HTL.out k).symm (HTO.out k (by omega)) (moreR xs c m k) q1 wr (S.out.gr G.out) O.out.reads)
      have HSU := hid (HTS.out k)
      have HMk := hid (HMR.out k)
      have l1' : wr.cell? ⟨bl, ol + k * 3 + 1, none⟩ = some (.int .i8 (shR xs k)) := l1
      have ht : ∀ T : Prop, T ↔ T := fun _ => Iff.rfl
      have hty : (if k = 0 then (⟨-1, 0, 0, shD xs 0⟩ : Tm) else dueT (tt k) (shS xs k) (moreR xs c m k) (shD xs k)) = (if k = 0 then (⟨-1, 0, 0, xs.getD (k * 3 + 2) 0⟩ : Tm) else dueT (tt k) (xs.getD (k * 3) 0) (moreR xs c m k) (xs.getD (k * 3 + 2) 0)) := by
        by_cases h0 : k = 0
        · rw [if_pos h0, if_pos h0]; subst h0; rfl
        · rw [if_neg h0, if_neg h0]; rfl
      rw [hty] at HSU
      generalize (if k = 0 then (⟨-1, 0, 0, xs.getD (k * 3 + 2) 0⟩ : Tm) else dueT (tt k) (xs.getD (k * 3) 0) (moreR xs c m k) (xs.getD (k * 3 + 2) 0)) = t at *
      clear l0 l1 l2 d0 d2 ht hty
      generalize moreR xs c m k = rd at *
      generalize shR xs k = r at *
      obtain ⟨t0, t1, t2, t3⟩ := t
      change Hid (Calls _ _ _ _ (fun e w' => e = .returned (.agg #[.int .i8 t0, .int .i64 t1, .int .i64 t2, .int .i64 t3]) ∧ Gr _ w')) at HV
      have e1 : IntKind.i64.wrap r = r := IntWalk.i64_in _ (by omega)
      have e2 : IntKind.i64.wrap (r + m) = r + m := IntWalk.i64_in _ (by omega)
      have hb0 : (0 : Int) ≤ k := by omega
      have hb1 : (k : Int) < n := by omega
      by_cases hc : (k : Int) = c
      · have hcb : ((k : Int) == c) = true := by simpa using hc
        rw [if_pos hc] at HMk
        have HMk2 := HMk.out
        subst HMk2
        clear hc
        go_wp2_with fail
        refine HV.out.mono ?_
        rintro e w1 ⟨rfl, g1⟩
        have O1 := hid (O.out.gr g1)
        have G1 := hid (G.out.trans g1)
        have sz1 := hid g1.size
        clear g1
        go_wp2_with (at_builtin; refine wpList_append_own _ rfl _ _ 24 rfl w.heap.size 69 i0 (.agg #[.int .i8 0, .int .i64 0, .int .i64 0, .int .i64 0]) 4 32 Tryd.underlying24 hi hz0 hz1 hz2 rfl (by decide) _ _ _ rfl (O1.out.row.alloc _) ⟨w1.heap.size, 0, none⟩ 1 1 (Tm.cells ⟨t0, t1, t2, t3⟩) rfl rfl (news_tm (heap_new rfl)) (tm_oneCell _) (by unfold maxLen; omega) (by omega) (by have := G1.out.size; simp; omega) ?_; intro v2 w2 hown2 hgrow2 _)
        have G2 := hid ((G1.out.alloc _).by_ hgrow2 (fun b e => (O1.out.row.lt b e).1))
        have O2 := hid (OwnV.ofRow hown2)
        have O3 : Hid (OwnV 69 4 w2 w.heap.size w2.heap.size v2 (k + 1) (tmCells (tt (k + 1)))) := hid (by
          rw [HSU.out, tmCells_append]
          exact O2.out)
        clear hown2 hgrow2 O1 O2 HV HSU
        go_wp2_with fail
        go_roundw
        case rel => exact ⟨k + 1, by omega, by go_num, O3, G2⟩
        case measure => simp [intOf] <;> omega
      · have hcb : ((k : Int) == c) = false := by simpa using hc
        rw [if_neg hc, Int.add_zero] at HMk
        have HMk2 := HMk.out
        subst HMk2
        clear hc
        go_wp2_with fail
        refine HV.out.mono ?_
        rintro e w1 ⟨rfl, g1⟩
        have O1 := hid (O.out.gr g1)
        have G1 := hid (G.out.trans g1)
        have sz1 := hid g1.size
        clear g1
        go_wp2_with (at_builtin; refine wpList_append_own _ rfl _ _ 24 rfl w.heap.size 69 i0 (.agg #[.int .i8 0, .int .i64 0, .int .i64 0, .int .i64 0]) 4 32 Tryd.underlying24 hi hz0 hz1 hz2 rfl (by decide) _ _ _ rfl (O1.out.row.alloc _) ⟨w1.heap.size, 0, none⟩ 1 1 (Tm.cells ⟨t0, t1, t2, t3⟩) rfl rfl (news_tm (heap_new rfl)) (tm_oneCell _) (by unfold maxLen; omega) (by omega) (by have := G1.out.size; simp; omega) ?_; intro v2 w2 hown2 hgrow2 _)
        have G2 := hid ((G1.out.alloc _).by_ hgrow2 (fun b e => (O1.out.row.lt b e).1))
        have O2 := hid (OwnV.ofRow hown2)
        have O3 : Hid (OwnV 69 4 w2 w.heap.size w2.heap.size v2 (k + 1) (tmCells (tt (k + 1)))) := hid (by
          rw [HSU.out, tmCells_append]
          exact O2.out)
        clear hown2 hgrow2 O1 O2 HV HSU
        go_wp2_with fail
        go_roundw
        case rel => exact ⟨k + 1, by omega, by go_num, O3, G2⟩
        case measure => simp [intOf] <;> omega
    · obtain rfl : k = n := by omega
      go_wp2_with fail
      go_ret
      exact ⟨_, rfl, O.out, G.out⟩
end Go.Proofs.YtflbjjcpkhldkaaDoor
