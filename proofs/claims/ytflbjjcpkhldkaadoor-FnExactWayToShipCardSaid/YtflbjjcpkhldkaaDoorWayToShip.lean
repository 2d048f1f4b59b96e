/- WayToShip: the functions. -/
import Derived.Test.YtflbjjcpkhldkaaDoorRevers
import Derived.Test.YtflbjjcpkhldkaaDoorPlace
namespace Go.Proofs.YtflbjjcpkhldkaaDoor
set_option linter.unusedVariables false
open Go.RowKit
theorem wayR_nil (ts : List Tm) (m : Nat) {z : Int} (h : z < 0) : wayR ts m z = [] := by
  cases m with
  | zero => rfl
  | succ m => rw [wayR, if_pos h]
theorem wayR_cons (ts : List Tm) (m : Nat) {z : Int} (h : ¬ z < 0) : wayR ts (m + 1) z = z :: wayR ts m (tmAt ts z.toNat).f := by rw [wayR, if_neg h]
theorem wayR_length (ts : List Tm) : ∀ m z, (wayR ts m z).length ≤ m
  | 0, _ => Nat.le_refl _
  | m + 1, z => by
    rw [wayR]
    split
    · simp
    · have := wayR_length ts m (tmAt ts z.toNat).f
      simp; omega
def wayB (n : Nat) (xs : List Int) (s : Int) : Bool := decide (0 ≤ (tmAt (timesL n xs) s.toNat).l)
def wayV (n : Nat) (xs : List Int) (s : Int) : List Int := if lineB n xs = true then (if rgV s 0 ((n : Int) - 1) = true then (if wayB n xs s = true then (wayR (timesL n xs) n s).reverse else []) else []) else []
def wayC (n : Nat) (xs : List Int) (s : Int) : Int := if lineB n xs = true then (if rgV s 0 ((n : Int) - 1) = true then (if wayB n xs s = true then 0 else 6) else 2) else 1
theorem wayV_length (n : Nat) (xs : List Int) (s : Int) : (wayV n xs s).length ≤ 1048576 := by
  unfold wayV
  split
  · rename_i h
    have := (lineOk_of h).1
    split
    · split
      · rw [List.length_reverse]
        have := wayR_length (timesL n xs) n s
        omega
      · simp
    · simp
  · simp
def wayTxt : ByteArray := ⟨#[119, 97, 121]⟩
theorem tsOk_lt {ts : List Tm} (hok : TsOk ts) (k : Nat) (hk : k < ts.length) : (tmAt ts k).f < (k : Int) := by
  rcases hok k hk with h | ⟨-, g2, -⟩
  · rw [h]; simp [noT]; omega
  · exact g2
/-- What the loop keeps: so much of the way is behind it. -/
def WayI (ts : List Tm) (n : Nat) (s : Int) (m : Nat) (z : Int) (p : List Int) : Prop := -1 ≤ z ∧ z < n ∧ z < m ∧ p ++ wayR ts m z = wayR ts n s
theorem WayI.start {ts : List Tm} {n : Nat} {s : Int} (h : 0 ≤ s ∧ s < n) : WayI ts n s n s [] := ⟨by omega, h.2, h.2, rfl⟩
theorem WayI.step {ts : List Tm} {n : Nat} {s : Int} {m : Nat} {z : Int} {p : List Int} (hn : n = ts.length) (hok : TsOk ts) (h : WayI ts n s m z p) (hz : ¬ z < 0) : ∃ m', m = m' + 1 ∧ WayI ts n s m' (tmAt ts z.toNat).f (p ++ [z]) := by
  obtain ⟨h1, h2, h3, h4⟩ := h
  obtain ⟨m', rfl⟩ : ∃ m', m = m' + 1 := ⟨m - 1, by omega⟩
  rw [wayR_cons ts m' hz] at h4
  refine ⟨m', rfl, ?_⟩
  have hzt : z.toNat < ts.length := by omega
  rcases hok z.toNat hzt with h | ⟨g1, g2, -⟩
  · rw [h] at h4 ⊢
    exact ⟨by simp [noT], by simp [noT]; omega, by simp [noT]; omega, by rw [← h4]; simp⟩
  · exact ⟨g1, by omega, by omega, by rw [← h4]; simp⟩
theorem WayI.done {ts : List Tm} {n : Nat} {s : Int} {m : Nat} {z : Int} {p : List Int} (h : WayI ts n s m z p) (hz : z < 0) : p = wayR ts n s := by
  obtain ⟨-, -, -, h4⟩ := h
  rw [wayR_nil ts m hz, List.append_nil] at h4
  exact h4
theorem WayI.len {ts : List Tm} {n : Nat} {s : Int} {m : Nat} {z : Int} {p : List Int} (h : WayI ts n s m z p) : p.length ≤ n := by
  have h1 := congrArg List.length h.2.2.2
  have h2 := wayR_length ts n s
  simp only [List.length_append] at h1
  omega
set_option maxRecDepth 100000 in
theorem wayTell_pan (a : Option Addr) (n c : Nat) (al : Option Addr) (cal : Nat) (s : Int) (hn : n ≤ 1048576) (hr : rgV s 0 ((n : Int) - 1) = false) (lp sp : Addr) (w : World) (hlp : w.cell? lp = some (.slice al n cal)) (hsp : w.cell? sp = some (.int .i64 s)) :
    Calls Tryd.prog 71 (#[.slice a n c] ++ #[.pointer (some lp), .pointer (some sp)]) w fun e w' => e = .panicked [{ v := .iface 122 (.int .i64 s), recovered := false }] ∧ Gr w w' := by
  have HP := hid (placeOf_no al n cal s hn hr)
  clear hr
  go_enter Tryd.func71, Tryd.ntmps71
  go_wp2_with fail
  refine (HP.out _).mono ?_
  rintro e w1 ⟨rfl, rfl⟩
  go_wp2_with fail
  exact ⟨rfl, rfl, Gr.refl _⟩
set_option maxRecDepth 100000 in
set_option maxHeartbeats 1000000 in
theorem wayTell_no (a : Option Addr) (n c : Nat) (al : Option Addr) (cal : Nat) (s : Nat) (hn : n ≤ 1048576) (hr : rgV s 0 ((n : Int) - 1) = true) (ts : List Tm) (hl : n = ts.length) (hok : TsOk ts) (hq : decide (0 ≤ (tmAt ts s).l) = false) (lp sp : Addr) (w : World) (hnv : NeverAt w) (hlp : w.cell? lp = some (.slice al n cal)) (hsp : w.cell? sp = some (.int .i64 s)) (ha : CellsOf w a (tmCells ts)) :
    Calls Tryd.prog 71 (#[.slice a n c] ++ #[.pointer (some lp), .pointer (some sp)]) w fun e w' => (∃ v, e = .returned (.tuple #[v, .iface 89 (.string wayTxt)])) ∧ Gr w w' := by
  have HP := hid (placeOf_ok al n cal s hn hr)
  have hsn : s < n := by have := rgV_iff.1 hr; omega
  obtain ⟨b0, o0, rfl, p0, p1, p2, p3⟩ := tm_at ha (i := s) (by omega)
  have RG := hid (range4 ⟨p0, p1, p2, p3⟩)
  have HI := hid (isReached_any s (tmAt ts s) (hok s (by omega)) hq w hnv)
  have hb0 : (0 : Int) ≤ s := by omega
  have hb1 : (s : Int) < n := by omega
  generalize (tmAt ts s).f = x0 at *
  generalize (tmAt ts s).s = x1 at *
  generalize (tmAt ts s).c = x2 at *
  generalize (tmAt ts s).l = x3 at *
  clear hr ha hl hok hq hnv
  go_enter Tryd.func71, Tryd.ntmps71
  go_wp2_with fail
  refine (HP.out _).mono ?_
  rintro e w1 ⟨rfl, rfl⟩
  go_wp2_with (refine wpList_load_mid rfl 69 _ rfl b0 (o0 + s * 4) rfl _ _ RG.out Tryd.underlying69 rfl sizeTimes ?_)
  refine HI.out.mono ?_
  rintro e w1 ⟨rfl, g1⟩
  have G1 := hid g1
  clear g1
  go_wp2_with fail
  go_ret2
  exact ⟨⟨_, rfl⟩, G1.out⟩
set_option maxRecDepth 100000 in
set_option maxHeartbeats 2000000 in
theorem wayTell_ok (a : Option Addr) (n c : Nat) (al : Option Addr) (cal : Nat) (s : Nat) (h20 : n ≤ 20) (hr : rgV s 0 ((n : Int) - 1) = true) (ts : List Tm) (hl : n = ts.length) (hok : TsOk ts) (hq : decide (0 ≤ (tmAt ts s).l) = true) (lp sp : Addr) (w : World) (hnv : NeverAt w) (hlp : w.cell? lp = some (.slice al n cal)) (hsp : w.cell? sp = some (.int .i64 s)) (ha : CellsOf w a (tmCells ts)) :
    Calls Tryd.prog 71 (#[.slice a n c] ++ #[.pointer (some lp), .pointer (some sp)]) w (RetOwn .i64 2 (fun u => .tuple #[u, .nilIface]) (wayR ts n s).reverse w) := by
  obtain ⟨i0, hi, hz0, hz1, hz2⟩ := info_parts info64
  have HP := hid (placeOf_ok al n cal s (by omega) hr)
  have hsn : s < n := by have := rgV_iff.1 hr; omega
  obtain ⟨b0, o0, rfl, p0, p1, p2, p3⟩ := tm_at ha (i := s) (by omega)
  have RG := hid (range4 ⟨p0, p1, p2, p3⟩)
  have HI := hid (isReached_any s (tmAt ts s) (hok s (by omega)) hq w hnv)
  have HA := hid (fun V (g : Gr w V) k (hk : k < n) => (tm_at' (ha.gr g) (i := k) (by omega)).1)
  have hb0 : (0 : Int) ≤ s := by omega
  have hb1 : (s : Int) < n := by omega
  have HST := hid (WayI.start (ts := ts) (n := n) (s := (s : Int)) ⟨hb0, hb1⟩)
  have HFL := hid (fun k (hk : k < n) => tsOk_lt hok k (by omega))
  have HSTEP := hid (fun m z p (h : WayI ts n s m z p) (hz : ¬ z < 0) => h.step hl hok (by omega))
  generalize (tmAt ts s).f = x0 at *
  generalize (tmAt ts s).s = x1 at *
  generalize (tmAt ts s).c = x2 at *
  generalize (tmAt ts s).l = x3 at *
  clear hr ha hl hok hq hnv p0 p1 p2 p3
  go_enter Tryd.func71, Tryd.ntmps71
  go_wp2_with fail
  refine (HP.out _).mono ?_
  rintro e w1 ⟨rfl, rfl⟩
  go_wp2_with (refine wpList_load_mid rfl 69 _ rfl b0 (o0 + s * 4) rfl _ _ RG.out Tryd.underlying69 rfl sizeTimes ?_)
  refine HI.out.mono ?_
  rintro e w1 ⟨rfl, g1⟩
  have G1 := hid g1
  clear g1
  go_wp2_with fail
  go_loopw [6, 7] (fun i v wr => ∃ (m : Nat) (z : Int) (p : List Int), i = .int .i64 z ∧ Hid (WayI ts n s m z p) ∧ Hid (Own .i64 2 wr w.heap.size wr.heap.size v p) ∧ Hid (Gr w wr)) (fun i _ _ => (intOf i + 1).toNat)
  case atStart => exact ⟨n, s, [], rfl, HST, hid (Own.nil _ _ _), G1⟩
  case round =>
    clear HST G1
    obtain ⟨m, z, p, rfl, I, O, G⟩ := hrel
    obtain ⟨av, cv, rfl⟩ := O.out.shape
    have hlen := I.out.len
    have hzA := I.out.1
    by_cases hz : z < 0
    · have HD := hid (I.out.done hz)
      have HR := hid (reverse_any av p.length cv p rfl (by omega) wr w.heap.size wr.heap.size O.out)
      have hz' : ¬ 0 ≤ z := by omega
      go_wp2_with fail
      refine HR.out.mono ?_
      rintro e w2 ⟨rfl, o2, g2⟩
      have O2 := hid o2
      have G2 := hid (G.out.by_ g2 (fun b e => (O.out.row.lt b e).1))
      have HSZ := hid g2.size
      clear o2 g2
      go_wp2_with fail
      go_ret2
      exact ⟨_, rfl, by rw [← HD.out]; exact O2.out.widen (Nat.le_refl _) HSZ.out, G2.out⟩
    · obtain ⟨m', rfl, I2⟩ := HSTEP.out m z p I.out (by omega)
      obtain ⟨zn, rfl⟩ : ∃ zn : Nat, z = (zn : Int) := ⟨z.toNat, by omega⟩
      have hzn : zn < n := by have := I.out.2.1; omega
      rw [Int.toNat_natCast] at I2
      have II := hid I2
      have HDEC := hid (HFL.out zn hzn)
      have FA := hid (fun V (g : Gr w V) => HA.out V g zn hzn)
      generalize (tmAt ts zn).f = f at *
      have hf1 := II.out.1
      have hb2 : (zn : Int) < n := by omega
      have hb3 : (0 : Int) ≤ zn := by omega
      have hwf : IntKind.i64.wrap f = f := IntWalk.i64_in _ (by have := II.out.2.1; omega)
      clear I2 I hz
      go_wp2_with (at_builtin; refine wpList_append_own _ rfl _ _ 40 rfl w.heap.size 2 i0 (.int .i64 0) 1 8 Tryd.underlying40 hi hz0 hz1 hz2 rfl (by decide) _ _ _ rfl (O.out.row.alloc _) ⟨wr.heap.size, 0, none⟩ 1 1 [.int .i64 zn] rfl rfl (news_one (heap_new rfl)) (by simp [Value.oneCell']) (by unfold maxLen; omega) (by omega) (by have := G.out.size; simp; omega) ?_; intro v2 w5 hown2 hgrow2 _; have cf := FA.out w5 ((G.out.alloc (.cells #[.int .i64 zn] 2)).by_ hgrow2 (fun b e => (O.out.row.lt b e).1)))
      have G5 := hid ((G.out.alloc (.cells #[.int .i64 (zn : Int)] 2)).by_ hgrow2 (fun b e => (O.out.row.lt b e).1))
      have O5 := hid (show Own .i64 2 w5 w.heap.size w5.heap.size v2 (p ++ [(zn : Int)]) from Own.ofRow hown2 (by simp) (by simp))
      have HM := hid (show (f + 1).toNat < ((zn : Int) + 1).toNat by have := HDEC.out; omega)
      clear hown2 hgrow2
      go_wp2_with fail
      go_roundw
      case rel => exact ⟨m', f, p ++ [(zn : Int)], rfl, II, O5, G5⟩
      case measure => exact HM.out
set_option maxRecDepth 100000 in
theorem impl_WayToShip_law (a : Option Addr) (n cap : Nat) (xs : List Int) (hl : xs.length = n * 3) (hn : n ≤ 1048576) (hf : Fits .i8 xs) (s : Int) (_vs : (Lit.int .i64 s).wf = true) (w : World) (hnv : NeverAt w) (hs : CellsOf w a (xs.map (Value.int .i8))) :
    Calls Tryd.prog 35 #[.slice a n cap, .int .i64 s] w (RetOwn .i64 2 (withCode (wayC n xs s)) (wayV n xs s) w) := by
  have hmf : ∀ (fn : Fn) (first cap : Array Value) (w : World), (Instr.makeFunc fn first cap).run Tryd.prog w = .ok (.func fn first cap) w := fun _ _ _ _ => rfl
  have g0 : Gr w ((w.alloc (.cells #[.slice a n cap] 27)).alloc (.cells #[.int .i64 s] 2)) := ((Gr.refl w).alloc _).alloc _
  have G0 := hid g0
  have c0 : ((w.alloc (.cells #[.slice a n cap] 27)).alloc (.cells #[.int .i64 s] 2)).cell? ⟨w.heap.size, 0, none⟩ = some (.slice a n cap) := Gr.cell ((Gr.refl (w.alloc (.cells #[.slice a n cap] 27))).alloc _) (by rw [cell_of_row _ _ _ _ _ _ (heap_new (w := w) (o := .cells #[.slice a n cap] 27) (by simp))]; rfl)
  have c1 : ((w.alloc (.cells #[.slice a n cap] 27)).alloc (.cells #[.int .i64 s] 2)).cell? ⟨w.heap.size + 1, 0, none⟩ = some (.int .i64 s) := Gr.cell (Gr.refl ((w.alloc (.cells #[.slice a n cap] 27)).alloc (.cells #[.int .i64 s] 2))) (by rw [cell_of_row _ _ _ _ _ _ (heap_new (w := (w.alloc (.cells #[.slice a n cap] 27))) (o := .cells #[.int .i64 s] 2) (by simp))]; rfl)
  have HA : Hid (Calls Tryd.prog 61 #[.slice a n cap, .func (.func 71) #[] #[.pointer (some ⟨w.heap.size, 0, none⟩), .pointer (some ⟨w.heap.size + 1, 0, none⟩)]] ((w.alloc (.cells #[.slice a n cap] 27)).alloc (.cells #[.int .i64 s] 2)) (fun e w' => ∃ v, e = .returned (.tuple #[v, .int .i64 (wayC n xs s)]) ∧ Own .i64 2 w' w.heap.size w'.heap.size v (wayV n xs s) ∧ Gr ((w.alloc (.cells #[.slice a n cap] 27)).alloc (.cells #[.int .i64 s] 2)) w')) := by
    apply hid
    cases hv : lineB n xs with
    | false =>
      rw [show wayV n xs s = [] by unfold wayV; rw [hv]; rfl, show wayC n xs s = 1 by unfold wayC; rw [hv]; rfl]
      exact (ans_Ints_no a n cap xs hl hn hf hv 71 #[.pointer (some ⟨w.heap.size, 0, none⟩), .pointer (some ⟨w.heap.size + 1, 0, none⟩)] ((w.alloc (.cells #[.slice a n cap] 27)).alloc (.cells #[.int .i64 s] 2)) ((sliceOf_cells hs).gr g0)).mono (by rintro e w' ⟨rfl, g⟩; exact ⟨_, rfl, Own.nil _ _ _, g⟩)
    | true =>
      have hlen : (timesL n xs).length = n := timesTo_length _ _ _ _
      obtain ⟨h0, h20⟩ := (lineOk_of hv).1
      have hok : TsOk (timesL n xs) := timesTo_ok (lineOk_line hv) n (Nat.le_refl _)
      cases hr : rgV s 0 ((n : Int) - 1) with
      | false =>
        rw [show wayV n xs s = [] by unfold wayV; rw [hv, hr]; rfl, show wayC n xs s = 2 by unfold wayC; rw [hv, hr]; rfl]
        exact (ans_Ints_pan_noShip s a n cap xs hl hn hf hv 71 #[.pointer (some ⟨w.heap.size, 0, none⟩), .pointer (some ⟨w.heap.size + 1, 0, none⟩)] ((w.alloc (.cells #[.slice a n cap] 27)).alloc (.cells #[.int .i64 s] 2)) (hnv.gr g0) ((sliceOf_cells hs).gr g0) (fun args w => callFunc_enter Tryd.func71 (by kernel_rfl) (by kernel_rfl) args w)
          (fun W V av cv gW gV o => wayTell_pan av n cv a cap s hn hr _ _ V ((gW.trans gV).cell c0) ((gW.trans gV).cell c1))).mono (by rintro e w' ⟨rfl, g⟩; exact ⟨_, rfl, Own.nil _ _ _, g⟩)
      | true =>
        obtain ⟨sn, rfl⟩ : ∃ sn : Nat, s = (sn : Int) := ⟨s.toNat, by have := rgV_iff.1 hr; omega⟩
        cases hq : wayB n xs sn with
        | false =>
          rw [show wayV n xs sn = [] by unfold wayV; rw [hv, hr, hq]; rfl, show wayC n xs sn = 6 by unfold wayC; rw [hv, hr, hq]; rfl]
          exact (ans_Ints_err_notFound wayTxt a n cap xs hl hn hf hv 71 #[.pointer (some ⟨w.heap.size, 0, none⟩), .pointer (some ⟨w.heap.size + 1, 0, none⟩)] _ (hnv.gr g0) ((sliceOf_cells hs).gr g0) (fun args w => callFunc_enter Tryd.func71 (by kernel_rfl) (by kernel_rfl) args w)
            (fun W V av cv gW gV o => wayTell_no av n cv a cap sn hn hr (timesL n xs) hlen.symm hok (by unfold wayB at hq; rwa [Int.toNat_natCast] at hq) _ _ V (hnv.gr (g0.trans (gW.trans gV))) ((gW.trans gV).cell c0) ((gW.trans gV).cell c1) o.reads)).mono (by rintro e w' ⟨rfl, g⟩; exact ⟨_, rfl, Own.nil _ _ _, g⟩)
        | true =>
          rw [show wayV n xs sn = (wayR (timesL n xs) n sn).reverse by unfold wayV; rw [hv, hr, hq]; rfl, show wayC n xs sn = 0 by unfold wayC; rw [hv, hr, hq]; rfl]
          exact (ans_Ints_ok a n cap xs hl hn hf hv 71 #[.pointer (some ⟨w.heap.size, 0, none⟩), .pointer (some ⟨w.heap.size + 1, 0, none⟩)] (StI .i64 2 (wayR (timesL n xs) n sn).reverse) _ (hnv.gr g0) ((sliceOf_cells hs).gr g0) (fun args w => callFunc_enter Tryd.func71 (by kernel_rfl) (by kernel_rfl) args w) stI_stays
            (fun W V av cv gW gV o => (wayTell_ok av n cv a cap sn h20 hr (timesL n xs) hlen.symm hok (by unfold wayB at hq; rwa [Int.toNat_natCast] at hq) _ _ V (hnv.gr (g0.trans (gW.trans gV))) ((gW.trans gV).cell c0) ((gW.trans gV).cell c1) o.reads).mono (by
              rintro e w' ⟨u, rfl, o, g⟩
              exact ⟨u, rfl, ⟨_, Nat.le_refl _, o.widen gV.size (Nat.le_refl _)⟩, g⟩))).mono (by
              rintro e w' ⟨W, v, rfl, ⟨hi, hh, o⟩, gW, g⟩
              exact ⟨v, rfl, o.widen (Nat.le_trans g0.size gW.size) hh, g⟩)
  generalize wayV n xs s = ys at *
  generalize wayC n xs s = q at *
  clear hs hl hf hnv g0 c1
  go_enter Tryd.func35, Tryd.ntmps35
  go_wp2_with fail
  refine HA.out.mono ?_
  rintro e w1 ⟨v, rfl, o1, g1⟩
  have O1 := hid o1
  have G1 := hid (G0.out.trans g1)
  clear o1 g1
  unfold withCode
  go_wp2_with fail
  go_ret2
  exact ⟨v, rfl, O1.out, G1.out⟩
theorem news_own {w : World} {lo hi g n cap : Nat} {xs : List Int} {T : TypeId} (h : Own .i64 T w lo hi (.slice (some ⟨g, 0, none⟩) n cap) xs) : ∀ j u, (xs.map (Value.int .i64))[j]? = some u → w.cell? ((⟨g, 0, none⟩ : Addr).add j) = some u := by
  intro j u hu
  have hj : j < xs.length := by simpa using (List.getElem?_eq_some_iff.1 hu).1
  obtain ⟨g', e, -, hc, -⟩ := h.at_ hj
  cases e
  rw [Addr.add_mid, Nat.zero_add, hc, ← hu]
  simp [List.getD, List.getElem?_eq_getElem hj]
set_option maxRecDepth 100000 in
set_option maxHeartbeats 2000000 in
theorem spec_WayToShip_law (a : Option Addr) (n cap : Nat) (xs : List Int) (hl : xs.length = n * 3) (hn : n ≤ 1048576) (hf : Fits .i8 xs) (s : Int) (_vs : (Lit.int .i64 s).wf = true) (w : World) (hs : CellsOf w a (xs.map (Value.int .i8))) :
    Calls Tryd.prog 34 #[.slice a n cap, .int .i64 s] w (RetOwn .i64 2 (withCode (wayC n xs s)) (wayV n xs s) w) := by
  have HO := hid (l06Asked_any a n cap xs hl hn hf s w (sliceOf_cells hs))
  by_cases hc : askC n xs s = 0
  · obtain ⟨hv, hr⟩ : lineB n xs = true ∧ rgV s 0 ((n : Int) - 1) = true := by
      unfold askC at hc
      split at hc
      · rename_i h1
        split at hc
        · rename_i h2; exact ⟨h1, h2⟩
        · simp at hc
      · simp at hc
    rw [hc] at HO
    obtain ⟨sn, rfl⟩ : ∃ sn : Nat, s = (sn : Int) := ⟨s.toNat, by have := rgV_iff.1 hr; omega⟩
    have hsn : sn < n := by have := rgV_iff.1 hr; omega
    obtain ⟨i0, hi, hz0, hz1, hz2⟩ := info_parts info64
    have HT := hid (fun V (g : Gr w V) => l06Times_any a n cap xs hl hv (-1) 0 (by omega) V ((sliceOf_cells hs).gr g))
    rw [moreR_none] at HT
    change Hid (∀ V, Gr w V → Calls _ _ _ V (RetV _ _ _ _ (tmCells (timesL n xs)) V)) at HT
    have hlen : (timesL n xs).length = n := timesTo_length _ _ _ _
    obtain ⟨h0, h20⟩ := (lineOk_of hv).1
    have hok : TsOk (timesL n xs) := timesTo_ok (lineOk_line hv) n (Nat.le_refl _)
    have hV : wayV n xs sn = if decide (0 ≤ (tmAt (timesL n xs) sn).l) = true then (wayR (timesL n xs) n sn).reverse else [] := by
      unfold wayV wayB; rw [hv, hr, Int.toNat_natCast]; rfl
    have hC : wayC n xs sn = if decide (0 ≤ (tmAt (timesL n xs) sn).l) = true then 0 else 6 := by
      unfold wayC wayB; rw [hv, hr, Int.toNat_natCast]; rfl
    generalize timesL n xs = ts at *
    obtain ⟨l, hl⟩ : ∃ l, l = (tmAt ts sn).l := ⟨_, rfl⟩
    rw [← hl] at hV hC
    have HLQ := hid hl
    clear hl
    have HQ1 := hid (fun h : 0 ≤ l => hV.trans (by rw [decide_eq_true h, if_pos rfl]))
    have HQ2 := hid (fun h : 0 ≤ l => hC.trans (by rw [decide_eq_true h, if_pos rfl]))
    have HQ3 := hid (fun h : ¬ 0 ≤ l => hV.trans (by rw [decide_eq_false h, if_neg (by simp)]))
    have HQ4 := hid (fun h : ¬ 0 ≤ l => hC.trans (by rw [decide_eq_false h, if_neg (by simp)]))
    have HA := hid (fun V b (h : CellsOf V b (tmCells ts)) k (hk : k < n) => tm_at (i := k) h (by omega))
    have HST := hid (WayI.start (ts := ts) (n := n) (s := (sn : Int)) ⟨by omega, by omega⟩)
    have HFL := hid (fun k (hk : k < n) => tsOk_lt hok k (by omega))
    have HSTEP := hid (fun m z p (h : WayI ts n sn m z p) (hz : ¬ z < 0) => h.step hlen.symm hok (by omega))
    have hb0 : (0 : Int) ≤ sn := by omega
    have hb1 : (sn : Int) < n := by omega
    have HL := hid hlen
    clear hs hl hf hv hr hc hlen hok hV hC
    go_enter Tryd.func34, Tryd.ntmps34
    go_wp2_with fail
    refine HO.out.mono ?_
    rintro e w1 ⟨rfl, g1⟩
    have G1 := hid g1
    clear g1
    go_wp2_with fail
    refine (HT.out _ G1.out).mono ?_
    rintro e w2 ⟨v, rfl, o2, g2⟩
    obtain ⟨av, cv, rfl⟩ := o2.shape
    have O2 := hid o2.reads
    have G2 := hid (G1.out.trans g2)
    clear o2 g2
    obtain ⟨b0, o0, rfl, -, -, -, p3⟩ := HA.out w2 av O2.out sn hsn
    replace HA := hid (fun V (g : Gr w2 V) k (hk : k < n) => (tm_at' (O2.out.gr g) (i := k) (by rw [HL.out]; exact hk)).1)
    rw [← HLQ.out] at p3
    unfold id
    by_cases hl0 : 0 ≤ l
    · have HV0 := hid (HQ1.out hl0)
      have HC0 := hid (HQ2.out hl0)
      have hl1 : ¬ l < 0 := by omega
      go_wp2_with fail
      go_loopw [8, 9] (fun v i wr => ∃ (m : Nat) (z : Int) (p : List Int) (g c : Nat), i = .int .i64 z ∧ v = .slice (some ⟨g, 0, none⟩) p.length c ∧ Hid (WayI ts n sn m z p) ∧ Hid (Own .i64 2 wr w.heap.size wr.heap.size (.slice (some ⟨g, 0, none⟩) p.length c) p.reverse) ∧ Hid (Gr w2 wr)) (fun _ i _ => (intOf i + 1).toNat)
      case atStart => exact ⟨n, sn, [], _, _, rfl, rfl, HST, hid ((Own.ofBlock (k := .i64) (e := 2) (xs := []) (heap_new (w := w2) (o := .cells #[] 2) rfl) (by unfold maxLen; simp)).widen G2.out.size (by simp)), hid ((Gr.refl _).alloc _)⟩
      case round =>
        clear HST
        obtain ⟨m, z, p, g, c, rfl, rfl, I, O, G⟩ := hrel
        have hlen := I.out.len
        have hzA := I.out.1
        by_cases hz : z < 0
        · have HD := hid (I.out.done hz)
          have hz' : ¬ 0 ≤ z := by omega
          go_wp2_with fail
          go_ret2
          exact ⟨_, by rw [HC0.out]; rfl, by rw [HV0.out, ← HD.out]; exact O.out, G2.out.trans G.out⟩
        · obtain ⟨m', rfl, I2⟩ := HSTEP.out m z p I.out (by omega)
          obtain ⟨zn, rfl⟩ : ∃ zn : Nat, z = (zn : Int) := ⟨z.toNat, by omega⟩
          have hzn : zn < n := by have := I.out.2.1; omega
          rw [Int.toNat_natCast] at I2
          have II := hid I2
          have HDEC := hid (HFL.out zn hzn)
          have FA := hid (fun V (g : Gr w2 V) => HA.out V g zn hzn)
          generalize (tmAt ts zn).f = f at *
          have hf1 := II.out.1
          have hb2 : (zn : Int) < n := by omega
          have hb3 : (0 : Int) ≤ zn := by omega
          have hwf : IntKind.i64.wrap f = f := IntWalk.i64_in _ (by have := II.out.2.1; omega)
          have OB := hid ((Own.ofBlock (k := .i64) (e := 2) (xs := [(zn : Int)]) (heap_new (w := wr) (o := .cells (kCells .i64 [(zn : Int)]) 2) rfl) (by unfold maxLen; simp)).widen (lo' := wr.heap.size) (hi' := wr.heap.size + 1) (Nat.le_refl _) (Nat.le_refl _))
          have NW := hid (news_own (O.out.gr ((Gr.refl wr).alloc (.cells (kCells .i64 [(zn : Int)]) 2))))
          have hsg := G2.out.size
          have hsg2 := G.out.size
          clear I2 I hz
          go_wp2_with (at_builtin; refine wpList_append_own _ rfl _ _ 40 rfl wr.heap.size 2 i0 (.int .i64 0) 1 8 Tryd.underlying40 hi hz0 hz1 hz2 rfl (by decide) _ _ _ rfl OB.out.row ⟨g, 0, none⟩ p.length c (p.reverse.map (Value.int .i64)) rfl (by simp) NW.out (by simp [Value.oneCell']) (by unfold maxLen; simp; omega) (by simp; omega) (by simp) ?_; intro v2 w5 hown2 hgrow2 _; have cf := FA.out w5 ((G.out.alloc (.cells (kCells .i64 [(zn : Int)]) 2)).by_ hgrow2 (fun b e => by have := (OB.out.row.lt b e).1; omega)))
          have G5 := hid ((G.out.alloc (.cells (kCells .i64 [(zn : Int)]) 2)).by_ hgrow2 (fun b e => by have := (OB.out.row.lt b e).1; omega))
          have O5 := hid (show Own .i64 2 w5 wr.heap.size w5.heap.size v2 (p ++ [(zn : Int)]).reverse from Own.ofRow hown2 (by simp) (by simp; omega))
          obtain ⟨a5, c5, rfl⟩ := O5.out.shape
          obtain ⟨g5, rfl, -, -, -⟩ := O5.out.at_ (i := 0) (by simp)
          have O6 := hid (O5.out.widen (lo' := w.heap.size) (by omega) (Nat.le_refl _))
          have HM := hid (show (f + 1).toNat < ((zn : Int) + 1).toNat by have := HDEC.out; omega)
          clear hown2 hgrow2 O5
          go_wp2_with fail
          go_roundw
          case rel => exact ⟨m', f, p ++ [(zn : Int)], g5, c5, rfl, by rw [List.length_reverse], II, hid (by have h := O6.out; rw [List.length_reverse] at h; exact h), G5⟩
          case measure => exact HM.out
    · have HV0 := hid (HQ3.out (by omega))
      have HC0 := hid (HQ4.out (by omega))
      have hl1 : l < 0 := by omega
      go_wp2_with fail
      go_ret2
      exact ⟨_, by rw [HC0.out]; rfl, by rw [HV0.out]; exact (Own.ofBlock (k := .i64) (e := 2) (xs := []) (heap_new (w := w2) (o := .cells #[] 2) rfl) (by unfold maxLen; simp)).widen G2.out.size (by simp), G2.out.alloc _⟩
  · have hV : wayV n xs s = [] := by
      unfold wayV
      unfold askC at hc
      split
      · rename_i h1
        rw [if_pos h1] at hc
        split
        · rename_i h2; rw [if_pos h2] at hc; simp at hc
        · rfl
      · rfl
    have hC : wayC n xs s = askC n xs s := by
      unfold wayC
      unfold askC at hc ⊢
      split
      · rename_i h1
        rw [if_pos h1] at hc
        split
        · rename_i h2; rw [if_pos h2] at hc; simp at hc
        · rfl
      · rfl
    rw [hV, hC]
    generalize askC n xs s = q at *
    have hq : (q == 0) = false := by simpa using hc
    clear hs hl hf hV hC
    go_enter Tryd.func34, Tryd.ntmps34
    go_wp2_with fail
    refine HO.out.mono ?_
    rintro e w1 ⟨rfl, g1⟩
    have G1 := hid g1
    clear g1
    unfold withCode
    go_wp2_with fail
    go_ret2
    exact ⟨_, rfl, (Own.ofBlock (k := .i64) (e := 2) (xs := []) (heap_new (w := w1) (o := .cells #[] 2) rfl) (by unfold maxLen; simp)).widen G1.out.size (by simp), G1.out.alloc _⟩
end Go.Proofs.YtflbjjcpkhldkaaDoor
