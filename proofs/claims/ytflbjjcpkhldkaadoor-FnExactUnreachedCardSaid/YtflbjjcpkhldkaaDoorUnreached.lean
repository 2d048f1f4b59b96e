/- Unreached: the functions. -/
import Derived.Test.YtflbjjcpkhldkaaDoorWhere
namespace Go.Proofs.YtflbjjcpkhldkaaDoor
set_option linter.unusedVariables false
open Go.RowKit
set_option maxRecDepth 100000 in
theorem unreachedAt_any (a : Option Addr) (n c : Nat) (ts : List Tm) (hl : n = ts.length) (hm : n ≤ 20) (ht : TsOk ts) (k : Nat) (hk : k < n) (lp : Addr) (w : World) (hnv : NeverAt w) (hc : w.cell? lp = some (.slice a n c)) (ha : CellsOf w a (tmCells ts)) :
    Calls Tryd.prog 64 (#[.int .i64 k] ++ #[.pointer (some lp)]) w fun e w' => e = .returned (.bool (unrB ts k)) ∧ Gr w w' := by
  have hkl : k < ts.length := by omega
  obtain ⟨b0, o0, rfl, p0, p1, p2, p3⟩ := tm_at ha hkl
  have HE := hid (show unrB ts k = !decide (0 ≤ (tmAt ts k).l) by
    unfold unrB
    by_cases h : (tmAt ts k).l < 0
    · rw [decide_eq_true h, decide_eq_false (by omega)]; rfl
    · rw [decide_eq_false h, decide_eq_true (by omega)]; rfl)
  have HI := hid (isReached_any k (tmAt ts k) (ht k hkl) rfl w hnv)
  rw [HE.out]
  generalize decide (0 ≤ (tmAt ts k).l) = q at *
  generalize (tmAt ts k).f = x0 at *
  generalize (tmAt ts k).s = x1 at *
  generalize (tmAt ts k).c = x2 at *
  generalize (tmAt ts k).l = x3 at *
  have hb0 : (0 : Int) ≤ k := by omega
  have hb1 : (k : Int) < n := by omega
  clear ha hl ht hkl HE
  go_enter Tryd.func64, Tryd.ntmps64
  go_wp2_with fail
  refine HI.out.mono ?_
  rintro e w1 ⟨rfl, g1⟩
  have G1 := hid g1
  clear g1
  go_wp2_with fail
  go_ret
  exact ⟨rfl, G1.out⟩

set_option maxRecDepth 100000 in
theorem unrTell_any (a : Option Addr) (n c : Nat) (ts : List Tm) (hl : n = ts.length) (hm : n ≤ 20) (ht : TsOk ts) (w : World) (hnv : NeverAt w) (ha : CellsOf w a (tmCells ts)) :
    Calls Tryd.prog 62 (#[.slice a n c] ++ #[]) w (RetOwn .i64 2 (fun u => .tuple #[u, .nilIface]) (whereL (unrB ts) n) w) := by
  have hmf : ∀ (fn : Fn) (first cap : Array Value) (w : World), (Instr.makeFunc fn first cap).run Tryd.prog w = .ok (.func fn first cap) w := fun _ _ _ _ => rfl
  have g0 := (Gr.refl w).alloc (.cells #[.slice a n c] 24)
  have G0 := hid g0
  have hc0 : (w.alloc (.cells #[.slice a n c] 24)).cell? ⟨w.heap.size, 0, none⟩ = some (.slice a n c) := by
    rw [cell_of_row _ _ _ _ _ _ (heap_new (w := w) (o := .cells #[.slice a n c] 24) rfl)]; rfl
  have HS := hid (indicesWhere_any a n c hm (unrB ts) 64 #[.pointer (some ⟨w.heap.size, 0, none⟩)] (w.alloc (.cells #[.slice a n c] 24)) (fun args w => callFunc_enter Tryd.func64 (by kernel_rfl) (by kernel_rfl) args w)
    (fun V k g hk => unreachedAt_any a n c ts hl hm ht k hk _ V (hnv.gr (g0.trans g)) (g.cell hc0) (ha.gr (g0.trans g))))
  generalize whereL (unrB ts) n = ys at *
  clear hl ht hnv ha g0
  go_enter Tryd.func62, Tryd.ntmps62
  go_wp2_with fail
  refine HS.out.mono ?_
  rintro e w1 ⟨u, rfl, o1, g1⟩
  have O1 := hid o1
  have G1 := hid (G0.out.trans g1)
  clear o1 g1
  unfold id
  go_wp2_with fail
  go_ret2
  exact ⟨u, rfl, O1.out.widen (by simp) (Nat.le_refl _), G1.out⟩

def unrV (n : Nat) (xs : List Int) : List Int := if lineB n xs = true then whereL (unrB (timesL n xs)) n else []
theorem unrV_length (n : Nat) (xs : List Int) : (unrV n xs).length ≤ 1048576 := by
  unfold unrV
  split
  · rename_i h
    have := (lineOk_of h).1
    have := whereL_length (unrB (timesL n xs)) n
    omega
  · simp

set_option maxRecDepth 100000 in
theorem impl_Unreached_law (a : Option Addr) (n cap : Nat) (xs : List Int) (hl : xs.length = n * 3) (hn : n ≤ 1048576) (hf : Fits .i8 xs) (w : World) (hnv : NeverAt w) (hs : CellsOf w a (xs.map (Value.int .i8))) :
    Calls Tryd.prog 28 #[.slice a n cap] w (RetOwn .i64 2 (withCode (lineC n xs)) (unrV n xs) w) := by
  cases hv : lineB n xs with
  | false =>
    have HA := hid (ans_Ints_no a n cap xs hl hn hf hv 62 #[] w (sliceOf_cells hs))
    rw [show unrV n xs = [] by unfold unrV; rw [hv]; rfl, show lineC n xs = 1 by unfold lineC; rw [hv]; rfl]
    clear hs hl hf hnv
    go_enter Tryd.func28, Tryd.ntmps28
    go_wp2_with fail
    refine HA.out.mono ?_
    rintro e w1 ⟨rfl, g1⟩
    have G1 := hid g1
    clear g1
    go_wp2_with fail
    go_ret2
    exact ⟨_, rfl, Own.nil _ _ _, G1.out⟩
  | true =>
    have hlen : (timesL n xs).length = n := timesTo_length _ _ _ _
    have h20 := (lineOk_of hv).1.2
    have hok : TsOk (timesL n xs) := timesTo_ok (lineOk_line hv) n (Nat.le_refl _)
    obtain ⟨ys, hys⟩ : ∃ ys, ys = unrV n xs := ⟨_, rfl⟩
    have HA := hid (ans_Ints_ok a n cap xs hl hn hf hv 62 #[] (StI .i64 2 ys) w hnv (sliceOf_cells hs) (fun args w => callFunc_enter Tryd.func62 (by kernel_rfl) (by kernel_rfl) args w) stI_stays
      (fun W V av cv gW gV o => by
        have hT := unrTell_any av n cv (timesL n xs) hlen.symm h20 hok V (hnv.gr (gW.trans gV)) o.reads
        rw [show unrV n xs = whereL (unrB (timesL n xs)) n by unfold unrV; rw [hv]; rfl] at hys
        rw [← hys] at hT
        refine hT.mono ?_
        rintro e w' ⟨u, rfl, o, g⟩
        exact ⟨u, rfl, ⟨_, Nat.le_refl _, o.widen gV.size (Nat.le_refl _)⟩, g⟩))
    rw [← hys, show lineC n xs = 0 by unfold lineC; rw [hv]; rfl]
    clear hs hl hf hnv hlen hok h20 hys
    go_enter Tryd.func28, Tryd.ntmps28
    go_wp2_with fail
    refine HA.out.mono ?_
    rintro e w1 ⟨W, v, rfl, ⟨hi, hh, o1⟩, gW, g1⟩
    have O1 := hid (o1.widen gW.size hh)
    have G1 := hid g1
    clear o1 g1 gW hh
    unfold withCode
    go_wp2_with fail
    go_ret2
    exact ⟨v, rfl, O1.out, G1.out⟩
set_option maxRecDepth 100000 in
set_option maxHeartbeats 1000000 in
theorem spec_Unreached_law (a : Option Addr) (n cap : Nat) (xs : List Int) (hl : xs.length = n * 3) (hn : n ≤ 1048576) (hf : Fits .i8 xs) (w : World) (hs : CellsOf w a (xs.map (Value.int .i8))) :
    Calls Tryd.prog 27 #[.slice a n cap] w (RetOwn .i64 2 (withCode (lineC n xs)) (unrV n xs) w) := by
  obtain ⟨i0, hi, hz0, hz1, hz2⟩ := info_parts info64
  have HO := hid (l06Ok_any a n cap xs hl hn hf w (sliceOf_cells hs))
  cases hv : lineB n xs with
  | false =>
    rw [hv] at HO
    rw [show unrV n xs = [] by unfold unrV; rw [hv]; rfl, show lineC n xs = 1 by unfold lineC; rw [hv]; rfl]
    clear hs hl hf hi hz0 hz1 hz2
    go_enter Tryd.func27, Tryd.ntmps27
    go_wp2_with fail
    refine HO.out.mono ?_
    rintro e w1 ⟨rfl, g1⟩
    have G1 := hid g1
    clear g1
    go_wp2_with fail
    go_ret2
    exact ⟨_, rfl, (Own.ofBlock (k := .i64) (e := 2) (xs := []) (b := w1.heap.size) (heap_new (w := w1) (o := .cells #[] 2) rfl) (by unfold maxLen; simp)).widen G1.out.size (by simp), G1.out.alloc _⟩
  | true =>
    have HT := hid (fun V (g : Gr w V) => l06Times_any a n cap xs hl hv (-1) 0 (by omega) V ((sliceOf_cells hs).gr g))
    rw [hv] at HO
    rw [moreR_none] at HT
    have hlen : (timesL n xs).length = n := timesTo_length _ _ _ _
    have h20 := (lineOk_of hv).1.2
    change Hid (∀ V, Gr w V → Calls _ _ _ V (RetV _ _ _ _ (tmCells (timesL n xs)) V)) at HT
    rw [show unrV n xs = whereL (unrB (timesL n xs)) n by unfold unrV; rw [hv]; rfl, show lineC n xs = 0 by unfold lineC; rw [hv]; rfl]
    generalize timesL n xs = ts at *
    have HL := hid hlen
    have HU := hid (show ∀ k, unrB ts k = decide ((tmAt ts k).l < 0) from fun _ => rfl)
    generalize hub : unrB ts = ub at *
    clear hs hl hf hlen hub hv
    go_enter Tryd.func27, Tryd.ntmps27
    go_wp2_with fail
    refine HO.out.mono ?_
    rintro e w1 ⟨rfl, g1⟩
    have G1 := hid g1
    clear g1
    go_wp2_with fail
    refine (HT.out _ G1.out).mono ?_
    rintro e w2 ⟨v, rfl, o2, g2⟩
    obtain ⟨av, cv, rfl⟩ := o2.shape
    have R2 := hid o2.reads
    have G2 := hid (G1.out.trans g2)
    clear o2 g2
    unfold id
    have OI := hid ((Own.ofBlock (k := .i64) (e := 2) (xs := []) (b := w2.heap.size) (heap_new (w := w2) (o := .cells #[] 2) rfl) (by unfold maxLen; simp)).widen (lo' := w2.heap.size) (hi' := (w2.alloc (.cells #[] 2)).heap.size) (Nat.le_refl _) (by simp))
    have gI := hid ((Gr.refl w2).alloc (.cells #[] 2))
    go_wp2_with fail
    go_loopw [5, 6] (fun v i wr => ∃ k : Nat, k ≤ n ∧ i = .int .i64 k ∧ Hid (Own .i64 2 wr w2.heap.size wr.heap.size v (whereL ub k)) ∧ Hid (Gr w2 wr)) (fun _ i _ => n - (intOf i).toNat)
    case atStart => exact ⟨0, Nat.zero_le _, rfl, OI, gI⟩
    case round =>
      clear OI gI
      obtain ⟨k, hk, rfl, O, Gk⟩ := hrel
      obtain ⟨a5, c5, rfl⟩ := O.out.shape
      by_cases hlt : k < n
      · obtain ⟨b0, o0, rfl, p0, p1, p2, p3⟩ := tm_at (R2.out.gr Gk.out) (i := k) (by rw [HL.out]; exact hlt)
        have HLE := hid (whereL_length ub k)
        have HUk := hid (HU.out k)
        clear p0 p1 p2
        generalize (tmAt ts k).l = l at *
        have hb0 : (0 : Int) ≤ k := by omega
        have hb1 : (k : Int) < n := by omega
        by_cases hq : l < 0
        · have HW := hid (HUk.out.trans (decide_eq_true hq))
          have hle := HLE.out
          go_wp2_with (at_builtin; refine wpList_append_own _ rfl _ _ 40 rfl w2.heap.size 2 i0 (.int .i64 0) 1 8 Tryd.underlying40 hi hz0 hz1 hz2 rfl (by decide) _ _ _ rfl (O.out.row.alloc _) ⟨wr.heap.size, 0, none⟩ 1 1 [.int .i64 (k : Int)] rfl rfl (news_one (heap_new rfl)) (by simp [Value.oneCell']) (by unfold maxLen; omega) (by omega) (by have := Gk.out.size; simp; omega) ?_; intro v2 w3 hown2 hgrow2 _)
          have G3 := hid ((Gk.out.alloc _).by_ hgrow2 (fun b e => (O.out.row.lt b e).1))
          have O3 := hid (own_where HW.out hown2)
          clear hown2 hgrow2 hle
          go_wp2_with fail
          go_roundw
          case rel => exact ⟨k + 1, by omega, by go_num, O3, G3⟩
          case measure => simp [intOf] <;> omega
        · have HW := hid (whereL_no (HUk.out.trans (decide_eq_false hq)))
          go_wp2_with fail
          go_roundw
          case rel => exact ⟨k + 1, by omega, by go_num, hid (by rw [HW.out]; exact O.out), Gk⟩
          case measure => simp [intOf] <;> omega
      · obtain rfl : k = n := by omega
        go_wp2_with fail
        go_ret2
        exact ⟨_, rfl, O.out.widen G2.out.size (Nat.le_refl _), G2.out.trans Gk.out⟩
end Go.Proofs.YtflbjjcpkhldkaaDoor
