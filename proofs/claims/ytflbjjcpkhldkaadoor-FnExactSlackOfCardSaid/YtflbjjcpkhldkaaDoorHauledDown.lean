/- HauledDown: the functions. -/
import Derived.Test.YtflbjjcpkhldkaaDoorDownI
import Derived.Test.YtflbjjcpkhldkaaDoorWhere
namespace Go.Proofs.YtflbjjcpkhldkaaDoor
set_option linter.unusedVariables false
open Go.RowKit
theorem OwnV.cap_le {e : TypeId} {sz : Nat} {w : World} {lo hi n cap : Nat} {a : Option Addr} {cs : List Value} (h : OwnV e sz w lo hi (.slice a n cap) n cs) : n ≤ cap ∧ cap ≤ maxLen := by
  rcases h.row.2 with ⟨h1, h2⟩ | ⟨g', cap', cur, h1, _, _, h4, h5, _⟩
  · cases h1; exact ⟨by omega, by unfold maxLen; omega⟩
  · cases h1; exact ⟨h4, h5⟩
def downV (n : Nat) (xs : List Int) : List Int := if lineB n xs = true then downTo (timesL n xs) n else []
theorem downV_length (n : Nat) (xs : List Int) : (downV n xs).length ≤ 1048576 := by
  unfold downV
  split
  · rename_i h
    have := (lineOk_of h).1
    rw [downTo_length]
    omega
  · simp
set_option maxRecDepth 100000 in
theorem downTell_any (a : Option Addr) (n c : Nat) (ts : List Tm) (hl : n = ts.length) (h0 : 1 ≤ n) (h20 : n ≤ 20) (hok : TsOk ts) (hfr : TsFrom ts) (hc0 : (tmAt ts 0).c = 0) (V : World) (lo hi : Nat) (hnv : NeverAt V) (o : OwnV 69 4 V lo hi (.slice a n c) n (tmCells ts)) :
    Calls Tryd.prog 75 (#[.slice a n c] ++ #[]) V (RetOwn .i64 2 (fun u => .tuple #[u, .nilIface]) (downTo ts n) V) := by
  have HD := hid (downTimes_any a n c o.cap_le.1 o.cap_le.2 ts hl h0 h20 hok hfr hc0 V hnv o.reads)
  generalize downTo ts n = ys at *
  clear hl hok hfr hc0 hnv o
  go_enter Tryd.func75, Tryd.ntmps75
  go_wp2_with fail
  refine HD.out.mono ?_
  rintro e w1 ⟨u, rfl, o1, g1⟩
  have O1 := hid o1
  have G1 := hid g1
  clear o1 g1
  unfold id
  go_wp2_with fail
  go_ret2
  exact ⟨u, rfl, O1.out, G1.out⟩
set_option maxRecDepth 100000 in
theorem impl_HauledDown_law (a : Option Addr) (n cap : Nat) (xs : List Int) (hl : xs.length = n * 3) (hn : n ≤ 1048576) (hf : Fits .i8 xs) (w : World) (hnv : NeverAt w) (hs : CellsOf w a (xs.map (Value.int .i8))) :
    Calls Tryd.prog 37 #[.slice a n cap] w (RetOwn .i64 2 (withCode (lineC n xs)) (downV n xs) w) := by
  cases hv : lineB n xs with
  | false =>
    have HA := hid (ans_Ints_no a n cap xs hl hn hf hv 75 #[] w (sliceOf_cells hs))
    rw [show downV n xs = [] by unfold downV; rw [hv]; rfl, show lineC n xs = 1 by unfold lineC; rw [hv]; rfl]
    clear hs hl hf hnv
    go_enter Tryd.func37, Tryd.ntmps37
    go_wp2_with fail
    refine HA.out.mono ?_
    rintro e w1 ⟨rfl, g1⟩
    have G1 := hid g1
    clear g1
    go_wp2_with fail
    go_ret2
    exact ⟨_, rfl, Own.nil _ _ _, G1.out⟩
  | true =>
    have hlen : (timesL n xs).length = n := timesTo_length _ _ _ _
    have h20 := (lineOk_of hv).1.2
    have hok : TsOk (timesL n xs) := timesTo_ok (lineOk_line hv) n (Nat.le_refl _)
    obtain ⟨ys, hys⟩ : ∃ ys, ys = downV n xs := ⟨_, rfl⟩
    have HA := hid (ans_Ints_ok a n cap xs hl hn hf hv 75 #[] (StI .i64 2 ys) w hnv (sliceOf_cells hs) (fun args w => callFunc_enter Tryd.func75 (by kernel_rfl) (by kernel_rfl) args w) stI_stays
      (fun W V av cv gW gV o => by
        have hT := downTell_any av n cv (timesL n xs) hlen.symm (lineOk_of hv).1.1 h20 hok (timesTo_from _ _ _ _) (timesL_c0 (lineOk_of hv).1.1) V _ _ (hnv.gr (gW.trans gV)) o
        rw [show downV n xs = downTo (timesL n xs) n by unfold downV; rw [hv]; rfl] at hys
        rw [← hys] at hT
        refine hT.mono ?_
        rintro e w' ⟨u, rfl, o, g⟩
        exact ⟨u, rfl, ⟨_, Nat.le_refl _, o.widen gV.size (Nat.le_refl _)⟩, g⟩))
    rw [← hys, show lineC n xs = 0 by unfold lineC; rw [hv]; rfl]
    clear hs hl hf hnv hlen hok h20 hys
    go_enter Tryd.func37, Tryd.ntmps37
    go_wp2_with fail
    refine HA.out.mono ?_
    rintro e w1 ⟨W, v, rfl, ⟨hi, hh, o1⟩, gW, g1⟩
    have O1 := hid (o1.widen gW.size hh)
    have G1 := hid g1
    clear o1 g1 gW hh
    unfold withCode
    go_wp2_with fail
    go_ret2
    exact ⟨v, rfl, O1.out, G1.out⟩
set_option maxRecDepth 100000 in
theorem spec_HauledDown_law (a : Option Addr) (n cap : Nat) (xs : List Int) (hl : xs.length = n * 3) (hn : n ≤ 1048576) (hf : Fits .i8 xs) (w : World) (hs : CellsOf w a (xs.map (Value.int .i8))) :
    Calls Tryd.prog 36 #[.slice a n cap] w (RetOwn .i64 2 (withCode (lineC n xs)) (downV n xs) w) := by
  have HO := hid (l06Ok_any a n cap xs hl hn hf w (sliceOf_cells hs))
  cases hv : lineB n xs with
  | false =>
    rw [hv] at HO
    rw [show downV n xs = [] by unfold downV; rw [hv]; rfl, show lineC n xs = 1 by unfold lineC; rw [hv]; rfl]
    clear hs hl hf
    go_enter Tryd.func36, Tryd.ntmps36
    go_wp2_with fail
    refine HO.out.mono ?_
    rintro e w1 ⟨rfl, g1⟩
    have G1 := hid g1
    clear g1
    go_wp2_with fail
    go_ret2
    exact ⟨_, rfl, (Own.ofBlock (k := .i64) (e := 2) (xs := []) (heap_new (w := w1) (o := .cells #[] 2) rfl) (by unfold maxLen; simp)).widen G1.out.size (by simp), G1.out.alloc _⟩
  | true =>
    have HT := hid (fun V (g : Gr w V) => l06Down_any a n cap xs hl hv V ((sliceOf_cells hs).gr g))
    rw [hv] at HO
    rw [show downV n xs = downTo (timesL n xs) n by unfold downV; rw [hv]; rfl, show lineC n xs = 0 by unfold lineC; rw [hv]; rfl]
    generalize downTo (timesL n xs) n = ys at *
    clear hs hl hf
    go_enter Tryd.func36, Tryd.ntmps36
    go_wp2_with fail
    refine HO.out.mono ?_
    rintro e w1 ⟨rfl, g1⟩
    have G1 := hid g1
    clear g1
    go_wp2_with fail
    refine (HT.out _ G1.out).mono ?_
    rintro e w2 ⟨v, rfl, o2, g2⟩
    have O2 := hid (o2.widen (lo' := w.heap.size) G1.out.size (Nat.le_refl _))
    have G2 := hid (G1.out.trans g2)
    clear o2 g2
    unfold id withCode
    go_wp2_with fail
    go_ret2
    exact ⟨v, rfl, O2.out, G2.out⟩
end Go.Proofs.YtflbjjcpkhldkaaDoor
