/- LastDown: the functions. -/
import Derived.Test.YtflbjjcpkhldkaaDoorHauledDown
import Derived.Test.YtflbjjcpkhldkaaDoorReplyInt
namespace Go.Proofs.YtflbjjcpkhldkaaDoor
set_option linter.unusedVariables false
open Go.RowKit
def lastV (n : Nat) (xs : List Int) : Int := if lineB n xs = true then maxTo (downTo (timesL n xs) n) n else 0
theorem maxTo_succ (ys : List Int) (k : Nat) : maxTo ys (k + 1) = max (maxTo ys k) (ys.getD k 0) := rfl
theorem maxTo_one (ys : List Int) : maxTo ys 1 = ys.getD 0 0 := by rw [maxTo_succ]; show max (ys.getD 0 0) _ = _; omega
set_option maxRecDepth 100000 in
set_option maxHeartbeats 1000000 in
theorem slicesMax_any (a : Option Addr) (n c : Nat) (ys : List Int) (hl : n = ys.length) (h0 : 1 ≤ n) (hn : n ≤ 1048576) (w : World) (hs : SliceOf .i64 w a ys) :
    Calls Tryd.prog 80 #[.slice a n c] w fun e w' => e = .returned (.int .i64 (maxTo ys n)) ∧ w = w' := by
  obtain ⟨b0, o0, rfl, c0⟩ := hs 0 (by omega)
  have HA := hid (fun k (hk : k < n) => show w.cell? ⟨b0, o0 + k, none⟩ = some (.int .i64 (ys.getD k 0)) by
    obtain ⟨b, o, e, h⟩ := hs k (by omega); cases e; exact h)
  have H1 := hid (maxTo_one ys)
  have HS := hid (maxTo_succ ys)
  have h1 : ¬ (n : Int) < 1 := by omega
  rw [← H1.out] at c0
  simp only [Nat.add_zero] at c0
  have h2 : (0 : Int) < n := by omega
  clear hs hl
  go_enter Tryd.func80, Tryd.ntmps80
  go_wp2_with fail
  go_loopw [3, 4] (fun m i wr => ∃ k : Nat, 1 ≤ k ∧ k ≤ n ∧ i = .int .i64 k ∧ m = .int .i64 (maxTo ys k) ∧ wr = w) (fun _ i _ => n - (intOf i).toNat)
  case atStart => exact ⟨1, Nat.le_refl _, h0, rfl, rfl, rfl⟩
  case round =>
    obtain ⟨k, hk1, hk, rfl, rfl, rfl⟩ := hrel
    by_cases hlt : k < n
    · have ck := HA.out k hlt
      have hs := HS.out k
      have hb1 : (k : Int) < n := by omega
      obtain ⟨m, hm⟩ : ∃ m, m = maxTo ys k := ⟨_, rfl⟩
      rw [← hm] at hs ⊢
      generalize ys.getD k 0 = y at *
      have HSK := hid hs
      clear hs hm c0
      by_cases hmy : m < y
      · have HX := hid (HSK.out.trans (show max m y = y by omega))
        go_wp2_with fail
        go_roundw
        case rel => exact ⟨k + 1, by omega, by omega, by go_num, by rw [HX.out], by first | rfl | trivial⟩
        case measure => simp [intOf] <;> omega
      · have HX := hid (HSK.out.trans (show max m y = m by omega))
        go_wp2_with fail
        go_roundw
        case rel => exact ⟨k + 1, by omega, by omega, by go_num, by rw [HX.out], by first | rfl | trivial⟩
        case measure => simp [intOf] <;> omega
    · obtain rfl : k = n := by omega
      go_wp2_with fail
      go_ret
      exact ⟨rfl, rfl⟩
set_option maxRecDepth 100000 in
theorem lastTell_any (a : Option Addr) (n c : Nat) (ts : List Tm) (hl : n = ts.length) (h0 : 1 ≤ n) (h20 : n ≤ 20) (hok : TsOk ts) (hfr : TsFrom ts) (hc0 : (tmAt ts 0).c = 0) (V : World) (lo hi : Nat) (hnv : NeverAt V) (o : OwnV 69 4 V lo hi (.slice a n c) n (tmCells ts)) :
    Calls Tryd.prog 79 (#[.slice a n c] ++ #[]) V fun e w' => e = .returned (.tuple #[.int .i64 (maxTo (downTo ts n) n), .nilIface]) ∧ Gr V w' := by
  have HD := hid (downTimes_any a n c o.cap_le.1 o.cap_le.2 ts hl h0 h20 hok hfr hc0 V hnv o.reads)
  have hdl := downTo_length ts n
  generalize downTo ts n = ys at *
  have HM := hid (fun b cb W hs => slicesMax_any b n cb ys hdl.symm h0 (by omega) W hs)
  have HL := hid hdl
  clear hl hok hfr hc0 hnv o hdl
  go_enter Tryd.func79, Tryd.ntmps79
  go_wp2_with fail
  refine HD.out.mono ?_
  rintro e w1 ⟨u, rfl, o1, g1⟩
  obtain ⟨av, cv, rfl⟩ := o1.shape
  have hr := o1.reads
  have G1 := hid g1
  rw [HL.out]
  have HMc := hid (HM.out av cv w1 hr)
  clear o1 g1 hr
  unfold id
  go_wp2_with fail
  refine HMc.out.mono ?_
  rintro e w2 ⟨rfl, rfl⟩
  go_wp2_with fail
  go_ret2
  exact ⟨rfl, G1.out⟩
set_option maxRecDepth 100000 in
theorem impl_LastDown_law (a : Option Addr) (n cap : Nat) (xs : List Int) (hl : xs.length = n * 3) (hn : n ≤ 1048576) (hf : Fits .i8 xs) (w : World) (hnv : NeverAt w) (hs : CellsOf w a (xs.map (Value.int .i8))) :
    Calls Tryd.prog 39 #[.slice a n cap] w fun e w' => e = .returned (.tuple #[.int .i64 (lastV n xs), .int .i64 (lineC n xs)]) ∧ Gr w w' := by
  cases hv : lineB n xs with
  | false =>
    have HA := hid (ans_Int_no a n cap xs hl hn hf hv 79 #[] w (sliceOf_cells hs))
    rw [show lastV n xs = 0 by unfold lastV; rw [hv]; rfl, show lineC n xs = 1 by unfold lineC; rw [hv]; rfl]
    clear hs hl hf hnv
    go_enter Tryd.func39, Tryd.ntmps39
    go_wp2_with fail
    refine HA.out.mono ?_
    rintro e w1 ⟨rfl, g1⟩
    have G1 := hid g1
    clear g1
    go_wp2_with fail
    go_ret2
    exact ⟨rfl, G1.out⟩
  | true =>
    have hlen : (timesL n xs).length = n := timesTo_length _ _ _ _
    obtain ⟨h0, h20⟩ := (lineOk_of hv).1
    have hok : TsOk (timesL n xs) := timesTo_ok (lineOk_line hv) n (Nat.le_refl _)
    have HA := hid (ans_Int_ok a n cap xs hl hn hf hv 79 #[] (fun _ v _ => v = .int .i64 (lastV n xs)) w hnv (sliceOf_cells hs) (fun args w => callFunc_enter Tryd.func79 (by kernel_rfl) (by kernel_rfl) args w) (fun _ _ _ _ _ _ _ h => h)
      (fun W V av cv gW gV o => (lastTell_any av n cv (timesL n xs) hlen.symm h0 h20 hok (timesTo_from _ _ _ _) (timesL_c0 h0) V _ _ (hnv.gr (gW.trans gV)) o).mono (by rintro e w' ⟨rfl, g⟩; exact ⟨_, rfl, by unfold lastV; rw [hv]; rfl, g⟩)))
    rw [show lineC n xs = 0 by unfold lineC; rw [hv]; rfl]
    generalize lastV n xs = q at *
    clear hs hl hf hnv hlen hok h20
    go_enter Tryd.func39, Tryd.ntmps39
    go_wp2_with fail
    refine HA.out.mono ?_
    rintro e w1 ⟨W, v, rfl, rfl, -, g1⟩
    have G1 := hid g1
    clear g1
    go_wp2_with fail
    go_ret2
    exact ⟨rfl, G1.out⟩
set_option maxRecDepth 100000 in
set_option maxHeartbeats 1000000 in
theorem spec_LastDown_law (a : Option Addr) (n cap : Nat) (xs : List Int) (hl : xs.length = n * 3) (hn : n ≤ 1048576) (hf : Fits .i8 xs) (w : World) (hs : CellsOf w a (xs.map (Value.int .i8))) :
    Calls Tryd.prog 38 #[.slice a n cap] w fun e w' => e = .returned (.tuple #[.int .i64 (lastV n xs), .int .i64 (lineC n xs)]) ∧ Gr w w' := by
  have HO := hid (l06Ok_any a n cap xs hl hn hf w (sliceOf_cells hs))
  cases hv : lineB n xs with
  | false =>
    rw [hv] at HO
    rw [show lastV n xs = 0 by unfold lastV; rw [hv]; rfl, show lineC n xs = 1 by unfold lineC; rw [hv]; rfl]
    clear hs hl hf
    go_enter Tryd.func38, Tryd.ntmps38
    go_wp2_with fail
    refine HO.out.mono ?_
    rintro e w1 ⟨rfl, g1⟩
    have G1 := hid g1
    clear g1
    go_wp2_with fail
    go_ret2
    exact ⟨rfl, G1.out⟩
  | true =>
    have HT := hid (fun V (g : Gr w V) => l06Down_any a n cap xs hl hv V ((sliceOf_cells hs).gr g))
    rw [hv] at HO
    obtain ⟨h0, h20⟩ := (lineOk_of hv).1
    rw [show lastV n xs = maxTo (downTo (timesL n xs) n) n by unfold lastV; rw [hv]; rfl, show lineC n xs = 0 by unfold lineC; rw [hv]; rfl]
    have hdl := downTo_length (timesL n xs) n
    generalize downTo (timesL n xs) n = ys at *
    have HL := hid hdl
    have HMX := hid l00Max_q
    have H1 := hid (maxTo_one ys)
    have HS := hid (maxTo_succ ys)
    clear hs hl hf hdl
    go_enter Tryd.func38, Tryd.ntmps38
    go_wp2_with fail
    refine HO.out.mono ?_
    rintro e w1 ⟨rfl, g1⟩
    have G1 := hid g1
    clear g1
    go_wp2_with fail
    refine (HT.out _ G1.out).mono ?_
    rintro e w2 ⟨v, rfl, o2, g2⟩
    obtain ⟨av, cv, rfl⟩ := o2.shape
    have hr := o2.reads
    have G2 := hid (G1.out.trans g2)
    rw [HL.out]
    obtain ⟨b0, off, rfl, c0⟩ := hr 0 (by rw [HL.out]; omega)
    have HA := hid (fun k (hk : k < n) => show w2.cell? ⟨b0, off + k, none⟩ = some (.int .i64 (ys.getD k 0)) by
      obtain ⟨b, o, e, h⟩ := hr k (by rw [HL.out]; omega); cases e; exact h)
    rw [← H1.out] at c0
    simp only [Nat.add_zero] at c0
    have h2 : (0 : Int) < n := by omega
    clear o2 g2 hr
    unfold id
    go_wp2_with fail
    go_loopw [5, 6] (fun m i wr => ∃ k : Nat, 1 ≤ k ∧ k ≤ n ∧ i = .int .i64 k ∧ m = .int .i64 (maxTo ys k) ∧ wr = w2) (fun _ i _ => n - (intOf i).toNat)
    case atStart => exact ⟨1, Nat.le_refl _, h0, rfl, rfl, rfl⟩
    case round =>
      obtain ⟨k, hk1, hk, rfl, rfl, rfl⟩ := hrel
      by_cases hlt : k < n
      · have ck := HA.out k hlt
        have hb1 : (k : Int) < n := by omega
        have HSK := hid (HS.out k)
        have HMc := hid (fun W => HMX.out (maxTo ys k) (ys.getD k 0) W)
        clear c0
        generalize ys.getD k 0 = y at *
        obtain ⟨m, hm⟩ : ∃ m, m = maxTo ys k := ⟨_, rfl⟩
        rw [← hm] at HSK HMc ⊢
        clear hm
        go_wp2_with fail
        refine (HMc.out _).mono ?_
        rintro e w3 ⟨rfl, rfl⟩
        go_wp2_with fail
        go_roundw
        case rel => exact ⟨k + 1, by omega, by omega, by go_num, by rw [HSK.out], by first | rfl | trivial⟩
        case measure => simp [intOf] <;> omega
      · obtain rfl : k = n := by omega
        go_wp2_with fail
        go_ret2
        exact ⟨rfl, G2.out⟩
end Go.Proofs.YtflbjjcpkhldkaaDoor
