/- The model's last ship that closes up; AllClosed. -/
import Derived.Test.YtflbjjcpkhldkaaDoorLastC
import Derived.Test.YtflbjjcpkhldkaaDoorReplyClos
namespace Go.Proofs.YtflbjjcpkhldkaaDoor
set_option linter.unusedVariables false
open Go.RowKit
theorem timesL_c0 {n : Nat} {xs : List Int} (h : 0 < n) : (tmAt (timesL n xs) 0).c = 0 := by
  unfold timesL
  induction n with
  | zero => omega
  | succ k ih =>
    rw [timesTo]
    by_cases hk : k = 0
    · subst hk; rfl
    · rw [tmAt_append_left (by rw [timesTo_length]; omega)]
      exact ih (by omega)
set_option maxRecDepth 100000 in
set_option maxHeartbeats 1000000 in
theorem l06Last_any (a : Option Addr) (n c : Nat) (ts : List Tm) (hl : n = ts.length) (h0 : 0 < n) (hm : n ≤ 20) (w : World) (ha : CellsOf w a (tmCells ts)) :
    Calls Tryd.prog 66 #[.slice a n c] w fun e w' => e = .returned (.int .i64 (lastTo ts ts.length)) ∧ Gr w w' := by
  obtain ⟨b0, o0, rfl, _⟩ := tm_at ha (i := 0) (by omega)
  have HA := hid (fun k (hk : k < n) V (g : Gr w V) => tm_at' (ha.gr g) (i := k) (by omega))
  have HY := hid (fun k (h : (tmAt ts (lastTo ts k)).c < (tmAt ts k).c) => lastTo_yes h)
  have HN := hid (fun k (h : ¬ (tmAt ts (lastTo ts k)).c < (tmAt ts k).c) => lastTo_no h)
  have HLT := hid (fun k (h : 0 < k) => lastTo_lt ts k h)
  have HE := hid (show lastTo ts ts.length = lastTo ts n by rw [hl])
  have H1 := hid (show lastTo ts 1 = 0 by rw [lastTo, lastTo]; split <;> rfl)
  rw [HE.out]
  clear ha hl HE
  go_enter Tryd.func66, Tryd.ntmps66
  go_wp2_with fail
  go_loopw [3, 4] (fun p i wr => ∃ k : Nat, 1 ≤ k ∧ k ≤ n ∧ i = .int .i64 k ∧ p = .int .i64 (lastTo ts k) ∧ Hid (Gr w wr)) (fun _ i _ => n - (intOf i).toNat)
  case atStart => exact ⟨1, Nat.le_refl _, by omega, rfl, by rw [H1.out]; rfl, hid (Gr.refl _)⟩
  case round =>
    obtain ⟨k, hk1, hk, rfl, rfl, G⟩ := hrel
    by_cases hlt : k < n
    · have hpk := HLT.out k (by omega)
      have HYk := hid (HY.out k)
      have HNk := hid (HN.out k)
      obtain ⟨q, hq⟩ : ∃ q, q = lastTo ts k := ⟨_, rfl⟩
      rw [← hq] at HYk HNk hpk ⊢
      clear hq
      obtain ⟨-, -, p2, -⟩ := HA.out k hlt wr G.out
      obtain ⟨-, -, q2, -⟩ := HA.out q (by omega) wr G.out
      generalize (tmAt ts k).c = x2 at *
      generalize (tmAt ts q).c = y2 at *
      have hb0 : (0 : Int) ≤ k := by omega
      have hb1 : (k : Int) < n := by omega
      have hb2 : (0 : Int) ≤ q := by omega
      have hb3 : (q : Int) < n := by omega
      have GD := hid (fun nq => G.out.drewN nq)
      by_cases hgt : y2 < x2
      · have HW := hid (HYk.out hgt)
        go_wp2_with fail
        go_quiet (fail)
        go_wp2_with fail
        go_roundw
        case rel => exact ⟨k + 1, by omega, by omega, by go_num, by rw [HW.out], hid (GD.out _)⟩
        case measure => simp [intOf] <;> omega
      · have HW := hid (HNk.out (by omega))
        go_wp2_with fail
        go_quiet (fail)
        go_wp2_with fail
        go_roundw
        case rel => exact ⟨k + 1, by omega, by omega, by go_num, by rw [HW.out], hid (GD.out _)⟩
        case measure => simp [intOf] <;> omega
    · obtain rfl : k = n := by omega
      go_wp2_with fail
      go_ret
      exact ⟨rfl, G.out⟩
def allT (n : Nat) (xs : List Int) : Int := if lineB n xs = true then lastC (timesL n xs) else 0
def allS (n : Nat) (xs : List Int) : Int := if lineB n xs = true then (lastTo (timesL n xs) (timesL n xs).length : Int) else 0
set_option maxRecDepth 100000 in
theorem allTell_any (a : Option Addr) (n c : Nat) (ts : List Tm) (hl : n = ts.length) (h0 : 0 < n) (hm : n ≤ 20) (hc0 : (tmAt ts 0).c = 0) (w : World) (ha : CellsOf w a (tmCells ts)) :
    Calls Tryd.prog 68 (#[.slice a n c] ++ #[]) w fun e w' => e = .returned (.tuple #[.agg #[.int .i64 (lastC ts), .int .i64 (lastTo ts ts.length)], .nilIface]) ∧ Gr w w' := by
  have G0 := hid ((Gr.refl w).alloc (.cells #[.int .i64 0, .int .i64 0] 82))
  have B0 := hid (heap_new (w := w) (o := (.cells #[.int .i64 0, .int .i64 0] 82)) rfl)
  have HL := hid (lastClosed_any a n c ts hl h0 hm hc0 (w.alloc (.cells #[.int .i64 0, .int .i64 0] 82)) (ha.gr G0.out))
  generalize lastC ts = x at *
  generalize ((lastTo ts ts.length : Nat) : Int) = y at *
  clear ha hl
  go_enter Tryd.func68, Tryd.ntmps68
  go_wp2_with fail
  refine HL.out.mono ?_
  rintro e w1 ⟨rfl, g1⟩
  have G1 := hid (G0.out.trans g1)
  have B1 := hid (g1.heap B0.out)
  obtain ⟨hd0, hd1, hg0, hg1⟩ := row2_facts B1.out
  clear g1
  go_wp2
  refine bodyPost_ret (v := .tuple #[.agg #[.int .i64 x, .int .i64 y], .nilIface]) (results_row_tmp (by rfl) _ _ _ _ _ _ _ _ rfl rfl (row2_set (x := .int .i64 x) (y := .int .i64 y) B1.out) Tryd.underlying82 rfl (by kernel_rfl)) rfl ⟨rfl, ((G1.out.setCell (p := ⟨w.heap.size, 0, none⟩) (Nat.le_refl _) _).setCell (p := ⟨w.heap.size, 1, none⟩) (Nat.le_refl _) _)⟩
set_option maxRecDepth 100000 in
set_option maxHeartbeats 1000000 in
theorem impl_AllClosed_law (a : Option Addr) (n cap : Nat) (xs : List Int) (hl : xs.length = n * 3) (hn : n ≤ 1048576) (hf : Fits .i8 xs) (w : World) (hnv : NeverAt w) (hs : CellsOf w a (xs.map (Value.int .i8))) :
    Calls Tryd.prog 33 #[.slice a n cap] w fun e w' => e = .returned (.tuple #[.int .i64 (allT n xs), .int .i64 (allS n xs), .int .i64 (lineC n xs)]) ∧ Gr w w' := by
  have HA : Hid (Calls Tryd.prog 67 #[.slice a n cap, .func (.func 68) #[] #[]] w fun e w' => e = .returned (.tuple #[.agg #[.int .i64 (allT n xs), .int .i64 (allS n xs)], .int .i64 (lineC n xs)]) ∧ Gr w w') := by
    apply hid
    cases hv : lineB n xs with
    | false =>
      rw [show allT n xs = 0 by unfold allT; rw [hv]; rfl, show allS n xs = 0 by unfold allS; rw [hv]; rfl, show lineC n xs = 1 by unfold lineC; rw [hv]; rfl]
      exact ans_Clos_no a n cap xs hl hn hf hv 68 #[] w (sliceOf_cells hs)
    | true =>
      have hlen : (timesL n xs).length = n := timesTo_length _ _ _ _
      obtain ⟨h0, h20⟩ := (lineOk_of hv).1
      rw [show allT n xs = lastC (timesL n xs) by unfold allT; rw [hv]; rfl, show allS n xs = (lastTo (timesL n xs) (timesL n xs).length : Int) by unfold allS; rw [hv]; rfl, show lineC n xs = 0 by unfold lineC; rw [hv]; rfl]
      exact ans_Clos_ok a n cap xs hl hn hf hv 68 #[] _ _ w hnv (sliceOf_cells hs) (fun args w => callFunc_enter Tryd.func68 (by kernel_rfl) (by kernel_rfl) args w)
        (fun W V av cv gW gV o => allTell_any av n cv (timesL n xs) hlen.symm h0 h20 (timesL_c0 h0) V o.reads)
  generalize allT n xs = x at *
  generalize allS n xs = y at *
  generalize lineC n xs = z at *
  clear hs hl hf hnv
  go_enter Tryd.func33, Tryd.ntmps33
  go_wp2_with fail
  refine HA.out.mono ?_
  rintro e w1 ⟨rfl, g1⟩
  have G1 := hid (g1.alloc (.cells #[.int .i64 x, .int .i64 y] 82))
  clear g1
  go_wp2_with fail
  go_quiet (fail)
  go_wp2
  go_ret3
  exact ⟨rfl, G1.out.drewN _⟩
set_option maxRecDepth 100000 in
theorem spec_AllClosed_law (a : Option Addr) (n cap : Nat) (xs : List Int) (hl : xs.length = n * 3) (hn : n ≤ 1048576) (hf : Fits .i8 xs) (w : World) (hs : CellsOf w a (xs.map (Value.int .i8))) :
    Calls Tryd.prog 32 #[.slice a n cap] w fun e w' => e = .returned (.tuple #[.int .i64 (allT n xs), .int .i64 (allS n xs), .int .i64 (lineC n xs)]) ∧ Gr w w' := by
  have HO := hid (l06Ok_any a n cap xs hl hn hf w (sliceOf_cells hs))
  cases hv : lineB n xs with
  | false =>
    rw [hv] at HO
    rw [show allT n xs = 0 by unfold allT; rw [hv]; rfl, show allS n xs = 0 by unfold allS; rw [hv]; rfl, show lineC n xs = 1 by unfold lineC; rw [hv]; rfl]
    clear hs hl hf
    go_enter Tryd.func32, Tryd.ntmps32
    go_wp2_with fail
    refine HO.out.mono ?_
    rintro e w1 ⟨rfl, g1⟩
    have G1 := hid g1
    clear g1
    go_wp2_with fail
    go_ret3
    exact ⟨rfl, G1.out⟩
  | true =>
    have HT := hid (fun V (g : Gr w V) => l06Times_any a n cap xs hl hv (-1) 0 (by omega) V ((sliceOf_cells hs).gr g))
    rw [hv] at HO
    rw [moreR_none] at HT
    have hlen : (timesL n xs).length = n := timesTo_length _ _ _ _
    obtain ⟨h0, h20⟩ := (lineOk_of hv).1
    change Hid (∀ V, Gr w V → Calls _ _ _ V (RetV _ _ _ _ (tmCells (timesL n xs)) V)) at HT
    rw [show allT n xs = lastC (timesL n xs) by unfold allT; rw [hv]; rfl, show allS n xs = (lastTo (timesL n xs) (timesL n xs).length : Int) by unfold allS; rw [hv]; rfl, show lineC n xs = 0 by unfold lineC; rw [hv]; rfl]
    generalize timesL n xs = ts at *
    have hltq := lastTo_lt ts ts.length (by omega)
    have hL := fun V av cv (h : CellsOf V av (tmCells ts)) => l06Last_any av n cv ts hlen.symm h0 h20 V h
    have hC := show lastC ts = (tmAt ts (lastTo ts ts.length)).c from rfl
    rw [hC]
    clear hC
    generalize lastTo ts ts.length = q at *
    have HLT := hid hltq
    have HL := hid hL
    obtain ⟨y2, hy2⟩ : ∃ y2, y2 = (tmAt ts q).c := ⟨_, rfl⟩
    rw [← hy2]
    have EY := hid hy2
    clear hy2 hL hltq
    have HLE := hid hlen
    clear hs hl hf hlen
    go_enter Tryd.func32, Tryd.ntmps32
    go_wp2_with fail
    refine HO.out.mono ?_
    rintro e w1 ⟨rfl, g1⟩
    have G1 := hid g1
    clear g1
    go_wp2_with fail
    refine (HT.out _ G1.out).mono ?_
    rintro e w2 ⟨v, rfl, o2, g2⟩
    obtain ⟨av, cv, rfl⟩ := o2.shape
    have O2 := hid o2.reads
    have G2 := hid (G1.out.trans g2)
    clear o2 g2
    unfold id
    go_wp2_with fail
    refine (HL.out _ _ _ O2.out).mono ?_
    rintro e w3 ⟨rfl, g3⟩
    have G3 := hid (G2.out.trans g3)
    have hlt := HLT.out
    have hle := HLE.out
    obtain ⟨b0, o0, rfl, -, -, p2, -⟩ := tm_at (O2.out.gr g3) hlt
    rw [← EY.out] at p2
    have hb2 : (0 : Int) ≤ q := by omega
    have hb3 : (q : Int) < n := by omega
    clear g3 HLT
    go_wp2_with fail
    go_ret3
    exact ⟨rfl, G3.out⟩
end Go.Proofs.YtflbjjcpkhldkaaDoor
