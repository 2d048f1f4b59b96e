/- How much later all have closed up: the program's function. -/
import Derived.Test.YtflbjjcpkhldkaaDoorHauledDown
import Derived.Test.YtflbjjcpkhldkaaDoorPlace
namespace Go.Proofs.YtflbjjcpkhldkaaDoor
set_option linter.unusedVariables false
open Go.RowKit
theorem cellsOf_news {w : World} {b off : Nat} {cs : List Value} (h : CellsOf w (some ⟨b, off, none⟩) cs) : ∀ j u, cs[j]? = some u → w.cell? ((⟨b, off, none⟩ : Addr).add j) = some u := by
  intro j u hu
  obtain ⟨b', off', e, hc⟩ := h.at_ hu
  cases e
  rw [Addr.add_mid]
  exact hc
theorem i8s_one (xs : List Int) : ∀ u ∈ xs.map (Value.int .i8), u.oneCell' = true := by
  intro u hu
  obtain ⟨x, _, rfl⟩ := List.mem_map.1 hu
  rfl
theorem timesTo_congr {S S' R R' B B' : Nat → Int} : ∀ n, (∀ i, i < n → S i = S' i) → (∀ i, i < n → R i = R' i) → (∀ i, i < n → B i = B' i) → timesTo S R B n = timesTo S' R' B' n
  | 0, _, _, _ => rfl
  | n + 1, h1, h2, h3 => by
    rw [timesTo, timesTo, timesTo_congr n (fun i hi => h1 i (by omega)) (fun i hi => h2 i (by omega)) (fun i hi => h3 i (by omega)), h1 n (by omega), h2 n (by omega), h3 n (by omega)]
    by_cases h : n = 0
    · subst h; rw [if_pos rfl, if_pos rfl, h3 0 (by omega)]
    · rw [if_neg h, if_neg h]
/-- The times if a ship needs so many minutes more. -/
def timesM (n : Nat) (xs : List Int) (s m : Int) : List Tm := timesTo (shS xs) (moreR xs s m) (shD xs) n
def slowL (xs : List Int) (s : Nat) (m : Int) : List Int := xs.set (s * 3 + 1) (xs.getD (s * 3 + 1) 0 + m)
theorem slowL_length (xs : List Int) (s : Nat) (m : Int) : (slowL xs s m).length = xs.length := by simp [slowL]
theorem slowL_times {n : Nat} {xs : List Int} (hl : xs.length = n * 3) {s : Nat} (hs : s < n) (m : Int) : timesL n (slowL xs s m) = timesM n xs s m := by
  unfold timesL timesM
  have hg : ∀ j, (slowL xs s m).getD j 0 = if s * 3 + 1 = j then xs.getD (s * 3 + 1) 0 + m else xs.getD j 0 := fun j => by
    unfold slowL; rw [getD_set_int _ _ _ _ (by omega)]
  apply timesTo_congr
  · intro i hi; unfold shS; rw [hg, if_neg (by omega)]
  · intro i hi
    unfold moreR shR
    rw [hg]
    by_cases h : i = s
    · subst h; rw [if_pos rfl, if_pos rfl]
    · rw [if_neg (by omega), if_neg (by omega), Int.add_zero]
  · intro i hi; unfold shD; rw [hg, if_neg (by omega)]
theorem slowL_ok {n : Nat} {xs : List Int} (hl : xs.length = n * 3) (hv : lineB n xs = true) {s : Nat} (hs : s < n) {m : Int} (hm : 0 ≤ m ∧ m ≤ 60) : LineOk n (shS (slowL xs s m)) (shR (slowL xs s m)) (shD (slowL xs s m)) := by
  have hg : ∀ j, (slowL xs s m).getD j 0 = if s * 3 + 1 = j then xs.getD (s * 3 + 1) 0 + m else xs.getD j 0 := fun j => by
    unfold slowL; rw [getD_set_int _ _ _ _ (by omega)]
  obtain ⟨h1, h2⟩ := lineOk_more hv (s : Int) m hm
  refine ⟨h1, fun i hi => ?_⟩
  obtain ⟨g1, g2, g3⟩ := h2 i hi
  refine ⟨?_, ?_, ?_⟩
  · unfold shS at g1 ⊢; rw [hg, if_neg (by omega)]; exact g1
  · unfold moreR shR at g2
    unfold shR
    rw [hg]
    by_cases h : i = s
    · subst h; rw [if_pos rfl]; rw [if_pos rfl] at g2; exact g2
    · rw [if_neg (by omega)]; rw [if_neg (by omega), Int.add_zero] at g2; exact g2
  · unfold shD at g3 ⊢; rw [hg, if_neg (by omega)]; exact g3
theorem ships_notNil (b off n c : Nat) (w : World) : (binOp BinOp.eql 27 (.slice (some ⟨b, off, none⟩) n c) (.slice none 0 0)).run Tryd.prog w = .ok (.bool false) w := by kernel_rfl
set_option maxRecDepth 100000 in
set_option maxHeartbeats 1000000 in
theorem cloneShips_any (b off n c : Nat) (h0 : 0 < n) (hn : n ≤ 1048576) (xs : List Int) (hl : xs.length = n * 3) (w : World) (ha : CellsOf w (some ⟨b, off, none⟩) (xs.map (Value.int .i8))) :
    Calls Tryd.prog 111 #[.slice (some ⟨b, off, none⟩) n c] w (RetV 60 3 id n (xs.map (Value.int .i8)) w) := by
  obtain ⟨i0, hi, hz0, hz1, hz2⟩ := info_parts infoShip
  have OB := hid (OwnV.ofBlock (e := 60) (sz := 3) (n := 0) (heap_new (w := w) (o := .cells #[] 60) rfl) rfl (by unfold maxLen; omega))
  have NW := hid (cellsOf_news (ha.gr ((Gr.refl w).alloc (.cells #[] 60))))
  have ON := hid (i8s_one xs)
  have HL := hid (show (xs.map (Value.int .i8)).length = n * 3 by rw [List.length_map, hl])
  generalize xs.map (Value.int .i8) = cs at *
  have hnn := ships_notNil b off n c
  clear ha hl
  go_enter Tryd.func111, Tryd.ntmps111
  go_wp2_with (at_builtin; refine wpList_append_own _ rfl _ _ 27 rfl w.heap.size 60 i0 (.agg #[.int .i8 0, .int .i8 0, .int .i8 0]) 3 3 Tryd.underlying27 hi hz0 hz1 hz2 rfl (by decide) _ _ _ rfl OB.out.row ⟨b, off, none⟩ n c cs rfl HL.out NW.out ON.out (by unfold maxLen; omega) (by omega) (by simp) ?_; intro v2 w2 hown2 hgrow2 _)
  have G2 := hid (((Gr.refl w).alloc (.cells #[] 60)).by_ hgrow2 (fun b e => (OB.out.row.lt b e).1))
  have O2 := hid (show OwnV 60 3 w2 w.heap.size w2.heap.size v2 n cs from OwnV.ofRow (by simpa using hown2))
  clear hown2 hgrow2
  go_wp2_with fail
  go_ret
  exact ⟨_, rfl, O2.out, G2.out⟩
set_option maxRecDepth 100000 in
set_option maxHeartbeats 2000000 in
theorem laterIf_any (al : Option Addr) (n cal : Nat) (xs : List Int) (hl : xs.length = n * 3) (hv : lineB n xs = true) (a : Option Addr) (c : Nat) (s : Nat) (hs : s < n) (m : Int) (hm : 0 ≤ m ∧ m ≤ 60) (w : World) (hnv : NeverAt w) (hline : CellsOf w al (xs.map (Value.int .i8))) (ha : CellsOf w a (tmCells (timesL n xs))) :
    Calls Tryd.prog 90 #[.slice al n cal, .slice a n c, .int .i64 s, .int .i64 m] w fun e w' => e = .returned (.int .i64 (lastC (timesM n xs s m) - lastC (timesL n xs))) ∧ Gr w w' := by
  obtain ⟨h0, h20⟩ := (lineOk_of hv).1
  have hlen : (timesL n xs).length = n := timesTo_length _ _ _ _
  have hlenM : (timesM n xs s m).length = n := timesTo_length _ _ _ _
  obtain ⟨b, off, rfl, -⟩ := hline 0 (by simp [hl]; omega)
  have HCL := hid (cloneShips_any b off n cal h0 (by omega) xs hl w hline)
  have HP := hid (placeOf_ok (some ⟨b, off, none⟩) n cal s (by omega) (rgV_iff.2 ⟨by omega, by omega⟩))
  have HTO := hid (fun V b2 c2 (g : Gr w V) (h : SliceOf .i8 V b2 (slowL xs s m)) => timesOf_any b2 n c2 (slowL xs s m) (by rw [slowL_length]; exact hl) h0 (slowL_ok hl hv hs hm) V (hnv.gr g) h)
  have hok2 := timesTo_ok (slowL_ok hl hv hs hm) n (Nat.le_refl _)
  change TsOk (timesL n (slowL xs s m)) at hok2
  have c0L := timesL_c0 (xs := xs) h0
  have c0M := timesL_c0 (xs := slowL xs s m) h0
  rw [slowL_times hl hs m] at hok2 c0M
  have hok1 : TsOk (timesL n xs) := timesTo_ok (lineOk_line hv) n (Nat.le_refl _)
  have HTO2 := hid (fun V b2 c2 (g : Gr w V) (h : SliceOf .i8 V b2 (slowL xs s m)) => show Calls _ _ _ _ (RetV _ _ _ _ (tmCells (timesM n xs s m)) _) by have h2 := HTO.out V b2 c2 g h; rw [← slowL_times hl hs m]; exact h2)
  clear HTO
  have HR1 := tmC_range (hok1 _ (lastTo_lt (timesL n xs) (timesL n xs).length (by omega))) (by have := lastTo_lt (timesL n xs) (timesL n xs).length (by omega); omega)
  have HR2 := tmC_range (hok2 _ (lastTo_lt (timesM n xs s m) (timesM n xs s m).length (by omega))) (by have := lastTo_lt (timesM n xs s m) (timesM n xs s m).length (by omega); omega)
  change -1 ≤ lastC (timesL n xs) ∧ lastC (timesL n xs) ≤ 4800 at HR1
  change -1 ≤ lastC (timesM n xs s m) ∧ lastC (timesM n xs s m) ≤ 4800 at HR2
  have HL1 := hid (fun V (g : Gr w V) => lastClosed_any a n c (timesL n xs) hlen.symm h0 h20 c0L V (ha.gr g))
  have HL2 := hid (fun V b2 c2 (h : CellsOf V b2 (tmCells (timesM n xs s m))) => lastClosed_any b2 n c2 (timesM n xs s m) hlenM.symm h0 h20 c0M V h)
  have hsh := (lineOk_of hv).2 s hs
  unfold shR at hsh
  have hsh2 := hsh.2.1
  have HMAP := hid (fun y => show ((xs.map (Value.int .i8)).set (s * 3 + 1) (.int .i8 y)) = (xs.set (s * 3 + 1) y).map (Value.int .i8) by rw [List.map_set])
  have HSL := hid (show xs.set (s * 3 + 1) (xs.getD (s * 3 + 1) 0 + m) = slowL xs s m from rfl)
  have HGET := hid (show (xs.map (Value.int .i8))[s * 3 + 1]? = some (.int .i8 (xs.getD (s * 3 + 1) 0)) by
    rw [List.getElem?_map, List.getElem?_eq_getElem (by omega)]; simp [List.getD, List.getElem?_eq_getElem (show s * 3 + 1 < xs.length by omega)])
  generalize timesM n xs s m = tsM at *
  generalize timesL n xs = tsL at *
  generalize lastC tsM = x2 at *
  generalize lastC tsL = x1 at *
  generalize (lastTo tsM tsM.length : Int) = y2 at *
  generalize (lastTo tsL tsL.length : Int) = y1 at *
  generalize xs.getD (s * 3 + 1) 0 = r at *
  have hfd2 := field_clos x2 y2
  have hfd1 := field_clos x1 y1
  have hb0 : (0 : Int) ≤ s := by omega
  have hb1 : (s : Int) < n := by omega
  have hw1 : IntKind.i8.wrap m = m := IntWalk.i8_in _ (by omega)
  have hw2 : IntKind.i8.wrap (r + m) = r + m := IntWalk.i8_in _ (by omega)
  have hw3 : IntKind.i64.wrap (x2 - x1) = x2 - x1 := IntWalk.i64_in _ (by omega)
  clear hl hv hline ha hnv hok2 hok1 c0L c0M hlen hlenM hsh hs hm
  go_enter Tryd.func90, Tryd.ntmps90
  go_wp2_with fail
  refine HCL.out.mono ?_
  rintro e w1 ⟨v, rfl, o1, g1⟩
  obtain ⟨av, cv, rfl⟩ := o1.shape
  obtain ⟨g, rfl, hgb, hc1, hf1⟩ := o1.at_ HGET.out
  have O1 := hid o1
  have G1 := hid g1
  clear o1 g1
  unfold id
  go_wp2_with fail
  refine (HP.out _).mono ?_
  rintro e w2 ⟨rfl, rfl⟩
  have hpt := O1.out.put (s * 3 + 1) (.int .i8 (r + m))
  rw [HMAP.out, HSL.out] at hpt
  have O2 := hid hpt.1
  have G2 := hid (G1.out.by_ hpt.2 (fun b e => by cases e; exact hgb.1))
  have HTc := hid (HTO2.out _ _ cv G2.out (sliceOf_cells O2.out.reads))
  clear hpt
  go_wp2_with fail
  refine HTc.out.mono ?_
  rintro e w3 ⟨v3, rfl, o3, g3⟩
  obtain ⟨av3, cv3, rfl⟩ := o3.shape
  have G3 := hid (G2.out.trans g3)
  have HLc := hid (HL2.out w3 av3 cv3 o3.reads)
  clear o3 g3
  unfold id
  go_wp2_with fail
  refine HLc.out.mono ?_
  rintro e w4 ⟨rfl, g4⟩
  have G4 := hid (G3.out.trans g4)
  clear g4
  go_wp2_with fail
  refine (HL1.out _ G4.out).mono ?_
  rintro e w5 ⟨rfl, g5⟩
  have G5 := hid (G4.out.trans g5)
  clear g5
  go_wp2_with fail
  go_ret
  exact ⟨rfl, G5.out⟩
end Go.Proofs.YtflbjjcpkhldkaaDoor
