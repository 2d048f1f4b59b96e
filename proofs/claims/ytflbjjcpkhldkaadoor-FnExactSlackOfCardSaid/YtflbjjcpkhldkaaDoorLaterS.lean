/- How much later all have closed up: the model's function. -/
import Derived.Test.YtflbjjcpkhldkaaDoorLater
namespace Go.Proofs.YtflbjjcpkhldkaaDoor
set_option linter.unusedVariables false
open Go.RowKit
set_option maxRecDepth 100000 in
set_option maxHeartbeats 2000000 in
theorem l06Later_any (al : Option Addr) (n cal : Nat) (xs : List Int) (hl : xs.length = n * 3) (hv : lineB n xs = true) (s m : Int) (hm : 0 ≤ m ∧ m ≤ 60) (w : World) (hs : SliceOf .i8 w al xs) :
    Calls Tryd.prog 88 #[.slice al n cal, .int .i64 s, .int .i64 m] w fun e w' => e = .returned (.int .i64 (lastC (timesM n xs s m) - lastC (timesL n xs))) ∧ Gr w w' := by
  obtain ⟨h0, h20⟩ := (lineOk_of hv).1
  have HT1 := hid (fun V (g : Gr w V) => l06Times_any al n cal xs hl hv (-1) 0 (by omega) V (hs.gr g))
  rw [moreR_none] at HT1
  change Hid (∀ V, Gr w V → Calls _ _ _ V (RetV _ _ _ _ (tmCells (timesL n xs)) V)) at HT1
  have HT2 := hid (fun V (g : Gr w V) => show Calls _ _ _ _ (RetV _ _ _ _ (tmCells (timesM n xs s m)) _) from l06Times_any al n cal xs hl hv s m hm V (hs.gr g))
  have hlen : (timesL n xs).length = n := timesTo_length _ _ _ _
  have hlenM : (timesM n xs s m).length = n := timesTo_length _ _ _ _
  have hok1 : TsOk (timesL n xs) := timesTo_ok (lineOk_line hv) n (Nat.le_refl _)
  have hok2 : TsOk (timesM n xs s m) := timesTo_ok (lineOk_more hv s m hm) n (Nat.le_refl _)
  have hq1 := lastTo_lt (timesL n xs) (timesL n xs).length (by omega)
  have hq2 := lastTo_lt (timesM n xs s m) (timesM n xs s m).length (by omega)
  have HR1 := tmC_range (hok1 _ hq1) (by omega)
  have HR2 := tmC_range (hok2 _ hq2) (by omega)
  have HE : lastC (timesM n xs s m) - lastC (timesL n xs) = (tmAt (timesM n xs s m) (lastTo (timesM n xs s m) (timesM n xs s m).length)).c - (tmAt (timesL n xs) (lastTo (timesL n xs) (timesL n xs).length)).c := rfl
  rw [HE]
  have HA1 := hid (fun V b c (h : CellsOf V b (tmCells (timesL n xs))) => l06Last_any b n c (timesL n xs) hlen.symm h0 h20 V h)
  have HA2 := hid (fun V b c (h : CellsOf V b (tmCells (timesM n xs s m))) => l06Last_any b n c (timesM n xs s m) hlenM.symm h0 h20 V h)
  generalize timesM n xs s m = tsM at *
  generalize timesL n xs = tsL at *
  generalize lastTo tsM tsM.length = q2 at *
  generalize lastTo tsL tsL.length = q1 at *
  obtain ⟨x1, hx1⟩ : ∃ x, x = (tmAt tsL q1).c := ⟨_, rfl⟩
  obtain ⟨x2, hx2⟩ : ∃ x, x = (tmAt tsM q2).c := ⟨_, rfl⟩
  rw [← hx1] at HR1
  rw [← hx2] at HR2
  rw [← hx1, ← hx2]
  have HX1 := hid hx1
  have HX2 := hid hx2
  have HL1 := hid hlen
  have HL2 := hid hlenM
  have hw3 : IntKind.i64.wrap (x2 - x1) = x2 - x1 := IntWalk.i64_in _ (by omega)
  rw [hlen] at hq1
  rw [hlenM] at hq2
  have hb0 : (0 : Int) ≤ q1 := by omega
  have hb1 : (q1 : Int) < n := by omega
  have hb2 : (0 : Int) ≤ q2 := by omega
  have hb3 : (q2 : Int) < n := by omega
  clear hs hl hv hlen hlenM hok1 hok2 hx1 hx2 HE
  go_enter Tryd.func88, Tryd.ntmps88
  go_wp2_with fail
  refine (HT1.out _ (Gr.refl _)).mono ?_
  rintro e w2 ⟨v, rfl, o1_, g2⟩
  obtain ⟨a1, c1, rfl⟩ := o1_.shape
  obtain ⟨b1, o1, rfl, -, -, p1, -⟩ := tm_at o1_.reads (i := q1) (by rw [HL1.out]; exact hq1)
  rw [← HX1.out] at p1
  have P1 := hid p1
  have O1 := hid o1_.reads
  have G2 := hid g2
  clear o1_ g2 p1
  unfold id
  go_wp2_with fail
  refine (HT2.out _ G2.out).mono ?_
  rintro e w4 ⟨v, rfl, o2_, g4⟩
  obtain ⟨a2, c2, rfl⟩ := o2_.shape
  obtain ⟨b2, o2, rfl, -, -, p2, -⟩ := tm_at o2_.reads (i := q2) (by rw [HL2.out]; exact hq2)
  rw [← HX2.out] at p2
  have C1 := hid (g4.cell P1.out)
  have C2 := hid p2
  have G4 := hid (G2.out.trans g4)
  have HLA := hid (fun V (g : Gr w4 V) => HA1.out V (some ⟨b1, o1, none⟩) c1 ((O1.out.gr g4).gr g))
  have HLB := hid (fun V (g : Gr w4 V) => HA2.out V (some ⟨b2, o2, none⟩) c2 (o2_.reads.gr g))
  clear HL1 HL2 HA1 HA2 HT1 HT2
  have HL1 := HLA
  have HL2 := HLB
  clear o2_ g4 p2 HLA HLB
  unfold id
  go_wp2_with fail
  refine wp_region_held_drew (S := fun V => V.cell? ⟨b1, o1 + q1 * 4 + 2, none⟩ = some (.int .i64 x1) ∧ V.cell? ⟨b2, o2 + q2 * 4 + 2, none⟩ = some (.int .i64 x2) ∧ Gr w4 V) (by kernel_rfl) ⟨C1.out, C2.out, (Gr.refl w4).drew⟩ (fun hH => ?_)
  have HH := hid hH
  clear hH
  refine wpAnyH_take (i := 0) (v := .slice (some ⟨b2, o2, none⟩) n c2) rfl (by kernel_rfl) (by kernel_rfl) (by kernel_rfl) (fun _ _ _ h => h) (Or.inl ⟨by rfl, fun _ _ => by first | rfl | (go_simp; done) | (go_simp; rfl)⟩) HH.out ?_
  simp only [Act.put, List.getElem_toArray, List.getElem_cons_zero, List.setIfInBounds_toArray, List.set_cons_zero, List.set_cons_succ]
  refine wpAnyH_take (i := 1) (v := .slice (some ⟨b2, o2, none⟩) n c2) rfl (by kernel_rfl) (by kernel_rfl) (by kernel_rfl) (fun _ _ _ h => h) (Or.inl ⟨by rfl, fun _ _ => by first | rfl | (go_simp; done) | (go_simp; rfl)⟩) HH.out ?_
  simp only [Act.put, List.getElem_toArray, List.getElem_cons_zero, List.getElem_cons_succ, List.setIfInBounds_toArray, List.set_cons_zero, List.set_cons_succ]
  refine wpAnyH_take (i := 6) (v := .slice (some ⟨b1, o1, none⟩) n c1) rfl (by kernel_rfl) (by kernel_rfl) (by kernel_rfl) (fun _ _ _ h => h) (Or.inl ⟨by rfl, fun _ _ => by first | rfl | (go_simp; done) | (go_simp; rfl)⟩) HH.out ?_
  simp only [Act.put, List.getElem_toArray, List.getElem_cons_zero, List.getElem_cons_succ, List.setIfInBounds_toArray, List.set_cons_zero, List.set_cons_succ]
  refine wpAnyH_take (i := 7) (v := .slice (some ⟨b1, o1, none⟩) n c1) rfl (by kernel_rfl) (by kernel_rfl) (by kernel_rfl) (fun _ _ _ h => h) (Or.inl ⟨by rfl, fun _ _ => by first | rfl | (go_simp; done) | (go_simp; rfl)⟩) HH.out ?_
  simp only [Act.put, List.getElem_toArray, List.getElem_cons_zero, List.getElem_cons_succ, List.setIfInBounds_toArray, List.set_cons_zero, List.set_cons_succ]
  refine wpAnyH_ready (rs := [2]) (by kernel_rfl) (by simp) (AllReadyH.cons rfl (fun K2 hK2 => ?_) AllReadyH.nil)
  rw [if_pos (by rfl)]
  go_simp
  refine (HL2.out _ HH.out.2.2).mono ?_
  rintro e V ⟨rfl, gV⟩
  dsimp only
  have gW := HH.out.2.2.trans gV
  refine hK2.out _ _ ⟨gW.cell C1.out, gW.cell C2.out, gW⟩ (fun hH => ?_)
  clear HH hK2 K2
  have HH := hid hH
  clear hH gV gW
  refine wpAnyH_take (i := 3) (v := .pointer (some ⟨b2, o2 + q2 * 4, none⟩)) rfl (by kernel_rfl) (by kernel_rfl) (by kernel_rfl) (fun _ _ _ h => h) (Or.inl ⟨by rfl, fun _ _ => by first | rfl | (go_simp; done) | (go_simp; rfl)⟩) HH.out ?_
  simp only [Act.put, List.getElem_toArray, List.getElem_cons_zero, List.getElem_cons_succ, List.setIfInBounds_toArray, List.set_cons_zero, List.set_cons_succ]
  refine wpAnyH_take (i := 4) (v := .pointer (some ⟨b2, o2 + q2 * 4 + 2, none⟩)) rfl (by kernel_rfl) (by kernel_rfl) (by kernel_rfl) (fun _ _ _ h => h) (Or.inl ⟨by rfl, fun _ _ => by first | rfl | (go_simp; done) | (go_simp; rfl)⟩) HH.out ?_
  simp only [Act.put, List.getElem_toArray, List.getElem_cons_zero, List.getElem_cons_succ, List.setIfInBounds_toArray, List.set_cons_zero, List.set_cons_succ]
  refine wpAnyH_take (i := 5) (v := .int .i64 x2) rfl (by kernel_rfl) (by kernel_rfl) (by kernel_rfl) (fun _ _ _ h => h) (Or.inl ⟨by rfl, fun V hV => by (obtain ⟨h1, h2, h3⟩ := hV; first | (go_simp; done) | (go_simp; rfl))⟩) HH.out ?_
  simp only [Act.put, List.getElem_toArray, List.getElem_cons_zero, List.getElem_cons_succ, List.setIfInBounds_toArray, List.set_cons_zero, List.set_cons_succ]
  refine wpAnyH_ready (rs := [8]) (by kernel_rfl) (by simp) (AllReadyH.cons rfl (fun K2 hK2 => ?_) AllReadyH.nil)
  rw [if_pos (by rfl)]
  go_simp
  refine (HL1.out _ HH.out.2.2).mono ?_
  rintro e V ⟨rfl, gV⟩
  dsimp only
  have gW := HH.out.2.2.trans gV
  refine hK2.out _ _ ⟨gW.cell C1.out, gW.cell C2.out, gW⟩ (fun hH => ?_)
  clear HH hK2 K2
  have HH := hid hH
  clear hH gV gW
  refine wpAnyH_take (i := 9) (v := .pointer (some ⟨b1, o1 + q1 * 4, none⟩)) rfl (by kernel_rfl) (by kernel_rfl) (by kernel_rfl) (fun _ _ _ h => h) (Or.inl ⟨by rfl, fun _ _ => by first | rfl | (go_simp; done) | (go_simp; rfl)⟩) HH.out ?_
  simp only [Act.put, List.getElem_toArray, List.getElem_cons_zero, List.getElem_cons_succ, List.setIfInBounds_toArray, List.set_cons_zero, List.set_cons_succ]
  refine wpAnyH_take (i := 10) (v := .pointer (some ⟨b1, o1 + q1 * 4 + 2, none⟩)) rfl (by kernel_rfl) (by kernel_rfl) (by kernel_rfl) (fun _ _ _ h => h) (Or.inl ⟨by rfl, fun _ _ => by first | rfl | (go_simp; done) | (go_simp; rfl)⟩) HH.out ?_
  simp only [Act.put, List.getElem_toArray, List.getElem_cons_zero, List.getElem_cons_succ, List.setIfInBounds_toArray, List.set_cons_zero, List.set_cons_succ]
  refine wpAnyH_take (i := 11) (v := .int .i64 x1) rfl (by kernel_rfl) (by kernel_rfl) (by kernel_rfl) (fun _ _ _ h => h) (Or.inl ⟨by rfl, fun V hV => by (obtain ⟨h1, h2, h3⟩ := hV; first | (go_simp; done) | (go_simp; rfl))⟩) HH.out ?_
  simp only [Act.put, List.getElem_toArray, List.getElem_cons_zero, List.getElem_cons_succ, List.setIfInBounds_toArray, List.set_cons_zero, List.set_cons_succ]
  refine wpAnyH_take (i := 12) (v := .int .i64 (x2 - x1)) rfl (by kernel_rfl) (by kernel_rfl) (by kernel_rfl) (fun _ _ _ h => h) (Or.inl ⟨by rfl, fun _ _ => by first | rfl | (go_simp; done) | (go_simp; rfl)⟩) HH.out ?_
  simp only [Act.put, List.getElem_toArray, List.getElem_cons_zero, List.getElem_cons_succ, List.setIfInBounds_toArray, List.set_cons_zero, List.set_cons_succ]
  refine wpAnyH_take (i := 13) (v := .int .i64 (x2 - x1)) rfl (by kernel_rfl) (by kernel_rfl) (by kernel_rfl) (fun _ _ _ h => h) (Or.inl ⟨by rfl, fun _ _ => by first | rfl | (go_simp; done) | (go_simp; rfl)⟩) HH.out ?_
  simp only [Act.put, List.getElem_toArray, List.getElem_cons_zero, List.getElem_cons_succ, List.setIfInBounds_toArray, List.set_cons_zero, List.set_cons_succ]
  refine wpAnyH_done (by kernel_rfl) ?_ _
  go_wp2
  go_ret
  exact ⟨rfl, G4.out.trans HH.out.2.2⟩
def laterV (n : Nat) (xs : List Int) (s m : Int) : Int := if lineB n xs = true then (if rgV s 0 ((n : Int) - 1) = true then (if rgV m 0 60 = true then lastC (timesM n xs s m) - lastC (timesL n xs) else 0) else 0) else 0
def laterC (n : Nat) (xs : List Int) (s m : Int) : Int := if lineB n xs = true then (if rgV s 0 ((n : Int) - 1) = true then (if rgV m 0 60 = true then 0 else 2) else 2) else 1
end Go.Proofs.YtflbjjcpkhldkaaDoor
