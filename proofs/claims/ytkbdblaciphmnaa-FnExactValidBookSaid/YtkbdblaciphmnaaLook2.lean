/- The model's search of hoists: where a flag is to be placed. -/
import Derived.Test.YtkbdblaciphmnaaLook
namespace Go.Proofs.Ytkbdblaciphmnaa
set_option linter.unusedVariables false
open Go.RowKit
/-- What one number gives; what the numbers below a place give. -/
def partN (next : List Int → List (List Int)) (m : List Int) (S : Int) (h : List Int) : Nat → List (List Int)
  | 0 => if okX S h (m.getD h.length 0) then next (h ++ [m.getD h.length 0]) else []
  | n + 1 => if repB m h.length (n + 1) && okX S h (-((n + 1 : Nat) : Int)) then next (h ++ [-((n + 1 : Nat) : Int)]) else []
def restN (next : List Int → List (List Int)) (m : List Int) (S : Int) (h : List Int) : Nat → List (List Int)
  | 0 => []
  | q + 1 => goN next m S h q
theorem restN_succ (next : List Int → List (List Int)) (m : List Int) (S : Int) (h : List Int) (q : Nat) : restN next m S h (q + 1) = partN next m S h q ++ restN next m S h q := by
  cases q with
  | zero => simp only [restN, goN, partN, List.append_nil]
  | succ q => rfl
theorem partN_length {next : List Int → List (List Int)} {m : List Int} {S : Int} {h : List Int} {P : Nat} (hp : ∀ g, (next g).length ≤ P) (q : Nat) : (partN next m S h q).length ≤ P := by
  cases q with
  | zero =>
    simp only [partN]
    split
    · exact hp _
    · simp
  | succ q =>
    simp only [partN]
    split
    · exact hp _
    · simp
theorem partN_skip {next : List Int → List (List Int)} {m : List Int} {S : Int} {h : List Int} {q : Nat} (hq : 1 ≤ q) (hr : repB m h.length q = false) : partN next m S h q = [] := by
  obtain ⟨p, rfl⟩ : ∃ p, q = p + 1 := ⟨q - 1, by omega⟩
  simp only [partN]
  rw [hr, Bool.false_and, if_neg (by simp)]
theorem partN_rep {next : List Int → List (List Int)} {m : List Int} {S : Int} {h : List Int} {q : Nat} (hq : 1 ≤ q) (hr : repB m h.length q = true) : partN next m S h q = if okX S h (-(q : Int)) then next (h ++ [-(q : Int)]) else [] := by
  obtain ⟨p, rfl⟩ : ∃ p, q = p + 1 := ⟨q - 1, by omega⟩
  simp only [partN]
  rw [hr, Bool.true_and]
theorem fine_dec {S : Int} {h : List Int} {x : Int} (hF : Fine S h) : decide (setsTo (h ++ [x]) (h.length + 1) (h.length + 1) ≤ S) = okX S h x := by
  have := hF.snoc (x := x)
  unfold Fine at this
  rw [List.length_append, List.length_singleton] at this
  rw [Bool.eq_iff_iff, decide_eq_true_eq]
  exact this
theorem Mt.sliceM {Bs : Nat} {w w' : World} {b o : Nat} {xs : List Int} (h : Mt Bs w w') (hs : SliceOf .i8 w (some ⟨b, o, none⟩) xs) (hne : b ≠ Bs) : SliceOf .i8 w' (some ⟨b, o, none⟩) xs := h.slice hs hne
set_option maxHeartbeats 3000000 in
set_option maxRecDepth 100000 in
theorem look_kind (Bs bm om cm n : Nat) (m : List Int) (S : Int) (B f : Nat) (hn : n = m.length) (hn8 : n ≤ 8) (hB : B ≤ 4) (hbm : bm ≠ Bs) (hnum : ∀ i, i < n → m.getD i 0 = -10 ∨ (0 ≤ m.getD i 0 ∧ m.getD i 0 ≤ 39)) (ih : LookOk Bs bm om cm n m S B f)
    (h : List Int) (hl : h.length + (f + 1) = n) (hN : NumN h) (hF : Fine S h) (hb : ¬ m.getD h.length 0 = -10) (bh oh ch : Nat) (L : List (List Int)) (F : Value) (w : World) (hbh : bh ≠ Bs) (hc : L.length + 5 ^ (f + 1) ≤ 1000000)
    (hS : Srch w Bs (.slice (some ⟨bm, om, none⟩) n cm) S B L F) (hm : SliceOf .i8 w (some ⟨bm, om, none⟩) m) (hh : SliceOf .i8 w (some ⟨bh, oh, none⟩) h) :
    Calls Try.prog 105 #[.pointer (some ⟨Bs, 0, none⟩), .slice (some ⟨bh, oh, none⟩) h.length ch, .int .i64 (startOf m h.length : Nat)] w (LookPost Bs (.slice (some ⟨bm, om, none⟩) n cm) S B (L ++ goF m S B (f + 1) h) w) := by
  rw [goF_succ]
  have HI := hid (fun (x : Int) (hx : (-4 ≤ x ∧ x ≤ -1) ∨ (0 ≤ x ∧ x ≤ 39)) (hfx : okX S h x = true) (bg cg : Nat) (L' : List (List Int)) (F' : Value) (w' : World) (hg : bg ≠ Bs) (hc' : L'.length + 5 ^ f ≤ 1000000) (hS' : Srch w' Bs (.slice (some ⟨bm, om, none⟩) n cm) S B L' F') (hm' : SliceOf .i8 w' (some ⟨bm, om, none⟩) m) (hs : SliceOf .i8 w' (some ⟨bg, 0, none⟩) (h ++ [x])) =>
    ih (h ++ [x]) (by rw [List.length_append, List.length_singleton]; omega) (hN.snoc (by omega) (.inr hx)) (hF.snoc.2 hfx) bg 0 cg (startOf m h.length) L' F' w' (by rw [List.length_append, List.length_singleton, startOf_no hb]) hg hc' hS' hm' hs)
  have HGL := hid (goF_length m S B hB f)
  have HPL := hid (fun q => partN_length (m := m) (S := S) (h := h) (goF_length m S B hB f) q)
  have HSK := hid (fun q (hq : 1 ≤ q) hr => partN_skip (next := goF m S B f) (m := m) (S := S) (h := h) (q := q) hq hr)
  have HRP := hid (fun q (hq : 1 ≤ q) hr => partN_rep (next := goF m S B f) (m := m) (S := S) (h := h) (q := q) hq hr)
  have HP0 := hid (show partN (goF m S B f) m S h 0 = if okX S h (m.getD h.length 0) then goF m S B f (h ++ [m.getD h.length 0]) else [] from rfl)
  have HRS := hid (fun q => restN_succ (goF m S B f) m S h q)
  have HSETS := hid (fun (x : Int) (hx : x = -10 ∨ (-4 ≤ x ∧ x ≤ -1) ∨ (0 ≤ x ∧ x ≤ 39)) (a : Option Addr) (cap : Nat) (w' : World) (hs : SliceOf .i8 w' a (h ++ [x])) => l02Sets_n a (h.length + 1) cap (h ++ [x]) (by rw [List.length_append, List.length_singleton]) (hN.snoc (by omega) hx) w' hs)
  have HFD := hid (fun x => fine_dec (x := x) hF)
  have HLA := hid (fun (x : Int) => show (h ++ [x]).length = h.length + 1 by rw [List.length_append, List.length_singleton])
  have hst := startOf_le m h.length
  have HREP := hid (fun q => show repB m h.length q = (decide (startOf m h.length + q ≤ h.length) && (m.getD (startOf m h.length + q - 1) 0 == m.getD h.length 0)) from rfl)
  have hlt := hS.lt
  have hkind := hnum h.length (by omega)
  have HB5 := hid (show (B + 1) * 5 ^ f ≤ 5 * 5 ^ f from Nat.mul_le_mul_right _ (by omega))
  have HC := hid (show L.length + 5 * 5 ^ f ≤ 1000000 by rw [Nat.pow_succ] at hc; omega)
  generalize hP : 5 ^ f = P at *
  generalize hG : goN (goF m S B f) m S h B = G at *
  have HG := hid (show restN (goF m S B f) m S h (B + 1) = G from hG)
  obtain ⟨k, hk⟩ : ∃ k, k = h.length := ⟨_, rfl⟩
  rw [← hk] at HI HSETS HFD HLA HREP HP0 HSK HRP hl hb hkind hst ⊢
  generalize hstv : startOf m k = st at *
  have HK := hid hk
  have HM := hid hm
  have HH := hid hh
  have HS := hid hS
  have HN := hid hn
  have hk8 : k + 1 ≤ 8 := by omega
  have hkn : ((k : Int) == (n : Int)) = false := by simp; omega
  have hk0 : (0 : Int) ≤ (k : Int) := by omega
  have hk1 : (k : Int) < (n : Int) := by omega
  have c0 := hS.cellM
  have c2 := hS.cellB
  obtain ⟨b', o', e', cm0⟩ := hm k (by omega)
  simp only [Option.some.injEq, Addr.mk.injEq, and_true] at e'
  obtain ⟨rfl, rfl⟩ := e'
  have CMK := hid cm0
  have hkd : 0 ≤ m.getD k 0 ∧ m.getD k 0 ≤ 39 := hkind.resolve_left hb
  obtain ⟨hkd0, hkd1⟩ := hkd
  have hbx : (m.getD k 0 == -10) = false := by simpa using hb
  clear hS hm hh hk hb ih hc hN hF hG hP hstv hn hnum hkind
  generalize hkv : m.getD k 0 = kd at *
  have HKV := hid hkv
  clear hkv
  obtain ⟨i0, hi, hz0, hz1, hz2⟩ := info_parts infoI8
  go_enter Try.func105, Try.ntmps105
  go_wp2_with fail
  clear c0 c2 cm0
  go_loopw [7] (fun s wr => ∃ (v : Int) (D : List (List Int)) (F' : Value), -1 ≤ v ∧ v ≤ B ∧ s = .int .i64 v ∧ Hid (D ++ restN (goF m S B f) m S h (v + 1).toNat = G) ∧ Hid (D.length + (v + 1).toNat * P ≤ (B + 1) * P) ∧ Hid (Srch wr Bs (.slice (some ⟨bm, om, none⟩) n cm) S B (L ++ D) F') ∧ Hid (Mt Bs w wr)) (fun s _ => (intOf s + 1).toNat)
  case atStart => exact ⟨B, [], F, by omega, by omega, rfl, hid (by rw [show ((B : Int) + 1).toNat = B + 1 by omega]; exact HG.out), hid (by rw [show ((B : Int) + 1).toNat = B + 1 by omega]; simp), hid (by rw [List.append_nil]; exact HS.out), hid (Mt.refl _ _)⟩
  case round =>
    obtain ⟨v, D, F', hv0, hv1, rfl, hD, hDL, hSr, hMt⟩ := hrel
    by_cases h0 : v = 0
    · subst h0
      rw [show ((0 : Int) + 1).toNat = 1 from rfl] at hD hDL
      have hD2 := hD.out
      rw [HRS.out 0, ← List.append_assoc, HP0.out] at hD2
      have HD2 := hid hD2
      have HDB : Hid (D.length + P ≤ (B + 1) * P) := hid (by have := hDL.out; omega)
      have c0 := hSr.out.cellM
      have CMr := hMt.out.cell CMK.out hbm
      have HMr := hid (hMt.out.sliceM HM.out hbm)
      have HHr := hid (hMt.out.slice HH.out hbh)
      have HX := hid (show (-4 ≤ kd ∧ kd ≤ -1) ∨ (0 ≤ kd ∧ kd ≤ 39) from .inr ⟨hkd0, hkd1⟩)
      have HV1 := hid (show ((0 : Int) - 1 + 1).toNat = 0 from rfl)
      have HV2 := hid (show (-1 : Int) ≤ 0 - 1 ∧ (0 : Int) - 1 ≤ B from ⟨by omega, by omega⟩)
      clear hD2 hD hv0 hv1
      go_wp2_with (at_builtin; refine wpList_append_own _ rfl _ _ 48 rfl _ 22 i0 (.int .i8 0) 1 1 Try.underlying48 hi hz0 hz1 hz2 rfl (by decide) _ _ _ rfl (Own.new (k := .i8) (e := 22) _ [] (by simp)).row ⟨bh, oh, none⟩ k ch (h.map (Value.int .i8)) rfl (by rw [List.length_map, Nat.mul_one]; exact HK.out.symm) (news_of_slice (HHr.out.gr (((Gr.refl wr).drewN 0).alloc (.cells #[] 22)))) (by simp [Value.oneCell']) (by unfold maxLen; simp; omega) (by simp; omega) (by simp) ?_)
      intro v1 w1 hown hgrow _
      have OV := hid (Own.ofRow (k := .i8) (xs := h) hown (by simp) (by rw [← HK.out]))
      have G1 : Hid (Gr wr w1) := hid ((((Gr.refl wr).drewN 0).alloc (.cells #[] 22)).by_ hgrow (fun b e => by cases e; exact Nat.le_refl _))
      obtain ⟨av, cv, hv1'⟩ := OV.out.shape
      rw [← HK.out] at hv1'
      subst hv1'
      have ROW1 := hid OV.out.row
      rw [← HK.out] at ROW1
      clear hown hgrow
      go_wp2_with (at_builtin; refine wpList_append_own _ rfl _ _ 48 rfl _ 22 i0 (.int .i8 0) 1 1 Try.underlying48 hi hz0 hz1 hz2 rfl (by decide) _ _ _ rfl (ROW1.out.alloc _) ⟨w1.heap.size, 0, none⟩ 1 1 [.int .i8 (kd)] rfl rfl (cell_l1 _ _ _) (by simp [Value.oneCell']) (by unfold maxLen; omega) (by omega) (by have := G1.out.size; simp; omega) ?_)
      intro v2 w2 hown2 hgrow2 _
      obtain ⟨g2, c2', rfl, hg2, _⟩ := hown2.form (by omega)
      have OX := hid (Own.ofRow (k := .i8) (xs := h ++ [kd]) hown2 (by simp) (by rw [HLA.out])).reads
      have G2 := hid ((G1.out.alloc (.cells #[.int .i8 (kd)] 22)).by_ hgrow2 (fun b e => (ROW1.out.lt b e).1))
      have hg2' : g2 ≠ Bs := by have h1 : wr.heap.size ≤ g2 := hg2; have h2 := hMt.out.size; omega
      have d1 := G2.out.cell hSr.out.cellS
      obtain ⟨sv, hsv⟩ : ∃ sv, sv = setsTo (h ++ [kd]) (k + 1) (k + 1) := ⟨_, rfl⟩
      have HSX := hid (HSETS.out (kd) (.inr HX.out))
      rw [← hsv] at HSX
      have t5 := HFD.out (kd)
      rw [← hsv] at t5
      have HIX := hid (HI.out (kd) HX.out)
      rw [HLA.out] at HIX
      clear hown2 hgrow2 hsv
      cases hok : okX S h (kd) with
      | false =>
        rw [hok] at t5
        have HE := hid (show D ++ restN (goF m S B f) m S h 0 = G by have := HD2.out; rw [hok, if_neg (by simp), List.append_nil] at this; exact this)
        clear hok
        go_wp2_with fail
        go_region_held3 (fun V => V.cell? ⟨Bs, 1, none⟩ = some (.int .i64 S)) (first | go_keep | exact gV.cell (by assumption) | assumption) ((go_at_call 108; refine (HSX.out _ _ _ (OX.out.gr (by first | exact Gr.refl _ | exact (Gr.refl _).drew | exact (Gr.refl _).drewN _))).mono ?_; rintro e V ⟨rfl, gV⟩; have GV : Gr w2 V := Gr.trans (by first | exact Gr.refl _ | exact (Gr.refl _).drew | exact (Gr.refl _).drewN _) gV))
        all_goals
          have GZ := hid (G2.out.trans GV)
          clear GV gV
          go_wp2_with fail
          go_roundw
          case rel => exact ⟨_, D, F', HV2.out.1, HV2.out.2, rfl, hid (by rw [HV1.out]; exact HE.out), hid (by rw [HV1.out]; have := HDB.out; omega), hid (by first | exact hSr.out.gr GZ.out | exact hSr.out.gr (GZ.out.drew) | exact hSr.out.gr (GZ.out.drewN _)), hid (by first | exact hMt.out.gr GZ.out | exact hMt.out.gr (GZ.out.drew) | exact hMt.out.gr (GZ.out.drewN _))⟩
          case measure => simp [intOf] <;> omega
      | true =>
        rw [hok] at t5
        have HE := hid (show D ++ goF m S B f (h ++ [(kd)]) ++ restN (goF m S B f) m S h 0 = G by have := HD2.out; rw [hok, if_pos rfl] at this; exact this)
        have HLD := hid (show (L ++ D).length + P ≤ 1000000 by have h1 := HDB.out; have h2 := HB5.out; have h3 := HC.out; rw [List.length_append]; omega)
        have HGX := hid (HGL.out (h ++ [(kd)]))
        have HIY := hid (fun V (g : Gr w2 V) => HIX.out hok g2 c2' (L ++ D) F' V hg2' HLD.out (hSr.out.gr (G2.out.trans g)) (HMr.out.gr (G2.out.trans g)) (OX.out.gr g))
        clear hok
        go_wp2_with fail
        go_region_held3 (fun V => V.cell? ⟨Bs, 1, none⟩ = some (.int .i64 S)) (first | go_keep | exact gV.cell (by assumption) | assumption) ((go_at_call 108; refine (HSX.out _ _ _ (OX.out.gr (by first | exact Gr.refl _ | exact (Gr.refl _).drew | exact (Gr.refl _).drewN _))).mono ?_; rintro e V ⟨rfl, gV⟩; have GV : Gr w2 V := Gr.trans (by first | exact Gr.refl _ | exact (Gr.refl _).drew | exact (Gr.refl _).drewN _) gV))
        all_goals
          have GZ := hid GV
          clear GV gV
          go_wp2_with fail
          refine (HIY.out _ (by first | exact GZ.out | exact GZ.out.drew | exact GZ.out.drewN _)).mono ?_
          rintro e w4 ⟨rfl, mt, F2, sr⟩
          have MT : Hid (Mt Bs w w4) := hid ((hMt.out.gr (G2.out.trans (by first | exact GZ.out | exact GZ.out.drew | exact GZ.out.drewN _))).trans mt)
          have SR := hid sr
          clear mt sr
          go_wp2_with fail
          go_roundw
          case rel => exact ⟨_, D ++ goF m S B f (h ++ [(kd)]), F2, HV2.out.1, HV2.out.2, rfl, hid (by rw [HV1.out]; exact HE.out), hid (by rw [HV1.out, List.length_append]; have h1 := HDB.out; have h2 := HGX.out; omega), hid (by rw [← List.append_assoc]; exact SR.out), MT⟩
          case measure => simp [intOf] <;> omega
    · by_cases hv : 0 ≤ v
      · obtain ⟨q, rfl⟩ := Int.eq_ofNat_of_zero_le hv
        have hqB : q ≤ B := by omega
        have hq1 : 1 ≤ q := by omega
        rw [show ((q : Int) + 1).toNat = q + 1 by omega] at hD hDL
        have hD2 := hD.out
        rw [HRS.out q, ← List.append_assoc] at hD2
        have HDB : Hid (D.length + P + q * P ≤ (B + 1) * P) := hid (by have := hDL.out; rw [Nat.succ_mul] at this; omega)
        have c0 := hSr.out.cellM
        have CMr := hMt.out.cell CMK.out hbm
        have HMr := hid (hMt.out.sliceM HM.out hbm)
        have HHr := hid (hMt.out.slice HH.out hbh)
        have HX := hid (show (-4 ≤ -(q : Int) ∧ -(q : Int) ≤ -1) ∨ (0 ≤ -(q : Int) ∧ -(q : Int) ≤ 39) from .inl ⟨by omega, by omega⟩)
        have HV1 := hid (show ((q : Int) - 1 + 1).toNat = q by omega)
        have HV2 := hid (show (-1 : Int) ≤ (q : Int) - 1 ∧ (q : Int) - 1 ≤ B from ⟨by omega, by omega⟩)
        have e1 : IntKind.i64.wrap (-(q : Int)) = -(q : Int) := IntWalk.i64_in _ (by omega)
        have e2 : IntKind.i8.wrap (-(q : Int)) = -(q : Int) := IntWalk.i8_in _ (by omega)
        have hqz : ((q : Int) == 0) = false := by simp; omega
        have e3 : IntKind.i64.wrap ((st : Int) + (q : Int)) = (st : Int) + (q : Int) := IntWalk.i64_in _ (by omega)
        obtain ⟨p, hp⟩ : ∃ p, p = st + q - 1 := ⟨_, rfl⟩
        have e4 : IntKind.i64.wrap ((st : Int) + (q : Int) - 1) = (p : Int) := by rw [IntWalk.i64_in _ (by omega)]; omega
        by_cases hpk : k ≤ p
        · have t1 : decide ((k : Int) ≤ (p : Int)) = true := by rw [decide_eq_true_iff]; omega
          rw [HSK.out q hq1 (by rw [HREP.out q, decide_eq_false (by omega), Bool.false_and]), List.append_nil] at hD2
          have HD2 := hid hD2
          clear hp hD2 hD hv hv0 hv1 h0
          go_wp2_with fail
          go_quiet (fail)
          go_wp2_with fail
          go_roundw
          case rel => exact ⟨_, D, F', HV2.out.1, HV2.out.2, rfl, hid (by rw [HV1.out]; exact HD2.out), hid (by rw [HV1.out]; have := HDB.out; omega), hid (hSr.out.gr ((Gr.refl _).drewN _)), hid (hMt.out.drewN _)⟩
          case measure => simp [intOf] <;> omega
        · have t1 : decide ((k : Int) ≤ (p : Int)) = false := by rw [decide_eq_false_iff_not]; omega
          have t2 : decide (k ≤ p) = false := decide_eq_false hpk
          obtain ⟨b2, o2, e5, cp0⟩ := HMr.out p (by rw [← HN.out]; omega)
          simp only [Option.some.injEq, Addr.mk.injEq, and_true] at e5
          obtain ⟨rfl, rfl⟩ := e5
          have hp0 : (0 : Int) ≤ (p : Int) := by omega
          have hp1 : (p : Int) < (n : Int) := by omega
          have hrep := HREP.out q
          rw [decide_eq_true (by omega), Bool.true_and, ← hp] at hrep
          generalize m.getD p 0 = y at *
          cases hy : (y == kd) with
          | false =>
            rw [HSK.out q hq1 (by rw [hrep, hy]), List.append_nil] at hD2
            have HD2 := hid hD2
            have hy' : (y != kd) = true := by rw [bne, hy]; rfl
            clear hp hD2 hD hv hv0 hv1 h0 hrep hpk
            go_wp2_with fail
            go_quiet (fail)
            go_wp2_with fail
            go_roundw
            case rel => exact ⟨_, D, F', HV2.out.1, HV2.out.2, rfl, hid (by rw [HV1.out]; exact HD2.out), hid (by rw [HV1.out]; have := HDB.out; omega), hid (hSr.out.gr ((Gr.refl _).drewN _)), hid (hMt.out.drewN _)⟩
            case measure => simp [intOf] <;> omega
          | true =>
            rw [HRP.out q hq1 (by rw [hrep, hy])] at hD2
            have HD2 := hid hD2
            have hy' : (y != kd) = false := by rw [bne, hy]; rfl
            clear hp hD2 hD hv hv0 hv1 h0 hrep hpk
            go_wp2_with fail
            go_quiet (fail)
            go_wp2_with (at_builtin; refine wpList_append_own _ rfl _ _ 48 rfl _ 22 i0 (.int .i8 0) 1 1 Try.underlying48 hi hz0 hz1 hz2 rfl (by decide) _ _ _ rfl (Own.new (k := .i8) (e := 22) _ [] (by simp)).row ⟨bh, oh, none⟩ k ch (h.map (Value.int .i8)) rfl (by rw [List.length_map, Nat.mul_one]; exact HK.out.symm) (news_of_slice (HHr.out.gr (((Gr.refl wr).drewN _).alloc (.cells #[] 22)))) (by simp [Value.oneCell']) (by unfold maxLen; simp; omega) (by simp; omega) (by simp) ?_)
            intro v1 w1 hown hgrow _
            have OV := hid (Own.ofRow (k := .i8) (xs := h) hown (by simp) (by rw [← HK.out]))
            have G1 : Hid (Gr wr w1) := hid ((((Gr.refl wr).drewN _).alloc (.cells #[] 22)).by_ hgrow (fun b e => by cases e; exact Nat.le_refl _))
            obtain ⟨av, cv, hv1'⟩ := OV.out.shape
            rw [← HK.out] at hv1'
            subst hv1'
            have ROW1 := hid OV.out.row
            rw [← HK.out] at ROW1
            clear hown hgrow
            go_wp2_with (at_builtin; refine wpList_append_own _ rfl _ _ 48 rfl _ 22 i0 (.int .i8 0) 1 1 Try.underlying48 hi hz0 hz1 hz2 rfl (by decide) _ _ _ rfl (ROW1.out.alloc _) ⟨w1.heap.size, 0, none⟩ 1 1 [.int .i8 (-(q : Int))] rfl rfl (cell_l1 _ _ _) (by simp [Value.oneCell']) (by unfold maxLen; omega) (by omega) (by have := G1.out.size; simp; omega) ?_)
            intro v2 w2 hown2 hgrow2 _
            obtain ⟨g2, c2', rfl, hg2, _⟩ := hown2.form (by omega)
            have OX := hid (Own.ofRow (k := .i8) (xs := h ++ [-(q : Int)]) hown2 (by simp) (by rw [HLA.out])).reads
            have G2 := hid ((G1.out.alloc (.cells #[.int .i8 (-(q : Int))] 22)).by_ hgrow2 (fun b e => (ROW1.out.lt b e).1))
            have hg2' : g2 ≠ Bs := by have h1 : wr.heap.size ≤ g2 := hg2; have h2 := hMt.out.size; omega
            have d1 := G2.out.cell hSr.out.cellS
            obtain ⟨sv, hsv⟩ : ∃ sv, sv = setsTo (h ++ [-(q : Int)]) (k + 1) (k + 1) := ⟨_, rfl⟩
            have HSX := hid (HSETS.out (-(q : Int)) (.inr HX.out))
            rw [← hsv] at HSX
            have t5 := HFD.out (-(q : Int))
            rw [← hsv] at t5
            have HIX := hid (HI.out (-(q : Int)) HX.out)
            rw [HLA.out] at HIX
            clear hown2 hgrow2 hsv
            cases hok : okX S h (-(q : Int)) with
            | false =>
              rw [hok] at t5
              have HE := hid (show D ++ restN (goF m S B f) m S h q = G by have := HD2.out; rw [hok, if_neg (by simp), List.append_nil] at this; exact this)
              clear hok
              go_wp2_with fail
              go_region_held3 (fun V => V.cell? ⟨Bs, 1, none⟩ = some (.int .i64 S)) (first | go_keep | exact gV.cell (by assumption) | assumption) ((go_at_call 108; refine (HSX.out _ _ _ (OX.out.gr (by first | exact Gr.refl _ | exact (Gr.refl _).drew | exact (Gr.refl _).drewN _))).mono ?_; rintro e V ⟨rfl, gV⟩; have GV : Gr w2 V := Gr.trans (by first | exact Gr.refl _ | exact (Gr.refl _).drew | exact (Gr.refl _).drewN _) gV))
              all_goals
                have GZ := hid (G2.out.trans GV)
                clear GV gV
                go_wp2_with fail
                go_roundw
                case rel => exact ⟨_, D, F', HV2.out.1, HV2.out.2, rfl, hid (by rw [HV1.out]; exact HE.out), hid (by rw [HV1.out]; have := HDB.out; omega), hid (by first | exact hSr.out.gr GZ.out | exact hSr.out.gr (GZ.out.drew) | exact hSr.out.gr (GZ.out.drewN _)), hid (by first | exact hMt.out.gr GZ.out | exact hMt.out.gr (GZ.out.drew) | exact hMt.out.gr (GZ.out.drewN _))⟩
                case measure => simp [intOf] <;> omega
            | true =>
              rw [hok] at t5
              have HE := hid (show D ++ goF m S B f (h ++ [(-(q : Int))]) ++ restN (goF m S B f) m S h q = G by have := HD2.out; rw [hok, if_pos rfl] at this; exact this)
              have HLD := hid (show (L ++ D).length + P ≤ 1000000 by have h1 := HDB.out; have h2 := HB5.out; have h3 := HC.out; rw [List.length_append]; omega)
              have HGX := hid (HGL.out (h ++ [(-(q : Int))]))
              have HIY := hid (fun V (g : Gr w2 V) => HIX.out hok g2 c2' (L ++ D) F' V hg2' HLD.out (hSr.out.gr (G2.out.trans g)) (HMr.out.gr (G2.out.trans g)) (OX.out.gr g))
              clear hok
              go_wp2_with fail
              go_region_held3 (fun V => V.cell? ⟨Bs, 1, none⟩ = some (.int .i64 S)) (first | go_keep | exact gV.cell (by assumption) | assumption) ((go_at_call 108; refine (HSX.out _ _ _ (OX.out.gr (by first | exact Gr.refl _ | exact (Gr.refl _).drew | exact (Gr.refl _).drewN _))).mono ?_; rintro e V ⟨rfl, gV⟩; have GV : Gr w2 V := Gr.trans (by first | exact Gr.refl _ | exact (Gr.refl _).drew | exact (Gr.refl _).drewN _) gV))
              all_goals
                have GZ := hid GV
                clear GV gV
                go_wp2_with fail
                refine (HIY.out _ (by first | exact GZ.out | exact GZ.out.drew | exact GZ.out.drewN _)).mono ?_
                rintro e w4 ⟨rfl, mt, F2, sr⟩
                have MT : Hid (Mt Bs w w4) := hid ((hMt.out.gr (G2.out.trans (by first | exact GZ.out | exact GZ.out.drew | exact GZ.out.drewN _))).trans mt)
                have SR := hid sr
                clear mt sr
                go_wp2_with fail
                go_roundw
                case rel => exact ⟨_, D ++ goF m S B f (h ++ [(-(q : Int))]), F2, HV2.out.1, HV2.out.2, rfl, hid (by rw [HV1.out]; exact HE.out), hid (by rw [HV1.out, List.length_append]; have h1 := HDB.out; have h2 := HGX.out; omega), hid (by rw [← List.append_assoc]; exact SR.out), MT⟩
                case measure => simp [intOf] <;> omega
      · have HV1 := hid (show (v + 1).toNat = 0 by omega)
        have HE := hid (show D = G by have := hD.out; rw [HV1.out] at this; simpa [restN] using this)
        clear h0 hD hDL
        go_wp2_with fail
        go_end0
        exact ⟨rfl, hMt.out, F', by rw [← HE.out]; exact hSr.out⟩
end Go.Proofs.Ytkbdblaciphmnaa
