/- The model's search of hoists, whole; HoistFor, WaysToHoist of the model. -/
import Derived.Test.YtkbdblaciphmnaaLook2
import Derived.Test.YtkbdblaciphmnaaHoistU
namespace Go.Proofs.Ytkbdblaciphmnaa
set_option linter.unusedVariables false
open Go.RowKit
theorem look_all (Bs bm om cm n : Nat) (m : List Int) (S : Int) (B : Nat) (hn : n = m.length) (hn8 : n ≤ 8) (hB : B ≤ 4) (hbm : bm ≠ Bs) (hnum : ∀ i, i < n → m.getD i 0 = -10 ∨ (0 ≤ m.getD i 0 ∧ m.getD i 0 ≤ 39)) (f : Nat) : LookOk Bs bm om cm n m S B f := by
  induction f with
  | zero => exact look_zero Bs bm om cm n m S B hn8 hbm
  | succ f ih =>
    intro h hl hN hF bh oh ch st L F w hst hbh hc hS hm hh
    by_cases hb : m.getD h.length 0 = -10
    · exact look_brk Bs bm om cm n m S B f hn hn8 hbm ih h hl hN hF hb bh oh ch st L F w hbh hc hS hm hh
    · subst hst
      exact look_kind Bs bm om cm n m S B f hn hn8 hB hbm hnum ih h hl hN hF hb bh oh ch L F w hbh hc hS hm hh
theorem plain_nums {m : List Int} (h : plainH m = true) : ∀ i, i < m.length → m.getD i 0 = -10 ∨ (0 ≤ m.getD i 0 ∧ m.getD i 0 ≤ 39) := by
  intro i hi
  have hv := plainH_valid h
  rcases validH_num hv hi with h1 | h1 | h1
  · exact .inl h1
  · have h2 := h
    unfold plainH at h2
    simp only [Bool.and_eq_true] at h2
    have h3 := allTo_iff.1 h2.2 i hi
    unfold ownAt at h3
    rw [subI_iff.2 h1] at h3
    cases h3
  · exact .inr h1
/-- All hoists have been found. -/
def FindPost (M : Value) (S B : Int) (R : List (List Int)) (w : World) (e : Ending) (w' : World) : Prop := e = .returned (.pointer (some ⟨w.heap.size, 0, none⟩)) ∧ (∃ F, Srch w' w.heap.size M S B R F) ∧ Gr w w'
set_option maxRecDepth 100000 in
set_option maxHeartbeats 2000000 in
theorem l02Find_any (bm om cm n : Nat) (m : List Int) (S : Int) (B : Nat) (hn : n = m.length) (hv : plainH m = true) (hS0 : 0 ≤ S) (hB : B ≤ 4) (w : World) (hm : SliceOf .i8 w (some ⟨bm, om, none⟩) m) :
    Calls Try.prog 94 #[.slice (some ⟨bm, om, none⟩) n cm, .int .i64 S, .int .i64 B] w (FindPost (.slice (some ⟨bm, om, none⟩) n cm) S B (hoistsL m S B) w) := by
  obtain ⟨h1, h8⟩ := validH_len (plainH_valid hv)
  obtain ⟨b', o', e', cm0⟩ := hm 0 (by omega)
  simp only [Option.some.injEq, Addr.mk.injEq, and_true] at e'
  obtain ⟨rfl, rfl⟩ := e'
  have hbl := World.block_lt_of_cell? _ _ cm0
  dsimp only at hbl
  have HP := hid (Nat.pow_le_pow_right (show 0 < 5 by omega) h8)
  have LA := hid (look_all w.heap.size bm om cm n m S B hn (by omega) hB (by omega) (fun i hi => plain_nums hv i (by omega)) n)
  have HL := hid (show hoistsL m S B = [] ++ goF m S B n [] by rw [hn]; rfl)
  have HN := hid hn
  have HM := hid hm
  clear cm0 hm hv hn
  go_enter Try.func94, Try.ntmps94
  go_wp2_with fail
  have SR := hid (Srch.mk (L := []) (S := S) (B := (B : Int)) (M := .slice (some ⟨bm, om, none⟩) n cm) (F := .slice none 0 0) (heap_kept (o := .cells #[] 22) (heap_new (w := w) (o := .cells #[.slice (some ⟨bm, om, none⟩) n cm, .int .i64 S, .int .i64 B, .int .i64 0, .slice none 0 0] 112) rfl)) (show FstOk _ w.heap.size [] (.slice none 0 0) from rfl))
  have G := hid (((Gr.refl w).alloc (.cells #[.slice (some ⟨bm, om, none⟩) n cm, .int .i64 S, .int .i64 B, .int .i64 0, .slice none 0 0] 112)).alloc (.cells #[] 22))
  have hb : ([] : List (List Int)).length + 5 ^ n ≤ 1000000 := by rw [HN.out, List.length_nil, Nat.zero_add]; exact Nat.le_trans HP.out (by decide)
  have hz : ([] : List Int).length + n = n := by rw [List.length_nil, Nat.zero_add]
  refine (LA.out [] hz NumN.nil (Fine.nil hS0) (w.heap.size + 1) 0 0 0 [] (.slice none 0 0) _ rfl (by omega) hb SR.out (HM.out.gr G.out) (fun i hi => absurd hi (Nat.not_lt_zero i))).mono ?_
  rintro e w1 ⟨rfl, mt, F, sr⟩
  have MT := hid (Below.trans G.out (mt.below (Nat.le_refl _) (by simp; omega)))
  have SO := hid sr
  clear mt sr
  go_wp2_with fail
  go_ret
  exact ⟨rfl, ⟨F, by rw [HL.out]; exact SO.out⟩, MT.out⟩
/-- What is wrong with a wish. -/
def askC (m : List Int) (S B : Int) : Int := if plainH m then (if betB S 1 8 && betB B 0 4 then 0 else 2) else 1
theorem askC_yes {m : List Int} {S B : Int} (h : askC m S B = 0) : plainH m = true ∧ (1 ≤ S ∧ S ≤ 8) ∧ (0 ≤ B ∧ B ≤ 4) := by
  unfold askC at h
  cases hv : plainH m
  · rw [hv] at h; cases h
  · rw [hv, if_pos rfl] at h
    cases hb : (betB S 1 8 && betB B 0 4)
    · rw [hb] at h; cases h
    · simp only [Bool.and_eq_true] at hb
      unfold betB at hb
      simp only [Bool.and_eq_true, decide_eq_true_eq] at hb
      exact ⟨rfl, hb.1, hb.2⟩
set_option maxRecDepth 100000 in
set_option maxHeartbeats 1000000 in
theorem l02Asked_any (a : Option Addr) (n cap : Nat) (m : List Int) (hn : n = m.length) (hm : n ≤ 1048576) (hf : Fits .i8 m) (S B : Int) (w : World) (hs : SliceOf .i8 w a m) :
    Calls Try.prog 93 #[.slice a n cap, .int .i64 S, .int .i64 B] w fun e w' => e = .returned (.int .i64 (askC m S B)) ∧ Gr w w' := by
  have HP := hid (l02Plain_any a n cap m hn hm hf w hs)
  have HA : Hid (askC m S B = if plainH m then (if betB S 1 8 && betB B 0 4 then 0 else 2) else 1) := hid rfl
  clear hs hf hn
  generalize askC m S B = c at *
  generalize plainH m = p at *
  cases p with
  | false =>
    have HC := hid (show c = 1 from HA.out)
    clear HA
    go_enter Try.func93, Try.ntmps93
    go_wp2_with fail
    refine HP.out.mono ?_
    rintro e w1 ⟨rfl, g1⟩
    have G1 := hid g1
    clear g1
    go_wp2_with fail
    go_ret
    exact ⟨ret_int HC.out.symm, G1.out⟩
  | true =>
    cases hb : betB S 1 8 with
    | false =>
      have HC := hid (show c = 2 by have := HA.out; rw [hb] at this; exact this)
      have HB := hid hb
      clear HA hb
      go_enter Try.func93, Try.ntmps93
      go_wp2_with fail
      refine HP.out.mono ?_
      rintro e w1 ⟨rfl, g1⟩
      have G1 := hid g1
      clear g1
      go_wp2_with fail
      refine (l00In_b _ _ _ _).mono ?_
      rintro e w' ⟨rfl, rfl⟩
      rw [HB.out]
      go_wp2_with fail
      go_ret
      exact ⟨ret_int HC.out.symm, G1.out⟩
    | true =>
      cases hb2 : betB B 0 4 with
      | false =>
        have HC := hid (show c = 2 by have := HA.out; rw [hb, hb2] at this; exact this)
        have HB := hid hb
        have HB2 := hid hb2
        clear HA hb hb2
        go_enter Try.func93, Try.ntmps93
        go_wp2_with fail
        refine HP.out.mono ?_
        rintro e w1 ⟨rfl, g1⟩
        have G1 := hid g1
        clear g1
        go_wp2_with fail
        refine (l00In_b _ _ _ _).mono ?_
        rintro e w' ⟨rfl, rfl⟩
        rw [HB.out]
        go_wp2_with fail
        refine (l00In_b _ _ _ _).mono ?_
        rintro e w' ⟨rfl, rfl⟩
        rw [HB2.out]
        go_wp2_with fail
        go_ret
        exact ⟨ret_int HC.out.symm, G1.out⟩
      | true =>
        have HC := hid (show c = 0 by have := HA.out; rw [hb, hb2] at this; exact this)
        have HB := hid hb
        have HB2 := hid hb2
        clear HA hb hb2
        go_enter Try.func93, Try.ntmps93
        go_wp2_with fail
        refine HP.out.mono ?_
        rintro e w1 ⟨rfl, g1⟩
        have G1 := hid g1
        clear g1
        go_wp2_with fail
        refine (l00In_b _ _ _ _).mono ?_
        rintro e w' ⟨rfl, rfl⟩
        rw [HB.out]
        go_wp2_with fail
        refine (l00In_b _ _ _ _).mono ?_
        rintro e w' ⟨rfl, rfl⟩
        rw [HB2.out]
        go_wp2_with fail
        go_ret
        exact ⟨ret_int HC.out.symm, G1.out⟩
def headL (R : List (List Int)) : List Int := match R with | [] => [] | h :: _ => h
def headC (R : List (List Int)) : Int := match R with | [] => 6 | _ :: _ => 0
def hforL (m : List Int) (S B : Int) : List Int := if askC m S B = 0 then headL (hoistsL m S B.toNat) else []
def hforC (m : List Int) (S B : Int) : Int := if askC m S B = 0 then headC (hoistsL m S B.toNat) else askC m S B
def waysV (m : List Int) (S B : Int) : Int := if askC m S B = 0 then ((hoistsL m S B.toNat).length : Int) else 0
theorem hfor_no {m : List Int} {S B : Int} (h : ¬ askC m S B = 0) : hforL m S B = [] ∧ hforC m S B = askC m S B ∧ waysV m S B = 0 := by
  unfold hforL hforC waysV
  rw [if_neg h, if_neg h, if_neg h]
  exact ⟨rfl, rfl, rfl⟩
theorem hfor_yes {m : List Int} {S B : Int} (h : askC m S B = 0) : hforL m S B = headL (hoistsL m S B.toNat) ∧ hforC m S B = headC (hoistsL m S B.toNat) ∧ waysV m S B = ((hoistsL m S B.toNat).length : Int) := by
  unfold hforL hforC waysV
  rw [if_pos h, if_pos h, if_pos h]
  exact ⟨rfl, rfl, rfl⟩
theorem slice_some {w : World} {a : Option Addr} {m : List Int} (h1 : 1 ≤ m.length) (hs : SliceOf .i8 w a m) : ∃ b o, a = some ⟨b, o, none⟩ := by
  obtain ⟨b, o, e, _⟩ := hs 0 (by omega)
  exact ⟨b, o, e⟩
set_option maxRecDepth 100000 in
set_option maxHeartbeats 2000000 in
theorem spec_HoistFor_cap (a : Option Addr) (cap : Nat) (m : List Int) (hm : m.length ≤ 1048576) (hcap : m.length ≤ cap) (hf : Fits .i8 m) (S : Int) (_hS : (Lit.int .i64 S).wf = true) (B : Int) (_hB : (Lit.int .i64 B).wf = true) (w : World) (hs : SliceOf .i8 w a m) :
    Calls Try.prog 68 #[.slice a m.length cap, .int .i64 S, .int .i64 B] w (RetOwn .i8 22 (withCode (hforC m S B)) (hforL m S B) w) := by
  have HQ := hid (l02Asked_any a m.length cap m rfl hm hf S B w hs)
  by_cases hc : askC m S B = 0
  · obtain ⟨hv, ⟨hS1, hS8⟩, hB0, hB4⟩ := askC_yes hc
    obtain ⟨eL, eC, _⟩ := hfor_yes hc
    rw [eL, eC]
    rw [hc] at HQ
    obtain ⟨bb, rfl⟩ := Int.eq_ofNat_of_zero_le hB0
    obtain ⟨bm, om, rfl⟩ := slice_some (validH_len (plainH_valid hv)).1 hs
    rw [Int.toNat_natCast]
    have HF := hid (fun (W : World) (g : Gr w W) => l02Find_any bm om cap m.length m S bb rfl hv (by omega) (by omega) W (hs.gr g))
    clear eL eC hs hf hv hc
    generalize m.length = n at *
    generalize hR : hoistsL m S bb = R at *
    clear hR
    cases R with
    | nil =>
      go_enter Try.func68, Try.ntmps68
      go_wp2_with fail
      refine HQ.out.mono ?_
      rintro e w1 ⟨rfl, g1⟩
      have G1 := hid g1
      clear g1
      go_wp2_with fail
      refine (HF.out w1 G1.out).mono ?_
      rintro e w2 ⟨rfl, ⟨F, sr⟩, g2⟩
      have SR := hid sr
      have G2 := hid (G1.out.trans g2)
      have c3 : w2.cell? ⟨w1.heap.size, 3, none⟩ = some (.int .i64 0) := sr.cellC
      clear g2 sr
      go_wp2_with fail
      go_ret2
      exact ret_empty G2.out _
    | cons x R =>
      go_enter Try.func68, Try.ntmps68
      go_wp2_with fail
      refine HQ.out.mono ?_
      rintro e w1 ⟨rfl, g1⟩
      have G1 := hid g1
      clear g1
      go_wp2_with fail
      refine (HF.out w1 G1.out).mono ?_
      rintro e w2 ⟨rfl, ⟨F, sr⟩, g2⟩
      have G2 := hid (G1.out.trans g2)
      have c3 : w2.cell? ⟨w1.heap.size, 3, none⟩ = some (.int .i64 ((x :: R).length : Int)) := sr.cellC
      have c4 := sr.cellF
      have OF : Hid (Own .i8 22 w2 w.heap.size w2.heap.size F x) := hid ((show Own .i8 22 w2 (w1.heap.size + 1) w2.heap.size F x from sr.fst).widen (by have := G1.out.size; omega) (Nat.le_refl _))
      have hne : (((x :: R).length : Int) == 0) = false := by simp; omega
      generalize (x :: R).length = q at *
      clear g2 sr
      go_wp2_with fail
      go_ret2
      exact ⟨F, rfl, OF.out, G2.out⟩
  · obtain ⟨eL, eC, _⟩ := hfor_no hc
    rw [eL, eC]
    have hcb : (askC m S B != 0) = true := by rw [bne_iff_ne]; exact hc
    clear eL eC hs hf hc
    generalize askC m S B = c at *
    generalize m.length = n at *
    go_enter Try.func68, Try.ntmps68
    go_wp2_with fail
    refine HQ.out.mono ?_
    rintro e w1 ⟨rfl, g1⟩
    have G1 := hid g1
    clear g1
    go_wp2_with fail
    go_ret2
    exact ret_empty G1.out _
theorem spec_HoistFor_any (a : Option Addr) (m : List Int) (hm : m.length ≤ 1048576) (hf : Fits .i8 m) (S : Int) (_hS : (Lit.int .i64 S).wf = true) (B : Int) (_hB : (Lit.int .i64 B).wf = true) (w : World) (hs : SliceOf .i8 w a m) :
    Calls Try.prog 68 #[.slice a m.length m.length, .int .i64 S, .int .i64 B] w (RetOwn .i8 22 (withCode (hforC m S B)) (hforL m S B) w) := spec_HoistFor_cap a _ m hm (Nat.le_refl _) hf S _hS B _hB w hs
end Go.Proofs.Ytkbdblaciphmnaa
