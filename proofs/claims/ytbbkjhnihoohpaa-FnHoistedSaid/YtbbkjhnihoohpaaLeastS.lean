/- LeastSets of the model. -/
import Derived.Test.YtbbkjhnihoohpaaLook3
namespace Go.Proofs.Ytbbkjhnihoohpaa
open Go.RowKit
theorem goN_some {next : List Int → List (List Int)} {m : List Int} {S : Int} {h : List Int} (hx : okX S h (m.getD h.length 0) = true) (hn : next (h ++ [m.getD h.length 0]) ≠ []) (n : Nat) : goN next m S h n ≠ [] := by
  induction n with
  | zero => rw [goN, if_pos hx]; exact hn
  | succ n ih =>
    rw [goN]
    intro e
    exact ih (List.append_eq_nil_iff.1 e).2
theorem goF_some (m : List Int) (S : Int) (hS : 8 ≤ S) (B f : Nat) : ∀ h : List Int, h.length + f ≤ 8 → goF m S B f h ≠ [] := by
  induction f with
  | zero => intro h _; rw [goF_zero]; simp
  | succ f ih =>
    intro h hl
    rw [goF_succ]
    refine goN_some ?_ (ih _ (by rw [List.length_append, List.length_singleton]; omega)) B
    unfold okX
    have := (occ_bd h (m.getD h.length 0) h.length).2
    rw [Bool.or_eq_true]
    right
    rw [decide_eq_true_eq]
    omega
theorem hoistsL_some {m : List Int} (hl : m.length ≤ 8) (B : Nat) : hoistsL m (8 : Nat) B ≠ [] := goF_some m _ (by omega) B _ [] (by simpa using hl)
/-- The least number of sets from s on, within f more. -/
def leastN (m : List Int) (B : Nat) : Nat → Nat → Nat
  | 0, s => s
  | f + 1, s => if hoistsL m (s : Nat) B = [] then leastN m B f (s + 1) else s
def leastC (m : List Int) (B : Int) : Int := askC m 1 B
def leastV (m : List Int) (B : Int) : Int := if askC m 1 B = 0 then (leastN m B.toNat 7 1 : Nat) else 0
theorem leastV_no {m : List Int} {B : Int} (h : ¬ askC m 1 B = 0) : leastV m B = 0 := by unfold leastV; rw [if_neg h]
theorem leastV_yes {m : List Int} {B : Int} (h : askC m 1 B = 0) : leastV m B = (leastN m B.toNat 7 1 : Nat) := by unfold leastV; rw [if_pos h]
theorem leastN_stop {m : List Int} {B s : Nat} (h : hoistsL m (s : Nat) B ≠ []) (f : Nat) : leastN m B f s = s := by
  cases f with
  | zero => rfl
  | succ f => rw [leastN, if_neg h]
set_option maxRecDepth 100000 in
set_option maxHeartbeats 2000000 in
theorem spec_LeastSets_cap (a : Option Addr) (cap : Nat) (m : List Int) (hm : m.length ≤ 1048576) (hcap : m.length ≤ cap) (hf : Fits .i8 m) (B : Int) (_hB : (Lit.int .i64 B).wf = true) (w : World) (hs : SliceOf .i8 w a m) :
    Calls Try.prog 11 #[.slice a m.length cap, .int .i64 B] w fun e w' => e = .returned (.tuple #[.int .i64 (leastV m B), .int .i64 (leastC m B)]) ∧ Gr w w' := by
  have HQ := hid (l02Asked_any a m.length cap m rfl hm hf 1 B w hs)
  have HLC := hid (show leastC m B = askC m 1 B from rfl)
  by_cases hc : askC m 1 B = 0
  · obtain ⟨hv, _, hB0, hB4⟩ := askC_yes hc
    have hV := leastV_yes hc
    rw [hc] at HQ HLC
    obtain ⟨bb, rfl⟩ := Int.eq_ofNat_of_zero_le hB0
    rw [Int.toNat_natCast] at hV
    have h8 := (validH_len (plainH_valid hv)).2
    obtain ⟨bm, om, rfl⟩ := slice_some (validH_len (plainH_valid hv)).1 hs
    have HF := hid (fun (S : Nat) (W : World) (g : Gr w W) => l02Find_any bm om cap m.length m (S : Nat) bb rfl hv (by omega) (by omega) W (hs.gr g))
    have H8 := hid (hoistsL_some h8 bb)
    have HV := hid hV
    clear hs hf hv hc hV h8
    generalize m.length = n at *
    generalize leastV m (bb : Int) = lv at *
    generalize leastC m (bb : Int) = lc at *
    go_enter Try.func11, Try.ntmps11
    go_wp2_with fail
    refine HQ.out.mono ?_
    rintro e w1 ⟨rfl, g1⟩
    have G1 := hid g1
    clear g1
    go_wp2_with fail
    go_loopw [7] (fun t wr => ∃ s : Nat, 1 ≤ s ∧ s ≤ 8 ∧ t = .int .i64 s ∧ Hid (leastN m bb (8 - s) s = leastN m bb 7 1) ∧ Hid (Gr w wr)) (fun t _ => 9 - (intOf t).toNat)
    case atStart => exact ⟨1, by omega, by omega, rfl, hid rfl, G1⟩
    case round =>
      obtain ⟨s, hs1, hs8, rfl, hls, GR⟩ := hrel
      by_cases hR : hoistsL m (s : Nat) bb = []
      · have hlt : s < 8 := by
          rcases Nat.lt_or_ge s 8 with h | h
          · exact h
          · have e : s = 8 := by omega
            rw [e] at hR
            exact absurd hR H8.out
        have HN := hid (show leastN m bb (8 - (s + 1)) (s + 1) = leastN m bb 7 1 by have h := hls.out; rw [show 8 - s = (8 - (s + 1)) + 1 by omega, leastN, if_pos hR] at h; exact h)
        have HFS := hid (HF.out s _ GR.out)
        rw [hR] at HFS
        clear hR hls
        go_wp2_with fail
        refine HFS.out.mono ?_
        rintro e w2 ⟨rfl, ⟨F, sr⟩, g2⟩
        have c3 : w2.cell? ⟨wr.heap.size, 3, none⟩ = some (.int .i64 0) := sr.cellC
        have G2 := hid (GR.out.trans g2)
        clear sr g2
        go_wp2_with fail
        go_roundw
        case rel => exact ⟨s + 1, by omega, by omega, by go_num, HN, G2⟩
        case measure => simp [intOf]; omega
      · have HE := hid (show leastN m bb 7 1 = s by rw [← hls.out]; exact leastN_stop hR _)
        have HFS := hid (HF.out s _ GR.out)
        have hpos : 0 < (hoistsL m (s : Nat) bb).length := List.length_pos_iff.2 hR
        generalize hoistsL m (s : Nat) bb = R at *
        clear hR hls
        go_wp2_with fail
        refine HFS.out.mono ?_
        rintro e w2 ⟨rfl, ⟨F, sr⟩, g2⟩
        have c3 : w2.cell? ⟨wr.heap.size, 3, none⟩ = some (.int .i64 (R.length : Int)) := sr.cellC
        have hne : ((R.length : Int) == 0) = false := by rw [beq_eq_false_iff_ne]; omega
        have G2 := hid (GR.out.trans g2)
        clear sr g2
        generalize R.length = q at *
        go_wp2_with fail
        go_ret2
        exact ⟨by rw [HV.out, HE.out, HLC.out]; rfl, G2.out⟩
  · have hV := leastV_no hc
    have hcb : (askC m 1 B != 0) = true := by rw [bne_iff_ne]; exact hc
    rw [hV, HLC.out]
    clear hs hf hc hV HLC
    generalize askC m 1 B = c at *
    generalize m.length = n at *
    go_enter Try.func11, Try.ntmps11
    go_wp2_with fail
    refine HQ.out.mono ?_
    rintro e w1 ⟨rfl, g1⟩
    have G1 := hid g1
    clear g1
    go_wp2_with fail
    go_ret2
    exact ⟨rfl, G1.out⟩
theorem spec_LeastSets_any (a : Option Addr) (m : List Int) (hm : m.length ≤ 1048576) (hf : Fits .i8 m) (B : Int) (_hB : (Lit.int .i64 B).wf = true) (w : World) (hs : SliceOf .i8 w a m) :
    Calls Try.prog 11 #[.slice a m.length m.length, .int .i64 B] w fun e w' => e = .returned (.tuple #[.int .i64 (leastV m B), .int .i64 (leastC m B)]) ∧ Gr w w' := spec_LeastSets_cap a _ m hm (Nat.le_refl _) hf B _hB w hs
end Go.Proofs.Ytbbkjhnihoohpaa
