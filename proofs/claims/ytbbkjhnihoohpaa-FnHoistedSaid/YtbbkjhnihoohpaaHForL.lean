/- The least sets for a meaning: the program's function; how long hoists are. -/
import Derived.Test.YtbbkjhnihoohpaaHFor
namespace Go.Proofs.Ytbbkjhnihoohpaa
open Go.RowKit
theorem goN_mem {next : List Int → List (List Int)} {m : List Int} {S : Int} {h x : List Int} {n : Nat} (hx : x ∈ goN next m S h n) : ∃ c, x ∈ next (h ++ [c]) := by
  induction n with
  | zero =>
    rw [goN] at hx
    split at hx
    · exact ⟨_, hx⟩
    · simp at hx
  | succ n ih =>
    rw [goN] at hx
    rcases List.mem_append.1 hx with h1 | h1
    · split at h1
      · exact ⟨_, h1⟩
      · simp at h1
    · exact ih h1
theorem goF_len {m : List Int} {S : Int} {B : Nat} : ∀ (f : Nat) (h x : List Int), x ∈ goF m S B f h → x.length = h.length + f := by
  intro f
  induction f with
  | zero => intro h x hx; rw [goF_zero, List.mem_singleton] at hx; rw [hx]; rfl
  | succ f ih =>
    intro h x hx
    rw [goF_succ] at hx
    obtain ⟨c, hc⟩ := goN_mem hx
    rw [ih _ _ hc, List.length_append, List.length_singleton]
    omega
theorem hforL_length (m : List Int) (S B : Int) : (hforL m S B).length ≤ 8 := by
  by_cases hc : askC m S B = 0
  · obtain ⟨eL, _, _⟩ := hfor_yes hc
    have h8 := (validH_len (plainH_valid (askC_yes hc).1)).2
    rw [eL]
    cases hR : hoistsL m S B.toNat with
    | nil => simp [headL]
    | cons x R =>
      have := goF_len (m := m) (S := S) (B := B.toNat) m.length [] x (by have := hR; unfold hoistsL at this; rw [this]; exact List.mem_cons_self)
      show x.length ≤ 8
      rw [this, List.length_nil]
      omega
  · rw [(hfor_no hc).1]; simp
theorem askC_sets {m : List Int} {S B : Int} (h : askC m 1 B = 0) (h1 : 1 ≤ S) (h8 : S ≤ 8) : askC m S B = 0 := by
  obtain ⟨hv, _, hB0, hB4⟩ := askC_yes h
  unfold askC betB
  rw [if_pos hv, if_pos (by simp; omega)]
theorem headC_six {R : List (List Int)} : headC R = 6 ↔ R = [] := by
  cases R with
  | nil => exact ⟨fun _ => rfl, fun _ => rfl⟩
  | cons x R => exact ⟨fun h => absurd (show (0 : Int) = 6 from h) (by decide), fun h => absurd h (by simp)⟩
theorem headC_ok {R : List (List Int)} (h : R ≠ []) : headC R = 0 := by
  cases R with
  | nil => exact absurd rfl h
  | cons x R => rfl
set_option maxRecDepth 100000 in
set_option maxHeartbeats 2000000 in
theorem impl_LeastSets_cap (a : Option Addr) (cap : Nat) (m : List Int) (hm : m.length ≤ 1048576) (hcap : m.length ≤ cap) (hf : Fits .i8 m) (B : Int) (_hB : (Lit.int .i64 B).wf = true) (w : World) (hs : SliceOf .i8 w a m) :
    Calls Try.prog 10 #[.slice a m.length cap, .int .i64 B] w fun e w' => e = .returned (.tuple #[.int .i64 (leastV m B), .int .i64 (leastC m B)]) ∧ Gr w w' := by
  have HF := hid (fun (S : Nat) (h1 : S ≤ 8) (W : World) (g : Gr w W) => impl_HoistFor_cap a cap m hm hcap hf (S : Nat) B W (hs.gr g))
  have HLC := hid (show leastC m B = askC m 1 B from rfl)
  by_cases hc : askC m 1 B = 0
  · obtain ⟨hv, _, hB0, hB4⟩ := askC_yes hc
    have hV := leastV_yes hc
    obtain ⟨bb, rfl⟩ := Int.eq_ofNat_of_zero_le hB0
    rw [Int.toNat_natCast] at hV
    have h8 := (validH_len (plainH_valid hv)).2
    have HCS := hid (fun (S : Nat) (h1 : 1 ≤ S) (h2 : S ≤ 8) => show hforC m (S : Nat) (bb : Int) = headC (hoistsL m (S : Nat) bb) by
      have := (hfor_yes (askC_sets (S := (S : Nat)) hc (by omega) (by omega))).2.1
      rwa [Int.toNat_natCast] at this)
    rw [hc] at HLC
    have H8 := hid (hoistsL_some h8 bb)
    have HV := hid hV
    clear hs hf hv hc hV h8
    generalize m.length = n at *
    generalize leastV m (bb : Int) = lv at *
    generalize leastC m (bb : Int) = lc at *
    go_enter Try.func10, Try.ntmps10
    go_wp2_with fail
    refine (HF.out 1 (by omega) w (Gr.refl _)).mono ?_
    rintro e w1 ⟨v, rfl, ow, g1⟩
    rw [HCS.out 1 (by omega) (by omega)]
    obtain ⟨a', c', rfl⟩ := ow.shape
    unfold withCode
    have G1 := hid g1
    clear ow g1
    generalize (hforL m (1 : Nat) (bb : Int)).length = q0 at *
    go_wp2_with fail
    go_loopw [6, 8] (fun t u wr => ∃ s : Nat, 1 ≤ s ∧ s ≤ 8 ∧ t = .int .i64 s ∧ u = .int .i64 (headC (hoistsL m (s : Nat) bb)) ∧ Hid (leastN m bb (8 - s) s = leastN m bb 7 1) ∧ Hid (Gr w wr)) (fun t _ _ => 9 - (intOf t).toNat)
    case atStart => exact ⟨1, by omega, by omega, rfl, rfl, hid rfl, G1⟩
    case round =>
      obtain ⟨s, hs1, hs8, rfl, rfl, hls, GR⟩ := hrel
      by_cases hR : hoistsL m (s : Nat) bb = []
      · have hlt : s < 8 := by
          rcases Nat.lt_or_ge s 8 with h | h
          · exact h
          · have e : s = 8 := by omega
            rw [e] at hR
            exact absurd hR H8.out
        have HN := hid (show leastN m bb (8 - (s + 1)) (s + 1) = leastN m bb 7 1 by have h := hls.out; rw [show 8 - s = (8 - (s + 1)) + 1 by omega, leastN, if_pos hR] at h; exact h)
        have HFS := hid (HF.out (s + 1) (by omega) _ GR.out)
        have HC1 := hid (HCS.out (s + 1) (by omega) (by omega))
        rw [HC1.out] at HFS
        rw [headC_six.2 hR]
        have es : ((s + 1 : Nat) : Int) = (s : Int) + 1 := by omega
        rw [es] at HFS
        clear hR hls HC1
        generalize (hforL m ((s : Int) + 1) (bb : Int)) = X at *
        go_wp2_with fail
        refine HFS.out.mono ?_
        rintro e w2 ⟨v, rfl, ow, g2⟩
        obtain ⟨a2, c2, rfl⟩ := ow.shape
        unfold withCode
        have G2 := hid (GR.out.trans g2)
        clear ow g2 HFS
        generalize X.length = q1 at *
        go_wp2_with fail
        go_roundw
        case rel => exact ⟨s + 1, by omega, by omega, by go_num, by rw [es], HN, G2⟩
        case measure => simp [intOf]; omega
      · have HE := hid (show leastN m bb 7 1 = s by rw [← hls.out]; exact leastN_stop hR _)
        rw [headC_ok hR]
        clear hR hls
        go_wp2_with fail
        go_ret2
        exact ⟨by rw [HV.out, HE.out, HLC.out]; rfl, GR.out⟩
  · have hV := leastV_no hc
    have HFE := hid (HF.out 1 (by omega) w (Gr.refl _))
    obtain ⟨-, eC, -⟩ := hfor_no hc
    rw [show ((1 : Nat) : Int) = 1 from rfl, eC] at HFE
    have hcb : (askC m 1 B != 0) = true := by rw [bne_iff_ne]; exact hc
    have hc6 : (askC m 1 B == 6) = false := by
      rw [beq_eq_false_iff_ne]
      unfold askC
      split
      · split <;> decide
      · decide
    rw [hV, HLC.out]
    clear hs hf hc hV HLC HF eC
    generalize askC m 1 B = c at *
    generalize hforL m 1 B = X at *
    generalize m.length = n at *
    go_enter Try.func10, Try.ntmps10
    go_wp2_with fail
    refine HFE.out.mono ?_
    rintro e w1 ⟨v, rfl, ow, g1⟩
    obtain ⟨a', c', rfl⟩ := ow.shape
    unfold withCode
    have G1 := hid g1
    clear ow g1 HFE
    generalize X.length = q0 at *
    go_wp2_with fail
    go_loopw [6, 8] (fun t u wr => t = .int .i64 1 ∧ u = .int .i64 c ∧ wr = w1) (fun t _ _ => 0)
    case atStart => exact ⟨rfl, rfl, rfl⟩
    case round =>
      obtain ⟨rfl, rfl, rfl⟩ := hrel
      go_wp2_with fail
      go_ret2
      exact ⟨rfl, G1.out⟩
theorem impl_LeastSets_any (a : Option Addr) (m : List Int) (hm : m.length ≤ 1048576) (hf : Fits .i8 m) (B : Int) (_hB : (Lit.int .i64 B).wf = true) (w : World) (hs : SliceOf .i8 w a m) :
    Calls Try.prog 10 #[.slice a m.length m.length, .int .i64 B] w fun e w' => e = .returned (.tuple #[.int .i64 (leastV m B), .int .i64 (leastC m B)]) ∧ Gr w w' := impl_LeastSets_cap a _ m hm (Nat.le_refl _) hf B _hB w hs
end Go.Proofs.Ytbbkjhnihoohpaa
