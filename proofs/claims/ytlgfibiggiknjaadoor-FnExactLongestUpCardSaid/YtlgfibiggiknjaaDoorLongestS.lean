/- LongestUp: the model's loops. -/
import Derived.Test.YtlgfibiggiknjaaDoorLongestUp
namespace Go.Proofs.YtlgfibiggiknjaaDoor
set_option linter.unusedVariables false
open Go.RowKit
theorem long_fin {es : List En} (hv : validE es = true) : ((longTo es es.length).2 < 0 → longV es = 0 ∧ longL es = 0 ∧ longC es = 6) ∧ (¬ (longTo es es.length).2 < 0 → longV es = (longTo es es.length).1 ∧ longL es = (longTo es es.length).2 ∧ longC es = 0) := by
  have hg := (valid_good hv).2
  have hup : allTo (okUp es) es.length = true := by
    refine allTo_iff.2 fun i hi => ?_
    have h2 := allTo_iff.1 hg i hi
    unfold goodE at h2
    rw [Bool.and_eq_true, Bool.and_eq_true] at h2
    rw [okUp_eq]
    exact h2.2.2
  have hle : ∀ d, d < es.length → (enAt es d).d = true → 0 ≤ lenE es d := by
    intro d hd hdd
    have hz := hzE_low (allTo_iff.1 hup d hd) hdd
    have hmono : ∀ j, j ≤ d → ∀ i, i ≤ j → (enAt es i).t ≤ (enAt es j).t := by
      intro j
      induction j with
      | zero => intro _ i hi; obtain rfl : i = 0 := by omega
                exact Int.le_refl _
      | succ j ih =>
        intro hj i hi
        by_cases e : i = j + 1
        · rw [e]; exact Int.le_refl _
        · have h1 := ih (by omega) i (by omega)
          have h2 := allTo_iff.1 hg (j + 1) (by omega)
          unfold goodE at h2
          rw [Bool.and_eq_true] at h2
          have h3 := rgV_iff.1 h2.1
          rw [before_succ] at h3
          omega
    have h := hmono d (Nat.le_refl _) (hzE es d).toNat (by omega)
    unfold lenE
    omega
  have h := long_eq hup hle
  change ((endE es).length = 0 → _) ∧ (0 < (endE es).length → 0 ≤ (longTo es es.length).2 ∧ longTo es es.length = ((bestE es).1, lastF es (bestE es))) at h
  unfold longV longL longC
  rw [if_pos hv, if_pos hv, if_pos hv]
  constructor
  · intro h1
    have h0 : ¬ 0 < (endE es).length := fun h2 => by have := (h.2 h2).1; omega
    rw [if_neg h0, if_neg h0, if_neg h0]
    exact ⟨rfl, rfl, rfl⟩
  · intro h1
    have h0 : 0 < (endE es).length := by
      rcases Nat.eq_zero_or_pos (endE es).length with e | e
      · exact absurd (h.1 e) h1
      · exact e
    rw [if_pos h0, if_pos h0, if_pos h0, (h.2 h0).2]
    exact ⟨rfl, rfl, rfl⟩
theorem valid_up {es : List En} (hv : validE es = true) {i : Nat} (hi : i < es.length) : okUp es i = true := by
  have h2 := allTo_iff.1 (valid_good hv).2 i hi
  unfold goodE at h2
  rw [Bool.and_eq_true, Bool.and_eq_true] at h2
  rw [okUp_eq]
  exact h2.2.2
set_option maxRecDepth 100000 in
set_option maxHeartbeats 4000000 in
theorem spec_LongestUp_law (a : Option Addr) (n cap : Nat) (es : List En) (hl : n = es.length) (hn : n ≤ 1048576) (_hf : EnFits es) (w : World) (ha : CellsOf w a (enCells es)) :
    Calls Tryd.prog 24 #[.slice a n cap] w fun e w' => e = .returned (.tuple #[.int .i64 (longV es), .int .i64 (longL es), .int .i64 (longC es)]) ∧ Gr w w' := by
  have HO := hid (l07Ok_any a n cap es hl hn w ha)
  have HA := hid ha
  have HL := hid hl
  cases hv : validE es with
  | false =>
    rw [hv] at HO
    rw [show longV es = 0 by unfold longV; rw [hv]; rfl, show longL es = 0 by unfold longL; rw [hv]; rfl, show longC es = 1 by unfold longC; rw [hv]; rfl]
    clear ha hl hv
    go_enter Tryd.func24, Tryd.ntmps24
    go_wp2_with fail
    refine HO.out.mono ?_
    rintro e w1 ⟨rfl, g1⟩
    have G1 := hid g1
    clear g1
    go_wp2_with fail
    go_ret3
    exact ⟨rfl, G1.out⟩
  | true =>
    rw [hv] at HO
    have HFN := hid (long_fin hv)
    have HUK := hid (fun i (h : i < n) => valid_up hv (i := i) (by rw [← hl]; exact h))
    have HT := hid (fun i (h : i < n) => times_ok hv (i := i) (by rw [← hl]; exact h))
    have HU := hid (fun k (h : k ≤ n) V (g : Gr w V) => l07Up_any a n cap es hl hn k h V (ha.gr g))
    generalize longV es = lv at *
    generalize longL es = ll at *
    generalize longC es = lc at *
    clear ha hl hv
    go_enter Tryd.func24, Tryd.ntmps24
    go_wp2_with fail
    refine HO.out.mono ?_
    rintro e w1 ⟨rfl, g1⟩
    have G1 := hid g1
    clear g1
    go_wp2_with fail
    go_loopw [5, 6, 7] (fun sv bv iv wr => ∃ (k : Nat) (s b : Int), k ≤ n ∧ iv = .int .i64 k ∧ sv = .int .i64 s ∧ bv = .int .i64 b ∧ Hid (longTo es k = (s, b)) ∧ Hid (Gr w wr)) (fun _ _ iv _ => n - (intOf iv).toNat)
    case atStart => exact ⟨0, 0, -1, Nat.zero_le _, rfl, rfl, rfl, hid rfl, G1⟩
    case round =>
      obtain ⟨k, s, b, hk, rfl, rfl, rfl, HS, hg⟩ := hrel
      by_cases hlt : k < n
      · obtain ⟨b0, o0, rfl, ct, cs, cd⟩ := en_at (HA.out.gr hg.out) (i := k) (by rw [← HL.out]; exact hlt)
        have hb0 : (0 : Int) ≤ k := by omega
        have hb1 : (k : Int) < n := by omega
        cases hd : (enAt es k).d
        · rw [hd] at cd
          have HS2 := hid (show longTo es (k + 1) = (s, b) by rw [longTo, hd, if_neg (by simp)]; exact HS.out)
          clear hd
          go_wp2_with fail
          go_roundw
          case rel => exact ⟨k + 1, s, b, by omega, by go_num, rfl, rfl, HS2, hg⟩
          case measure => simp [intOf]; omega
        · rw [hd] at cd
          have HLT := hid (lgTo_all (HUK.out k hlt) hd)
          have HUU := hid (HU.out k hk _ hg.out)
          have HUB := hid (show upBack es k = upS es k by unfold upBack; rw [allTo_iff.2 fun i hi => HUK.out i (by omega)]; rfl)
          rw [HUB.out] at HUU
          have UI := hid (up_inv es k)
          have h0t := HT.out k hlt
          have HQ0 := hid (show lgTo es k (upS es k) 0 = (s, b) from HS.out)
          have HST := hid (fun q => show lgTo es k (upS es k) (q + 1) = if (sigAt es (upS es k) q == (enAt es k).s) = true ∧ (lgTo es k (upS es k) q).2 < (enAt es k).t - (enAt es ((upS es k).getD q 0).toNat).t then ((upS es k).getD q 0, (enAt es k).t - (enAt es ((upS es k).getD q 0).toNat).t) else lgTo es k (upS es k) q from rfl)
          have hulen : (upS es k).length ≤ k := UI.out.len
          generalize upS es k = up at *
          generalize (enAt es k).t = tk at *
          generalize (enAt es k).s = x at *
          clear hd HUB
          go_wp2_with fail
          refine HUU.out.mono ?_
          rintro e w2 ⟨v, rfl, o2, g2⟩
          obtain ⟨av, cv, rfl⟩ := o2.shape
          have O2 := hid o2
          have G2 := hid g2
          have ct2 := g2.cell ct
          have cs2 := g2.cell cs
          generalize allTo (okUp es) k = okb at *
          clear o2 g2 ct cs cd
          go_wp2_with fail
          go_loopw [5, 6, 10] (fun sv bv jv w3 => ∃ (q : Nat) (s b : Int), q ≤ up.length ∧ jv = .int .i64 q ∧ sv = .int .i64 s ∧ bv = .int .i64 b ∧ Hid (lgTo es k up q = (s, b)) ∧ Hid (Gr w2 w3)) (fun _ _ jv _ => up.length - (intOf jv).toNat)
          case atStart => exact ⟨0, s, b, Nat.zero_le _, rfl, rfl, rfl, HQ0, hid (Gr.refl _)⟩
          case round =>
            clear HS
            obtain ⟨q, s, b, hq, rfl, rfl, rfl, HS, G3⟩ := hrel
            by_cases hq2 : q < up.length
            · obtain ⟨jn, hj⟩ : ∃ jn : Nat, up.getD q 0 = (jn : Int) := ⟨(up.getD q 0).toNat, by have := (UI.out.low q hq2).1; omega⟩
              have hjk : jn < k := by have := (UI.out.low q hq2).2; omega
              obtain ⟨g', rfl, -, hcu, -⟩ := (O2.out.gr G3.out).at_ (i := q) hq2
              rw [hj] at hcu
              have cj := en_at' (HA.out.gr ((hg.out.trans G2.out).trans G3.out)) (i := jn) (by rw [← HL.out]; omega)
              have cj1 := cj.2.1
              have cj0 := cj.1
              have ck0 := G3.out.cell ct2
              have ck1 := G3.out.cell cs2
              have HSS := hid (HST.out q)
              rw [HS.out, hj, Int.toNat_natCast, show sigAt es up q = (enAt es jn).s from by unfold sigAt; rw [hj, Int.toNat_natCast]] at HSS
              have h1t := HT.out jn (by omega)
              generalize (enAt es jn).s = y at *
              generalize (enAt es jn).t = tj at *
              have hc0 : (0 : Int) ≤ q := by omega
              have hc1 : (q : Int) < up.length := by omega
              have hc2 : (0 : Int) ≤ jn := by omega
              have hc3 : (jn : Int) < n := by omega
              clear cj hj
              cases hyx : (y == x)
              · have HZ := hid (show lgTo es k up (q + 1) = (s, b) by rw [HSS.out, hyx, if_neg (by simp)])
                clear HSS
                go_wp2_with fail
                go_quiet (fail)
                go_wp2_with fail
                go_roundw
                case rel => exact ⟨q + 1, s, b, by omega, by go_num, rfl, rfl, HZ, hid (G3.out.drewN _)⟩
                case measure => simp [intOf]; omega
              · by_cases hgt : b < tk - tj
                · have HZ := hid (show lgTo es k up (q + 1) = ((jn : Int), tk - tj) by rw [HSS.out, hyx, if_pos ⟨rfl, hgt⟩])
                  clear HSS
                  go_wp2_with fail
                  go_quiet (fail)
                  go_wp2_with fail
                  go_quiet (fail)
                  go_wp2_with fail
                  go_roundw
                  case rel => exact ⟨q + 1, (jn : Int), tk - tj, by omega, by go_num, rfl, rfl, HZ, hid (G3.out.drewN _)⟩
                  case measure => simp [intOf]; omega
                · have HZ := hid (show lgTo es k up (q + 1) = (s, b) by rw [HSS.out, hyx, if_neg (fun h => hgt h.2)])
                  clear HSS
                  go_wp2_with fail
                  go_quiet (fail)
                  go_wp2_with fail
                  go_roundw
                  case rel => exact ⟨q + 1, s, b, by omega, by go_num, rfl, rfl, HZ, hid (G3.out.drewN _)⟩
                  case measure => simp [intOf]; omega
            · obtain rfl : q = up.length := by omega
              have HZ := hid (show longTo es (k + 1) = (s, b) by rw [← HLT.out]; exact HS.out)
              have GG := hid ((hg.out.trans G2.out).trans G3.out)
              go_wp2_with fail
              go_roundw
              case rel => exact ⟨k + 1, s, b, by omega, by go_num, rfl, rfl, HZ, GG⟩
              case measure => simp [intOf]; omega
      · obtain rfl : k = n := by omega
        have HF2 := HFN.out
        rw [← HL.out, HS.out] at HF2
        by_cases hb : b < 0
        · have HZ := hid (HF2.1 hb)
          clear HF2
          go_wp2_with fail
          go_ret3
          exact ⟨by rw [HZ.out.1, HZ.out.2.1, HZ.out.2.2]; rfl, hg.out⟩
        · have HZ := hid (HF2.2 (Int.not_lt.1 hb))
          clear HF2
          go_wp2_with fail
          go_ret3
          exact ⟨by rw [HZ.out.1, HZ.out.2.1, HZ.out.2.2]; rfl, hg.out⟩
end Go.Proofs.YtlgfibiggiknjaaDoor
