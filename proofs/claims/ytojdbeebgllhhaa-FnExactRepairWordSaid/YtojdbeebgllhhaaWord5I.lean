/- RepairWord of the program. -/
import Derived.Test.YtojdbeebgllhhaaWord5
namespace Go.Proofs.Ytojdbeebgllhhaa
open Go.RowKit
set_option maxRecDepth 100000 in
set_option maxHeartbeats 1000000 in
theorem impl_RepairWord_any (p : Int) (hp : (Lit.int .i64 p).wf = true) (a : Option Addr) (xs : List Int) (hm : xs.length ≤ 1048576) (hf : Fits .u8 xs) (w : World) (hs : SliceOf .u8 w a xs) :
    Calls Try.prog 34 #[.int .i64 p, .slice a xs.length xs.length] w (RetOwn .u8 5 (with2 (repI p xs) (repC p xs)) (repL p xs) w) := by
  have HC := hid (impl_SyndromesOf_any p hp a xs hm hf w hs)
  by_cases hc : synC p xs = 0
  · obtain ⟨p3, p37, -, ho, hlp⟩ := syn_inv hc
    obtain ⟨l1, l8⟩ := ofB_len ho
    obtain ⟨⟨s0, s1⟩, ⟨t0, t1⟩⟩ := syn_bd (n := p) (xs := xs) p3 p37
    obtain ⟨q1, q2⟩ := syn_yes hc
    rw [hc, q1, q2] at HC
    have HMD := hid (fun a V h0 h1 => modulo_any a p p3 p37 h0 h1 V)
    have HCL := hid (fun V (g : Gr w V) => cloneWord_any a _ xs.length xs rfl l1 hm V (hs.gr g))
    obtain ⟨n, hn⟩ : ∃ n, n = xs.length := ⟨_, rfl⟩
    obtain ⟨i0, hi, hz0, hz1, hz2⟩ := info_parts infoW
    obtain ⟨b, off, rfl, _⟩ := hs 0 (by omega)
    have S := hid hs
    have HN := hid hn
    have HF := hid hf
    cases hz : zeroB p xs
    · have HZN := hid (zero_no hz)
      have HRN := hid (rep_none hc hz)
      have HRA := hid (fun hs0 i hi ha hf => rep_at hc hz hs0 (i := i) hi ha hf)
      have HFY := hid (fun i => fix_yes (p := p) (xs := xs) (i := i))
      have HFN := hid (fun i => fix_no (p := p) (xs := xs) (i := i))
      have HFI := hid (fun s' (i : Nat) => fix_iff (n := p) (s := s') (t := synW p xs) (i := i) p3 ⟨t0, by have := Int.emod_lt_of_pos (wsumL xs xs.length) (show 0 < p by omega); exact this⟩)
      generalize repL p xs = rl at *
      generalize repI p xs = ri at *
      generalize repC p xs = rc at *
      generalize fixAt p xs = fx at *
      generalize synS p xs = s at *
      generalize synW p xs = t at *
      rw [← hn] at HC HCL l8 l1 HRN HRA ⊢
      clear hs hf hp hz hn ho hlp hc q1 q2
      by_cases hs0 : s = 0
      · obtain ⟨e1, e2, e3⟩ := HRN.out (.inl hs0)
        have ht0 := HZN.out hs0
        subst e1 e2 e3 hs0
        have tz : (t == 0) = false := by simpa using ht0
        have t2 : (0 == t) = false := by rw [beq_eq_false_iff_ne]; omega
        go_enter Try.func34, Try.ntmps34
        go_wp2_with fail
        refine HC.out.mono ?_
        rintro e w1 ⟨rfl, g1⟩
        have G1 := hid g1
        clear g1
        go_wp2_with fail
        refine (HCL.out _ G1.out).mono ?_
        rintro e w2 ⟨v2, rfl, o2, g2⟩
        obtain ⟨a2, c2', rfl⟩ := shapeW (n := n) o2.row HN.out.symm l1
        have O2 := hid o2
        have G2 := hid (G1.out.trans g2)
        have Z2 := hid g2.size
        clear o2 g2
        dsimp only
        go_wp2_with fail
        go_loop [34] (fun i => ∃ k : Nat, k ≤ n ∧ i = .int .i64 k) (fun i => n - (intOf i).toNat)
        case atStart => exact ⟨0, Nat.zero_le _, rfl⟩
        case round =>
          obtain ⟨k, hk, rfl⟩ := hrel
          by_cases hlt : k < n
          · obtain ⟨b', off', e', hc0⟩ := S.out k (by rw [← HN.out]; exact hlt)
            cases e'
            have hc := G2.out.cell hc0
            clear hc0
            obtain ⟨hx0, hx1⟩ := HF.out.getu k
            generalize xs.getD k 0 = x at *
            have e1 : IntKind.i64.wrap ((k : Int) + 1) = (k : Int) + 1 := IntWalk.i64_in _ (by omega)
            have ez : IntKind.i64.wrap 0 = 0 := rfl
            go_wp2_with fail
            with_reducible refine (HMD.out 0 _ (by omega) (by omega)).mono ?_
            rintro e w' ⟨rfl, rfl⟩
            rw [Int.zero_emod]
            go_wp2_with fail
            go_round
            case rel => exact ⟨k + 1, by omega, by go_num⟩
            case measure => simp [intOf] <;> omega
          · go_wp2_with fail
            go_ret3
            exact ret_nilW G2.out (with2 0 8)
      · have sz : (s == 0) = false := by simpa using hs0
        have sz2 : (s != 0) = true := by simpa using hs0
        have HS0 := hid hs0
        clear HZN hs0
        go_enter Try.func34, Try.ntmps34
        go_wp2_with fail
        refine HC.out.mono ?_
        rintro e w1 ⟨rfl, g1⟩
        have G1 := hid g1
        clear g1
        go_wp2_with fail
        refine (HCL.out _ G1.out).mono ?_
        rintro e w2 ⟨v2, rfl, o2, g2⟩
        obtain ⟨a2, c2', rfl⟩ := shapeW (n := n) o2.row HN.out.symm l1
        have O2 := hid o2
        have G2 := hid (G1.out.trans g2)
        have Z2 := hid g2.size
        clear o2 g2
        dsimp only
        go_wp2_with fail
        go_loop [34] (fun i => ∃ k : Nat, k ≤ n ∧ i = .int .i64 k ∧ Hid (allTo (fun i => !fx i) k = true)) (fun i => n - (intOf i).toNat)
        case atStart => exact ⟨0, Nat.zero_le _, rfl, hid rfl⟩
        case round =>
          obtain ⟨k, hk, rfl, hok⟩ := hrel
          by_cases hlt : k < n
          · obtain ⟨b', off', e', hc0⟩ := S.out k (by rw [← HN.out]; exact hlt)
            cases e'
            have hc := G2.out.cell hc0
            clear hc0
            obtain ⟨hx0, hx1⟩ := HF.out.getu k
            obtain ⟨⟨e1, e2, e3⟩, ⟨e4, e5⟩, e6, e7⟩ := fix_facts (k := k) (by omega) p3 p37 s0 s1 t0 t1
            have x01 := mod_bd (a := xs.getD k 0 - s) p3 p37
            have HPUT := hid (O2.out.put k ((xs.getD k 0 - s) % p))
            obtain ⟨g', eg, -, hcg, hfg⟩ := O2.out.at_ (i := k) (by rw [← HN.out]; exact hlt)
            cases eg
            by_cases hfx : (((k : Int) + 1) * s - t) % p = 0
            · obtain ⟨r1, r2, r3⟩ := HRA.out HS0.out k hlt hok.out (HFY.out k hfx)
              have R1 := hid r1
              subst r2 r3
              clear r1 HRN HRA HFY HFN
              have hq := (HFI.out s k).2 hfx
              generalize hxv : (xs.getD k 0 - s) % p = xv at *
              generalize xs.getD k 0 = x at *
              have c1 : IntKind.i64.wrap x = x := IntWalk.i64_in _ (by omega)
              have c2 : IntKind.i64.wrap (x - s) = x - s := IntWalk.i64_in _ (by omega)
              have c3 : IntKind.u8.wrap xv = xv := chk_u8 x01
              have HXV := hid hxv
              clear hxv x01 HFI
              go_wp2_with fail
              with_reducible refine (HMD.out (((k : Int) + 1) * s) _ e6 e7).mono ?_
              rintro e w' ⟨rfl, rfl⟩
              rw [hq]
              clear hfx hq
              go_wp2_with fail
              with_reducible refine (HMD.out (x - s) _ (by omega) (by omega)).mono ?_
              rintro e w' ⟨rfl, rfl⟩
              rw [HXV.out]
              go_wp2_with fail
              go_ret3
              exact fix_out R1.out (HPUT.out.1.widen (Nat.le_refl _) HPUT.out.2.size) (G2.out.by_ HPUT.out.2 (fun b e => by have e' : some _ = some b := e; cases e'; exact Nat.le_trans G1.out.size (O2.out.row.lt _ rfl).1)) G1.out.size (rfl : p = p)
            · have HNX := hid (allTo_step (p := fun i => !fx i) hok.out (HFN.out k hfx))
              have hq : ¬ (((k : Int) + 1) * s) % p = t := fun h => hfx ((HFI.out s k).1 h)
              clear HRN HRA HFY HFN HPUT x01 HFI
              generalize xs.getD k 0 = x at *
              go_wp2_with fail
              with_reducible refine (HMD.out (((k : Int) + 1) * s) _ e6 e7).mono ?_
              rintro e w' ⟨rfl, rfl⟩
              have hfz : ((((k : Int) + 1) * s) % p == t) = false := by simpa using hq
              generalize (((k : Int) + 1) * s) % p = rr at *
              go_wp2_with fail
              go_round
              case rel => exact ⟨k + 1, by omega, by go_num, HNX⟩
              case measure => simp [intOf] <;> omega
          · obtain ⟨r1, r2, r3⟩ := HRN.out (.inr (by rw [show n = k by omega]; exact hok.out))
            have R1 := hid r1
            subst r2 r3
            clear r1 HRN HRA HFY HFN HFI
            go_wp2_with fail
            go_ret3
            rw [R1.out]
            exact ret_nilW G2.out (with2 0 8)
    · obtain ⟨e1, e2, e3⟩ := rep_zero hc hz
      obtain ⟨z1, z2⟩ := zero_yes hz
      rw [e1, e2, e3]
      rw [z1, z2] at HC
      rw [← hn] at HC HCL l8 l1 ⊢
      clear hs hf hp hz hn ho hlp hc q1 q2
      go_enter Try.func34, Try.ntmps34
      go_wp2_with fail
      refine HC.out.mono ?_
      rintro e w1 ⟨rfl, g1⟩
      have G1 := hid g1
      clear g1
      go_wp2_with fail
      refine (HCL.out _ G1.out).mono ?_
      rintro e w2 ⟨v2, rfl, o2, g2⟩
      obtain ⟨a2, c2', rfl⟩ := shapeW (n := n) o2.row HN.out.symm l1
      have O2 := hid o2
      have G2 := hid (G1.out.trans g2)
      have Z2 := hid g2.size
      clear o2 g2
      dsimp only
      go_wp2_with fail
      go_ret3
      exact ⟨_, rfl, O2.out.widen G1.out.size (Nat.le_refl _), G2.out⟩
  · obtain ⟨e1, e2, e3⟩ := rep_bad hc
    rw [e1, e2, e3]
    obtain ⟨q1, q2⟩ := syn_no hc
    rw [q1, q2] at HC
    generalize synC p xs = c at *
    clear hs hf hp q1 q2
    generalize xs.length = n at *
    go_enter Try.func34, Try.ntmps34
    go_wp2_with fail
    refine HC.out.mono ?_
    rintro e w1 ⟨rfl, g1⟩
    have G1 := hid g1
    clear g1
    go_wp2_with fail
    go_ret3
    exact ret_nilW G1.out (with2 0 c)
end Go.Proofs.Ytojdbeebgllhhaa
