/- RepairWord: the functions. -/
import Derived.Test.YtojdbeebgllhhaaWord4
import Derived.Test.YtojdbeebgllhhaaWordZ
namespace Go.Proofs.Ytojdbeebgllhhaa
open Go.RowKit
theorem zero_yes {p : Int} {xs : List Int} (h : zeroB p xs = true) : synS p xs = 0 ∧ synW p xs = 0 := by unfold zeroB at h; simpa using h
theorem zero_no {p : Int} {xs : List Int} (h : zeroB p xs = false) : synS p xs = 0 → ¬ synW p xs = 0 := by
  intro h1 h2
  unfold zeroB at h
  rw [h1, h2] at h
  cases h
theorem fix_yes {p : Int} {xs : List Int} {i : Nat} (h : (((i : Int) + 1) * synS p xs - synW p xs) % p = 0) : fixAt p xs i = true := decide_eq_true h
theorem fix_no {p : Int} {xs : List Int} {i : Nat} (h : ¬ (((i : Int) + 1) * synS p xs - synW p xs) % p = 0) : (fun i => !fixAt p xs i) i = true := by
  show (!decide _) = true
  rw [decide_eq_false h]
  rfl
/-- What the numbers of a step need. -/
theorem fix_facts {k : Nat} {p s t : Int} (hk : k < 8) (p3 : 3 ≤ p) (p37 : p ≤ 37) (s0 : 0 ≤ s) (s1 : s ≤ 36) (t0 : 0 ≤ t) (t1 : t ≤ 36) :
    (IntKind.i64.wrap ((k : Int) + 1) = (k : Int) + 1 ∧ IntKind.i64.wrap (((k : Int) + 1) * s) = ((k : Int) + 1) * s ∧ IntKind.i64.wrap (((k : Int) + 1) * s - t) = ((k : Int) + 1) * s - t) ∧ (-1000000 ≤ ((k : Int) + 1) * s - t ∧ ((k : Int) + 1) * s - t ≤ 1000000) ∧ (-1000000 ≤ ((k : Int) + 1) * s ∧ ((k : Int) + 1) * s ≤ 1000000) := by
  have m0 := Int.mul_nonneg (show 0 ≤ (k : Int) + 1 by omega) s0
  have m1 : ((k : Int) + 1) * s ≤ 9 * 36 := Int.mul_le_mul (by omega) s1 s0 (by omega)
  exact ⟨⟨IntWalk.i64_in _ (by omega), IntWalk.i64_in _ (by omega), IntWalk.i64_in _ (by omega)⟩, by omega, by omega⟩
theorem fix_out {w W : World} {p : Int} {ri rc : Int} {v : Value} {rl ys : List Int} {lo : Nat} (e : rl = ys) (h : Own .u8 5 W lo W.heap.size v ys) (g : Gr w W) (hlo : w.heap.size ≤ lo) (_ : p = p) :
    RetOwn .u8 5 (with2 ri rc) rl w (.returned (with2 ri rc v)) W := by
  subst e
  exact ⟨v, rfl, h.widen hlo (Nat.le_refl _), g⟩
set_option maxRecDepth 100000 in
set_option maxHeartbeats 1000000 in
theorem spec_RepairWord_any (p : Int) (hp : (Lit.int .i64 p).wf = true) (a : Option Addr) (xs : List Int) (hm : xs.length ≤ 1048576) (hf : Fits .u8 xs) (w : World) (hs : SliceOf .u8 w a xs) :
    Calls Try.prog 33 #[.int .i64 p, .slice a xs.length xs.length] w (RetOwn .u8 5 (with2 (repI p xs) (repC p xs)) (repL p xs) w) := by
  have HC := hid (l05Checked_any p a _ xs.length xs rfl hm hf w hs)
  by_cases hc : synC p xs = 0
  · obtain ⟨p3, p37, -, ho, hlp⟩ := syn_inv hc
    obtain ⟨l1, l8⟩ := ofB_len ho
    obtain ⟨⟨s0, s1⟩, ⟨t0, t1⟩⟩ := syn_bd (n := p) (xs := xs) p3 p37
    have HSY := hid (fun V (g : Gr w V) => l05Syndromes_any p p3 p37 a _ xs.length xs rfl l8 hf V (hs.gr g))
    have HMD := hid (fun a V h0 h1 => l05Mod_any a p p3 p37 h0 h1 V)
    rw [hc] at HC
    obtain ⟨n, hn⟩ : ∃ n, n = xs.length := ⟨_, rfl⟩
    obtain ⟨i0, hi, hz0, hz1, hz2⟩ := info_parts infoW
    obtain ⟨b, off, rfl, _⟩ := hs 0 (by omega)
    have S := hid hs
    have HL := hid (show (xs.map (Value.int .u8)).length = n * 1 by rw [List.length_map, ← hn, Nat.mul_one])
    have HN := hid hn
    have HF := hid hf
    cases hz : zeroB p xs
    · have HZN := hid (zero_no hz)
      have HRN := hid (rep_none hc hz)
      have HRA := hid (fun hs0 i hi ha hf => rep_at hc hz hs0 (i := i) hi ha hf)
      have HFY := hid (fun i => fix_yes (p := p) (xs := xs) (i := i))
      have HFN := hid (fun i => fix_no (p := p) (xs := xs) (i := i))
      have HFI := hid (fun s' (i : Nat) => fix_iff (n := p) (s := s') (t := synW p xs) (i := i) p3 ⟨t0, by have := Int.emod_lt_of_pos (wsumL xs xs.length) (show 0 < p by omega); exact this⟩)
      generalize repL p xs = rl at *
      generalize repI p xs = ri at *
      generalize repC p xs = rc at *
      generalize fixAt p xs = fx at *
      generalize synS p xs = s at *
      generalize synW p xs = t at *
      rw [← hn] at HC HSY l8 l1 HRN HRA ⊢
      clear hs hf hp hz hn ho hlp hc
      by_cases hs0 : s = 0
      · obtain ⟨e1, e2, e3⟩ := HRN.out (.inl hs0)
        have ht0 := HZN.out hs0
        subst e1 e2 e3 hs0
        have tz : (t == 0) = false := by simpa using ht0
        go_enter Try.func33, Try.ntmps33
        go_wp2_with fail
        refine HC.out.mono ?_
        rintro e w1 ⟨rfl, g1⟩
        have G1 := hid g1
        clear g1
        go_wp2_with fail
        refine (HSY.out _ G1.out).mono ?_
        rintro e ws ⟨rfl, ds⟩
        replace G1 := hid (G1.out.trans ds.gr)
        clear ds
        have ROW := hid (Own.new (k := .u8) (e := 5) ws [] (by simp)).row
        have NEWS := hid (newsW S.out (G1.out.alloc (.cells #[] 5)))
        have ONE := hid (onesW xs)
        go_wp2_with (at_builtin; refine wpList_append_own _ rfl _ _ 25 rfl ws.heap.size 5 i0 (.int .u8 0) 1 1 Try.underlying25 hi hz0 hz1 hz2 rfl (by decide) _ _ _ rfl ROW.out ⟨b, off, none⟩ n n (xs.map (Value.int .u8)) rfl HL.out NEWS.out ONE.out (by unfold maxLen; simp; omega) (by simp; omega) (by simp) ?_; intro v2 w2 hown2 hgrow2 _; obtain ⟨a2, c2', rfl⟩ := shapeW (n := n) hown2 (by simp) l1; have O2 := hid (Own.ofRow (k := .u8) (xs := xs) hown2 rfl (by rw [← HN.out]; simp)); have G2 := hid ((G1.out.alloc (.cells #[] 5)).by_ hgrow2 (fun k e => by have e' : some ws.heap.size = some k := e; have := G1.out.size; simp only [Option.some.injEq] at e'; omega)); have Z2 := hid (show ws.heap.size ≤ w2.heap.size by have := hgrow2.size; simp at this; omega); clear hown2 hgrow2 ROW NEWS)
        go_wp2_with fail
        go_loop [11] (fun i => i = .int .i64 0) (fun i => 0)
        case atStart => rfl
        case round =>
          obtain rfl := hrel
          have hln : (0 : Int) < n := by omega
          go_wp2_with fail
          go_ret3
          exact ret_emptyW G2.out (with2 0 8)
      · have sz : (s == 0) = false := by simpa using hs0
        have sz2 : (s != 0) = true := by simpa using hs0
        have HS0 := hid hs0
        clear HZN hs0
        go_enter Try.func33, Try.ntmps33
        go_wp2_with fail
        refine HC.out.mono ?_
        rintro e w1 ⟨rfl, g1⟩
        have G1 := hid g1
        clear g1
        go_wp2_with fail
        refine (HSY.out _ G1.out).mono ?_
        rintro e ws ⟨rfl, ds⟩
        replace G1 := hid (G1.out.trans ds.gr)
        clear ds
        have ROW := hid (Own.new (k := .u8) (e := 5) ws [] (by simp)).row
        have NEWS := hid (newsW S.out (G1.out.alloc (.cells #[] 5)))
        have ONE := hid (onesW xs)
        go_wp2_with (at_builtin; refine wpList_append_own _ rfl _ _ 25 rfl ws.heap.size 5 i0 (.int .u8 0) 1 1 Try.underlying25 hi hz0 hz1 hz2 rfl (by decide) _ _ _ rfl ROW.out ⟨b, off, none⟩ n n (xs.map (Value.int .u8)) rfl HL.out NEWS.out ONE.out (by unfold maxLen; simp; omega) (by simp; omega) (by simp) ?_; intro v2 w2 hown2 hgrow2 _; obtain ⟨a2, c2', rfl⟩ := shapeW (n := n) hown2 (by simp) l1; have O2 := hid (Own.ofRow (k := .u8) (xs := xs) hown2 rfl (by rw [← HN.out]; simp)); have G2 := hid ((G1.out.alloc (.cells #[] 5)).by_ hgrow2 (fun k e => by have e' : some ws.heap.size = some k := e; have := G1.out.size; simp only [Option.some.injEq] at e'; omega)); have Z2 := hid (show ws.heap.size ≤ w2.heap.size by have := hgrow2.size; simp at this; omega); clear hown2 hgrow2 ROW NEWS)
        go_wp2_with fail
        go_loop [11] (fun i => ∃ k : Nat, k ≤ n ∧ i = .int .i64 k ∧ Hid (allTo (fun i => !fx i) k = true)) (fun i => n - (intOf i).toNat)
        case atStart => exact ⟨0, Nat.zero_le _, rfl, hid rfl⟩
        case round =>
          obtain ⟨k, hk, rfl, hok⟩ := hrel
          by_cases hlt : k < n
          · obtain ⟨b', off', e', hc0⟩ := S.out k (by rw [← HN.out]; exact hlt)
            cases e'
            have hc := G2.out.cell hc0
            clear hc0
            obtain ⟨hx0, hx1⟩ := HF.out.getu k
            obtain ⟨⟨e1, e2, e3⟩, ⟨e4, e5⟩, e6, e7⟩ := fix_facts (k := k) (by omega) p3 p37 s0 s1 t0 t1
            have x01 := mod_bd (a := xs.getD k 0 - s) p3 p37
            have HPUT := hid (O2.out.put k ((xs.getD k 0 - s) % p))
            obtain ⟨g', eg, -, hcg, hfg⟩ := O2.out.at_ (i := k) (by rw [← HN.out]; exact hlt)
            cases eg
            by_cases hfx : (((k : Int) + 1) * s - t) % p = 0
            · obtain ⟨r1, r2, r3⟩ := HRA.out HS0.out k hlt hok.out (HFY.out k hfx)
              have R1 := hid r1
              subst r2 r3
              clear r1 HRN HRA HFY HFN
              generalize hxv : (xs.getD k 0 - s) % p = xv at *
              generalize xs.getD k 0 = x at *
              have c1 : IntKind.i64.wrap x = x := IntWalk.i64_in _ (by omega)
              have c2 : IntKind.i64.wrap (x - s) = x - s := IntWalk.i64_in _ (by omega)
              have c3 : IntKind.u8.wrap xv = xv := chk_u8 x01
              have HXV := hid hxv
              clear hxv x01 HFI
              go_wp2_with fail
              with_reducible refine (HMD.out (((k : Int) + 1) * s - t) _ e4 e5).mono ?_
              rintro e w' ⟨rfl, rfl⟩
              rw [hfx]
              clear hfx
              go_wp2_with fail
              with_reducible refine (HMD.out (x - s) _ (by omega) (by omega)).mono ?_
              rintro e w' ⟨rfl, rfl⟩
              rw [HXV.out]
              go_wp2_with fail
              go_ret3
              exact fix_out R1.out (HPUT.out.1.widen (Nat.le_refl _) HPUT.out.2.size) (G2.out.by_ HPUT.out.2 (fun b e => by have e' : some _ = some b := e; cases e'; exact Nat.le_trans G1.out.size (O2.out.row.lt _ rfl).1)) G1.out.size (rfl : p = p)
            · have HNX := hid (allTo_step (p := fun i => !fx i) hok.out (HFN.out k hfx))
              clear HRN HRA HFY HFN HPUT x01 HFI
              generalize xs.getD k 0 = x at *
              go_wp2_with fail
              with_reducible refine (HMD.out (((k : Int) + 1) * s - t) _ e4 e5).mono ?_
              rintro e w' ⟨rfl, rfl⟩
              have hfz : ((((k : Int) + 1) * s - t) % p == 0) = false := by simpa using hfx
              generalize (((k : Int) + 1) * s - t) % p = rr at *
              go_wp2_with fail
              go_round
              case rel => exact ⟨k + 1, by omega, by go_num, HNX⟩
              case measure => simp [intOf] <;> omega
          · obtain ⟨r1, r2, r3⟩ := HRN.out (.inr (by rw [show n = k by omega]; exact hok.out))
            have R1 := hid r1
            subst r2 r3
            clear r1 HRN HRA HFY HFN HFI
            go_wp2_with fail
            go_ret3
            rw [R1.out]
            exact ret_emptyW G2.out (with2 0 8)
    · obtain ⟨e1, e2, e3⟩ := rep_zero hc hz
      obtain ⟨z1, z2⟩ := zero_yes hz
      rw [e1, e2, e3]
      rw [z1, z2] at HSY
      rw [← hn] at HC HSY l8 l1 ⊢
      clear hs hf hp hz hn ho hlp hc
      go_enter Try.func33, Try.ntmps33
      go_wp2_with fail
      refine HC.out.mono ?_
      rintro e w1 ⟨rfl, g1⟩
      have G1 := hid g1
      clear g1
      go_wp2_with fail
      refine (HSY.out _ G1.out).mono ?_
      rintro e ws ⟨rfl, ds⟩
      replace G1 := hid (G1.out.trans ds.gr)
      clear ds
      have ROW := hid (Own.new (k := .u8) (e := 5) ws [] (by simp)).row
      have NEWS := hid (newsW S.out (G1.out.alloc (.cells #[] 5)))
      have ONE := hid (onesW xs)
      go_wp2_with (at_builtin; refine wpList_append_own _ rfl _ _ 25 rfl ws.heap.size 5 i0 (.int .u8 0) 1 1 Try.underlying25 hi hz0 hz1 hz2 rfl (by decide) _ _ _ rfl ROW.out ⟨b, off, none⟩ n n (xs.map (Value.int .u8)) rfl HL.out NEWS.out ONE.out (by unfold maxLen; simp; omega) (by simp; omega) (by simp) ?_; intro v2 w2 hown2 hgrow2 _; obtain ⟨a2, c2', rfl⟩ := shapeW (n := n) hown2 (by simp) l1; have O2 := hid (Own.ofRow (k := .u8) (xs := xs) hown2 rfl (by rw [← HN.out]; simp)); have G2 := hid ((G1.out.alloc (.cells #[] 5)).by_ hgrow2 (fun k e => by have e' : some ws.heap.size = some k := e; have := G1.out.size; simp only [Option.some.injEq] at e'; omega)); have Z2 := hid (show ws.heap.size ≤ w2.heap.size by have := hgrow2.size; simp at this; omega); clear hown2 hgrow2 ROW NEWS)
      go_wp2_with fail
      go_ret3
      exact ⟨_, rfl, O2.out.widen G1.out.size (Nat.le_refl _), G2.out⟩
  · obtain ⟨e1, e2, e3⟩ := rep_bad hc
    rw [e1, e2, e3]
    generalize synC p xs = c at *
    clear hs hf hp
    generalize xs.length = n at *
    go_enter Try.func33, Try.ntmps33
    go_wp2_with fail
    refine HC.out.mono ?_
    rintro e w1 ⟨rfl, g1⟩
    have G1 := hid g1
    clear g1
    go_wp2_with fail
    go_ret3
    exact ret_emptyW G1.out (with2 0 c)
end Go.Proofs.Ytojdbeebgllhhaa
