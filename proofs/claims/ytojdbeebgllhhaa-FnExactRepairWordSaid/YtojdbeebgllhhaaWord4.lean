/- WithChecks: the functions. -/
import Derived.Test.YtojdbeebgllhhaaWord3
import Derived.Test.YtojdbeebgllhhaaWordK
namespace Go.Proofs.Ytojdbeebgllhhaa
open Go.RowKit
/-- What the checks are made of. -/
theorem chk_facts {n : Nat} {p s t : Int} (h8 : n ≤ 8) (p3 : 3 ≤ p) (p37 : p ≤ 37) (s0 : 0 ≤ s) (s1 : s ≤ 36) (t0 : 0 ≤ t) (t1 : t ≤ 36) :
    (IntKind.i64.wrap ((n : Int) + 1) = (n : Int) + 1 ∧ IntKind.i64.wrap (((n : Int) + 1) * s) = ((n : Int) + 1) * s ∧ IntKind.i64.wrap (((n : Int) + 1) * s - t) = ((n : Int) + 1) * s - t) ∧ (-1000000 ≤ ((n : Int) + 1) * s - t ∧ ((n : Int) + 1) * s - t ≤ 1000000) := by
  have m0 := Int.mul_nonneg (show 0 ≤ (n : Int) + 1 by omega) s0
  have m1 : ((n : Int) + 1) * s ≤ 9 * 36 := Int.mul_le_mul (by omega) s1 s0 (by omega)
  exact ⟨⟨IntWalk.i64_in _ (by omega), IntWalk.i64_in _ (by omega), IntWalk.i64_in _ (by omega)⟩, by omega, by omega⟩
theorem chk_last {p s y : Int} (p3 : 3 ≤ p) (p37 : p ≤ 37) (s0 : 0 ≤ s) (s1 : s ≤ 36) (y0 : 0 ≤ y) (y1 : y ≤ 36) :
    IntKind.i64.wrap (-s) = -s ∧ IntKind.i64.wrap (-s - y) = -s - y ∧ -1000000 ≤ -s - y ∧ -s - y ≤ 1000000 := ⟨IntWalk.i64_in _ (by omega), IntWalk.i64_in _ (by omega), by omega, by omega⟩
theorem chk_u8 {x : Int} (h : 0 ≤ x ∧ x ≤ 36) : IntKind.u8.wrap x = x := IntWalk.u8_in _ (by omega)
theorem room_no {p : Int} {xs : List Int} {n : Nat} (hn : n = xs.length) (h : roomB p xs = false) : ¬ ((n : Int) + 2 ≤ 8 ∧ (n : Int) + 2 ≤ p - 1) := by
  subst hn
  rintro ⟨h1, h2⟩
  unfold roomB at h
  rw [decide_eq_true h1, decide_eq_true h2] at h
  cases h
theorem room_yes {p : Int} {xs : List Int} {n : Nat} (hn : n = xs.length) (h : roomB p xs = true) : (n : Int) + 2 ≤ 8 ∧ (n : Int) + 2 ≤ p - 1 := by
  subst hn
  unfold roomB at h
  simpa using h
set_option maxRecDepth 100000 in
set_option maxHeartbeats 800000 in
theorem spec_WithChecks_any (p : Int) (hp : (Lit.int .i64 p).wf = true) (a : Option Addr) (xs : List Int) (hm : xs.length ≤ 1048576) (hf : Fits .u8 xs) (w : World) (hs : SliceOf .u8 w a xs) :
    Calls Try.prog 31 #[.int .i64 p, .slice a xs.length xs.length] w (RetOwn .u8 5 (withCode (withC p xs)) (withL p xs) w) := by
  have HC := hid (l05Checked_any p a _ xs.length xs rfl hm hf w hs)
  by_cases hc : synC p xs = 0
  · obtain ⟨p3, p37, -, ho, hlp⟩ := syn_inv hc
    obtain ⟨l1, l8⟩ := ofB_len ho
    obtain ⟨⟨s0, s1⟩, ⟨t0, t1⟩⟩ := syn_bd (n := p) (xs := xs) p3 p37
    have HSY := hid (fun V (g : Gr w V) => l05Syndromes_any p p3 p37 a _ xs.length xs rfl l8 hf V (hs.gr g))
    have HMD := hid (fun a V h0 h1 => l05Mod_any a p p3 p37 h0 h1 V)
    rw [hc] at HC
    obtain ⟨n, hn⟩ : ∃ n, n = xs.length := ⟨_, rfl⟩
    have S := hid hs
    cases hr : roomB p xs
    · obtain ⟨e1, e2⟩ := with_full hc hr
      rw [e1, e2]
      have HR := hid (room_no hn hr)
      rw [← hn] at HC HSY l8 ⊢
      clear hs hf hp hr hn ho l1 hlp
      have hr2 := HR.out
      by_cases h2 : 8 < (n : Int) + 2
      · go_enter Try.func31, Try.ntmps31
        go_wp2_with fail
        refine HC.out.mono ?_
        rintro e w1 ⟨rfl, g1⟩
        have G1 := hid g1
        clear g1
        go_wp2_with fail
        go_ret2
        exact ret_emptyW G1.out (withCode 3)
      · have h3 : p - 1 < (n : Int) + 2 := by omega
        go_enter Try.func31, Try.ntmps31
        go_wp2_with fail
        refine HC.out.mono ?_
        rintro e w1 ⟨rfl, g1⟩
        have G1 := hid g1
        clear g1
        go_wp2_with fail
        go_ret2
        exact ret_emptyW G1.out (withCode 3)
    · obtain ⟨e1, e2⟩ := with_ok hc hr
      rw [e1, e2]
      obtain ⟨h2, h3⟩ := room_yes hn hr
      have HX := hid (show withX p xs = (-synS p xs - withY p xs) % p from rfl)
      have HY := hid (show withY p xs = (((n : Int) + 1) * synS p xs - synW p xs) % p by unfold withY; rw [hn])
      have y01 := mod_bd (a := ((n : Int) + 1) * synS p xs - synW p xs) p3 p37
      rw [← HY.out] at y01
      have x01 := mod_bd (a := -synS p xs - withY p xs) p3 p37
      rw [← HX.out] at x01
      obtain ⟨⟨c1, c2, c3⟩, c4, c5⟩ := chk_facts (n := n) (by omega) p3 p37 s0 s1 t0 t1
      obtain ⟨c6, c7, c8, c9⟩ := chk_last p3 p37 s0 s1 y01.1 y01.2
      have u1 := chk_u8 x01
      have u2 := chk_u8 y01
      obtain ⟨i0, hi, hz0, hz1, hz2⟩ := info_parts infoW
      obtain ⟨b, off, rfl, _⟩ := hs 0 (by omega)
      have HL := hid (show (xs.map (Value.int .u8)).length = n * 1 by rw [List.length_map, ← hn, Nat.mul_one])
      have HN := hid hn
      rw [← hn] at HC HSY l8 l1 ⊢
      clear hs hf hp hr hn ho hlp
      generalize withX p xs = x at *
      generalize withY p xs = y at *
      generalize synS p xs = s at *
      generalize synW p xs = t at *
      go_enter Try.func31, Try.ntmps31
      go_wp2_with fail
      refine HC.out.mono ?_
      rintro e w1 ⟨rfl, g1⟩
      have G1 := hid g1
      clear g1
      go_wp2_with fail
      refine (HSY.out _ G1.out).mono ?_
      rintro e ws ⟨rfl, ds⟩
      replace G1 := hid (G1.out.trans ds.gr)
      clear ds
      go_wp2_with fail
      refine (HMD.out _ _ c4 c5).mono ?_
      rintro e w2 ⟨rfl, rfl⟩
      rw [← HY.out]
      go_wp2_with fail
      refine (HMD.out _ _ c8 c9).mono ?_
      rintro e w2 ⟨rfl, rfl⟩
      rw [← HX.out]
      have ROW := hid (Own.new (k := .u8) (e := 5) ws [] (by simp)).row
      have NEWS := hid (newsW S.out (G1.out.alloc (.cells #[] 5)))
      have ONE := hid (onesW xs)
      have ONE2 := hid (onesW [x, y])
      go_wp2_with (first | (at_builtin; refine wpList_append_own _ rfl _ _ 25 rfl ws.heap.size 5 i0 (.int .u8 0) 1 1 Try.underlying25 hi hz0 hz1 hz2 rfl (by decide) _ _ _ rfl ROW.out ⟨b, off, none⟩ n n (xs.map (Value.int .u8)) rfl HL.out NEWS.out ONE.out (by unfold maxLen; simp; omega) (by simp; omega) (by simp) ?_; intro v2 w2 hown2 hgrow2 _; obtain ⟨a2, c2', rfl⟩ := shapeW (n := n) hown2 (by simp) l1; have O2 := hid (Own.ofRow (k := .u8) (xs := xs) hown2 rfl (by rw [← HN.out]; simp)); have G2 := hid ((G1.out.alloc (.cells #[] 5)).by_ hgrow2 (fun k e => by have e' : some ws.heap.size = some k := e; have := G1.out.size; simp only [Option.some.injEq] at e'; omega)); have Z2 := hid (show ws.heap.size ≤ w2.heap.size by have := hgrow2.size; simp at this; omega); clear hown2 hgrow2; have CN := hid (cells_newW w2 [x, y] 5); have ROW2 := hid O2.out.row; rw [← HN.out] at ROW2; clear ROW NEWS) | (at_builtin; refine wpList_append_own _ rfl _ _ 25 rfl ws.heap.size 5 i0 (.int .u8 0) 1 1 Try.underlying25 hi hz0 hz1 hz2 rfl (by decide) _ _ _ rfl (ROW2.out.alloc _) ⟨w2.heap.size, 0, none⟩ 2 2 ([x, y].map (Value.int .u8)) rfl rfl CN.out ONE2.out (by unfold maxLen; omega) (by omega) (by have := Z2.out; simp; omega) ?_; intro v3 w3 hown3 hgrow3 _))
      have O3 := hid (Own.appendedW (us := [x, y]) hown3 rfl HN.out.symm rfl)
      have G3 := hid ((G2.out.alloc _).by_ hgrow3 (fun b e => by have := (ROW2.out.lt b e).1; have := G1.out.size; omega))
      clear hown3 hgrow3
      go_wp2_with fail
      go_ret2
      exact ⟨_, rfl, O3.out.widen G1.out.size (Nat.le_refl _), G3.out⟩
  · obtain ⟨e1, e2⟩ := with_bad hc
    rw [e1, e2]
    generalize synC p xs = c at *
    clear hs hf hp
    generalize xs.length = n at *
    go_enter Try.func31, Try.ntmps31
    go_wp2_with fail
    refine HC.out.mono ?_
    rintro e w1 ⟨rfl, g1⟩
    have G1 := hid g1
    clear g1
    go_wp2_with fail
    go_ret2
    exact ret_emptyW G1.out (withCode c)
end Go.Proofs.Ytojdbeebgllhhaa
