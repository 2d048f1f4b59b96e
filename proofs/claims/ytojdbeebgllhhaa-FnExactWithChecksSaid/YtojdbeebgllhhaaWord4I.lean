/- WithChecks of the program. -/
import Derived.Test.YtojdbeebgllhhaaWord4
import Derived.Test.YtojdbeebgllhhaaWordY
namespace Go.Proofs.Ytojdbeebgllhhaa
open Go.RowKit
theorem chk_factsQ {q p s t : Int} (q0 : 0 ≤ q) (q9 : q ≤ 9) (s0 : 0 ≤ s) (s1 : s ≤ 36) (t0 : 0 ≤ t) (t1 : t ≤ 36) (_ : p = p) :
    (IntKind.i64.wrap (q * s) = q * s ∧ IntKind.i64.wrap (q * s - t) = q * s - t) ∧ (-1000000 ≤ q * s - t ∧ q * s - t ≤ 1000000) := by
  have m0 := Int.mul_nonneg q0 s0
  have m1 : q * s ≤ 9 * 36 := Int.mul_le_mul q9 s1 s0 (by omega)
  exact ⟨⟨IntWalk.i64_in _ (by omega), IntWalk.i64_in _ (by omega)⟩, by omega, by omega⟩
set_option maxRecDepth 100000 in
set_option maxHeartbeats 500000 in
theorem impl_WithChecks_any (p : Int) (hp : (Lit.int .i64 p).wf = true) (a : Option Addr) (xs : List Int) (hm : xs.length ≤ 1048576) (hf : Fits .u8 xs) (w : World) (hs : SliceOf .u8 w a xs) :
    Calls Try.prog 32 #[.int .i64 p, .slice a xs.length xs.length] w (RetOwn .u8 5 (withCode (withC p xs)) (withL p xs) w) := by
  have HC := hid (checkSyndromes_any p a _ xs.length xs rfl hm hf w hs)
  by_cases hc : synC p xs = 0
  · obtain ⟨p3, p37, -, ho, hlp⟩ := syn_inv hc
    obtain ⟨l1, l8⟩ := ofB_len ho
    obtain ⟨⟨s0, s1⟩, ⟨t0, t1⟩⟩ := syn_bd (n := p) (xs := xs) p3 p37
    have HSY := hid (fun V (g : Gr w V) => syndromes_any p p3 p37 a _ xs.length xs rfl l8 hf V (hs.gr g))
    have HMD := hid (fun a V h0 h1 => modulo_any a p p3 p37 h0 h1 V)
    have HCL := hid (fun V (g : Gr w V) => cloneWord_any a _ xs.length xs rfl l1 hm V (hs.gr g))
    rw [hc] at HC
    obtain ⟨n, hn⟩ : ∃ n, n = xs.length := ⟨_, rfl⟩
    cases hr : roomB p xs
    · obtain ⟨e1, e2⟩ := with_full hc hr
      rw [e1, e2]
      have HR := hid (room_no hn hr)
      rw [← hn] at HC HSY l8 ⊢
      clear hs hf hp hr hn ho l1 hlp
      have hr2 := HR.out
      by_cases h2 : 8 ≤ p - 1
      · have h3 : 8 < (n : Int) + 2 := by omega
        go_enter Try.func32, Try.ntmps32
        go_wp2_with fail
        refine HC.out.mono ?_
        rintro e w1 ⟨rfl, g1⟩
        have G1 := hid g1
        clear g1
        go_wp2_with fail
        go_ret2
        exact ret_nilW G1.out (withCode 3)
      · have h3 : p - 1 < (n : Int) + 2 := by omega
        have h4 : p - 1 < 8 := by omega
        go_enter Try.func32, Try.ntmps32
        go_wp2_with fail
        refine HC.out.mono ?_
        rintro e w1 ⟨rfl, g1⟩
        have G1 := hid g1
        clear g1
        go_wp2_with fail
        go_ret2
        exact ret_nilW G1.out (withCode 3)
    · obtain ⟨e1, e2⟩ := with_ok hc hr
      rw [e1, e2]
      obtain ⟨h2, h3⟩ := room_yes hn hr
      have HX := hid (show withX p xs = (-synS p xs - withY p xs) % p from rfl)
      have HY := hid (show withY p xs = (((n : Int) + 2 - 1) * synS p xs - synW p xs) % p by unfold withY; rw [hn, show ((xs.length : Int) + 2 - 1) = (xs.length : Int) + 1 by omega])
      have y01 := mod_bd (a := ((n : Int) + 2 - 1) * synS p xs - synW p xs) p3 p37
      rw [← HY.out] at y01
      have x01 := mod_bd (a := -synS p xs - withY p xs) p3 p37
      rw [← HX.out] at x01
      obtain ⟨⟨c2, c3⟩, c4, c5⟩ := chk_factsQ (q := (n : Int) + 2 - 1) (p := p) (by omega) (by omega) s0 s1 t0 t1 rfl
      obtain ⟨c6, c7, c8, c9⟩ := chk_last p3 p37 s0 s1 y01.1 y01.2
      have u1 := chk_u8 x01
      have u2 := chk_u8 y01
      obtain ⟨i0, hi, hz0, hz1, hz2⟩ := info_parts infoW
      have HN := hid hn
      rw [← hn] at HC HSY HCL l8 l1 ⊢
      clear hs hf hp hr hn ho hlp
      generalize withX p xs = x at *
      generalize withY p xs = y at *
      generalize synS p xs = s at *
      generalize synW p xs = t at *
      have ONE2 := hid (onesW [x, y])
      by_cases h8q : 8 ≤ p - 1
      · skip
        go_enter Try.func32, Try.ntmps32
        go_wp2_with fail
        refine HC.out.mono ?_
        rintro e w1 ⟨rfl, g1⟩
        have G1 := hid g1
        clear g1
        go_wp2_with fail
        refine (HSY.out _ G1.out).mono ?_
        rintro e ws ⟨rfl, rfl⟩
        go_wp2_with fail
        with_reducible refine (HMD.out _ _ c4 c5).mono ?_
        rintro e w2 ⟨rfl, rfl⟩
        rw [← HY.out]
        go_wp2_with fail
        with_reducible refine (HMD.out _ _ c8 c9).mono ?_
        rintro e w2 ⟨rfl, rfl⟩
        rw [← HX.out]
        go_wp2_with (first | (refine (HCL.out _ G1.out).mono ?_; rintro e w2 ⟨v2, rfl, o2, g2⟩; obtain ⟨a2, c2', rfl⟩ := shapeW (n := n) o2.row HN.out.symm l1; have O2 := hid o2; have G2 := hid (G1.out.trans g2); have Z2 := hid g2.size; clear o2 g2; have CN := hid (cells_newW w2 [x, y] 5); have ROW2 := hid O2.out.row; rw [← HN.out] at ROW2) | (at_builtin; refine wpList_append_own _ rfl _ _ 25 rfl ws.heap.size 5 i0 (.int .u8 0) 1 1 Try.underlying25 hi hz0 hz1 hz2 rfl (by decide) _ _ _ rfl (ROW2.out.alloc _) ⟨w2.heap.size, 0, none⟩ 2 2 ([x, y].map (Value.int .u8)) rfl rfl CN.out ONE2.out (by unfold maxLen; omega) (by omega) (by have := Z2.out; simp; omega) ?_; intro v3 w3 hown3 hgrow3 _))
        have O3 := hid (Own.appendedW (us := [x, y]) hown3 rfl HN.out.symm rfl)
        have G3 := hid ((G2.out.alloc _).by_ hgrow3 (fun b e => by have := (ROW2.out.lt b e).1; have := G1.out.size; omega))
        clear hown3 hgrow3
        go_wp2_with fail
        go_ret2
        exact ⟨_, rfl, O3.out.widen G1.out.size (Nat.le_refl _), G3.out⟩
      · have h8r : p - 1 < 8 := by omega
        go_enter Try.func32, Try.ntmps32
        go_wp2_with fail
        refine HC.out.mono ?_
        rintro e w1 ⟨rfl, g1⟩
        have G1 := hid g1
        clear g1
        go_wp2_with fail
        refine (HSY.out _ G1.out).mono ?_
        rintro e ws ⟨rfl, rfl⟩
        go_wp2_with fail
        with_reducible refine (HMD.out _ _ c4 c5).mono ?_
        rintro e w2 ⟨rfl, rfl⟩
        rw [← HY.out]
        go_wp2_with fail
        with_reducible refine (HMD.out _ _ c8 c9).mono ?_
        rintro e w2 ⟨rfl, rfl⟩
        rw [← HX.out]
        go_wp2_with (first | (refine (HCL.out _ G1.out).mono ?_; rintro e w2 ⟨v2, rfl, o2, g2⟩; obtain ⟨a2, c2', rfl⟩ := shapeW (n := n) o2.row HN.out.symm l1; have O2 := hid o2; have G2 := hid (G1.out.trans g2); have Z2 := hid g2.size; clear o2 g2; have CN := hid (cells_newW w2 [x, y] 5); have ROW2 := hid O2.out.row; rw [← HN.out] at ROW2) | (at_builtin; refine wpList_append_own _ rfl _ _ 25 rfl ws.heap.size 5 i0 (.int .u8 0) 1 1 Try.underlying25 hi hz0 hz1 hz2 rfl (by decide) _ _ _ rfl (ROW2.out.alloc _) ⟨w2.heap.size, 0, none⟩ 2 2 ([x, y].map (Value.int .u8)) rfl rfl CN.out ONE2.out (by unfold maxLen; omega) (by omega) (by have := Z2.out; simp; omega) ?_; intro v3 w3 hown3 hgrow3 _))
        have O3 := hid (Own.appendedW (us := [x, y]) hown3 rfl HN.out.symm rfl)
        have G3 := hid ((G2.out.alloc _).by_ hgrow3 (fun b e => by have := (ROW2.out.lt b e).1; have := G1.out.size; omega))
        clear hown3 hgrow3
        go_wp2_with fail
        go_ret2
        exact ⟨_, rfl, O3.out.widen G1.out.size (Nat.le_refl _), G3.out⟩
  · obtain ⟨e1, e2⟩ := with_bad hc
    rw [e1, e2]
    generalize synC p xs = c at *
    clear hs hf hp
    generalize xs.length = n at *
    go_enter Try.func32, Try.ntmps32
    go_wp2_with fail
    refine HC.out.mono ?_
    rintro e w1 ⟨rfl, g1⟩
    have G1 := hid g1
    clear g1
    go_wp2_with fail
    go_ret2
    exact ret_nilW G1.out (withCode c)
end Go.Proofs.Ytojdbeebgllhhaa
