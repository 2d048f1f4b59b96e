/- The longest of the flights: the comparisons. -/
import Derived.Test.YtlgfibiggiknjaaDoorDelK
namespace Go.Proofs.YtlgfibiggiknjaaDoor
set_option linter.unusedVariables false
open Go.RowKit
def cmpV (x y : Int) : Int := if x < y then -1 else if y < x then 1 else 0
set_option maxRecDepth 100000 in
theorem isNaN64_any (x : Int) (w : World) :
    Calls Tryd.prog 140 #[.int .i64 x] w fun e w' => e = .returned (.bool false) ∧ w = w' := by
  go_enter Tryd.func140, Tryd.ntmps140
  go_wp2_with fail
  go_ret
  exact ⟨by simp, rfl⟩
set_option maxRecDepth 100000 in
theorem isNaNi_any (x : Int) (w : World) :
    Calls Tryd.prog 141 #[.int .i64 x] w fun e w' => e = .returned (.bool false) ∧ w = w' := by
  go_enter Tryd.func141, Tryd.ntmps141
  go_wp2_with fail
  go_ret
  exact ⟨by simp, rfl⟩
set_option maxRecDepth 100000 in
set_option maxHeartbeats 1000000 in
theorem cmp64_any (x y : Int) (w : World) :
    Calls Tryd.prog 78 #[.int .i64 x, .int .i64 y] w fun e w' => e = .returned (.int .i64 (cmpV x y)) ∧ w = w' := by
  have H0 := hid (fun V => isNaN64_any x V)
  have H1 := hid (fun V => isNaN64_any y V)
  rcases (by omega : x < y ∨ y < x ∨ x = y) with h | h | h
  · have HV := hid (show cmpV x y = -1 by unfold cmpV; rw [if_pos h])
    go_enter Tryd.func78, Tryd.ntmps78
    go_wp2_with fail
    refine (H0.out _).mono ?_
    rintro e w1 ⟨rfl, rfl⟩
    go_wp2_with fail
    refine (H1.out _).mono ?_
    rintro e w1 ⟨rfl, rfl⟩
    go_wp2_with fail
    go_ret
    exact ⟨by rw [HV.out]; rfl, rfl⟩
  · have HV := hid (show cmpV x y = 1 by unfold cmpV; rw [if_neg (by omega), if_pos h])
    have h2 : ¬ x < y := by omega
    go_enter Tryd.func78, Tryd.ntmps78
    go_wp2_with fail
    refine (H0.out _).mono ?_
    rintro e w1 ⟨rfl, rfl⟩
    go_wp2_with fail
    refine (H1.out _).mono ?_
    rintro e w1 ⟨rfl, rfl⟩
    go_wp2_with fail
    go_ret
    exact ⟨by rw [HV.out]; rfl, rfl⟩
  · subst h
    have HV := hid (show cmpV x x = 0 by unfold cmpV; rw [if_neg (by omega), if_neg (by omega)])
    go_enter Tryd.func78, Tryd.ntmps78
    go_wp2_with fail
    refine (H0.out _).mono ?_
    rintro e w1 ⟨rfl, rfl⟩
    go_wp2_with fail
    refine (H1.out _).mono ?_
    rintro e w1 ⟨rfl, rfl⟩
    go_wp2_with fail
    go_ret
    exact ⟨by rw [HV.out]; rfl, rfl⟩
set_option maxRecDepth 100000 in
set_option maxHeartbeats 1000000 in
theorem cmpi_any (x y : Int) (w : World) :
    Calls Tryd.prog 80 #[.int .i64 x, .int .i64 y] w fun e w' => e = .returned (.int .i64 (cmpV x y)) ∧ w = w' := by
  have H0 := hid (fun V => isNaNi_any x V)
  have H1 := hid (fun V => isNaNi_any y V)
  rcases (by omega : x < y ∨ y < x ∨ x = y) with h | h | h
  · have HV := hid (show cmpV x y = -1 by unfold cmpV; rw [if_pos h])
    go_enter Tryd.func80, Tryd.ntmps80
    go_wp2_with fail
    refine (H0.out _).mono ?_
    rintro e w1 ⟨rfl, rfl⟩
    go_wp2_with fail
    refine (H1.out _).mono ?_
    rintro e w1 ⟨rfl, rfl⟩
    go_wp2_with fail
    go_ret
    exact ⟨by rw [HV.out]; rfl, rfl⟩
  · have HV := hid (show cmpV x y = 1 by unfold cmpV; rw [if_neg (by omega), if_pos h])
    have h2 : ¬ x < y := by omega
    go_enter Tryd.func80, Tryd.ntmps80
    go_wp2_with fail
    refine (H0.out _).mono ?_
    rintro e w1 ⟨rfl, rfl⟩
    go_wp2_with fail
    refine (H1.out _).mono ?_
    rintro e w1 ⟨rfl, rfl⟩
    go_wp2_with fail
    go_ret
    exact ⟨by rw [HV.out]; rfl, rfl⟩
  · subst h
    have HV := hid (show cmpV x x = 0 by unfold cmpV; rw [if_neg (by omega), if_neg (by omega)])
    go_enter Tryd.func80, Tryd.ntmps80
    go_wp2_with fail
    refine (H0.out _).mono ?_
    rintro e w1 ⟨rfl, rfl⟩
    go_wp2_with fail
    refine (H1.out _).mono ?_
    rintro e w1 ⟨rfl, rfl⟩
    go_wp2_with fail
    go_ret
    exact ⟨by rw [HV.out]; rfl, rfl⟩
def orV (x y : Int) : Int := if x = 0 then y else x
set_option maxRecDepth 100000 in
set_option maxHeartbeats 1000000 in
theorem cmpOr_any (b cap : Nat) (x y : Int) (w : World) (ha : w.cell? ⟨b, 0, none⟩ = some (.int .i64 x)) (hb : w.cell? ⟨b, 1, none⟩ = some (.int .i64 y)) :
    Calls Tryd.prog 77 #[.slice (some ⟨b, 0, none⟩) 2 cap] w fun e w' => e = .returned (.int .i64 (orV x y)) ∧ Gr w w' := by
  have HA := hid ha
  have HB := hid hb
  clear ha hb
  go_enter Tryd.func77, Tryd.ntmps77
  go_wp2_with fail
  go_loopw [8] (fun iv wr => ∃ k : Nat, k ≤ 2 ∧ iv = .int .i64 k ∧ Hid (Gr w wr) ∧ Hid (1 ≤ k → x = 0) ∧ Hid (2 ≤ k → y = 0)) (fun iv _ => 2 - (intOf iv).toNat)
  case atStart => exact ⟨0, by omega, rfl, hid (Gr.refl _), hid (fun h => by omega), hid (fun h => by omega)⟩
  case round =>
    obtain ⟨k, hk, rfl, hg, h1, h2⟩ := hrel
    have c0 := hg.out.cell HA.out
    have c1 := hg.out.cell HB.out
    rcases (by omega : k = 0 ∨ k = 1 ∨ k = 2) with rfl | rfl | rfl
    · cases hx : (x != 0)
      · have HX := hid (show x = 0 by simpa using hx)
        go_wp2_with fail
        go_roundw
        case rel => exact ⟨1, by omega, rfl, hg, hid (fun _ => HX.out), hid (fun h => by omega)⟩
        case measure => simp [intOf]
      · have HX := hid (show orV x y = x by unfold orV; rw [if_neg (by simpa using hx)])
        go_wp2_with fail
        go_ret
        exact ⟨by rw [HX.out]; rfl, hg.out⟩
    · have HX := hid (show orV x y = y by unfold orV; rw [if_pos (h1.out (by omega))])
      cases hy : (y != 0)
      · have HY := hid (show y = 0 by simpa using hy)
        go_wp2_with fail
        go_roundw
        case rel => exact ⟨2, by omega, rfl, hg, hid (fun _ => h1.out (by omega)), hid (fun _ => HY.out)⟩
        case measure => simp [intOf]
      · go_wp2_with fail
        go_ret
        exact ⟨by rw [HX.out]; rfl, hg.out⟩
    · have HX := hid (show orV x y = 0 by unfold orV; rw [if_pos (h1.out (by omega)), h2.out (by omega)])
      go_wp2_with fail
      go_ret
      exact ⟨by rw [HX.out]; rfl, hg.out⟩
set_option maxRecDepth 100000 in
set_option maxHeartbeats 1000000 in
theorem lasting_any (es : List En) (al : Option Addr) (n cal : Nat) (hl : n = es.length) (hn : n ≤ 1048576) (hN dN : Nat) (hh : hN < n) (hd : dN < n) (ht : ∀ i, i < n → 0 ≤ (enAt es i).t ∧ (enAt es i).t ≤ 100000) (w : World) (ha : CellsOf w al (enCells es)) :
    Calls Tryd.prog 79 #[.agg #[.int .i64 (hN : Int), .int .i64 (dN : Int)], .slice al n cal] w fun e w' => e = .returned (.int .i64 (lastF es ((hN : Int), (dN : Int)))) ∧ Gr w w' := by
  have HO := hid (show lastF es ((hN : Int), (dN : Int)) = (enAt es dN).t - (enAt es hN).t from by unfold lastF; simp only [Int.toNat_natCast])
  have h0 := ht hN hh
  have h1 := ht dN hd
  obtain ⟨b0, o0, rfl, t0, -, -⟩ := en_at ha (i := hN) (by omega)
  have t1 := (en_at' ha (i := dN) (by omega)).1
  have gr : Hid (Gr w (w.alloc (.cells #[.int .i64 (hN : Int), .int .i64 (dN : Int)] 89))) := hid ((Gr.refl _).alloc _)
  have t2 := gr.out.cell t0
  have t3 := gr.out.cell t1
  generalize (enAt es hN).t = x0 at *
  generalize (enAt es dN).t = x1 at *
  generalize lastF es ((hN : Int), (dN : Int)) = r at *
  have HWR := hid (show IntKind.i64.wrap (x1 - x0) = x1 - x0 from IntWalk.i64_in _ (by omega))
  have hb0 : (0 : Int) ≤ hN := by omega
  have hb1 : (hN : Int) < n := by omega
  have hb2 : (0 : Int) ≤ dN := by omega
  have hb3 : (dN : Int) < n := by omega
  clear ha hl t0 t1 ht
  go_enter Tryd.func79, Tryd.ntmps79
  go_wp2_with fail
  go_quiet (fail)
  go_wp2_with fail
  go_ret
  exact ⟨by rw [HO.out]; rfl, gr.out.drewN _⟩
end Go.Proofs.YtlgfibiggiknjaaDoor
