/- UpAt: what is told. -/
import Derived.Test.YtehingpopgojkaaDoorUpAt
namespace Go.Proofs.YtehingpopgojkaaDoor
set_option linter.unusedVariables false
open Go.RowKit
set_option maxRecDepth 100000 in
theorem isHauled_any (h d : Int) (w : World) :
    Calls Tryd.prog 80 #[.agg #[.int .i64 h, .int .i64 d]] w fun e w' => e = .returned (.bool (d != -1)) ∧ Gr w w' := by
  have gr : Hid (Gr w (w.alloc (.cells #[.int .i64 h, .int .i64 d] 86))) := hid ((Gr.refl _).alloc _)
  go_enter Tryd.func80, Tryd.ntmps80
  go_wp2_with fail
  go_ret
  exact ⟨rfl, gr.out⟩
set_option maxRecDepth 100000 in
set_option maxHeartbeats 1000000 in
theorem isAt_any (es : List En) (al : Option Addr) (n cal : Nat) (hl : n = es.length) (hn : n ≤ 1048576) (h d time : Int) (hh : 0 ≤ h ∧ h < n) (hd : d = -1 ∨ (0 ≤ d ∧ d < n)) (w : World) (ha : CellsOf w al (enCells es)) :
    Calls Tryd.prog 69 #[.agg #[.int .i64 h, .int .i64 d], .slice al n cal, .int .i64 time] w fun e w' => e = .returned (.bool (onB es time (h, d))) ∧ Gr w w' := by
  have HO := hid (show onB es time (h, d) = (decide ((enAt es h.toNat).t ≤ time) && !(decide (d ≠ -1) && decide ((enAt es d.toNat).t ≤ time))) from rfl)
  have HH := hid (fun V => isHauled_any h d V)
  obtain ⟨b0, o0, rfl, t0, -, -⟩ := en_at ha (i := h.toNat) (by omega)
  have HD := hid (fun (hp : 0 ≤ d ∧ d < n) => (en_at' ha (i := d.toNat) (by omega)).1)
  obtain ⟨hN, rfl⟩ : ∃ hN : Nat, h = (hN : Int) := ⟨h.toNat, by omega⟩
  rw [Int.toNat_natCast] at t0 HO
  have gr : Hid (Gr w (w.alloc (.cells #[.int .i64 (hN : Int), .int .i64 d] 86))) := hid ((Gr.refl _).alloc _)
  have t1 := gr.out.cell t0
  have HD1 := hid (fun V (g : Gr w V) (hp : 0 ≤ d ∧ d < n) => g.cell (HD.out hp))
  clear HD
  generalize (enAt es hN).t = x0 at *
  generalize (enAt es d.toNat).t = x1 at *
  generalize onB es time ((hN : Int), d) = r at *
  have hb0 : (0 : Int) ≤ hN := hh.1
  have hb1 : (hN : Int) < n := hh.2
  by_cases hx : x0 ≤ time
  · clear ha hl hh t0
    by_cases hd1 : d = -1
    · have HR := hid (show r = true by rw [HO.out, decide_eq_true hx, hd1]; rfl)
      subst hd1
      have hq : ((-1 : Int) != -1) = false := rfl
      clear HO HD1 hd
      go_enter Tryd.func69, Tryd.ntmps69
      go_wp2_with fail
      refine (HH.out _).mono ?_
      rintro e w1 ⟨rfl, g1⟩
      rw [hq]
      have G1 := hid (gr.out.trans g1)
      clear g1
      go_wp2_with fail
      go_ret
      exact ⟨ret_bool HR.out.symm, G1.out⟩
    · have hd2 : 0 ≤ d ∧ d < n := by omega
      have hq : (d != -1) = true := by simpa using hd1
      have HR := hid (show r = !decide (x1 ≤ time) by rw [HO.out, decide_eq_true hx, decide_eq_true hd1]; rfl)
      obtain ⟨dN, rfl⟩ : ∃ dN : Nat, d = (dN : Int) := ⟨d.toNat, by omega⟩
      rw [Int.toNat_natCast] at HD1
      have hc0 : (0 : Int) ≤ dN := hd2.1
      have hc1 : (dN : Int) < n := hd2.2
      have HB := hid (heap_new (w := w) (o := .cells #[.int .i64 (hN : Int), .int .i64 (dN : Int)] 86) rfl)
      clear hd hd1
      go_enter Tryd.func69, Tryd.ntmps69
      go_wp2_with fail
      refine (HH.out _).mono ?_
      rintro e w1 ⟨rfl, g1⟩
      rw [hq]
      have G1 := hid (gr.out.trans g1)
      have t2 := HD1.out w1 G1.out hd2
      have B1 := hid (g1.heap HB.out)
      have t3 : w1.cell? ⟨w.heap.size, 1, none⟩ = some (.int .i64 (dN : Int)) := by rw [cell_of_row _ _ _ _ _ _ B1.out]; rfl
      clear g1
      go_wp2_with fail
      go_ret
      exact ⟨ret_bool HR.out.symm, G1.out⟩
  · have HR := hid (show r = false by rw [HO.out, decide_eq_false hx]; rfl)
    clear ha hl hh
    go_enter Tryd.func69, Tryd.ntmps69
    go_wp2_with fail
    go_ret
    exact ⟨ret_bool HR.out.symm, gr.out⟩
end Go.Proofs.YtehingpopgojkaaDoor
