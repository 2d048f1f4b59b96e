/- Slices of structs: copies, comparisons. -/
import Derived.Test.YtnkoakneffjkbaaDoorStrX
namespace Go.Proofs.YtnkoakneffjkbaaDoor
set_option linter.unusedVariables false
open Go.RowKit
/-- The cells of so many structs. -/
def StepsC (n : Nat) (cs : List Value) : Prop := cs.length = n * 2 ∧ ∀ k, k < n → ∃ (x0 : Int) (x1 : Int), (cs.drop (k * 2)).take 2 = [.int .i64 x0, .int .i64 x1]
theorem infoStep : (Tryd.prog.info? 60).map (fun i => (i.zero, i.size, i.bytes)) = some (some (.agg #[.int .i64 0, .int .i64 0]), 2, 16) := by kernel_rfl
theorem sizeStep : (Tryd.prog.info? 60).map (·.size) = some 2 := by kernel_rfl
theorem elemStep_cells {w : World} {a : Option Addr} {cs : List Value} {k : Nat} {x0 : Int} {x1 : Int} (h : CellsOf w a cs) (he : (cs.drop (k * 2)).take 2 = [.int .i64 x0, .int .i64 x1]) :
    ∃ b off, a = some ⟨b, off, none⟩ ∧ w.cell? ⟨b, off + k * 2, none⟩ = some (.int .i64 x0) ∧ w.cell? ⟨b, off + k * 2 + 1, none⟩ = some (.int .i64 x1) := by
  obtain ⟨b, off, rfl, h0⟩ := h.at_ (get_of_elem (q := 0) he rfl)
  obtain ⟨b1, off1, e1, h1⟩ := h.at_ (get_of_elem (q := 1) he rfl)
  cases e1
  exact ⟨b, off, rfl, h0, h1⟩
theorem elemStep_at {w : World} {b0 o0 k : Nat} {x0 : Int} {x1 : Int} (h : ∃ b off, some (⟨b0, o0, none⟩ : Addr) = some ⟨b, off, none⟩ ∧ w.cell? ⟨b, off + k * 2, none⟩ = some (.int .i64 x0) ∧ w.cell? ⟨b, off + k * 2 + 1, none⟩ = some (.int .i64 x1)) : w.cell? ⟨b0, o0 + k * 2, none⟩ = some (.int .i64 x0) ∧ w.cell? ⟨b0, o0 + k * 2 + 1, none⟩ = some (.int .i64 x1) := by
  obtain ⟨b, off, e, r⟩ := h
  cases e
  exact r
set_option maxRecDepth 100000 in
set_option maxHeartbeats 800000 in
theorem eqStep_same (x0 : Int) (x1 : Int) (w : World) :
    Calls Tryd.prog 40 #[.agg #[.int .i64 x0, .int .i64 x1], .agg #[.int .i64 x0, .int .i64 x1]] w fun e w' => e = .returned (.bool true) ∧ Gr w w' := by
  go_enter Tryd.func40, Tryd.ntmps40
  go_wp2
  go_ret
  exact ⟨rfl, ((Gr.refl _).alloc _).alloc _⟩
set_option maxRecDepth 100000 in
set_option maxHeartbeats 1600000 in
theorem eqStepS_own (a b : Option Addr) (ca cb n : Nat) (cs : List Value) (hc : StepsC n cs) (hn : n ≤ 1048576) (w : World) (ha : CellsOf w a cs) (hb : CellsOf w b cs) :
    Calls Tryd.prog 11 #[.slice a n ca, .slice b n cb] w fun e w' => e = .returned (.bool true) ∧ Gr w w' := by
  have HA := hid ha
  have HB := hid hb
  have HC := hid hc
  clear ha hb hc
  go_enter Tryd.func11, Tryd.ntmps11
  go_wp2_with fail
  go_loopw [5] (fun i wr => ∃ k : Nat, k ≤ n ∧ i = .int .i64 k ∧ Hid (Gr w wr)) (fun i _ => n - (intOf i).toNat)
  case atStart => exact ⟨0, Nat.zero_le _, rfl, hid (Gr.refl _)⟩
  case round =>
    obtain ⟨k, hk, rfl, hg⟩ := hrel
    by_cases hlt : k < n
    · obtain ⟨x0, x1, HX⟩ := HC.out.2 k hlt
      have HD := hid (fun V (g : Gr w V) => elemStep_cells (HA.out.gr g) HX)
      have HE := hid (fun V (g : Gr w V) => elemStep_cells (HB.out.gr g) HX)
      have HV := hid (fun V => eqStep_same x0 x1 V)
      clear HX
      obtain ⟨b0, o0, ea, _⟩ := HD.out wr hg.out
      obtain ⟨b1, o1, eb, _⟩ := HE.out wr hg.out
      subst ea
      subst eb
      replace HD := hid (fun V g => elemStep_at (HD.out V g))
      replace HE := hid (fun V g => elemStep_at (HE.out V g))
      have hb0 : (0 : Int) ≤ k := by omega
      have hb1 : (k : Int) < n := by omega
      go_wp2_with fail
      have gd : Gr w wr.drew := hg.out.drew
      obtain ⟨p0, p1⟩ := HD.out _ gd
      obtain ⟨q0, q1⟩ := HE.out _ gd
      go_region_held3 (fun V => V.cell? ⟨b0, o0 + k * 2, none⟩ = some (.int .i64 x0) ∧ V.cell? ⟨b0, o0 + k * 2 + 1, none⟩ = some (.int .i64 x1) ∧ V.cell? ⟨b1, o1 + k * 2, none⟩ = some (.int .i64 x0) ∧ V.cell? ⟨b1, o1 + k * 2 + 1, none⟩ = some (.int .i64 x1) ∧ Gr w V)
        (first | exact ⟨p0, p1, q0, q1, gd⟩ | exact ⟨(HD.out _ gW).1, (HD.out _ gW).2, (HE.out _ gW).1, (HE.out _ gW).2, gW⟩ | go_keep)
        (((with_reducible refine (HV.out _).mono ?_); rintro e V ⟨rfl, gV⟩; have gW : Gr w V := Gr.trans (by assumption) gV))
      all_goals
        go_wp2_with fail
        go_roundw
        case rel => exact ⟨k + 1, by omega, by go_num, hid (by first | assumption | exact Gr.drew (by assumption))⟩
        case measure => simp [intOf] <;> omega
    · go_wp2_with fail
      go_ret
      exact ⟨rfl, hg.out⟩
end Go.Proofs.YtnkoakneffjkbaaDoor
