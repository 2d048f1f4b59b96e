/- LooksLike: the law's walk. -/
import Derived.Test.YtnghcchkiodalaaLooksI
import Derived.Test.YtnghcchkiodalaaToFlag
namespace Go.Proofs.Ytnghcchkiodalaa
open Go.RowKit
@[local go_sem ↓] theorem load_a24 (ρ : Operand → Value) (o : Oper) (w : World) (ho : loadsOf 22 o = true) (h : (rowOf w (ρ (loadsFrom o)) 24).isSome = true) :
    (execOp ρ o).run Try.prog w = .ok (.value (.agg ((rowOf w (ρ (loadsFrom o)) 24).getD #[]))) w := run_execOp_rowOf Try.underlying22 (by kernel_rfl) ρ o w ho h
attribute [local go_sem] rowOf_drew loadsOf loadsFrom
set_option maxHeartbeats 4000000 in
set_option maxRecDepth 100000 in
theorem FnExactLooksLike_walk (a0 : List Int) (l0 : a0.length = 24) (w0 : Bytes a0) (a1 : List Int) (l1 : a1.length = 24) (w1 : Bytes a1) (a2 : Bool) (w : World) :
    Calls Try.prog 5 #[.agg (byteCells a0), .agg (byteCells a1), .bool a2] w fun e w' => e = .returned (.bool true) ∧ Grown w w' := by
  have hs := spec_LooksLike_any a0 l0 w0 a1 l1 w1 a2
  have hi := impl_LooksLike_any a0 l0 w0 a1 l1 w1 a2
  generalize lookV a0 a1 a2 = r0 at *
  generalize farC a0 a1 = r1 at *
  have HS := hid hs
  have HI := hid hi
  have HL0 := hid l0
  have HL1 := hid l1
  have q0 : rowOf ((w.alloc (.cells (byteCells a0) 22)).alloc (.cells (byteCells a1) 22)) (.pointer (some ⟨w.heap.size, 0, none⟩)) 24 = some (byteCells a0) := rowOf_block (heap_kept (heap_new rfl)) (by rw [byteCells_size]; exact l0)
  have q1 : rowOf ((w.alloc (.cells (byteCells a0) 22)).alloc (.cells (byteCells a1) 22)) (.pointer (some ⟨w.heap.size + 1, 0, none⟩)) 24 = some (byteCells a1) := rowOf_block (heap_new (by simp)) (by rw [byteCells_size]; exact l1)
  have gr : Grown w ((w.alloc (.cells (byteCells a0) 22)).alloc (.cells (byteCells a1) 22)) := ((Grown.refl w).alloc _ _).alloc _ _
  clear hs hi l0 l1 w0 w1
  obtain ⟨W, hW⟩ : ∃ W, W = ((w.alloc (.cells (byteCells a0) 22)).alloc (.cells (byteCells a1) 22)) := ⟨_, rfl⟩
  have hW' := hid hW
  clear hW
  have Q0 := hid q0
  have Q1 := hid q1
  clear q0 q1
  go_enter Try.func5, Try.ntmps5
  go_wp2_with fail
  rw [← hW'.out] at Q0 Q1 gr ⊢
  clear hW'
  have q0 := Q0.out
  have q1 := Q1.out
  clear Q0 Q1
  refine Code.wp_mono (Q := Exit.then (fun a w' => a = ({ tmps := #[.agg (byteCells a0), .agg (byteCells a1), .bool a2, (.pointer (some ⟨w.heap.size, 0, none⟩)), (.pointer (some ⟨w.heap.size + 1, 0, none⟩)), undef, .bool false, .bool r0, .int .i64 r1, undef, undef, .tuple #[.bool r0, .int .i64 r1], .agg (byteCells a0), .agg (byteCells a0), .agg (byteCells a1), .agg (byteCells a1), .bool a2, .tuple #[.bool r0, .int .i64 r1], .bool r0, .int .i64 r1, undef, undef, undef, undef, undef, undef, undef, undef, undef, undef, undef, undef, undef, undef, undef, undef, undef], defers := [] } : Act) ∧ (Grown w w' ∧ rowOf w' (.pointer (some ⟨w.heap.size, 0, none⟩)) 24 = some (byteCells a0) ∧ rowOf w' (.pointer (some ⟨w.heap.size + 1, 0, none⟩)) 24 = some (byteCells a1))) (fun _ _ _ => False)) ?k1 ?r1
  case r1 =>
    go_region_with (first | ((with_reducible refine (toFlag_any a0 HL0.out _).mono ?_); rintro e V1a ⟨rfl, g1a⟩; have gr1a : Grown w V1a := (by first | exact Grown_trans (by assumption) g1a | exact Grown_trans (Grown.drew (by assumption)) g1a); have p1a := rowOf_grown g1a (by assumption : rowOf _ (.pointer (some ⟨w.heap.size, 0, none⟩)) 24 = some (byteCells a0)); have o1a := rowOf_grown g1a (by assumption : rowOf _ (.pointer (some ⟨w.heap.size + 1, 0, none⟩)) 24 = some (byteCells a1))) | ((with_reducible refine (toFlag_any a1 HL1.out _).mono ?_); rintro e V1b ⟨rfl, g1b⟩; have gr1b : Grown w V1b := (by first | exact Grown_trans (by assumption) g1b | exact Grown_trans (Grown.drew (by assumption)) g1b); have p1b := rowOf_grown g1b (by assumption : rowOf _ (.pointer (some ⟨w.heap.size, 0, none⟩)) 24 = some (byteCells a0)); have o1b := rowOf_grown g1b (by assumption : rowOf _ (.pointer (some ⟨w.heap.size + 1, 0, none⟩)) 24 = some (byteCells a1))) | ((with_reducible refine (HS.out _).mono ?_); rintro e V1c ⟨rfl, g1c⟩; have gr1c : Grown w V1c := (by first | exact Grown_trans (by assumption) g1c | exact Grown_trans (Grown.drew (by assumption)) g1c); have p1c := rowOf_grown g1c (by assumption : rowOf _ (.pointer (some ⟨w.heap.size, 0, none⟩)) 24 = some (byteCells a0)); have o1c := rowOf_grown g1c (by assumption : rowOf _ (.pointer (some ⟨w.heap.size + 1, 0, none⟩)) 24 = some (byteCells a1))))
    all_goals exact ⟨rfl, by assumption, by assumption, by assumption⟩
  case k1 =>
    clear gr q0 q1
    intro e a W1 h
    cases e <;> first | exact h.elim | skip
    obtain ⟨rfl, gr, q0, q1⟩ := h
    go_wp2_with fail
    refine Code.wp_mono (Q := Exit.then (fun a w' => a = ({ tmps := #[.agg (byteCells a0), .agg (byteCells a1), .bool a2, (.pointer (some ⟨w.heap.size, 0, none⟩)), (.pointer (some ⟨w.heap.size + 1, 0, none⟩)), undef, .bool false, .bool r0, .int .i64 r1, .bool r0, .int .i64 r1, .tuple #[.bool r0, .int .i64 r1], .agg (byteCells a0), .agg (byteCells a0), .agg (byteCells a1), .agg (byteCells a1), .bool a2, .tuple #[.bool r0, .int .i64 r1], .bool r0, .int .i64 r1, .tuple #[.bool r0, .int .i64 r1], .agg (byteCells a0), .agg (byteCells a0), .agg (byteCells a1), .agg (byteCells a1), .bool a2, .tuple #[.bool r0, .int .i64 r1], .bool r0, .int .i64 r1, undef, undef, undef, undef, undef, undef, undef, undef], defers := [] } : Act) ∧ (Grown w w' ∧ rowOf w' (.pointer (some ⟨w.heap.size, 0, none⟩)) 24 = some (byteCells a0) ∧ rowOf w' (.pointer (some ⟨w.heap.size + 1, 0, none⟩)) 24 = some (byteCells a1))) (fun _ _ _ => False)) ?k2 ?r2
    case r2 =>
      go_region_with (first | ((with_reducible refine (toFlag_any a0 HL0.out _).mono ?_); rintro e V2a ⟨rfl, g2a⟩; have gr2a : Grown w V2a := (by first | exact Grown_trans (by assumption) g2a | exact Grown_trans (Grown.drew (by assumption)) g2a); have p2a := rowOf_grown g2a (by assumption : rowOf _ (.pointer (some ⟨w.heap.size, 0, none⟩)) 24 = some (byteCells a0)); have o2a := rowOf_grown g2a (by assumption : rowOf _ (.pointer (some ⟨w.heap.size + 1, 0, none⟩)) 24 = some (byteCells a1))) | ((with_reducible refine (toFlag_any a1 HL1.out _).mono ?_); rintro e V2b ⟨rfl, g2b⟩; have gr2b : Grown w V2b := (by first | exact Grown_trans (by assumption) g2b | exact Grown_trans (Grown.drew (by assumption)) g2b); have p2b := rowOf_grown g2b (by assumption : rowOf _ (.pointer (some ⟨w.heap.size, 0, none⟩)) 24 = some (byteCells a0)); have o2b := rowOf_grown g2b (by assumption : rowOf _ (.pointer (some ⟨w.heap.size + 1, 0, none⟩)) 24 = some (byteCells a1))) | ((with_reducible refine (HI.out _).mono ?_); rintro e V2c ⟨rfl, g2c⟩; have gr2c : Grown w V2c := (by first | exact Grown_trans (by assumption) g2c | exact Grown_trans (Grown.drew (by assumption)) g2c); have p2c := rowOf_grown g2c (by assumption : rowOf _ (.pointer (some ⟨w.heap.size, 0, none⟩)) 24 = some (byteCells a0)); have o2c := rowOf_grown g2c (by assumption : rowOf _ (.pointer (some ⟨w.heap.size + 1, 0, none⟩)) 24 = some (byteCells a1))))
      all_goals exact ⟨rfl, by assumption, by assumption, by assumption⟩
    case k2 =>
      clear gr q0 q1
      intro e a W2 h
      cases e <;> first | exact h.elim | skip
      obtain ⟨rfl, gr, q0, q1⟩ := h
      go_wp2_with fail
      go_ret
      exact ⟨rfl, gr⟩
end Go.Proofs.Ytnghcchkiodalaa
