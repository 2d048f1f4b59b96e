/- All places of which something is true: the program's function. -/
import Derived.Test.YtflbjjcpkhldkaaDoorTimesOf
import Derived.Test.YtflbjjcpkhldkaaDoorSlices
import Derived.Test.YtflbjjcpkhldkaaDoorReplyInts
namespace Go.Proofs.YtflbjjcpkhldkaaDoor
set_option linter.unusedVariables false
open Go.RowKit
theorem info64 : (Tryd.prog.info? 2).map (fun i => (i.zero, i.size, i.bytes)) = some (some (.int .i64 0), 1, 8) := by kernel_rfl
theorem news_one {w : World} {v : Value} {T : TypeId} {b : Nat} (h : w.heap[b]? = some (.cells #[v] T (0, 0))) : ∀ j u, [v][j]? = some u → w.cell? ((⟨b, 0, none⟩ : Addr).add j) = some u := by
  intro j u hu
  rw [Addr.add_mid, Nat.zero_add, cell_of_row w b j _ T _ h]
  simpa using hu
theorem own_where {w : World} {lo k : Nat} {v : Value} {p : Nat → Bool} (hp : p k = true) (h : w.ownsRow lo 2 1 v ((whereL p k).length + 1) ((whereL p k).map (Value.int .i64) ++ [.int .i64 (k : Int)])) : Own .i64 2 w lo w.heap.size v (whereL p (k + 1)) := by
  rw [whereL_yes hp]
  exact Own.ofRow h (by simp) (by simp)
set_option maxRecDepth 100000 in
set_option maxHeartbeats 1000000 in
theorem indicesWhere_any (a : Option Addr) (n c : Nat) (hm : n ≤ 20) (p : Nat → Bool) (K : FuncId) (caps : Array Value) (w : World)
    (hK : ∀ (args : Array Value) (w : World), (callFunc K args).run Tryd.prog w = .ok (.enter K args) w)
    (hp : ∀ V k, Gr w V → k < n → Calls Tryd.prog K (#[.int .i64 k] ++ caps) V fun e w' => e = .returned (.bool (p k)) ∧ Gr V w') :
    Calls Tryd.prog 63 #[.slice a n c, .func (.func K) #[] caps] w (RetOwn .i64 2 id (whereL p n) w) := by
  obtain ⟨i0, hi, hz0, hz1, hz2⟩ := info_parts info64
  have HP := hid hp
  clear hp
  go_enter Tryd.func63, Tryd.ntmps63
  go_wp2_with fail
  go_loopw [5, 9] (fun v i wr => ∃ k : Nat, k ≤ n ∧ i = .int .i64 k ∧ Hid (Own .i64 2 wr w.heap.size wr.heap.size v (whereL p k)) ∧ Hid (Gr w wr)) (fun _ i _ => n - (intOf i).toNat)
  case atStart => exact ⟨0, Nat.zero_le _, rfl, hid (Own.nil _ _ _), hid (Gr.refl _)⟩
  case round =>
    obtain ⟨k, hk, rfl, O, G⟩ := hrel
    obtain ⟨av, cv, rfl⟩ := O.out.shape
    by_cases hlt : k < n
    · have HC := hid (HP.out wr k G.out hlt)
      have HLE := hid (whereL_length p k)
      cases hq : p k
      · have HW := hid (whereL_no hq)
        rw [hq] at HC
        clear hq
        go_wp2_with fail
        refine HC.out.mono ?_
        rintro e w1 ⟨rfl, g1⟩
        have G1 := hid (G.out.trans g1)
        have O1 := hid ((O.out.gr g1).widen (Nat.le_refl _) g1.size)
        clear g1
        go_wp2_with fail
        go_roundw
        case rel => exact ⟨k + 1, by omega, by go_num, hid (by rw [HW.out]; exact O1.out), G1⟩
        case measure => simp [intOf] <;> omega
      · have HW := hid hq
        rw [hq] at HC
        clear hq
        go_wp2_with fail
        refine HC.out.mono ?_
        rintro e w1 ⟨rfl, g1⟩
        have G1 := hid (G.out.trans g1)
        have O1 := hid (O.out.gr g1)
        have sz1 := hid g1.size
        have hle := HLE.out
        clear g1
        go_wp2_with (at_builtin; refine wpList_append_own _ rfl _ _ 40 rfl w.heap.size 2 i0 (.int .i64 0) 1 8 Tryd.underlying40 hi hz0 hz1 hz2 rfl (by decide) _ _ _ rfl (O1.out.row.alloc _) ⟨w1.heap.size, 0, none⟩ 1 1 [.int .i64 (k : Int)] rfl rfl (news_one (heap_new rfl)) (by simp [Value.oneCell']) (by unfold maxLen; omega) (by omega) (by have := G1.out.size; simp; omega) ?_; intro v2 w2 hown2 hgrow2 _)
        have G2 := hid ((G1.out.alloc _).by_ hgrow2 (fun b e => (O1.out.row.lt b e).1))
        have O2 := hid (own_where HW.out hown2)
        clear hown2 hgrow2 O1 hle
        go_wp2_with fail
        go_roundw
        case rel => exact ⟨k + 1, by omega, by go_num, O2, G2⟩
        case measure => simp [intOf] <;> omega
    · obtain rfl : k = n := by omega
      go_wp2_with fail
      go_ret
      exact ⟨_, rfl, O.out, G.out⟩
end Go.Proofs.YtflbjjcpkhldkaaDoor
