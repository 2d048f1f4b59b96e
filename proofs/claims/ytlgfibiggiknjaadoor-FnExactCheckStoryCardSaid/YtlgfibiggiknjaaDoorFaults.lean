/- The least faults: the program's functions. -/
import Derived.Test.YtlgfibiggiknjaaDoorSides
namespace Go.Proofs.YtlgfibiggiknjaaDoor
set_option linter.unusedVariables false
open Go.RowKit
set_option maxRecDepth 100000 in
set_option maxHeartbeats 1000000 in
theorem lfTell_any (a b : Option Addr) (n m ca cb : Nat) (es fs : List En) (hn6 : n ≤ 60) (hm6 : m ≤ 60) (V : World) (h2 : Logs2 V a b n m es fs) (lo tb cap : Nat) (rb : Nat → Nat) (i k : Nat) (hi : i ≤ n) (hk : k ≤ m) (ht : Tab V lo tb (n + 1) (m + 1) (costT es fs) i i (k + 1) rb) (g : Nat)
    (hg : V.heap[g]? = some (.cells (sidesC a b n m ca cb) 115 (0, 0))) :
    Calls Tryd.prog 167 #[.slice (some ⟨tb, 0, none⟩) (n + 1) cap, .int .i64 i, .int .i64 k, .pointer (some ⟨g, 0, none⟩)] V fun e w' => e = .returned (.int .i64 (costT es fs i k)) ∧ Gr V w' := by
  have HG := hid (goOn_any a b n m ca cb es fs i k hi hk hn6 hm6 V h2 lo tb cap rb ht)
  have HR := hid (show V.rangeAt g 0 [.slice a n ca, .slice b m cb] from rangeAt_vals (vs := [.slice a n ca, .slice b m cb]) hg)
  unfold sidesC at HG
  generalize costT es fs i k = t at *
  generalize optV (if i < n ∨ k < m then some (pickA es fs i k) else none) = ov at *
  clear h2 ht hg
  go_enter Tryd.func167, Tryd.ntmps167
  go_wp2_with ((refine wpList_load_mid rfl 115 _ rfl g 0 rfl _ _ HR.out Tryd.underlying115 rfl (by kernel_rfl) ?_))
  refine HG.out.mono ?_
  rintro e w1 ⟨rfl, g1⟩
  have G1 := hid g1
  clear g1
  go_wp2_with fail
  go_ret
  exact ⟨rfl, G1.out⟩
set_option maxRecDepth 100000 in
set_option maxHeartbeats 1000000 in
theorem leastFaults_any (a b : Option Addr) (n m ca cb : Nat) (es fs : List En) (hn6 : n ≤ 60) (hm6 : m ≤ 60) (w : World) (h2 : Logs2 w a b n m es fs) :
    Calls Tryd.prog 147 #[.agg (sidesC a b n m ca cb)] w fun e w' => ∃ tb rb, e = .returned (.slice (some ⟨tb, 0, none⟩) (n + 1) (n + 1)) ∧ Tab w' w.heap.size tb (n + 1) (m + 1) (costT es fs) 0 0 0 rb ∧ Gr w w' := by
  have hmf : ∀ (fn : Fn) (first cap : Array Value) (w : World), (Instr.makeFunc fn first cap).run Tryd.prog w = .ok (.func fn first cap) w := fun _ _ _ _ => rfl
  obtain ⟨W1, hW1⟩ : ∃ W1, W1 = w.alloc (.cells (sidesC a b n m ca cb) 115) := ⟨_, rfl⟩
  have GW := hid (show Gr w W1 by rw [hW1]; exact (Gr.refl w).alloc _)
  have B1 := hid (show W1.heap[w.heap.size]? = some (.cells (sidesC a b n m ca cb) 115 (0, 0)) by rw [hW1]; exact heap_new rfl)
  have HT := hid (table_any a b n m ca cb es fs hn6 hm6 167 #[.pointer (some ⟨w.heap.size, 0, none⟩)] (costT es fs) (fun args w => callFunc_enter Tryd.func167 (by kernel_rfl) (by kernel_rfl) args w) W1 (h2.gr GW.out)
    (fun V lo tb cap rb i k gV hi hk ht => lfTell_any a b n m ca cb es fs hn6 hm6 V (h2.gr (GW.out.trans gV)) lo tb cap rb i k hi hk ht w.heap.size (gV.heap B1.out)))
  have HR := hid (show W1.rangeAt w.heap.size 0 [.slice a n ca, .slice b m cb] from rangeAt_vals (vs := [.slice a n ca, .slice b m cb]) B1.out)
  have HS := hid (show W1.heap.size = w.heap.size + 1 by rw [hW1]; simp)
  have HW1 := hid hW1
  clear h2 hW1
  unfold sidesC at HT HW1 ⊢
  go_enter Tryd.func147, Tryd.ntmps147
  go_wp2_with fail
  rw [← HW1.out]
  refine HT.out.mono ?_
  rintro e w1 ⟨tb, rb, rfl, t1, g1⟩
  have G1 := hid (GW.out.trans g1)
  have T1 := hid (show Tab w1 w.heap.size tb (n + 1) (m + 1) (costT es fs) 0 0 0 rb from ⟨t1.outer, t1.rows, t1.apart, fun r x y => by have := t1.low r x y; have := HS.out; omega, by have := t1.lot; have := HS.out; omega⟩)
  clear g1 t1
  go_wp2_with fail
  go_ret
  exact ⟨_, _, rfl, T1.out, G1.out⟩
set_option maxRecDepth 100000 in
set_option maxHeartbeats 1000000 in
theorem faultsOf_any (a b : Option Addr) (n m ca cb : Nat) (es fs : List En) (hn6 : n ≤ 60) (hm6 : m ≤ 60) (w : World) (h2 : Logs2 w a b n m es fs) :
    Calls Tryd.prog 101 #[.agg (sidesC a b n m ca cb)] w fun e w' => e = .returned (.int .i64 (costT es fs 0 0)) ∧ Gr w w' := by
  obtain ⟨W1, hW1⟩ : ∃ W1, W1 = w.alloc (.cells (sidesC a b n m ca cb) 115) := ⟨_, rfl⟩
  have GW := hid (show Gr w W1 by rw [hW1]; exact (Gr.refl w).alloc _)
  have HL := hid (leastFaults_any a b n m ca cb es fs hn6 hm6 W1 (h2.gr GW.out))
  have HW1 := hid hW1
  clear h2 hW1
  unfold sidesC at HL HW1 ⊢
  go_enter Tryd.func101, Tryd.ntmps101
  go_wp2_with fail
  rw [← HW1.out]
  refine HL.out.mono ?_
  rintro e w1 ⟨tb, rb, rfl, t1, g1⟩
  have G1 := hid (GW.out.trans g1)
  have c0 := t1.row (r := 0) (Nat.le_refl _) (by omega)
  have c1 := t1.cell (r := 0) (c := 0) (Nat.le_refl _) (by omega) (by omega) (.inr ⟨rfl, Nat.le_refl _⟩)
  generalize rb 0 = r0 at *
  generalize ht : costT es fs 0 0 = t at *
  have HTV := hid ht
  clear g1 t1 ht
  go_wp2_with fail
  go_ret
  exact ⟨by rw [HTV.out]; rfl, G1.out⟩
end Go.Proofs.YtlgfibiggiknjaaDoor
