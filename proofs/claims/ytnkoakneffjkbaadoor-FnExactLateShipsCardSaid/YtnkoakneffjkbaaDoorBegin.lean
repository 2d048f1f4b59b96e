/- The model's table of zeros. -/
import Derived.Test.YtnkoakneffjkbaaDoorTable
namespace Go.Proofs.YtnkoakneffjkbaaDoor
set_option linter.unusedVariables false
open Go.RowKit
def rowVals (rb : Nat → Nat) (M k : Nat) : List Value := (List.range k).map (fun r => .slice (some ⟨rb r, 0, none⟩) M M)
theorem rowVals_get {rb : Nat → Nat} {M k r : Nat} (h : r < k) : (rowVals rb M k)[r]? = some (.slice (some ⟨rb r, 0, none⟩) M M) := by simp [rowVals, h]
/-- So many rows of zeros. -/
structure BegI (w : World) (m k : Nat) (v : Value) (rb : Nat → Nat) (wr : World) : Prop where
  own : OwnV 44 1 wr w.heap.size wr.heap.size v k (rowVals rb (m + 1) k)
  rows : ∀ r, r < k → wr.heap[rb r]? = some (.cells ((List.replicate (m + 1) 0).map (Value.int .i64)).toArray 2 (0, 0))
  apart : ∀ r s, r < s → s < k → rb r ≠ rb s
  low : ∀ r, r < k → w.heap.size ≤ rb r
  gr : Gr w wr
theorem own_far {w : World} {lo m : Nat} {v : Value} {n : Nat} {cs : List Value} {b : Nat} {us : Array Value} (h : w.ownsRow lo 44 1 v n cs) (hb : w.heap[b]? = some (.cells us 2 (0, 0))) : v.ownBlock ≠ some b := by
  intro e
  rcases h.2 with ⟨h1, _⟩ | ⟨g', cap, cur, h1, h2, h3, _⟩
  · rw [h1] at e; cases e
  · rw [h1] at e
    simp only [Value.ownBlock, Option.some.injEq] at e
    rw [e, hb] at h3
    have hne : (2 : TypeId) ≠ 44 := by decide
    simp only [Option.some.injEq, Obj.cells.injEq] at h3
    exact hne h3.2.1
theorem BegI.snoc {w wr wy : World} {m k : Nat} {v v2 : Value} {rb : Nat → Nat} (h : BegI w m k v rb wr)
    (ho : wy.ownsRow w.heap.size 44 1 v2 (k + 1) (rowVals rb (m + 1) k ++ [.slice (some ⟨wr.heap.size, 0, none⟩) (m + 1) (m + 1)]))
    (hg : ((wr.alloc (zeroRow m)).alloc (.cells #[.slice (some ⟨wr.heap.size, 0, none⟩) (m + 1) (m + 1)] 44)).grownBy wy v.ownBlock) :
    BegI w m (k + 1) v2 (fun r => if r = k then wr.heap.size else rb r) wy := by
  have hlt : ∀ r, r < k → rb r < wr.heap.size := fun r hr => lt_of_heap (h.rows r hr)
  have hkeep : ∀ (b : Nat) (us : Array Value), wr.heap[b]? = some (.cells us 2 (0, 0)) → wy.heap[b]? = some (.cells us 2 (0, 0)) := fun b us hb => by
    have hb2 : ((wr.alloc (zeroRow m)).alloc (.cells #[.slice (some ⟨wr.heap.size, 0, none⟩) (m + 1) (m + 1)] 44)).heap[b]? = some (.cells us 2 (0, 0)) := heap_kept (heap_kept hb)
    rw [hg.block b (lt_of_heap hb2) (fun e => own_far (m := m) h.own.row hb e.symm)]
    exact hb2
  refine ⟨?_, fun r hr => ?_, fun r s h1 h2 => ?_, fun r hr => ?_, ?_⟩
  · have e : rowVals (fun r => if r = k then wr.heap.size else rb r) (m + 1) (k + 1) = rowVals rb (m + 1) k ++ [.slice (some ⟨wr.heap.size, 0, none⟩) (m + 1) (m + 1)] := by
      unfold rowVals
      rw [List.range_succ, List.map_append]
      congr 1
      · apply List.map_congr_left
        intro r hr
        rw [List.mem_range] at hr
        simp only
        rw [if_neg (by omega)]
      · simp
    rw [e]
    exact OwnV.ofRow ho
  · by_cases e : r = k
    · rw [if_pos e]
      have hb2 : ((wr.alloc (zeroRow m)).alloc (.cells #[.slice (some ⟨wr.heap.size, 0, none⟩) (m + 1) (m + 1)] 44)).heap[wr.heap.size]? = some (zeroRow m) := heap_kept (heap_new rfl)
      rw [hg.block _ (lt_of_heap hb2) (fun e2 => by have := (h.own.row.lt _ e2.symm).2; omega)]
      exact hb2
    · rw [if_neg e]; exact hkeep _ _ (h.rows r (by omega))
  · rw [if_neg (show ¬ r = k by omega)]
    have := hlt r (by omega)
    by_cases e : s = k
    · rw [if_pos e]; omega
    · rw [if_neg e]; exact h.apart r s h1 (by omega)
  · by_cases e : r = k
    · rw [if_pos e]; exact h.gr.size
    · rw [if_neg e]; exact h.low r (by omega)
  · exact ((h.gr.alloc _).alloc _).by_ hg (fun b e => (h.own.row.lt b e).1)
theorem BegI.tab {w wr : World} {n m : Nat} {v : Value} {rb : Nat → Nat} (h : BegI w m (n + 1) v rb wr) (T : Nat → Nat → Int) : ∃ tb cap, v = .slice (some ⟨tb, 0, none⟩) (n + 1) cap ∧ Tab wr w.heap.size tb (n + 1) (m + 1) T 0 (n + 1) 0 rb := by
  rcases h.own.row.2 with ⟨h1, h2⟩ | ⟨g, cap, cur, h1, h2, h3, h4, h5, h6, h7⟩
  · omega
  · refine ⟨g, cap, h1, ⟨cur.toList, by simpa using h3, by rw [Array.length_toList]; omega, fun r _ h9 => ?_⟩, fun r _ h9 => ⟨List.replicate (m + 1) 0, h.rows r h9, by simp, fun c hc h10 => by omega⟩, fun r s _ g1 g2 => h.apart r s g1 g2, fun r _ g1 => h.low r g1, h2⟩
    have := rowVals_get (rb := rb) (M := m + 1) h9
    rw [← h7] at this
    rw [List.getElem?_take] at this
    split at this
    · exact this
    · cases this
/-- A table is handed back. -/
def TabRet (w : World) (n m : Nat) (T : Nat → Nat → Int) (i j : Nat) (e : Ending) (w' : World) : Prop := ∃ tb cap rb, e = .returned (.slice (some ⟨tb, 0, none⟩) (n + 1) cap) ∧ Tab w' w.heap.size tb (n + 1) (m + 1) T 0 i j rb ∧ Gr w w'
set_option maxRecDepth 100000 in
set_option maxHeartbeats 2000000 in
theorem l07Begin_any (a b : Option Addr) (n m ca cb : Nat) (hn : n ≤ 1000) (hm : m ≤ 1048576) (T : Nat → Nat → Int) (w : World) :
    Calls Tryd.prog 30 #[.slice a n ca, .slice b m cb] w (TabRet w n m T (n + 1) 0) := by
  obtain ⟨i0, hi0, hz0, hz1, hz2⟩ := info_parts infoRow
  have hmk := make_row m hm
  have GB0 := hid (show Gr w (w.alloc (.cells #[] 44)) from (Gr.refl w).alloc _)
  have BB := hid (show BegI w m 0 (.slice (some ⟨w.heap.size, 0, none⟩) 0 0) (fun _ => 0) (w.alloc (.cells #[] 44)) from
    ⟨((OwnV.ofBlock (e := 44) (sz := 1) (n := 0) (us := #[]) (heap_new (w := w) (o := .cells #[] 44) rfl) (by simp) (by unfold maxLen; simp)).widen (Nat.le_refl _) (by simp)), fun r h => by omega, fun r s h1 h2 => by omega, fun r h => by omega, GB0.out⟩)
  go_enter Tryd.func30, Tryd.ntmps30
  go_wp2_with fail
  go_loopw [5, 6] (fun v iv wr => ∃ (k : Nat) (rb : Nat → Nat), k ≤ n + 1 ∧ iv = .int .i64 k ∧ Hid (BegI w m k v rb wr)) (fun _ iv _ => n + 1 - (intOf iv).toNat)
  case atStart => exact ⟨0, fun _ => 0, Nat.zero_le _, rfl, BB⟩
  case round =>
    obtain ⟨k, rb, hk, rfl, I⟩ := hrel
    obtain ⟨av, cv, rfl⟩ := I.out.own.shape
    by_cases hlt : k ≤ n
    · have hk0 : (0 : Int) ≤ k := by omega
      have hk1 : (k : Int) ≤ n := by omega
      have O := hid I.out.own.row
      have SZ := hid I.out.gr.size
      go_wp2_with (at_builtin; refine wpList_append_own _ rfl _ _ 53 rfl w.heap.size 44 i0 (.slice none 0 0) 1 24 Tryd.underlying53 hi0 hz0 hz1 hz2 rfl (by decide) _ _ _ rfl ((O.out.alloc _).alloc _) ⟨wr.heap.size + 1, 0, none⟩ 1 1 [.slice (some ⟨wr.heap.size, 0, none⟩) (m + 1) (m + 1)] rfl rfl (news_ac (heap_new (by simp))) (by simp [Value.oneCell']) (by unfold maxLen; omega) (by omega) (by have := SZ.out; simp <;> omega) ?_; intro v5 w5 hown5 hgrow5 _)
      have I5 := hid (I.out.snoc hown5 hgrow5)
      clear hown5 hgrow5
      go_wp2_with fail
      go_roundw
      case rel => exact ⟨k + 1, _, by omega, by go_num, I5⟩
      case measure => simp [intOf]; omega
    · obtain rfl : k = n + 1 := by omega
      obtain ⟨tb, cap, e, ht⟩ := I.out.tab T
      have HT := hid ht
      have HE := hid e
      clear e ht
      have hk0 : ¬ (((n + 1 : Nat) : Int) ≤ (n : Int)) := by omega
      have GE := hid I.out.gr
      go_wp2_with fail
      go_ret
      exact ⟨tb, cap, rb, by rw [← HE.out]; rfl, HT.out, GE.out⟩
end Go.Proofs.YtnkoakneffjkbaaDoor
