/- MeaningAt: both functions. -/
import Derived.Test.YtfaiehjomcgjgaaDoorRankOf
import Derived.Test.YtfaiehjomcgjgaaDoorMarkB
import Derived.Test.YtfaiehjomcgjgaaDoorGHst
namespace Go.Proofs.YtfaiehjomcgjgaaDoor
set_option linter.unusedVariables false
open Go.RowKit
attribute [local go_sem] Oper.semAt_some
def meanAtL (k l s : Int) (ss : List ByteArray) (c : Int) : List Int := if validBk k l s ss then (if 0 ≤ c ∧ c < ((meansOf k l s).length : Int) then (meansOf k l s).getD c.toNat [] else []) else []
def meanAtC (k l s : Int) (ss : List ByteArray) (c : Int) : Int := if validBk k l s ss then (if 0 ≤ c ∧ c < ((meansOf k l s).length : Int) then 0 else 2) else 1
theorem mat_no {k l s : Int} {ss : List ByteArray} {c : Int} (h : validBk k l s ss = false) : meanAtL k l s ss c = [] ∧ meanAtC k l s ss c = 1 := by unfold meanAtL meanAtC; rw [h]; exact ⟨rfl, rfl⟩
theorem mat_lost {k l s : Int} {ss : List ByteArray} {c : Int} (h : validBk k l s ss = true) (h2 : ¬ (0 ≤ c ∧ c < ((meansOf k l s).length : Int))) : meanAtL k l s ss c = [] ∧ meanAtC k l s ss c = 2 := by
  unfold meanAtL meanAtC; rw [if_pos h, if_pos h, if_neg h2, if_neg h2]; exact ⟨rfl, rfl⟩
theorem mat_found {k l s : Int} {ss : List ByteArray} {j : Nat} (h : validBk k l s ss = true) (h2 : j < (meansOf k l s).length) : meanAtL k l s ss (j : Int) = (meansOf k l s).getD j [] ∧ meanAtC k l s ss (j : Int) = 0 := by
  have h3 : 0 ≤ (j : Int) ∧ (j : Int) < ((meansOf k l s).length : Int) := by omega
  unfold meanAtL meanAtC; rw [if_pos h, if_pos h, if_pos h3, if_pos h3, Int.toNat_natCast]; exact ⟨rfl, rfl⟩
theorem meanAt_len (k l s : Int) (ss : List ByteArray) (c : Int) : (meanAtL k l s ss c).length ≤ 1048576 := by
  cases h : validBk k l s ss
  · rw [(mat_no h).1]; simp
  · by_cases h2 : 0 ≤ c ∧ c < ((meansOf k l s).length : Int)
    · obtain ⟨j, rfl⟩ : ∃ j : Nat, c = j := ⟨c.toNat, by omega⟩
      have hj : j < (meansOf k l s).length := by omega
      rw [(mat_found h hj).1]
      obtain ⟨K, L, B, rfl, rfl, rfl, k1, k2, l1, l2, b2⟩ := sizedB_yes (validBk_sizedT h)
      obtain ⟨-, -, e3⟩ := room_yes (validBk_sizedT h)
      rw [e3] at hj ⊢
      have e : (bookL K B L).getD j [] = (bookL K B L)[j] := by simp [List.getD, List.getElem?_eq_getElem hj]
      rw [e]; exact book_lens l2 _ (List.getElem_mem hj)
    · rw [(mat_lost h h2).1]; simp
theorem getD_at {pre rest : List (List Int)} {m : List Int} {L : List (List Int)} (h : pre ++ m :: rest = L) : pre.length < L.length ∧ L.getD pre.length [] = m := by
  subst h
  exact ⟨by simp, by simp [List.getD]⟩
theorem ownsRow_at {A V : World} {lo g n c m : Nat} {e : TypeId} {size : Nat} {xs : List Value} (h : A.ownsRow lo e size (.slice (some ⟨g, 0, none⟩) n c) m xs) (hk : V.heap[g]? = A.heap[g]?) : V.ownsRow lo e size (.slice (some ⟨g, 0, none⟩) n c) m xs := by
  refine ⟨h.1, ?_⟩
  rcases h.2 with h4 | ⟨g', cap, cur, h4, h5, h6, r⟩
  · exact .inl h4
  · have h7 := h4
    simp only [Value.slice.injEq, Option.some.injEq, Addr.mk.injEq, and_true] at h4
    obtain ⟨rfl, -, -⟩ := h4
    exact .inr ⟨_, cap, cur, h7, h5, hk.trans h6, r⟩
theorem ownsRow_ge {A : World} {lo g n c m : Nat} {e : TypeId} {size : Nat} {xs : List Value} (h : A.ownsRow lo e size (.slice (some ⟨g, 0, none⟩) n c) m xs) : lo ≤ g ∧ g < A.heap.size := h.lt g rfl
theorem setCell_at {W : World} {p : Addr} {g : Nat} {u : Value} (h : g ≠ p.block) : (W.setCell p u).heap[g]? = W.heap[g]? := heap_setCell_other W p g u h
/-- What the rounds keep: the rank that is looked for, both results, the scheme. -/
structure RkJ (w : World) (z sb : Nat) (c : Int) (sc : Array Value) (lim : Nat) (own : Nat → Prop) (pre : List YldG) (V : World) : Prop where
  low : ∀ k, own k → lim ≤ k ∧ k < V.heap.size
  hm : V.heap[z + 1]? = some (.cells #[.int .i64 c] 2 (0, 0))
  h4 : V.heap[z + 1 + 1]? = some (.cells #[.slice none 0 0] 59 (0, 0))
  h5 : V.heap[z + 1 + 1 + 1]? = some (.cells #[.int .i64 0] 2 (0, 0))
  hs : V.heap[sb]? = some (.cells sc 67 (0, 0))
  gr : Gr w V
  no : ¬ (0 ≤ c ∧ c < (pre.length : Int))
theorem RkJ.chg {w : World} {z sb lim : Nat} {c : Int} {sc : Array Value} {own : Nat → Prop} {pre : List YldG} {A V W4 : World} (h : RkJ w z sb c sc lim own pre A) (hc : Chg (andLoop W4 own) A V) (hlim : lim = W4.heap.size + 2) (hz : z + 3 < W4.heap.size) (hsb : sb < W4.heap.size) (hw : w.heap.size ≤ W4.heap.size) :
    V.heap[z + 1]? = some (.cells #[.int .i64 c] 2 (0, 0)) ∧ V.heap[z + 1 + 1]? = some (.cells #[.slice none 0 0] 59 (0, 0)) ∧ V.heap[z + 1 + 1 + 1]? = some (.cells #[.int .i64 0] 2 (0, 0)) ∧ V.heap[sb]? = some (.cells sc 67 (0, 0)) ∧ Gr w V := by
  have key : ∀ k, k < W4.heap.size → ¬ andLoop W4 own k := fun k hk hn => by
    rcases hn with hn | hn
    · have := (h.low k hn).1; omega
    · omega
  refine ⟨hc.heap h.hm (key _ (by omega)), hc.heap h.h4 (key _ (by omega)), hc.heap h.h5 (key _ (by omega)), hc.heap h.hs (key _ hsb), ?_⟩
  have hb : Below w.heap.size A V := ⟨hc.os, hc.tape, hc.output, hc.size, fun k hk => hc.block k (Nat.lt_of_lt_of_le hk h.gr.size) (key k (by omega))⟩
  exact Below.trans h.gr hb
end Go.Proofs.YtfaiehjomcgjgaaDoor
