/- RankOf: the program's function. -/
import Derived.Test.YtfaiehjomcgjgaaDoorRankS
import Derived.Test.YtfaiehjomcgjgaaDoorMeanG
namespace Go.Proofs.YtfaiehjomcgjgaaDoor
set_option linter.unusedVariables false
open Go.RowKit
attribute [local go_sem] Oper.semAt_some
theorem OkG.out {lo hi lo' : Nat} {own : Nat → Prop} {B C : World} {x : YldG} (h : OkG lo own B x) (o : Out lo' hi B C) (hh : hi ≤ lo) : OkG lo own C x := by
  obtain ⟨g, c, h1, h2, h3⟩ := h
  refine ⟨g, c, h1, ⟨h2.1, ?_⟩, h3⟩
  rcases h2.2 with h4 | ⟨g', cap, cur, h4, h5, h6, r⟩
  · exact .inl h4
  · exact .inr ⟨g', cap, cur, h4, h5, o.heap h6 (.inr (by omega)), r⟩
theorem rank_found {k l s : Int} {ss : List ByteArray} {m : List Int} {pre rest : List (List Int)} (h : (validBk k l s ss && plainH m) = true) (hL : pre ++ m :: rest = meansOf k l s) (hn : m ∉ pre) : rankV k l s ss m = (pre.length : Int) ∧ rankC k l s ss m = 0 := by
  have e := rankI_at hL hn
  obtain ⟨e1, e2⟩ := rank_some h (by rw [e]; omega)
  exact ⟨by rw [e1, e], e2⟩
theorem rank_lost {k l s : Int} {ss : List ByteArray} {m : List Int} (h : (validBk k l s ss && plainH m) = true) (hn : m ∉ meansOf k l s) : rankV k l s ss m = 0 ∧ rankC k l s ss m = 6 :=
  rank_none h (by rw [rankI_no hn]; decide)
theorem cell0 {w : World} {b : Nat} {v : Value} {t : TypeId} {fr : Nat × Nat} (h : w.heap[b]? = some (.cells #[v] t fr)) : w.cell? ⟨b, 0, none⟩ = some v := by rw [cell_of_row _ _ 0 _ _ _ h]; rfl
/-- What the rounds keep: the meaning that is looked for, both results, the scheme. -/
structure RkI (w : World) (z sb : Nat) (bv : Value) (m : List Int) (sc : Array Value) (lim : Nat) (own : Nat → Prop) (pre : List YldG) (V : World) : Prop where
  low : ∀ k, own k → lim ≤ k ∧ k < V.heap.size
  hm : V.heap[z + 1]? = some (.cells #[bv] 59 (0, 0))
  h4 : V.heap[z + 1 + 1]? = some (.cells #[.int .i64 0] 2 (0, 0))
  h5 : V.heap[z + 1 + 1 + 1]? = some (.cells #[.int .i64 0] 2 (0, 0))
  hs : V.heap[sb]? = some (.cells sc 67 (0, 0))
  gr : Gr w V
  no : m ∉ msG pre
theorem RkI.chg {w : World} {z sb lim : Nat} {bv : Value} {m : List Int} {sc : Array Value} {own : Nat → Prop} {pre : List YldG} {A V W4 : World} (h : RkI w z sb bv m sc lim own pre A) (hc : Chg (andLoop W4 own) A V) (hlim : lim = W4.heap.size + 2) (hz : z + 3 < W4.heap.size) (hsb : sb < W4.heap.size) (hw : w.heap.size ≤ W4.heap.size) :
    V.heap[z + 1]? = some (.cells #[bv] 59 (0, 0)) ∧ V.heap[z + 1 + 1]? = some (.cells #[.int .i64 0] 2 (0, 0)) ∧ V.heap[z + 1 + 1 + 1]? = some (.cells #[.int .i64 0] 2 (0, 0)) ∧ V.heap[sb]? = some (.cells sc 67 (0, 0)) ∧ Gr w V := by
  have key : ∀ k, k < W4.heap.size → ¬ andLoop W4 own k := fun k hk hn => by
    rcases hn with hn | hn
    · have := (h.low k hn).1; omega
    · omega
  refine ⟨hc.heap h.hm (key _ (by omega)), hc.heap h.h4 (key _ (by omega)), hc.heap h.h5 (key _ (by omega)), hc.heap h.hs (key _ hsb), ?_⟩
  have hb : Below w.heap.size A V := ⟨hc.os, hc.tape, hc.output, hc.size, fun k hk => hc.block k (Nat.lt_of_lt_of_le hk h.gr.size) (key k (by omega))⟩
  exact Below.trans h.gr hb
end Go.Proofs.YtfaiehjomcgjgaaDoor
