/- MeaningAt: both functions. -/
import Derived.Test.YtkbdblaciphmnaaRankOf
import Derived.Test.YtkbdblaciphmnaaMarkB
import Derived.Test.YtkbdblaciphmnaaGHst
namespace Go.Proofs.Ytkbdblaciphmnaa
set_option linter.unusedVariables false
open Go.RowKit
attribute [local go_sem] Oper.semAt_some
def meanAtL (k l s : Int) (ss : List ByteArray) (c : Int) : List Int := if validBk k l s ss then (if 0 ≤ c ∧ c < ((meansOf k l s).length : Int) then (meansOf k l s).getD c.toNat [] else []) else []
def meanAtC (k l s : Int) (ss : List ByteArray) (c : Int) : Int := if validBk k l s ss then (if 0 ≤ c ∧ c < ((meansOf k l s).length : Int) then 0 else 2) else 1
theorem mat_no {k l s : Int} {ss : List ByteArray} {c : Int} (h : validBk k l s ss = false) : meanAtL k l s ss c = [] ∧ meanAtC k l s ss c = 1 := by unfold meanAtL meanAtC; rw [h]; exact ⟨rfl, rfl⟩
theorem mat_lost {k l s : Int} {ss : List ByteArray} {c : Int} (h : validBk k l s ss = true) (h2 : ¬ (0 ≤ c ∧ c < ((meansOf k l s).length : Int))) : meanAtL k l s ss c = [] ∧ meanAtC k l s ss c = 2 := by
  unfold meanAtL meanAtC; rw [if_pos h, if_pos h, if_neg h2, if_neg h2]; exact ⟨rfl, rfl⟩
theorem mat_found {k l s : Int} {ss : List ByteArray} {j : Nat} (h : validBk k l s ss = true) (h2 : j < (meansOf k l s).length) : meanAtL k l s ss (j : Int) = (meansOf k l s).getD j [] ∧ meanAtC k l s ss (j : Int) = 0 := by
  have h3 : 0 ≤ (j : Int) ∧ (j : Int) < ((meansOf k l s).length : Int) := by omega
  unfold meanAtL meanAtC; rw [if_pos h, if_pos h, if_pos h3, if_pos h3, Int.toNat_natCast]; exact ⟨rfl, rfl⟩
theorem meanAt_len (k l s : Int) (ss : List ByteArray) (c : Int) : (meanAtL k l s ss c).length ≤ 1048576 := by
  cases h : validBk k l s ss
  · rw [(mat_no h).1]; simp
  · by_cases h2 : 0 ≤ c ∧ c < ((meansOf k l s).length : Int)
    · obtain ⟨j, rfl⟩ : ∃ j : Nat, c = j := ⟨c.toNat, by omega⟩
      have hj : j < (meansOf k l s).length := by omega
      rw [(mat_found h hj).1]
      obtain ⟨K, L, B, rfl, rfl, rfl, k1, k2, l1, l2, b2⟩ := sizedB_yes (validBk_sizedT h)
      obtain ⟨-, -, e3⟩ := room_yes (validBk_sizedT h)
      rw [e3] at hj ⊢
      have e : (bookL K B L).getD j [] = (bookL K B L)[j] := by simp [List.getD, List.getElem?_eq_getElem hj]
      rw [e]; exact book_lens l2 _ (List.getElem_mem hj)
    · rw [(mat_lost h h2).1]; simp
theorem getD_at {pre rest : List (List Int)} {m : List Int} {L : List (List Int)} (h : pre ++ m :: rest = L) : pre.length < L.length ∧ L.getD pre.length [] = m := by
  subst h
  exact ⟨by simp, by simp [List.getD]⟩
theorem ownsRow_at {A V : World} {lo g n c m : Nat} {e : TypeId} {size : Nat} {xs : List Value} (h : A.ownsRow lo e size (.slice (some ⟨g, 0, none⟩) n c) m xs) (hk : V.heap[g]? = A.heap[g]?) : V.ownsRow lo e size (.slice (some ⟨g, 0, none⟩) n c) m xs := by
  refine ⟨h.1, ?_⟩
  rcases h.2 with h4 | ⟨g', cap, cur, h4, h5, h6, r⟩
  · exact .inl h4
  · have h7 := h4
    simp only [Value.slice.injEq, Option.some.injEq, Addr.mk.injEq, and_true] at h4
    obtain ⟨rfl, -, -⟩ := h4
    exact .inr ⟨_, cap, cur, h7, h5, hk.trans h6, r⟩
theorem ownsRow_ge {A : World} {lo g n c m : Nat} {e : TypeId} {size : Nat} {xs : List Value} (h : A.ownsRow lo e size (.slice (some ⟨g, 0, none⟩) n c) m xs) : lo ≤ g ∧ g < A.heap.size := h.lt g rfl
theorem setCell_at {W : World} {p : Addr} {g : Nat} {u : Value} (h : g ≠ p.block) : (W.setCell p u).heap[g]? = W.heap[g]? := heap_setCell_other W p g u h
set_option maxRecDepth 100000 in
set_option maxHeartbeats 2000000 in
theorem spec_MeaningAt_any (k l s : Int) (hw : Wf3 k l s) (a : Option Addr) (cap n : Nat) (ss : List ByteArray) (hl : n = ss.length) (hn : n ≤ 1048576) (hz : SizesOk ss) (c : Int) (_hc : (Lit.int .i64 c).wf = true) (w : World) (hs : StrsOf w a ss) :
    Calls Try.prog 24 #[bookV k l s (.slice a n cap), .int .i64 c] w (RetOwn .i8 22 (withCode (meanAtC k l s ss c)) (meanAtL k l s ss c) w) := by
  have gr : Gr w (w.alloc (.cells (bookC k l s (.slice a n cap)) 29)) := (Gr.refl _).alloc _
  have hb := bookAt_block (heap_new (w := w) (o := .cells (bookC k l s (.slice a n cap)) 29) rfl) hl (hs.gr gr)
  have HB := hid (l03Ok_any w.heap.size k l s a n cap ss hw hn hz _ hb)
  have GR := hid gr
  cases h : validBk k l s ss with
  | false =>
    obtain ⟨e1, e2⟩ := mat_no (c := c) h
    rw [e1, e2]
    rw [h] at HB
    clear h e1 e2 hs hl gr hz hw hb
    go_enter Try.func24, Try.ntmps24
    go_wp2_with fail
    refine HB.out.mono ?_
    rintro e w2 ⟨rfl, g2⟩
    have GB2 := hid g2
    have G2 := hid (GR.out.trans g2)
    clear g2
    clear GB2
    go_wp2_with fail
    go_ret2
    exact ret_empty G2.out _
  | true =>
    rw [h] at HB
    obtain ⟨K, L, B, rfl, rfl, rfl, k1, k2, l1, l2, b2⟩ := sizedB_yes (validBk_sizedT h)
    obtain ⟨-, -, e3⟩ := room_yes (validBk_sizedT h)
    have HM := hid (fun V (g : Gr (w.alloc (.cells (bookC K L B (.slice a n cap)) 29)) V) => l03Meanings_any w.heap.size K L B a n cap ss k2 l2 b2 V (hb.gr g))
    have hbd := book_bd (B := B) k2 l2
    have HIN := hid (fun c r V => l00In_b c 0 r V)
    have hqI : ((bookL K B L).length : Int) ≤ 1048576 := by omega
    have hqW : IntKind.i64.wrap (((bookL K B L).length : Int) - 1) = ((bookL K B L).length : Int) - 1 := IntWalk.i64_in _ (by omega)
    by_cases h2 : 0 ≤ c ∧ c < ((bookL K B L).length : Int)
    · obtain ⟨j, rfl⟩ : ∃ j : Nat, c = j := ⟨c.toNat, by omega⟩
      have hj : j < (bookL K B L).length := by omega
      obtain ⟨e1, e2⟩ := mat_found (j := j) h (by rw [e3]; exact hj)
      rw [e1, e2, e3]
      have HT := hid (show betB (j : Int) 0 (((bookL K B L).length : Int) - 1) = true from betB_iff.2 ⟨by omega, by omega⟩)
      have HJ := hid hj
      clear h e1 e2 hs hl gr hz hw hb e3 h2 hbd hj
      generalize bookL K B L = xss at *
      go_enter Try.func24, Try.ntmps24
      go_wp2_with fail
      refine HB.out.mono ?_
      rintro e w2 ⟨rfl, g2⟩
      have GB2 := hid g2
      have G2 := hid (GR.out.trans g2)
      clear g2
      have HM2 := hid (HM.out _ GB2.out)
      clear HM
      go_wp2_with fail
      refine HM2.out.mono ?_
      rintro e w3 ⟨g, cc, vs, rfl, hrow, g3⟩
      have G3 := hid (G2.out.trans g3)
      have GS := hid (Nat.le_trans GR.out.size GB2.out.size)
      obtain ⟨g0, g', c', e0, hcc, ho⟩ := hrow.at_ HJ.out
      simp only [Option.some.injEq, Addr.mk.injEq, and_true] at e0
      subst e0
      have HO := hid ho
      clear hrow g3 ho HM2
      generalize xss.getD j [] = x at *
      obtain ⟨p, hp⟩ : ∃ p, p = x.length := ⟨_, rfl⟩
      rw [← hp] at hcc HO
      have HP := hid hp
      have hjx := HJ.out
      clear hp
      generalize xss.length = q at *
      go_wp2_with fail
      refine (HIN.out _ _ _).mono ?_
      rintro e w4 ⟨rfl, rfl⟩
      rw [HT.out]
      go_wp2_with fail
      go_ret2
      exact ⟨_, rfl, Own.ofRow (ownsRow_lower HO.out GS.out) rfl HP.out, G3.out⟩
    · obtain ⟨e1, e2⟩ := mat_lost h (by rw [e3]; exact h2)
      rw [e1, e2]
      have HT : Hid (betB c 0 (((bookL K B L).length : Int) - 1) = false) := hid (by
        cases hq : betB c 0 (((bookL K B L).length : Int) - 1)
        · rfl
        · exact absurd ⟨(betB_iff.1 hq).1, by have := (betB_iff.1 hq).2; omega⟩ h2)
      clear h e1 e2 hs hl gr hz hw hb e3 h2 hbd
      generalize bookL K B L = xss at *
      go_enter Try.func24, Try.ntmps24
      go_wp2_with fail
      refine HB.out.mono ?_
      rintro e w2 ⟨rfl, g2⟩
      have GB2 := hid g2
      have G2 := hid (GR.out.trans g2)
      clear g2
      have HM2 := hid (HM.out _ GB2.out)
      clear HM
      go_wp2_with fail
      refine HM2.out.mono ?_
      rintro e w3 ⟨g, cc, vs, rfl, hrow, g3⟩
      have G3 := hid (G2.out.trans g3)
      have GS := hid (Nat.le_trans GR.out.size GB2.out.size)
      clear hrow g3 HM2
      generalize xss.length = q at *
      go_wp2_with fail
      refine (HIN.out _ _ _).mono ?_
      rintro e w4 ⟨rfl, rfl⟩
      rw [HT.out]
      go_wp2_with fail
      go_ret2
      exact ret_empty G3.out _
/-- What the rounds keep: the rank that is looked for, both results, the scheme. -/
structure RkJ (w : World) (z sb : Nat) (c : Int) (sc : Array Value) (lim : Nat) (own : Nat → Prop) (pre : List YldG) (V : World) : Prop where
  low : ∀ k, own k → lim ≤ k ∧ k < V.heap.size
  hm : V.heap[z + 1]? = some (.cells #[.int .i64 c] 2 (0, 0))
  h4 : V.heap[z + 1 + 1]? = some (.cells #[.slice none 0 0] 38 (0, 0))
  h5 : V.heap[z + 1 + 1 + 1]? = some (.cells #[.int .i64 0] 2 (0, 0))
  hs : V.heap[sb]? = some (.cells sc 65 (0, 0))
  gr : Gr w V
  no : ¬ (0 ≤ c ∧ c < (pre.length : Int))
theorem RkJ.chg {w : World} {z sb lim : Nat} {c : Int} {sc : Array Value} {own : Nat → Prop} {pre : List YldG} {A V W4 : World} (h : RkJ w z sb c sc lim own pre A) (hc : Chg (andLoop W4 own) A V) (hlim : lim = W4.heap.size + 2) (hz : z + 3 < W4.heap.size) (hsb : sb < W4.heap.size) (hw : w.heap.size ≤ W4.heap.size) :
    V.heap[z + 1]? = some (.cells #[.int .i64 c] 2 (0, 0)) ∧ V.heap[z + 1 + 1]? = some (.cells #[.slice none 0 0] 38 (0, 0)) ∧ V.heap[z + 1 + 1 + 1]? = some (.cells #[.int .i64 0] 2 (0, 0)) ∧ V.heap[sb]? = some (.cells sc 65 (0, 0)) ∧ Gr w V := by
  have key : ∀ k, k < W4.heap.size → ¬ andLoop W4 own k := fun k hk hn => by
    rcases hn with hn | hn
    · have := (h.low k hn).1; omega
    · omega
  refine ⟨hc.heap h.hm (key _ (by omega)), hc.heap h.h4 (key _ (by omega)), hc.heap h.h5 (key _ (by omega)), hc.heap h.hs (key _ hsb), ?_⟩
  have hb : Below w.heap.size A V := ⟨hc.os, hc.tape, hc.output, hc.size, fun k hk => hc.block k (Nat.lt_of_lt_of_le hk h.gr.size) (key k (by omega))⟩
  exact Below.trans h.gr hb
set_option maxHeartbeats 8000000 in
set_option maxRecDepth 100000 in
theorem impl_MeaningAt_any (k l s : Int) (hw : Wf3 k l s) (a : Option Addr) (cap n : Nat) (ss : List ByteArray) (hl : n = ss.length) (hn : n ≤ 1048576) (hz : SizesOk ss) (c : Int) (_hc : (Lit.int .i64 c).wf = true) (w : World) (hs : StrsOf w a ss) :
    Calls Try.prog 25 #[bookV k l s (.slice a n cap), .int .i64 c] w (RetOwn .i8 22 (withCode (meanAtC k l s ss c)) (meanAtL k l s ss c) w) := by
  have HVB := hid (fun V (g : Gr w V) => impl_ValidBook_any k l s hw a cap n ss hl hn hz V (hs.gr g))
  obtain ⟨W0, hW0⟩ : ∃ W0, W0 = (((w.alloc (.cells (bookC k l s (.slice a n cap)) 29)).alloc (.cells #[.int .i64 c] 2)).alloc (.cells #[.slice none 0 0] 38)).alloc (.cells #[.int .i64 0] 2) := ⟨_, rfl⟩
  have G0 : Hid (Gr w W0) := hid (by rw [hW0]; exact ((((Gr.refl w).alloc _).alloc _).alloc _).alloc _)
  have B0 : Hid (W0.heap[w.heap.size]? = some (.cells (bookC k l s (.slice a n cap)) 29 (0, 0))) := hid (by rw [hW0]; exact heap_kept (heap_kept (heap_kept (heap_new rfl))))
  have B1 : Hid (W0.heap[w.heap.size + 1]? = some (.cells #[.int .i64 c] 2 (0, 0))) := hid (by rw [hW0]; exact heap_kept (heap_kept (heap_new (by simp))))
  have B2 : Hid (W0.heap[w.heap.size + 1 + 1]? = some (.cells #[.slice none 0 0] 38 (0, 0))) := hid (by rw [hW0]; exact heap_kept (heap_new (by simp)))
  have B3 : Hid (W0.heap[w.heap.size + 1 + 1 + 1]? = some (.cells #[.int .i64 0] 2 (0, 0))) := hid (by rw [hW0]; exact heap_new (by simp))
  have Z0 : Hid (W0.heap.size = w.heap.size + 4) := hid (by rw [hW0]; simp)
  have HW0 := hid hW0
  clear hW0
  have HBAD : Hid (∀ (V : World) (x : Int) , Gr W0 V → ((V.setCell ⟨w.heap.size + 1 + 1, 0, none⟩ (.slice none 0 0)).setCell ⟨w.heap.size + 1 + 1 + 1, 0, none⟩ (.int .i64 x)).cell? ⟨w.heap.size + 1 + 1, 0, none⟩ = some (.slice none 0 0) ∧ ((V.setCell ⟨w.heap.size + 1 + 1, 0, none⟩ (.slice none 0 0)).setCell ⟨w.heap.size + 1 + 1 + 1, 0, none⟩ (.int .i64 x)).cell? ⟨w.heap.size + 1 + 1 + 1, 0, none⟩ = some (.int .i64 x) ∧ Gr w ((V.setCell ⟨w.heap.size + 1 + 1, 0, none⟩ (.slice none 0 0)).setCell ⟨w.heap.size + 1 + 1 + 1, 0, none⟩ (.int .i64 x)) ∧ (V.frozen? ⟨w.heap.size + 1 + 1, 0, none⟩ = false ∧ V.frozen? ⟨w.heap.size + 1 + 1 + 1, 0, none⟩ = false) ∧ V.cell? ⟨w.heap.size + 1 + 1, 0, none⟩ = some (.slice none 0 0) ∧ V.cell? ⟨w.heap.size + 1 + 1 + 1, 0, none⟩ = some (.int .i64 0)) := hid (fun V x g => by
    have h2 := g.heap B2.out
    have h3 := g.heap B3.out
    have k2 : (V.setCell ⟨w.heap.size + 1 + 1, 0, none⟩ (.slice none 0 0)).heap[w.heap.size + 1 + 1]? = some (.cells #[.slice none 0 0] 38 (0, 0)) := by rw [heap_setCell_same _ _ 0 _ _ _ h2]; rfl
    have k3 : (V.setCell ⟨w.heap.size + 1 + 1, 0, none⟩ (.slice none 0 0)).heap[w.heap.size + 1 + 1 + 1]? = some (.cells #[.int .i64 0] 2 (0, 0)) := heap_stored (by dsimp only; omega) h3
    refine ⟨cell0 (heap_stored (by dsimp only; omega) k2), cell0 (t := 2) (fr := (0, 0)) (by rw [heap_setCell_same _ _ 0 _ _ _ k3]; rfl), ((G0.out.trans g).setCell (p := ⟨w.heap.size + 1 + 1, 0, none⟩) (by dsimp only; omega) _).setCell (p := ⟨w.heap.size + 1 + 1 + 1, 0, none⟩) (by dsimp only; omega) _, ⟨frozen_of_row _ _ _ _ _ h2, frozen_of_row _ _ _ _ _ h3⟩, cell0 h2, cell0 h3⟩)
  cases h : validBk k l s ss with
  | false =>
    obtain ⟨e1, e2⟩ := mat_no (c := c) h
    rw [e1, e2]
    rw [h] at HVB
    clear h e1 e2 hs hl hz hw
    go_enter Try.func25, Try.ntmps25
    go_wp2_with fail
    rw [← HW0.out]
    obtain ⟨d0, d1, d2, d3⟩ := bk_cells B0.out
    go_wp2_with fail
    refine (HVB.out _ G0.out).mono ?_
    rintro e w1 ⟨rfl, g1⟩
    obtain ⟨x1, x2, x3, ⟨x4, x4'⟩, x5, x6⟩ := HBAD.out _ 1 g1
    have X1 := hid x1
    have X2 := hid x2
    have X3 := hid x3
    clear x1 x2 x3 g1 d0 d1 d2 d3
    go_wp2_with fail
    refine bodyPost_ret (results_cells_pair rfl _ _ rfl rfl X1.out X2.out Try.underlying38 rfl Try.underlying2 rfl) rfl ⟨_, rfl, Own.nil _ _ _, X3.out⟩
  | true =>
    rw [h] at HVB
    obtain ⟨K, L, B, rfl, rfl, rfl, k1, k2, l1, l2, b2⟩ := sizedB_yes (validBk_sizedT h)
    obtain ⟨-, -, e3⟩ := room_yes (validBk_sizedT h)
    have HFND := hid (fun (j : Nat) (h1 : j < (meansOf (K : Int) (L : Int) (B : Int)).length) => mat_found (j := j) h h1)
    have HLOST := hid (fun (h1 : ¬ (0 ≤ c ∧ c < ((meansOf (K : Int) (L : Int) (B : Int)).length : Int))) => mat_lost h h1)
    rw [e3] at HFND HLOST
    have HSO := hid (fun V => book_schemeOf (K : Int) (L : Int) (B : Int) (.slice a n cap) V)
    clear h hs hl hz hw e3 HBAD
    obtain ⟨rl, hrl⟩ : ∃ r, r = meanAtL (K : Int) (L : Int) (B : Int) ss c := ⟨_, rfl⟩
    obtain ⟨rc, hrc⟩ : ∃ r, r = meanAtC (K : Int) (L : Int) (B : Int) ss c := ⟨_, rfl⟩
    rw [← hrl, ← hrc] at HLOST ⊢
    have HRL := hid hrl
    have HRC := hid hrc
    clear hrl hrc
    refine (callsIn_wide (n := 9)).1 (callsIn_of_wp_marks Try.func25 rfl trivial (wpIn_wide.2 ?_) rfl)
    simp only [Try.ntmps25, List.size_toArray, List.length_cons, List.length_nil, Nat.reduceAdd, Nat.reduceSub, Array.replicate_succ, Array.replicate_zero, List.push_toArray, List.append_toArray, List.nil_append, List.cons_append]
    go_wp2_with fail
    rw [← HW0.out]
    obtain ⟨d0, d1, d2, d3⟩ := bk_cells B0.out
    go_wp2_with fail
    refine (HVB.out _ G0.out).mono ?_
    rintro e w2 ⟨rfl, g2⟩
    have G2 := hid g2
    clear d0 d1 d2 d3
    obtain ⟨d0, d1, d2, d3⟩ := bk_cells (G2.out.heap B0.out)
    clear g2 HVB
    go_wp2_with fail
    refine (HSO.out _).mono ?_
    rintro e w3 ⟨rfl, g3⟩
    have G3 := hid (G2.out.trans g3)
    clear g3 d0 d1 d2 d3
    go_wp2_with fail
    refine (meanings_any K L B _).mono ?_
    rintro e W4 ⟨rfl, hW4⟩
    have G4 : Hid (Gr W0 W4) := hid (by rw [hW4]; exact G3.out.alloc _)
    have S4 : Hid (W4.heap[w3.heap.size]? = some (.cells (schC K L B) 65 (0, 0))) := hid (by rw [hW4]; exact heap_new rfl)
    have Z4 : Hid (W4.heap.size = w3.heap.size + 1) := hid (by rw [hW4]; simp)
    have ZL : Hid (w.heap.size + 4 ≤ w3.heap.size) := hid (by have := G3.out.size; rw [Z0.out] at this; exact this)
    clear hW4
    go_wp2_with fail
    refine wp_rangeFunc_G (lb := #[.pointer (some ⟨w3.heap.size, 0, none⟩)]) (gf := 79) rfl (callFunc_enter Try.func79 (by kernel_rfl) (by kernel_rfl))
      (Kp := fun V => V.heap[w3.heap.size]? = some (.cells (schC K L B) 65 (0, 0))) (Ok := OkG (W4.heap.size + 2))
      (fun W' hb hz => by
        have := meanings_iter K L B k1 k2 l2 b2 w3.heap.size _ W' (fun V h => h) (by have := Z4.out; omega) ((hb.block _ (lt_of_heap S4.out)).trans S4.out)
        rw [hz] at this
        exact this)
      (fun A' B' h ho => ho.heap h (.inl (by have := Z4.out; omega)))
      (fun own B' C x h ho => h.out ho (Nat.le_refl _)) (fun _ => rfl)
      (fun own pre V => RkJ w w.heap.size w3.heap.size c (schC K L B) (W4.heap.size + 2) own pre V)
      (fun cd own pre C => cd = .ret ∧ ∃ pre0 x g ca, pre = pre0 ++ [x] ∧ (x.1 : Int) = c ∧ x.1 = pre0.length ∧ C.heap[w.heap.size + 1 + 1]? = some (.cells #[.slice (some ⟨g, 0, none⟩) x.2.2.length ca] 38 (0, 0)) ∧ C.heap[w.heap.size + 1 + 1 + 1]? = some (.cells #[.int .i64 0] 2 (0, 0)) ∧ C.ownsRow (W4.heap.size + 2) 22 1 (.slice (some ⟨g, 0, none⟩) x.2.2.length ca) x.2.2.length (x.2.2.map (Value.int .i8)) ∧ ¬ own g ∧ Gr w C)
      (fun own pre V h => ⟨h.hs, h.low⟩)
      ?init ?a1 ?assign ?body ?done ?stop
    case assign =>
      intro l' x V KK hK
      gi_wp2
      exact hK
    case init =>
      intro own V hown hb hz4
      refine ⟨hown, ?_, ?_, ?_, ?_, G0.out.trans (G4.out.trans hb), by simp⟩
      · exact (hb.block _ (lt_of_heap (G4.out.heap B1.out))).trans (G4.out.heap B1.out)
      · exact (hb.block _ (lt_of_heap (G4.out.heap B2.out))).trans (G4.out.heap B2.out)
      · exact (hb.block _ (lt_of_heap (G4.out.heap B3.out))).trans (G4.out.heap B3.out)
      · exact (hb.block _ (lt_of_heap S4.out)).trans S4.out
    case body =>
      rintro l' own own' pre ⟨r, v, m'⟩ A V hI hchg hsub hzV hok hnx
      have hz4 := Z4.out
      have hzl := ZL.out
      obtain ⟨v1, v4, v5, vs, gV⟩ := hI.chg (W4 := W4) hchg rfl (by omega) (by omega) (by omega)
      obtain ⟨g, ca, hv, hrow, hng⟩ := hok
      dsimp only at hv hrow
      subst hv
      obtain ⟨hr, rest, hrest⟩ := hnx
      dsimp only at hr hrest
      have c1 := cell0 v1
      have V4 := hid v4
      have V5 := hid v5
      have HNO := hid hI.no
      have HR := hid hr
      have HROW := hid hrow
      have HNG := hid hng
      have HKP : Hid (∀ C, Gr V C → Keep (andLoop W4 own') V C) := hid (fun C gC => Keep.ofBelow gC (fun k hk => by
        rcases hk with hk | hk
        · exact (hsub k hk).2.1
        · omega))
      have HNA : Hid (∀ k, k < W4.heap.size → ¬ andLoop W4 own' k) := hid (fun k hk h => by
        rcases h with h | h
        · have := (hsub k h).2.2; omega
        · omega)
      have HIV : Hid (¬ (0 ≤ c ∧ c < ((pre ++ [(r, Value.slice (some ⟨g, 0, none⟩) m'.length ca, m')]).length : Int)) → RkJ w w.heap.size w3.heap.size c (schC K L B) (W4.heap.size + 2) own' (pre ++ [(r, Value.slice (some ⟨g, 0, none⟩) m'.length ca, m')]) V) := hid (fun hno => ⟨fun k hk => ⟨(hsub k hk).2.2, (hsub k hk).2.1⟩, v1, v4, v5, vs, gV, hno⟩)
      have GV := hid gV
      clear v1 v4 v5 vs gV hrow hng hsub hchg hI hr hrest hzV hz4
      by_cases he : (r : Int) = c
      · have HE := hid he
        have ht : ((r : Int) == c) = true := by simp [he]
        have k4 := V4.out
        have k5 := V5.out
        have p4 := cell0 k4
        have p5 := cell0 k5
        have f4 : V.frozen? ⟨w.heap.size + 1 + 1, 0, none⟩ = false := frozen_of_row _ _ _ _ _ k4
        have f5 : V.frozen? ⟨w.heap.size + 1 + 1 + 1, 0, none⟩ = false := frozen_of_row _ _ _ _ _ k5
        clear he HIV k4 k5
        obtain ⟨q', hq'⟩ : ∃ q, q = m'.length := ⟨_, rfl⟩
        have HQ := hid hq'
        rw [← hq'] at HROW ⊢
        clear hq'
        gi_wp2_with fail
        have e4 : (V.setCell ⟨w.heap.size + 1 + 1, 0, none⟩ (.slice (some ⟨g, 0, none⟩) q' ca)).heap[w.heap.size + 1 + 1]? = some (.cells #[.slice (some ⟨g, 0, none⟩) q' ca] 38 (0, 0)) := by rw [heap_setCell_same _ _ 0 _ _ _ V4.out]; rfl
        have e5 : (V.setCell ⟨w.heap.size + 1 + 1, 0, none⟩ (.slice (some ⟨g, 0, none⟩) q' ca)).heap[w.heap.size + 1 + 1 + 1]? = some (.cells #[.int .i64 0] 2 (0, 0)) := heap_stored (by dsimp only; omega) V5.out
        have hz4 := Z4.out
        have hzl := ZL.out
        have hge := (ownsRow_ge HROW.out).1
        refine ⟨((HKP.out V (Gr.refl V)).setCell (HNA.out _ (by dsimp only; omega)) _).setCell (HNA.out _ (by dsimp only; omega)) _, rfl, pre, _, g, ca, rfl, HE.out, HR.out, ?_, ?_, ?_, HNG.out, (GV.out.setCell (p := ⟨w.heap.size + 1 + 1, 0, none⟩) (by dsimp only; omega) _).setCell (p := ⟨w.heap.size + 1 + 1 + 1, 0, none⟩) (by dsimp only; omega) _⟩
        · rw [← HQ.out]; exact heap_stored (by dsimp only; omega) e4
        · rw [heap_setCell_same _ _ 0 _ _ _ e5]; rfl
        · dsimp only
          rw [← HQ.out]
          exact ownsRow_at HROW.out ((setCell_at (by dsimp only; omega)).trans (setCell_at (by dsimp only; omega)))
      · have ht : ((r : Int) == c) = false := by simp [he]
        have HN2 : Hid (¬ (0 ≤ c ∧ c < ((pre ++ [(r, Value.slice (some ⟨g, 0, none⟩) m'.length ca, m')]).length : Int))) := hid (by
          have h1 := HNO.out
          have h2 := HR.out
          rw [List.length_append, List.length_singleton]
          omega)
        clear he
        gi_wp2_with fail
        exact ⟨HKP.out V (Gr.refl V), HIV.out HN2.out⟩
    case done =>
      intro own xs A V hS hI hchg hd
      have hz4 := Z4.out
      have hzl := ZL.out
      obtain ⟨v1, v4, v5, vs, gV⟩ := hI.chg (W4 := W4) hchg rfl (by omega) (by omega) (by omega)
      have hS' : msG xs = bookL K B L := hS
      obtain ⟨hrv, hrc⟩ := HLOST.out (by rw [← hS', msG_length]; exact hI.no)
      subst hrv hrc
      have V4 := hid v4
      have V5 := hid v5
      have GV := hid gV
      have HD := hid hd
      have p4 := cell0 v4
      have p5 := cell0 v5
      have f4 : V.frozen? ⟨w.heap.size + 1 + 1, 0, none⟩ = false := frozen_of_row _ _ _ _ _ v4
      have f5 : V.frozen? ⟨w.heap.size + 1 + 1 + 1, 0, none⟩ = false := frozen_of_row _ _ _ _ _ v5
      clear v1 v4 v5 vs gV hS hS' hI hchg hd hz4
      go_wp2_with fail
      have e4 : (V.setCell ⟨w.heap.size + 1 + 1, 0, none⟩ (.slice none 0 0)).heap[w.heap.size + 1 + 1]? = some (.cells #[.slice none 0 0] 38 (0, 0)) := by rw [heap_setCell_same _ _ 0 _ _ _ V4.out]; rfl
      have e5 : (V.setCell ⟨w.heap.size + 1 + 1, 0, none⟩ (.slice none 0 0)).heap[w.heap.size + 1 + 1 + 1]? = some (.cells #[.int .i64 0] 2 (0, 0)) := heap_stored (by dsimp only; omega) V5.out
      have e6 : ((V.setCell ⟨w.heap.size + 1 + 1, 0, none⟩ (.slice none 0 0)).setCell ⟨w.heap.size + 1 + 1 + 1, 0, none⟩ (.int .i64 2)).heap[w.heap.size + 1 + 1 + 1]? = some (.cells #[.int .i64 2] 2 (0, 0)) := by rw [heap_setCell_same _ _ 0 _ _ _ e5]; rfl
      have e7 : ((V.setCell ⟨w.heap.size + 1 + 1, 0, none⟩ (.slice none 0 0)).setCell ⟨w.heap.size + 1 + 1 + 1, 0, none⟩ (.int .i64 2)).heap[w.heap.size + 1 + 1]? = some (.cells #[.slice none 0 0] 38 (0, 0)) := heap_stored (by dsimp only; omega) e4
      have hz4 := Z4.out
      refine leaves_mark (heap_stored (by dsimp only; omega) (heap_stored (by dsimp only; omega) HD.out)) (results_cells_pair rfl _ _ rfl rfl (cell0 (heap_putObj (by omega) e7)) (cell0 (heap_putObj (by omega) e6)) Try.underlying38 rfl Try.underlying2 rfl) ⟨_, rfl, Own.nil _ _ _, ?_⟩
      exact Gr_putObj ((GV.out.setCell (p := ⟨w.heap.size + 1 + 1, 0, none⟩) (by dsimp only; omega) _).setCell (p := ⟨w.heap.size + 1 + 1 + 1, 0, none⟩) (by dsimp only; omega) _) (by omega) _
    case stop =>
      rintro cd own pre A V hsp ⟨rfl, pre0, x, g, ca, rfl, hx, hxl, h4, h5, hrow, hng, hg⟩ hown hchg hd
      have hz4 := Z4.out
      have hzl := ZL.out
      have hge := (ownsRow_ge hrow).1
      have key : ∀ k, k < W4.heap.size → ¬ andLoop W4 own k := fun k hk h => by
        rcases h with h | h
        · have := hown k h; omega
        · omega
      have hgk : ¬ andLoop W4 own g := fun h => by
        rcases h with h | h
        · exact hng h
        · omega
      obtain ⟨rest, hrest⟩ := hsp
      rw [msG_snoc, List.append_assoc] at hrest
      obtain ⟨hlt, hgd⟩ := getD_at hrest
      rw [msG_length, ← hxl] at hlt hgd
      obtain ⟨hrv, hrc⟩ := HFND.out _ hlt
      rw [hgd] at hrv
      have hV : rl = x.2.2 := by rw [HRL.out, ← hx]; exact hrv
      have hC : rc = 0 := by rw [HRC.out, ← hx]; exact hrc
      clear hrv hrc
      subst hV hC
      have v4 := hchg.heap h4 (key _ (by omega))
      have v5 := hchg.heap h5 (key _ (by omega))
      have gV : Gr w V := Below.trans hg ⟨hchg.os, hchg.tape, hchg.output, hchg.size, fun k hk => hchg.block k (Nat.lt_of_lt_of_le hk hg.size) (key k (by omega))⟩
      have HROW := hid (ownsRow_at hrow (hchg.block g (ownsRow_ge hrow).2 hgk))
      have V4 := hid v4
      have V5 := hid v5
      have GV := hid gV
      have HD := hid hd
      have HGE := hid hge
      clear v4 v5 gV hd hchg h4 h5 hg hrest hz4 hx hxl hrow hlt hgd hge
      go_wp2_with fail
      have hz4 := Z4.out
      have hge := HGE.out
      exact leaves_mark HD.out (results_cells_pair rfl _ _ rfl rfl (cell0 (heap_putObj (by omega) V4.out)) (cell0 (heap_putObj (by omega) V5.out)) Try.underlying38 rfl Try.underlying2 rfl) ⟨_, rfl, Own.ofRow (ownsRow_lower (ownsRow_at HROW.out (World.putObj_heap_other (by omega))) (by omega)) rfl rfl, Gr_putObj GV.out (by omega) _⟩
end Go.Proofs.Ytkbdblaciphmnaa
