/- RankOf: the program's function. -/
import Derived.Test.YtkbdblaciphmnaaRankS
import Derived.Test.YtkbdblaciphmnaaMeanG
namespace Go.Proofs.Ytkbdblaciphmnaa
set_option linter.unusedVariables false
open Go.RowKit
attribute [local go_sem] Oper.semAt_some
theorem OkG.out {lo hi lo' : Nat} {own : Nat → Prop} {B C : World} {x : YldG} (h : OkG lo own B x) (o : Out lo' hi B C) (hh : hi ≤ lo) : OkG lo own C x := by
  obtain ⟨g, c, h1, h2, h3⟩ := h
  refine ⟨g, c, h1, ⟨h2.1, ?_⟩, h3⟩
  rcases h2.2 with h4 | ⟨g', cap, cur, h4, h5, h6, r⟩
  · exact .inl h4
  · exact .inr ⟨g', cap, cur, h4, h5, o.heap h6 (.inr (by omega)), r⟩
theorem rank_found {k l s : Int} {ss : List ByteArray} {m : List Int} {pre rest : List (List Int)} (h : (validBk k l s ss && plainH m) = true) (hL : pre ++ m :: rest = meansOf k l s) (hn : m ∉ pre) : rankV k l s ss m = (pre.length : Int) ∧ rankC k l s ss m = 0 := by
  have e := rankI_at hL hn
  obtain ⟨e1, e2⟩ := rank_some h (by rw [e]; omega)
  exact ⟨by rw [e1, e], e2⟩
theorem rank_lost {k l s : Int} {ss : List ByteArray} {m : List Int} (h : (validBk k l s ss && plainH m) = true) (hn : m ∉ meansOf k l s) : rankV k l s ss m = 0 ∧ rankC k l s ss m = 6 :=
  rank_none h (by rw [rankI_no hn]; decide)
theorem cell0 {w : World} {b : Nat} {v : Value} {t : TypeId} {fr : Nat × Nat} (h : w.heap[b]? = some (.cells #[v] t fr)) : w.cell? ⟨b, 0, none⟩ = some v := by rw [cell_of_row _ _ 0 _ _ _ h]; rfl
/-- What the rounds keep: the meaning that is looked for, both results, the scheme. -/
structure RkI (w : World) (z sb : Nat) (bv : Value) (m : List Int) (sc : Array Value) (lim : Nat) (own : Nat → Prop) (pre : List YldG) (V : World) : Prop where
  low : ∀ k, own k → lim ≤ k ∧ k < V.heap.size
  hm : V.heap[z + 1]? = some (.cells #[bv] 38 (0, 0))
  h4 : V.heap[z + 1 + 1]? = some (.cells #[.int .i64 0] 2 (0, 0))
  h5 : V.heap[z + 1 + 1 + 1]? = some (.cells #[.int .i64 0] 2 (0, 0))
  hs : V.heap[sb]? = some (.cells sc 65 (0, 0))
  gr : Gr w V
  no : m ∉ msG pre
theorem RkI.chg {w : World} {z sb lim : Nat} {bv : Value} {m : List Int} {sc : Array Value} {own : Nat → Prop} {pre : List YldG} {A V W4 : World} (h : RkI w z sb bv m sc lim own pre A) (hc : Chg (andLoop W4 own) A V) (hlim : lim = W4.heap.size + 2) (hz : z + 3 < W4.heap.size) (hsb : sb < W4.heap.size) (hw : w.heap.size ≤ W4.heap.size) :
    V.heap[z + 1]? = some (.cells #[bv] 38 (0, 0)) ∧ V.heap[z + 1 + 1]? = some (.cells #[.int .i64 0] 2 (0, 0)) ∧ V.heap[z + 1 + 1 + 1]? = some (.cells #[.int .i64 0] 2 (0, 0)) ∧ V.heap[sb]? = some (.cells sc 65 (0, 0)) ∧ Gr w V := by
  have key : ∀ k, k < W4.heap.size → ¬ andLoop W4 own k := fun k hk hn => by
    rcases hn with hn | hn
    · have := (h.low k hn).1; omega
    · omega
  refine ⟨hc.heap h.hm (key _ (by omega)), hc.heap h.h4 (key _ (by omega)), hc.heap h.h5 (key _ (by omega)), hc.heap h.hs (key _ hsb), ?_⟩
  have hb : Below w.heap.size A V := ⟨hc.os, hc.tape, hc.output, hc.size, fun k hk => hc.block k (Nat.lt_of_lt_of_le hk h.gr.size) (key k (by omega))⟩
  exact Below.trans h.gr hb
set_option maxHeartbeats 8000000 in
set_option maxRecDepth 100000 in
theorem impl_RankOf_any (k l s : Int) (hw : Wf3 k l s) (a : Option Addr) (cap n : Nat) (ss : List ByteArray) (hl : n = ss.length) (hn : n ≤ 1048576) (hz : SizesOk ss) (b : Option Addr) (cb : Nat) (m : List Int) (hm : m.length ≤ 1048576) (hcb : m.length ≤ cb) (hf : Fits .i8 m) (w : World) (hs : StrsOf w a ss) (ht : SliceOf .i8 w b m) :
    Calls Try.prog 22 #[bookV k l s (.slice a n cap), .slice b m.length cb] w fun e w' => e = .returned (.tuple #[.int .i64 (rankV k l s ss m), .int .i64 (rankC k l s ss m)]) ∧ Gr w w' := by
  have HVB := hid (fun V (g : Gr w V) => impl_ValidBook_any k l s hw a cap n ss hl hn hz V (hs.gr g))
  have HVM := hid (fun V (g : Gr w V) => impl_ValidMeaning_cap b m.length cb m rfl hm hcb hf V (ht.gr g))
  obtain ⟨W0, hW0⟩ : ∃ W0, W0 = (((w.alloc (.cells (bookC k l s (.slice a n cap)) 29)).alloc (.cells #[.slice b m.length cb] 38)).alloc (.cells #[.int .i64 0] 2)).alloc (.cells #[.int .i64 0] 2) := ⟨_, rfl⟩
  have G0 : Hid (Gr w W0) := hid (by rw [hW0]; exact ((((Gr.refl w).alloc _).alloc _).alloc _).alloc _)
  have B0 : Hid (W0.heap[w.heap.size]? = some (.cells (bookC k l s (.slice a n cap)) 29 (0, 0))) := hid (by rw [hW0]; exact heap_kept (heap_kept (heap_kept (heap_new rfl))))
  have B1 : Hid (W0.heap[w.heap.size + 1]? = some (.cells #[.slice b m.length cb] 38 (0, 0))) := hid (by rw [hW0]; exact heap_kept (heap_kept (heap_new (by simp))))
  have B2 : Hid (W0.heap[w.heap.size + 1 + 1]? = some (.cells #[.int .i64 0] 2 (0, 0))) := hid (by rw [hW0]; exact heap_kept (heap_new (by simp)))
  have B3 : Hid (W0.heap[w.heap.size + 1 + 1 + 1]? = some (.cells #[.int .i64 0] 2 (0, 0))) := hid (by rw [hW0]; exact heap_new (by simp))
  have Z0 : Hid (W0.heap.size = w.heap.size + 4) := hid (by rw [hW0]; simp)
  have HW0 := hid hW0
  clear hW0
  have HBAD : Hid (∀ (V : World), Gr W0 V → ((V.setCell ⟨w.heap.size + 1 + 1, 0, none⟩ (.int .i64 0)).setCell ⟨w.heap.size + 1 + 1 + 1, 0, none⟩ (.int .i64 1)).cell? ⟨w.heap.size + 1 + 1, 0, none⟩ = some (.int .i64 0) ∧ ((V.setCell ⟨w.heap.size + 1 + 1, 0, none⟩ (.int .i64 0)).setCell ⟨w.heap.size + 1 + 1 + 1, 0, none⟩ (.int .i64 1)).cell? ⟨w.heap.size + 1 + 1 + 1, 0, none⟩ = some (.int .i64 1) ∧ Gr w ((V.setCell ⟨w.heap.size + 1 + 1, 0, none⟩ (.int .i64 0)).setCell ⟨w.heap.size + 1 + 1 + 1, 0, none⟩ (.int .i64 1)) ∧ (V.frozen? ⟨w.heap.size + 1 + 1, 0, none⟩ = false ∧ V.frozen? ⟨w.heap.size + 1 + 1 + 1, 0, none⟩ = false) ∧ V.cell? ⟨w.heap.size + 1 + 1, 0, none⟩ = some (.int .i64 0) ∧ V.cell? ⟨w.heap.size + 1 + 1 + 1, 0, none⟩ = some (.int .i64 0)) := hid (fun V g => by
    have h2 := g.heap B2.out
    have h3 := g.heap B3.out
    have k2 : (V.setCell ⟨w.heap.size + 1 + 1, 0, none⟩ (.int .i64 0)).heap[w.heap.size + 1 + 1]? = some (.cells #[.int .i64 0] 2 (0, 0)) := by rw [heap_setCell_same _ _ 0 _ _ _ h2]; rfl
    have k3 : (V.setCell ⟨w.heap.size + 1 + 1, 0, none⟩ (.int .i64 0)).heap[w.heap.size + 1 + 1 + 1]? = some (.cells #[.int .i64 0] 2 (0, 0)) := heap_stored (by dsimp only; omega) h3
    refine ⟨cell0 (heap_stored (by dsimp only; omega) k2), cell0 (t := 2) (fr := (0, 0)) (by rw [heap_setCell_same _ _ 0 _ _ _ k3]; rfl), ((G0.out.trans g).setCell (p := ⟨w.heap.size + 1 + 1, 0, none⟩) (by dsimp only; omega) _).setCell (p := ⟨w.heap.size + 1 + 1 + 1, 0, none⟩) (by dsimp only; omega) _, ⟨frozen_of_row _ _ _ _ _ h2, frozen_of_row _ _ _ _ _ h3⟩, cell0 h2, cell0 h3⟩)
  cases h : validBk k l s ss with
  | false =>
    obtain ⟨e1, e2⟩ := rank_no (m := m) (show (validBk k l s ss && plainH m) = false by rw [h]; rfl)
    rw [e1, e2]
    rw [h] at HVB
    clear h e1 e2 hs hl hz hw ht hf HVM
    go_enter Try.func22, Try.ntmps22
    go_wp2_with fail
    rw [← HW0.out]
    refine (HVB.out _ G0.out).mono ?_
    rintro e w1 ⟨rfl, g1⟩
    obtain ⟨x1, x2, x3, ⟨x4, x4'⟩, x5, x6⟩ := HBAD.out _ g1
    have X1 := hid x1
    have X2 := hid x2
    have X3 := hid x3
    clear x1 x2 x3 g1
    go_wp2_with fail
    refine bodyPost_ret (results_cells_pair rfl _ _ rfl rfl X1.out X2.out Try.underlying2 rfl Try.underlying2 rfl) rfl ⟨rfl, X3.out⟩
  | true =>
    rw [h] at HVB
    cases hp : plainH m with
    | false =>
      obtain ⟨e1, e2⟩ := rank_no (m := m) (show (validBk k l s ss && plainH m) = false by rw [hp, Bool.and_false])
      rw [e1, e2]
      rw [hp] at HVM
      clear h hp e1 e2 hs hl hz hw ht hf
      go_enter Try.func22, Try.ntmps22
      go_wp2_with fail
      rw [← HW0.out]
      refine (HVB.out _ G0.out).mono ?_
      rintro e w1 ⟨rfl, g1⟩
      have G1 := hid g1
      have c1 := cell0 (g1.heap B1.out)
      have HV1 := hid (HVM.out _ (G0.out.trans g1))
      clear g1 HVM
      go_wp2_with fail
      refine HV1.out.mono ?_
      rintro e w2 ⟨rfl, g2⟩
      obtain ⟨x1, x2, x3, ⟨x4, x4'⟩, x5, x6⟩ := HBAD.out _ (G1.out.trans g2)
      have X1 := hid x1
      have X2 := hid x2
      have X3 := hid x3
      clear x1 x2 x3 g2 c1 HV1
      go_wp2_with fail
      refine bodyPost_ret (results_cells_pair rfl _ _ rfl rfl X1.out X2.out Try.underlying2 rfl Try.underlying2 rfl) rfl ⟨rfl, X3.out⟩
    | true =>
      rw [hp] at HVM
      have hbp : (validBk k l s ss && plainH m) = true := by rw [h, hp]; rfl
      have hsz := validBk_sizedT h
      have HFND := hid (fun pre rest (h1 : pre ++ m :: rest = meansOf k l s) (h2 : m ∉ pre) => rank_found hbp h1 h2)
      have HLOST := hid (fun (h1 : m ∉ meansOf k l s) => rank_lost hbp h1)
      obtain ⟨K, L, B, rfl, rfl, rfl, k1, k2, l1, l2, b2⟩ := sizedB_yes hsz
      obtain ⟨-, -, e3⟩ := room_yes hsz
      rw [e3] at HFND HLOST
      generalize rankV (K : Int) (L : Int) (B : Int) ss m = rv at *
      generalize rankC (K : Int) (L : Int) (B : Int) ss m = rc at *
      have HT := hid ht
      have HSO := hid (fun V => book_schemeOf (K : Int) (L : Int) (B : Int) (.slice a n cap) V)
      have HQ := hid (show m.length ≤ 1048576 from hm)
      have HLN := hid (book_lens (K := K) (B := B) l2)
      clear h hp hs hl hz hw ht hf hbp hsz e3 HBAD
      refine (callsIn_wide (n := 9)).1 (callsIn_of_wp_marks Try.func22 rfl trivial (wpIn_wide.2 ?_) rfl)
      simp only [Try.ntmps22, List.size_toArray, List.length_cons, List.length_nil, Nat.reduceAdd, Nat.reduceSub, Array.replicate_succ, Array.replicate_zero, List.push_toArray, List.append_toArray, List.nil_append, List.cons_append]
      go_wp2_with fail
      rw [← HW0.out]
      refine (HVB.out _ G0.out).mono ?_
      rintro e w1 ⟨rfl, g1⟩
      have G1 := hid g1
      have c1 := cell0 (g1.heap B1.out)
      have HV1 := hid (HVM.out _ (G0.out.trans g1))
      clear g1 HVM
      go_wp2_with fail
      refine HV1.out.mono ?_
      rintro e w2 ⟨rfl, g2⟩
      have G2 := hid (G1.out.trans g2)
      obtain ⟨d0, d1, d2, d3⟩ := bk_cells (G2.out.heap B0.out)
      clear g2 c1 HV1
      go_wp2_with fail
      refine (HSO.out _).mono ?_
      rintro e w3 ⟨rfl, g3⟩
      have G3 := hid (G2.out.trans g3)
      clear g3 d0 d1 d2 d3
      go_wp2_with fail
      refine (meanings_any K L B _).mono ?_
      rintro e W4 ⟨rfl, hW4⟩
      have G4 : Hid (Gr W0 W4) := hid (by rw [hW4]; exact G3.out.alloc _)
      have S4 : Hid (W4.heap[w3.heap.size]? = some (.cells (schC K L B) 65 (0, 0))) := hid (by rw [hW4]; exact heap_new rfl)
      have Z4 : Hid (W4.heap.size = w3.heap.size + 1) := hid (by rw [hW4]; simp)
      have ZL : Hid (w.heap.size + 4 ≤ w3.heap.size) := hid (by have := G3.out.size; rw [Z0.out] at this; exact this)
      clear hW4
      go_wp2_with fail
      refine wp_rangeFunc_G (lb := #[.pointer (some ⟨w3.heap.size, 0, none⟩)]) (gf := 79) rfl (callFunc_enter Try.func79 (by kernel_rfl) (by kernel_rfl))
        (Kp := fun V => V.heap[w3.heap.size]? = some (.cells (schC K L B) 65 (0, 0))) (Ok := OkG (W4.heap.size + 2))
        (fun W' hb hz => by
          have := meanings_iter K L B k1 k2 l2 b2 w3.heap.size _ W' (fun V h => h) (by have := Z4.out; omega) ((hb.block _ (lt_of_heap S4.out)).trans S4.out)
          rw [hz] at this
          exact this)
        (fun A' B' h ho => ho.heap h (.inl (by have := Z4.out; omega)))
        (fun own B' C x h ho => h.out ho (Nat.le_refl _)) (fun _ => rfl)
        (fun own pre V => RkI w w.heap.size w3.heap.size (.slice b m.length cb) m (schC K L B) (W4.heap.size + 2) own pre V)
        (fun c own pre C => c = .ret ∧ ∃ pre0 x, pre = pre0 ++ [x] ∧ x.2.2 = m ∧ m ∉ msG pre0 ∧ x.1 = pre0.length ∧ C.heap[w.heap.size + 1 + 1]? = some (.cells #[.int .i64 (x.1 : Int)] 2 (0, 0)) ∧ C.heap[w.heap.size + 1 + 1 + 1]? = some (.cells #[.int .i64 0] 2 (0, 0)) ∧ Gr w C)
        (fun own pre V h => ⟨h.hs, h.low⟩)
        ?init ?a1 ?assign ?body ?done ?stop
      case assign =>
        intro l' x V KK hK
        gi_wp2
        exact hK
      case init =>
        intro own V hown hb hz4
        refine ⟨hown, ?_, ?_, ?_, ?_, G0.out.trans (G4.out.trans hb), by simp [msG]⟩
        · exact (hb.block _ (lt_of_heap (G4.out.heap B1.out))).trans (G4.out.heap B1.out)
        · exact (hb.block _ (lt_of_heap (G4.out.heap B2.out))).trans (G4.out.heap B2.out)
        · exact (hb.block _ (lt_of_heap (G4.out.heap B3.out))).trans (G4.out.heap B3.out)
        · exact (hb.block _ (lt_of_heap S4.out)).trans S4.out
      case body =>
        rintro l' own own' pre ⟨r, v, m'⟩ A V hI hchg hsub hzV hok hnx
        have hz4 := Z4.out
        have hzl := ZL.out
        obtain ⟨v1, v4, v5, vs, gV⟩ := hI.chg (W4 := W4) hchg rfl (by omega) (by omega) (by omega)
        obtain ⟨g, c, hv, hrow, hng⟩ := hok
        dsimp only at hv hrow
        subst hv
        obtain ⟨hr, rest, hrest⟩ := hnx
        dsimp only at hr hrest
        have hlm := HLN.out m' (by rw [← hrest]; exact List.mem_append.2 (.inr List.mem_cons_self))
        have HEQ := hid (CallsIn.inRound l' ((callsIn_wide (n := 6)).2 (equalMeaning_any (some ⟨g, 0, none⟩) m'.length c m' rfl hlm b m.length cb m rfl HQ.out V (row_reads hrow rfl) (HT.out.gr gV))))
        have c1 := cell0 v1
        have V4 := hid v4
        have V5 := hid v5
        have HNO := hid hI.no
        have HR := hid hr
        have HSUB := hid hsub
        have HKP : Hid (∀ C, Gr V C → Keep (andLoop W4 own') V C) := hid (fun C gC => Keep.ofBelow gC (fun k hk => by
          rcases hk with hk | hk
          · exact (hsub k hk).2.1
          · omega))
        have HNA : Hid (∀ k, k < W4.heap.size → ¬ andLoop W4 own' k) := hid (fun k hk h => by
          rcases h with h | h
          · have := (hsub k h).2.2; omega
          · omega)
        have HIV : Hid (∀ C, Gr V C → m ∉ msG (pre ++ [(r, Value.slice (some ⟨g, 0, none⟩) m'.length c, m')]) → RkI w w.heap.size w3.heap.size (.slice b m.length cb) m (schC K L B) (W4.heap.size + 2) own' (pre ++ [(r, Value.slice (some ⟨g, 0, none⟩) m'.length c, m')]) C) := hid (fun C gC hno => ⟨fun k hk => ⟨(hsub k hk).2.2, by have := (hsub k hk).2.1; have := gC.size; omega⟩, gC.heap v1, gC.heap v4, gC.heap v5, gC.heap vs, gV.trans gC, hno⟩)
        have GV := hid gV
        clear v1 v4 v5 vs gV hrow hng hsub hchg hI hr hrest hlm hzV hz4
        generalize m'.length = q' at *
        generalize m.length = q at *
        by_cases he : m' = m
        · rw [show eqLB m' m = true from decide_eq_true he] at HEQ
          have HE := hid he
          clear he HIV
          gi_wp2_with fail
          refine ⟨trivial, ?_⟩
          refine HEQ.out.mono ?_
          rintro e C ⟨rfl, gC⟩
          have GC := hid gC
          have k4 := GC.out.heap V4.out
          have k5 := GC.out.heap V5.out
          have p4 := cell0 k4
          have p5 := cell0 k5
          have f4 : C.frozen? ⟨w.heap.size + 1 + 1, 0, none⟩ = false := frozen_of_row _ _ _ _ _ k4
          have f5 : C.frozen? ⟨w.heap.size + 1 + 1 + 1, 0, none⟩ = false := frozen_of_row _ _ _ _ _ k5
          have K4 := hid k4
          have K5 := hid k5
          clear gC c1 HEQ k4 k5
          gi_wp2_with fail
          have e4 : (C.setCell ⟨w.heap.size + 1 + 1, 0, none⟩ (.int .i64 (r : Int))).heap[w.heap.size + 1 + 1]? = some (.cells #[.int .i64 (r : Int)] 2 (0, 0)) := by rw [heap_setCell_same _ _ 0 _ _ _ K4.out]; rfl
          have e5 : (C.setCell ⟨w.heap.size + 1 + 1, 0, none⟩ (.int .i64 (r : Int))).heap[w.heap.size + 1 + 1 + 1]? = some (.cells #[.int .i64 0] 2 (0, 0)) := heap_stored (by dsimp only; omega) K5.out
          have hz4 := Z4.out
          refine ⟨((HKP.out C GC.out).setCell (HNA.out _ (by dsimp only; omega)) _).setCell (HNA.out _ (by dsimp only; omega)) _, rfl, pre, _, rfl, HE.out, HNO.out, HR.out, heap_stored (by dsimp only; omega) e4, ?_, ((GV.out.trans GC.out).setCell (p := ⟨w.heap.size + 1 + 1, 0, none⟩) (by dsimp only; omega) _).setCell (p := ⟨w.heap.size + 1 + 1 + 1, 0, none⟩) (by dsimp only; omega) _⟩
          rw [heap_setCell_same _ _ 0 _ _ _ e5]; rfl
        · rw [show eqLB m' m = false from decide_eq_false he] at HEQ
          have HN2 : Hid (m ∉ msG (pre ++ [(r, Value.slice (some ⟨g, 0, none⟩) q' c, m')])) := hid (by
            rw [msG_snoc, List.mem_append, List.mem_singleton]
            rintro (h | h)
            · exact HNO.out h
            · exact he h.symm)
          clear he
          gi_wp2_with fail
          refine ⟨trivial, ?_⟩
          refine HEQ.out.mono ?_
          rintro e C ⟨rfl, gC⟩
          have GC := hid gC
          clear gC c1 HEQ
          gi_wp2_with fail
          exact ⟨HKP.out C GC.out, HIV.out C GC.out HN2.out⟩
      case done =>
        intro own xs A V hS hI hchg hd
        have hz4 := Z4.out
        have hzl := ZL.out
        obtain ⟨v1, v4, v5, vs, gV⟩ := hI.chg (W4 := W4) hchg rfl (by omega) (by omega) (by omega)
        have hS' : msG xs = bookL K B L := hS
        obtain ⟨hrv, hrc⟩ := HLOST.out (by rw [← hS']; exact hI.no)
        subst hrv hrc
        have V4 := hid v4
        have V5 := hid v5
        have GV := hid gV
        have HD := hid hd
        have p4 := cell0 v4
        have p5 := cell0 v5
        have f4 : V.frozen? ⟨w.heap.size + 1 + 1, 0, none⟩ = false := frozen_of_row _ _ _ _ _ v4
        have f5 : V.frozen? ⟨w.heap.size + 1 + 1 + 1, 0, none⟩ = false := frozen_of_row _ _ _ _ _ v5
        clear v1 v4 v5 vs gV hS hS' hI hchg hd hz4
        go_wp2_with fail
        have e4 : (V.setCell ⟨w.heap.size + 1 + 1, 0, none⟩ (.int .i64 0)).heap[w.heap.size + 1 + 1]? = some (.cells #[.int .i64 0] 2 (0, 0)) := by rw [heap_setCell_same _ _ 0 _ _ _ V4.out]; rfl
        have e5 : (V.setCell ⟨w.heap.size + 1 + 1, 0, none⟩ (.int .i64 0)).heap[w.heap.size + 1 + 1 + 1]? = some (.cells #[.int .i64 0] 2 (0, 0)) := heap_stored (by dsimp only; omega) V5.out
        have e6 : ((V.setCell ⟨w.heap.size + 1 + 1, 0, none⟩ (.int .i64 0)).setCell ⟨w.heap.size + 1 + 1 + 1, 0, none⟩ (.int .i64 6)).heap[w.heap.size + 1 + 1 + 1]? = some (.cells #[.int .i64 6] 2 (0, 0)) := by rw [heap_setCell_same _ _ 0 _ _ _ e5]; rfl
        have e7 : ((V.setCell ⟨w.heap.size + 1 + 1, 0, none⟩ (.int .i64 0)).setCell ⟨w.heap.size + 1 + 1 + 1, 0, none⟩ (.int .i64 6)).heap[w.heap.size + 1 + 1]? = some (.cells #[.int .i64 0] 2 (0, 0)) := heap_stored (by dsimp only; omega) e4
        have hz4 := Z4.out
        refine leaves_mark (heap_stored (by dsimp only; omega) (heap_stored (by dsimp only; omega) HD.out)) (results_cells_pair rfl _ _ rfl rfl (cell0 (heap_putObj (by omega) e7)) (cell0 (heap_putObj (by omega) e6)) Try.underlying2 rfl Try.underlying2 rfl) ⟨rfl, ?_⟩
        exact Gr_putObj ((GV.out.setCell (p := ⟨w.heap.size + 1 + 1, 0, none⟩) (by dsimp only; omega) _).setCell (p := ⟨w.heap.size + 1 + 1 + 1, 0, none⟩) (by dsimp only; omega) _) (by omega) _
      case stop =>
        rintro c own pre A V hsp ⟨rfl, pre0, x, rfl, hx, hno, hxl, h4, h5, hg⟩ hown hchg hd
        have hz4 := Z4.out
        have hzl := ZL.out
        have key : ∀ k, k < W4.heap.size → ¬ andLoop W4 own k := fun k hk h => by
          rcases h with h | h
          · have := hown k h; omega
          · omega
        obtain ⟨rest, hrest⟩ := hsp
        rw [msG_snoc, List.append_assoc, hx] at hrest
        obtain ⟨hrv, hrc⟩ := HFND.out _ _ hrest hno
        rw [msG_length] at hrv
        rw [hxl] at h4
        subst hrv hrc
        have v4 := hchg.heap h4 (key _ (by omega))
        have v5 := hchg.heap h5 (key _ (by omega))
        have gV : Gr w V := Below.trans hg ⟨hchg.os, hchg.tape, hchg.output, hchg.size, fun k hk => hchg.block k (Nat.lt_of_lt_of_le hk hg.size) (key k (by omega))⟩
        have V4 := hid v4
        have V5 := hid v5
        have GV := hid gV
        have HD := hid hd
        clear v4 v5 gV hd hchg h4 h5 hg hrest hz4
        go_wp2_with fail
        have hz4 := Z4.out
        exact leaves_mark HD.out (results_cells_pair rfl _ _ rfl rfl (cell0 (heap_putObj (by omega) V4.out)) (cell0 (heap_putObj (by omega) V5.out)) Try.underlying2 rfl Try.underlying2 rfl) ⟨rfl, Gr_putObj GV.out (by omega) _⟩
end Go.Proofs.Ytkbdblaciphmnaa
