/- The model's search of hoists: its state; at the end of a hoist. -/
import Derived.Test.YtkbdblaciphmnaaSearchM
import Derived.Deep.AppendLies
namespace Go.Proofs.Ytkbdblaciphmnaa
set_option linter.unusedVariables false
open Go.RowKit
/-- Of what was there only one block has turned. -/
def Mt (Bs : Nat) (w w' : World) : Prop := w.grownBy w' (some Bs)
theorem Mt.refl (Bs : Nat) (w : World) : Mt Bs w w := ⟨rfl, rfl, rfl, Nat.le_refl _, fun _ _ _ => rfl⟩
theorem Mt.size {Bs : Nat} {w w' : World} (h : Mt Bs w w') : w.heap.size ≤ w'.heap.size := World.grownBy.size h
theorem Mt.by_ {Bs : Nat} {w w1 w2 : World} {row : Option Nat} (h : Mt Bs w w1) (g : w1.grownBy w2 row) (hr : ∀ k, row = some k → k = Bs ∨ w.heap.size ≤ k) : Mt Bs w w2 := by
  refine ⟨g.os.trans h.os, g.tape.trans h.tape, g.output.trans h.output, Nat.le_trans h.size g.size, fun k hk hne => ?_⟩
  rw [g.block k (Nat.lt_of_lt_of_le hk h.size) (fun e => ?_)]
  · exact h.block k hk hne
  · rcases hr k e.symm with e1 | e1
    · exact hne (by rw [e1])
    · omega
theorem Mt.trans {Bs : Nat} {w w1 w2 : World} (h : Mt Bs w w1) (g : Mt Bs w1 w2) : Mt Bs w w2 := h.by_ (World.grownBy.mk g.os g.tape g.output g.size g.block) (fun k e => .inl (by cases e; rfl))
theorem Mt.gr {Bs : Nat} {w w1 w2 : World} (h : Mt Bs w w1) (g : Gr w1 w2) : Mt Bs w w2 :=
  h.by_ (row := none) ⟨g.1, g.2, g.3, g.4, fun k hk _ => g.5 k hk⟩ (fun k e => by cases e)
theorem Mt.set {Bs : Nat} {w w1 : World} (h : Mt Bs w w1) (i : Nat) (v : Value) : Mt Bs w (w1.setCell ⟨Bs, i, none⟩ v) :=
  h.by_ (row := some Bs) ⟨rfl, rfl, rfl, by simp, fun k _ hne => heap_setCell_other w1 ⟨Bs, i, none⟩ k v (fun e => hne (by rw [e]))⟩ (fun k e => .inl (by cases e; rfl))
theorem Mt.drewN {Bs : Nat} {w w1 : World} (h : Mt Bs w w1) (n : Nat) : Mt Bs w (w1.drewN n) := h.gr ((Gr.refl _).drewN n)
theorem Mt.cell {Bs : Nat} {w w' : World} (h : Mt Bs w w') {a : Addr} {v : Value} (hc : w.cell? a = some v) (hne : a.block ≠ Bs) : w'.cell? a = some v :=
  World.grownBy.cell h hc (fun e => hne (by cases e; rfl))
theorem Mt.slice {Bs : Nat} {k : IntKind} {w w' : World} {b o : Nat} {xs : List Int} (h : Mt Bs w w') (hs : SliceOf k w (some ⟨b, o, none⟩) xs) (hne : b ≠ Bs) : SliceOf k w' (some ⟨b, o, none⟩) xs := by
  intro i hi
  obtain ⟨b', o', e, hc⟩ := hs i hi
  refine ⟨b', o', e, h.cell hc ?_⟩
  simp only [Option.some.injEq, Addr.mk.injEq, and_true] at e
  obtain ⟨rfl, rfl⟩ := e
  exact hne
theorem Mt.below {Bs B : Nat} {w w' : World} (h : Mt Bs w w') (hB : B ≤ Bs) (hB2 : B ≤ w.heap.size) : Below B w w' :=
  ⟨h.os, h.tape, h.output, h.size, fun k hk => h.block k (by omega) (fun e => by cases e; omega)⟩
/-- What has been found so far: how many, and the first one. -/
def FstOk (w : World) (Bs : Nat) (L : List (List Int)) (F : Value) : Prop :=
  match L with
  | [] => F = .slice none 0 0
  | h :: _ => Own .i8 22 w (Bs + 1) w.heap.size F h
structure Srch (w : World) (Bs : Nat) (M : Value) (S B : Int) (L : List (List Int)) (F : Value) : Prop where
  blk : w.heap[Bs]? = some (.cells #[M, .int .i64 S, .int .i64 B, .int .i64 (L.length : Int), F] 112 (0, 0))
  fst : FstOk w Bs L F
section
variable {w w' : World} {Bs : Nat} {M F : Value} {S B : Int} {L : List (List Int)}
theorem FstOk.by_ {row : Option Nat} (h : FstOk w Bs L F) (g : w.grownBy w' row) (hr : ∀ k, row = some k → k = Bs ∨ w.heap.size ≤ k) : FstOk w' Bs L F := by
  cases L with
  | nil => exact h
  | cons x L => exact (Own.by_ h g (fun b e => by rcases hr b e with e1 | e1 <;> omega)).widen (Nat.le_refl _) g.size
theorem Srch.by_ {row : Option Nat} (h : Srch w Bs M S B L F) (g : w.grownBy w' row) (hr : ∀ k, row = some k → w.heap.size ≤ k) : Srch w' Bs M S B L F :=
  ⟨by rw [g.block Bs (lt_of_heap h.blk) (fun e => by have := hr Bs e.symm; have := lt_of_heap h.blk; omega)]; exact h.blk, h.fst.by_ g (fun k e => .inr (hr k e))⟩
theorem Srch.gr (h : Srch w Bs M S B L F) (g : Gr w w') : Srch w' Bs M S B L F :=
  h.by_ (row := none) ⟨g.1, g.2, g.3, g.4, fun k hk _ => g.5 k hk⟩ (fun k e => by cases e)
theorem Srch.cellM (h : Srch w Bs M S B L F) : w.cell? ⟨Bs, 0, none⟩ = some M := by rw [cell_of_row w Bs 0 _ _ _ h.blk]; rfl
theorem Srch.cellS (h : Srch w Bs M S B L F) : w.cell? ⟨Bs, 1, none⟩ = some (.int .i64 S) := by rw [cell_of_row w Bs 1 _ _ _ h.blk]; rfl
theorem Srch.cellB (h : Srch w Bs M S B L F) : w.cell? ⟨Bs, 2, none⟩ = some (.int .i64 B) := by rw [cell_of_row w Bs 2 _ _ _ h.blk]; rfl
theorem Srch.cellC (h : Srch w Bs M S B L F) : w.cell? ⟨Bs, 3, none⟩ = some (.int .i64 (L.length : Int)) := by rw [cell_of_row w Bs 3 _ _ _ h.blk]; rfl
theorem Srch.cellF (h : Srch w Bs M S B L F) : w.cell? ⟨Bs, 4, none⟩ = some F := by rw [cell_of_row w Bs 4 _ _ _ h.blk]; rfl
theorem Srch.free (h : Srch w Bs M S B L F) (i : Nat) : w.frozen? ⟨Bs, i, none⟩ = false := frozen_of_row _ _ _ _ _ h.blk
theorem Srch.lt (h : Srch w Bs M S B L F) : Bs < w.heap.size := lt_of_heap h.blk
/-- One hoist more, and it is not the first one. -/
theorem Srch.more {x : List Int} (h : Srch w Bs M S B L F) (hL : L ≠ []) : Srch (w.setCell ⟨Bs, 3, none⟩ (.int .i64 ((L.length : Int) + 1))) Bs M S B (L ++ [x]) F := by
  refine ⟨?_, ?_⟩
  · rw [heap_setCell_same w Bs 3 _ _ _ h.blk, List.length_append, List.length_singleton]
    push_cast
    rfl
  · have hf := h.fst
    cases L with
    | nil => exact absurd rfl hL
    | cons y L =>
      have g : w.grownBy (w.setCell ⟨Bs, 3, none⟩ (.int .i64 ((((y :: L).length : Nat) : Int) + 1))) (some Bs) := (Mt.refl Bs w).set 3 _
      exact (Own.by_ hf g (fun b e => by cases e; left; omega)).widen (Nat.le_refl _) (by simp)
/-- The first hoist. -/
theorem Srch.one {x : List Int} {V : Value} (h : Srch w Bs M S B [] F) (hV : Own .i8 22 w (Bs + 1) w.heap.size V x) : Srch ((w.setCell ⟨Bs, 4, none⟩ V).setCell ⟨Bs, 3, none⟩ (.int .i64 1)) Bs M S B [x] V := by
  have h1 := heap_setCell_same w Bs 4 _ _ V h.blk
  have h2 := heap_setCell_same (w.setCell ⟨Bs, 4, none⟩ V) Bs 3 _ _ (.int .i64 1) h1
  refine ⟨by rw [h2]; rfl, ?_⟩
  have g : w.grownBy ((w.setCell ⟨Bs, 4, none⟩ V).setCell ⟨Bs, 3, none⟩ (.int .i64 1)) (some Bs) := ((Mt.refl Bs w).set 4 V).set 3 (.int .i64 1)
  exact (Own.by_ hV g (fun b e => by cases e; left; omega)).widen (Nat.le_refl _) (by simp)
end
theorem news_of_slice {w : World} {b o : Nat} {xs : List Int} (hs : SliceOf .i8 w (some ⟨b, o, none⟩) xs) : ∀ j u, (xs.map (Value.int .i8))[j]? = some u → w.cell? ((⟨b, o, none⟩ : Addr).add j) = some u := by
  intro j u hj
  have hadd : (⟨b, o, none⟩ : Addr).add j = ⟨b, o + j, none⟩ := by unfold Addr.add; split <;> simp_all
  have hjl : j < xs.length := by
    rcases Nat.lt_or_ge j xs.length with h | h
    · exact h
    · simp [List.getElem?_eq_none (show (xs.map (Value.int .i8)).length ≤ j by simpa using h)] at hj
  obtain ⟨b', o', e, hc⟩ := hs j hjl
  simp only [Option.some.injEq, Addr.mk.injEq, and_true] at e
  obtain ⟨rfl, rfl⟩ := e
  rw [hadd, hc]
  simp [List.getElem?_eq_getElem hjl] at hj
  subst hj
  simp [List.getD, List.getElem?_eq_getElem hjl]
/-- A call of the search goes on from h. -/
def LookPost (Bs : Nat) (M : Value) (S B : Int) (R : List (List Int)) (w : World) (e : Ending) (w' : World) : Prop := e = .returned (.tuple #[]) ∧ Mt Bs w w' ∧ ∃ F, Srch w' Bs M S B R F
set_option maxRecDepth 100000 in
set_option maxHeartbeats 2000000 in
theorem look_end_more (Bs bh oh bm om k ch cm st : Nat) (S B : Int) (h : List Int) (L : List (List Int)) (F : Value) (hk : k = h.length) (hk8 : k ≤ 8) (hL : L ≠ []) (hc : L.length ≤ 1000000) (hbm : bm ≠ Bs) (w : World)
    (hS : Srch w Bs (.slice (some ⟨bm, om, none⟩) k cm) S B L F) :
    Calls Try.prog 105 #[.pointer (some ⟨Bs, 0, none⟩), .slice (some ⟨bh, oh, none⟩) k ch, .int .i64 st] w (LookPost Bs (.slice (some ⟨bm, om, none⟩) k cm) S B (L ++ [h]) w) := by
  have c0 := hS.cellM
  have c3 := hS.cellC
  have f3 := hS.free 3
  have HM := hid (hS.more (x := h) hL)
  have hne : ((L.length : Int) == 0) = false := by
    have : 0 < L.length := List.length_pos_iff.2 hL
    simp; omega
  clear hS hL hk
  generalize L.length = c at *
  go_enter Try.func105, Try.ntmps105
  go_wp2_with fail
  go_end0
  exact ⟨rfl, (Mt.refl _ _).set 3 _, F, HM.out⟩
set_option maxRecDepth 100000 in
set_option maxHeartbeats 2000000 in
theorem look_end_first (Bs bh oh bm om k ch cm st : Nat) (S B : Int) (h : List Int) (F : Value) (hk : k = h.length) (hk8 : k ≤ 8) (hbm : bm ≠ Bs) (w : World)
    (hS : Srch w Bs (.slice (some ⟨bm, om, none⟩) k cm) S B [] F) (hh : SliceOf .i8 w (some ⟨bh, oh, none⟩) h) :
    Calls Try.prog 105 #[.pointer (some ⟨Bs, 0, none⟩), .slice (some ⟨bh, oh, none⟩) k ch, .int .i64 st] w (LookPost Bs (.slice (some ⟨bm, om, none⟩) k cm) S B ([] ++ [h]) w) := by
  have c0 := hS.cellM
  have c3 : w.cell? ⟨Bs, 3, none⟩ = some (.int .i64 0) := hS.cellC
  have hlt := hS.lt
  have HS := hid hS
  have HH := hid (news_of_slice (hh.gr ((Gr.refl w).alloc (.cells #[] 22))))
  have OE := hid ((Own.new (k := .i8) (e := 22) w [] (by simp)).row)
  have HK := hid hk
  clear hS hh hk
  obtain ⟨i0, hi, hz0, hz1, hz2⟩ := info_parts infoI8
  go_enter Try.func105, Try.ntmps105
  go_wp2_with (at_builtin; refine wpList_append_own _ rfl _ _ 48 rfl w.heap.size 22 i0 (.int .i8 0) 1 1 Try.underlying48 hi hz0 hz1 hz2 rfl (by decide) _ _ _ rfl OE.out ⟨bh, oh, none⟩ k ch (h.map (Value.int .i8)) rfl (by rw [List.length_map, Nat.mul_one]; exact HK.out.symm) HH.out (by simp [Value.oneCell']) (by unfold maxLen; simp; omega) (by simp; omega) (by simp) ?_)
  intro v1 w1 hown hgrow _
  have OV := hid (Own.ofRow (k := .i8) (xs := h) hown (by simp) (by rw [← HK.out]))
  have GW : Gr w w1 := ((Gr.refl w).alloc (.cells #[] 22)).by_ hgrow (fun b e => by cases e; exact Nat.le_refl _)
  have SR := hid (HS.out.gr GW)
  have MT := hid ((Mt.refl Bs w).gr GW)
  clear GW
  have d3 : w1.cell? ⟨Bs, 3, none⟩ = some (.int .i64 0) := SR.out.cellC
  have d4 := SR.out.cellF
  have e3 := SR.out.free 3
  have e4 := SR.out.free 4
  have HO := hid (SR.out.one (x := h) (V := v1) (OV.out.widen (by omega) (Nat.le_refl _)))
  obtain ⟨av, cv, hv1⟩ := OV.out.shape
  subst hv1
  clear hown hgrow
  go_wp2_with fail
  go_end0
  exact ⟨rfl, (MT.out.set 4 _).set 3 _, _, HO.out⟩
/-- The call for the hoists that go on from h. -/
def LookOk (Bs bm om cm n : Nat) (m : List Int) (S : Int) (B f : Nat) : Prop :=
  ∀ (h : List Int), h.length + f = n → NumN h → Fine S h → ∀ (bh oh ch st : Nat) (L : List (List Int)) (F : Value) (w : World), st = startOf m h.length → bh ≠ Bs → L.length + 5 ^ f ≤ 1000000 →
    Srch w Bs (.slice (some ⟨bm, om, none⟩) n cm) S B L F → SliceOf .i8 w (some ⟨bm, om, none⟩) m → SliceOf .i8 w (some ⟨bh, oh, none⟩) h →
    Calls Try.prog 105 #[.pointer (some ⟨Bs, 0, none⟩), .slice (some ⟨bh, oh, none⟩) h.length ch, .int .i64 st] w (LookPost Bs (.slice (some ⟨bm, om, none⟩) n cm) S B (L ++ goF m S B f h) w)
theorem look_zero (Bs bm om cm n : Nat) (m : List Int) (S : Int) (B : Nat) (hn8 : n ≤ 8) (hbm : bm ≠ Bs) : LookOk Bs bm om cm n m S B 0 := by
  intro h hl hN hF bh oh ch st L F w hst hbh hc hS hm hh
  have hl' : h.length = n := by omega
  rw [goF_zero]
  subst hl'
  by_cases hL : L = []
  · subst hL
    exact look_end_first Bs bh oh bm om h.length ch cm st S B h F rfl hn8 hbm w hS hh
  · exact look_end_more Bs bh oh bm om h.length ch cm st S B h L F rfl hn8 hL (by omega) hbm w hS
theorem cell_l1 (w : World) (v : Value) (t : TypeId) : ∀ j u, [v][j]? = some u → (w.alloc (.cells #[v] t)).cell? ((⟨w.heap.size, 0, none⟩ : Addr).add j) = some u := by
  intro j u hj
  match j, hj with
  | 0, hj => simp at hj; subst hj; simp [Addr.add]
set_option maxRecDepth 100000 in
set_option maxHeartbeats 4000000 in
theorem look_brk (Bs bm om cm n : Nat) (m : List Int) (S : Int) (B f : Nat) (hn : n = m.length) (hn8 : n ≤ 8) (hbm : bm ≠ Bs) (ih : LookOk Bs bm om cm n m S B f)
    (h : List Int) (hl : h.length + (f + 1) = n) (hN : NumN h) (hF : Fine S h) (hb : m.getD h.length 0 = -10) (bh oh ch st : Nat) (L : List (List Int)) (F : Value) (w : World) (hbh : bh ≠ Bs) (hc : L.length + 5 ^ (f + 1) ≤ 1000000)
    (hS : Srch w Bs (.slice (some ⟨bm, om, none⟩) n cm) S B L F) (hm : SliceOf .i8 w (some ⟨bm, om, none⟩) m) (hh : SliceOf .i8 w (some ⟨bh, oh, none⟩) h) :
    Calls Try.prog 105 #[.pointer (some ⟨Bs, 0, none⟩), .slice (some ⟨bh, oh, none⟩) h.length ch, .int .i64 st] w (LookPost Bs (.slice (some ⟨bm, om, none⟩) n cm) S B (L ++ goF m S B (f + 1) h) w) := by
  rw [goF_succ, goN_brk hb]
  have c0 := hS.cellM
  obtain ⟨b', o', e', cm0⟩ := hm h.length (by omega)
  simp only [Option.some.injEq, Addr.mk.injEq, and_true] at e'
  obtain ⟨rfl, rfl⟩ := e'
  rw [hb] at cm0
  have HI := hid (fun (w' : World) (bg : Nat) (cg : Nat) (g : Gr w w') (hg : bg ≠ Bs) (hs : SliceOf .i8 w' (some ⟨bg, 0, none⟩) (h ++ [-10])) =>
    ih (h ++ [-10]) (by rw [List.length_append, List.length_singleton]; omega) (hN.snoc (by omega) (.inl rfl)) (hF.snoc.2 (by unfold okX; simp)) bg 0 cg (h.length + 1) L F w' (by rw [List.length_append, List.length_singleton, startOf_brk hb]) hg (by rw [Nat.pow_succ] at hc; omega) (hS.gr g) (hm.gr g) hs)
  have hlt := hS.lt
  have HH := hid (news_of_slice (hh.gr ((Gr.refl w).alloc (.cells #[] 22))))
  have OE := hid ((Own.new (k := .i8) (e := 22) w [] (by simp)).row)
  obtain ⟨k, hk⟩ : ∃ k, k = h.length := ⟨_, rfl⟩
  have HLA := hid (show (h ++ [-10]).length = k + 1 by rw [List.length_append, List.length_singleton, hk])
  rw [HLA.out] at HI
  rw [← hk] at HI cm0 hl ⊢
  have HK := hid hk
  have hk8 : k ≤ 8 := by omega
  have hkn : ((k : Int) == (n : Int)) = false := by simp; omega
  have hk0 : (0 : Int) ≤ (k : Int) := by omega
  have hk1 : (k : Int) < (n : Int) := by omega
  clear hS hm hh hk hb ih hc hN hF
  obtain ⟨i0, hi, hz0, hz1, hz2⟩ := info_parts infoI8
  go_enter Try.func105, Try.ntmps105
  go_wp2_with (at_builtin; refine wpList_append_own _ rfl _ _ 48 rfl w.heap.size 22 i0 (.int .i8 0) 1 1 Try.underlying48 hi hz0 hz1 hz2 rfl (by decide) _ _ _ rfl OE.out ⟨bh, oh, none⟩ k ch (h.map (Value.int .i8)) rfl (by rw [List.length_map, Nat.mul_one]; exact HK.out.symm) HH.out (by simp [Value.oneCell']) (by unfold maxLen; simp; omega) (by simp; omega) (by simp) ?_)
  intro v1 w1 hown hgrow _
  have OV := hid (Own.ofRow (k := .i8) (xs := h) hown (by simp) (by rw [← HK.out]))
  have G1 := hid (((Gr.refl w).alloc (.cells #[] 22)).by_ hgrow (fun b e => by cases e; exact Nat.le_refl _))
  obtain ⟨av, cv, hv1⟩ := OV.out.shape
  rw [← HK.out] at hv1
  subst hv1
  have ROW1 := hid OV.out.row
  rw [← HK.out] at ROW1
  clear hown hgrow
  go_wp2_with (at_builtin; refine wpList_append_own _ rfl _ _ 48 rfl w.heap.size 22 i0 (.int .i8 0) 1 1 Try.underlying48 hi hz0 hz1 hz2 rfl (by decide) _ _ _ rfl (ROW1.out.alloc _) ⟨w1.heap.size, 0, none⟩ 1 1 [.int .i8 (-10)] rfl rfl (cell_l1 _ _ _) (by simp [Value.oneCell']) (by unfold maxLen; omega) (by omega) (by have := G1.out.size; simp; omega) ?_)
  intro v2 w2 hown2 hgrow2 _
  obtain ⟨g2, c2, rfl, hg2, _⟩ := hown2.form (by omega)
  have OX := hid (Own.ofRow (k := .i8) (xs := h ++ [-10]) hown2 (by simp) (by rw [HLA.out])).reads
  have G2 := hid ((G1.out.alloc (.cells #[.int .i8 (-10)] 22)).by_ hgrow2 (fun b e => by have := (ROW1.out.lt b e).1; omega))
  push_cast at HI
  clear hown2 hgrow2
  go_wp2_with fail
  refine (HI.out w2 g2 c2 G2.out (by omega) OX.out).mono ?_
  rintro e w3 ⟨rfl, mt, F', sr⟩
  have MT := hid (((Mt.refl Bs w).gr G2.out).trans mt)
  have SR := hid sr
  clear mt sr
  go_wp2_with fail
  go_end0
  exact ⟨rfl, MT.out, F', SR.out⟩
end Go.Proofs.Ytkbdblaciphmnaa
