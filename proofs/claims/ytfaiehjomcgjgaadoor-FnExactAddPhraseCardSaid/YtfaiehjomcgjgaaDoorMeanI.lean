/- The meanings of a book with their ranks, one by one: the program's iterator: what it calls, what it keeps. -/
import Derived.Test.YtfaiehjomcgjgaaDoorRangeG
import Derived.Test.YtfaiehjomcgjgaaDoorLists
import Derived.Test.YtfaiehjomcgjgaaDoorGBk
import Derived.Test.YtfaiehjomcgjgaaDoorGSeq
namespace Go.Proofs.YtfaiehjomcgjgaaDoor
set_option linter.unusedVariables false
open Go.RowKit
attribute [local go_sem] Oper.semAt_some
set_option maxRecDepth 100000 in
theorem lists_any (K n : Int) (w : World) :
    Calls Tryd.prog 90 #[.int .i8 K, .int .i8 n] w fun e w' => e = .returned (.func (.func 103) #[] #[.pointer (some ⟨w.heap.size + 1, 0, none⟩), .pointer (some ⟨w.heap.size, 0, none⟩)]) ∧ w' = (w.alloc (.cells #[.int .i8 K] 22)).alloc (.cells #[.int .i8 n] 22) := by
  go_enter Tryd.func90, Tryd.ntmps90
  go_wp2_with fail
  go_ret
  exact ⟨rfl, rfl⟩
abbrev schC (K L B : Nat) : Array Value := #[.int .i8 (K : Int), .int .i8 (L : Int), .int .i8 (B : Int)]
set_option maxRecDepth 100000 in
theorem meanings_any (K L B : Nat) (w : World) :
    Calls Tryd.prog 69 #[.agg (schC K L B)] w fun e w' => e = .returned (.func (.func 89) #[] #[.pointer (some ⟨w.heap.size, 0, none⟩)]) ∧ w' = w.alloc (.cells (schC K L B) 67) := by
  go_enter Tryd.func69, Tryd.ntmps69
  go_wp2_with fail
  go_ret
  exact ⟨rfl, rfl⟩
set_option maxRecDepth 100000 in
set_option maxHeartbeats 1000000 in
theorem hoist_any (K L B j : Nat) (m : List Int) (hK : K ≤ 10) (h1 : 1 ≤ j) (h3 : j ≤ 3) (hB : B ≤ 4) (hm : m ∈ kindsS K j) (a : Option Addr) (n cap : Nat) (hn : n = m.length) (hcap : n ≤ cap) (w : World) (hs : SliceOf .i8 w a m) :
    Calls Tryd.prog 43 #[.agg (schC K L B), .slice a n cap] w fun e w' => (∃ v, e = .returned (.tuple #[v, .bool (canH B m)])) ∧ Gr w w' := by
  subst hn
  have hl := (mem_kindsS.1 hm).1
  have HF := hid (fun V (g : Gr w V) => by
    have := impl_HoistFor_cap a cap m (by omega) hcap (kinds_fits (by omega) hm) 1 (B : Int) V (hs.gr g)
    rwa [kinds_code (by omega) h1 (by omega) hB hm] at this)
  have GR := hid ((Gr.refl w).alloc (.cells (schC K L B) 67))
  clear hs hl hm
  generalize hforL m 1 (B : Int) = X at *
  generalize m.length = n at *
  cases hc : canH B m with
  | true =>
    rw [hc, if_pos rfl] at HF
    go_enter Tryd.func43, Tryd.ntmps43
    go_wp2_with fail
    refine (HF.out _ GR.out).mono ?_
    rintro e w1 ⟨v, rfl, ow, g1⟩
    have G1 := hid (GR.out.trans g1)
    obtain ⟨a', c', rfl⟩ := ow.shape
    unfold withCode
    clear g1 ow
    generalize X.length = q at *
    go_wp2_with fail
    go_ret2
    exact ⟨⟨_, rfl⟩, G1.out⟩
  | false =>
    rw [hc, if_neg (by simp)] at HF
    go_enter Tryd.func43, Tryd.ntmps43
    go_wp2_with fail
    refine (HF.out _ GR.out).mono ?_
    rintro e w1 ⟨v, rfl, ow, g1⟩
    have G1 := hid (GR.out.trans g1)
    obtain ⟨a', c', rfl⟩ := ow.shape
    unfold withCode
    clear g1 ow
    generalize X.length = q at *
    go_wp2_with fail
    go_ret2
    exact ⟨⟨_, rfl⟩, G1.out⟩
/-- The marks of the loops that have been left: they are taken one by one. -/
def marks (bs : List Nat) : List Deferred := bs.map fun b => { target := .collected b, args := #[] }
theorem leaves_marks {P : Program} {fn : Func} {tmps : Array Value} (hfn : fn.results = #[]) : ∀ (bs : List Nat) (w : World) (R : Ending → World → Prop), (∀ b ∈ bs, ∃ ds, w.heap[b]? = some (.deferred ds) ∧ (ds = some [])) → bs.Nodup →
    (∀ D, Chg (fun k => k ∈ bs) w D → R (.returned (.tuple #[])) D) → LeavesInM Fence.wide 9 P fn tmps R (marks bs) .returning w
  | [], w, R, _, _, hR => ⟨.tuple #[], by unfold results; rw [hfn]; simp, hR _ (Chg.refl _ _)⟩
  | b :: bs, w, R, hb, hd, hR => by
    obtain ⟨ds, h1, rfl⟩ := hb b List.mem_cons_self
    have hn := List.nodup_cons.1 hd
    refine ⟨by simp, .inl ⟨b, _, rfl, run_takeDeferred h1, leaves_marks hfn bs _ R (fun c hc => ?_) hn.2 (fun D hD => hR D ?_)⟩⟩
    · obtain ⟨ds, h2, h3⟩ := hb c (List.mem_cons_of_mem _ hc)
      exact ⟨ds, (World.putObj_heap_other (fun e => hn.1 (by rw [← e]; exact hc))).trans h2, h3⟩
    · have h0 : Chg (fun k => k ∈ b :: bs) w (w.putObj b (.deferred none)) := ⟨rfl, rfl, rfl, by rw [World.putObj_size]; exact Nat.le_refl _, fun k _ ho => World.putObj_heap_other (fun e => ho (by rw [e]; exact List.mem_cons_self))⟩
      exact h0.trans (hD.widen (fun k _ g => List.mem_cons_of_mem _ g))
abbrev YldG := Nat × Value × List Int
/-- What is handed out: a rank, and a meaning in a block that the iterator does not own. -/
def OkG (lo : Nat) (own : Nat → Prop) (B : World) (x : YldG) : Prop :=
  ∃ g c, x.2.1 = .slice (some ⟨g, 0, none⟩) x.2.2.length c ∧ B.ownsRow lo 22 1 x.2.1 x.2.2.length (x.2.2.map (Value.int .i8)) ∧ ¬ own g
def msG (pre : List YldG) : List (List Int) := pre.map (·.2.2)
theorem msG_snoc (pre : List YldG) (x : YldG) : msG (pre ++ [x]) = msG pre ++ [x.2.2] := by simp [msG]
theorem msG_length (pre : List YldG) : (msG pre).length = pre.length := by simp [msG]
def NxG (L : List (List Int)) (pre : List YldG) (x : YldG) : Prop := x.1 = pre.length ∧ ∃ rest, msG pre ++ x.2.2 :: rest = L
def SG (L : List (List Int)) (xs : List YldG) : Prop := msG xs = L
def SpG (L : List (List Int)) (pre : List YldG) : Prop := ∃ rest, msG pre ++ rest = L
/-- What the iterator keeps at the head of its loop: O are all its blocks; bs those of the marks. -/
structure MI (J : (Nat → Prop) → List YldG → World → Prop) (lo yb rk l : Nat) (K B j : Nat) (O : Nat → Prop) (bs : List Nat) (pre : List YldG) (w : World) : Prop where
  held : ∃ own A, J own pre A ∧ (∀ k, own k → O k) ∧ (∀ k, O k → own k ∨ A.heap.size ≤ k) ∧ Chg own A w
  low : ∀ k, O k → lo ≤ k ∧ k < w.heap.size
  oy : O yb
  ork : O rk
  ob : ∀ b ∈ bs, O b ∧ w.heap[b]? = some (.deferred (some []))
  nd : bs.Nodup
  yc : w.heap[yb]? = some (.cells #[.func (.yield l) #[] #[]] 121 (0, 0))
  rc : w.heap[rk]? = some (.cells #[.int .i64 (pre.length : Int)] 2 (0, 0))
  ms : msG pre = bookL K B j
/-- All blocks of the iterator, those of the length at hand among them. -/
def tO (O : Nat → Prop) (w0 n : Nat) (k : Nat) : Prop := O k ∨ (w0 ≤ k ∧ k < n)
/-- What the iterator keeps in the rounds over the lists of one length. -/
structure RI (J : (Nat → Prop) → List YldG → World → Prop) (yb rk l : Nat) (K B : Nat) (O : Nat → Prop) (w0 : Nat) (bs : List Nat) (ms0 : List (List Int)) (n : Nat) (prei : List Yld) (V : World) : Prop where
  held : ∃ own A pre, J own pre A ∧ (∀ k, own k → tO O w0 n k) ∧ (∀ k, tO O w0 n k → own k ∨ A.heap.size ≤ k) ∧ Chg own A V ∧ msG pre = ms0 ++ (prei.map (·.2)).filter (canH B) ∧ V.heap[rk]? = some (.cells #[.int .i64 (pre.length : Int)] 2 (0, 0))
  yc : V.heap[yb]? = some (.cells #[.func (.yield l) #[] #[]] 121 (0, 0))
  ob : ∀ b ∈ bs, V.heap[b]? = some (.deferred (some []))
  kb : V.cell? ⟨w0, 0, none⟩ = some (.int .i8 (K : Int))
section
variable {J : (Nat → Prop) → List YldG → World → Prop} {lo yb rk l K B j w0 n : Nat} {O : Nat → Prop} {bs : List Nat} {pre : List YldG} {ms0 : List (List Int)} {prei : List Yld} {w V V' : World}
theorem MI.begin (h : MI J lo yb rk l K B j O bs pre w) (hw0 : w0 = w.heap.size) (hb : Below w.heap.size w V) (hk : V.cell? ⟨w0, 0, none⟩ = some (.int .i8 (K : Int))) : RI J yb rk l K B O w0 bs (bookL K B j) n [] V := by
  subst hw0
  obtain ⟨own, A, hJ, h1, h2, h3⟩ := h.held
  have hz := h3.size
  refine ⟨⟨own, A, pre, hJ, fun k hk => .inl (h1 k hk), fun k hk => ?_, h3.trans (Chg.ofBelow _ hb), by rw [h.ms]; simp, ?_⟩, ?_, fun b hb' => ?_, hk⟩
  · rcases hk with hk | hk
    · exact h2 k hk
    · exact .inr (by omega)
  · exact (hb.block _ (lt_of_heap h.rc)).trans h.rc
  · exact (hb.block _ (lt_of_heap h.yc)).trans h.yc
  · have := (h.ob b hb').2
    exact (hb.block _ (lt_of_heap this)).trans this
/-- The inner iterator has turned its own blocks. -/
theorem RI.out {lo' : Nat} (h : RI J yb rk l K B O w0 bs ms0 n prei V) (ho : Out lo' n V V') (hlo : w0 < lo') (hy : yb < lo') (hr : rk < lo') (hbs : ∀ b ∈ bs, b < lo') : RI J yb rk l K B O w0 bs ms0 n prei V' := by
  obtain ⟨own, A, pre, hJ, h1, h2, h3, h4, h5⟩ := h.held
  refine ⟨⟨own, A, pre, hJ, h1, h2, ⟨ho.os.trans h3.os, ho.tape.trans h3.tape, ho.output.trans h3.output, Nat.le_trans h3.size ho.size, fun k hk hn => ?_⟩, h4, ho.heap h5 (.inl hr)⟩, ho.heap h.yc (.inl hy), fun b hb => ho.heap (h.ob b hb) (.inl (hbs b hb)), ho.cell h.kb (.inl hlo)⟩
  refine (ho.block k (Nat.lt_of_lt_of_le hk h3.size) ?_).trans (h3.block k hk hn)
  rcases Nat.lt_or_ge k lo' with g | g
  · exact .inl g
  · rcases Nat.lt_or_ge k n with g2 | g2
    · rcases h2 k (.inr ⟨by omega, g2⟩) with g3 | g3
      · exact absurd g3 hn
      · omega
    · exact .inr g2
theorem RI.gr (h : RI J yb rk l K B O w0 bs ms0 n prei V) (g : Gr V V') : RI J yb rk l K B O w0 bs ms0 n prei V' := by
  obtain ⟨own, A, pre, hJ, h1, h2, h3, h4, h5⟩ := h.held
  exact ⟨⟨own, A, pre, hJ, h1, h2, h3.trans (Chg.ofBelow _ g), h4, g.heap h5⟩, g.heap h.yc, fun b hb => g.heap (h.ob b hb), g.cell h.kb⟩
theorem RI.skip {v : Value} {m : List Int} (h : RI J yb rk l K B O w0 bs ms0 n prei V) (hc : canH B m = false) : RI J yb rk l K B O w0 bs ms0 n (prei ++ [(v, m)]) V := by
  obtain ⟨own, A, pre, hJ, h1, h2, h3, h4, h5⟩ := h.held
  exact ⟨⟨own, A, pre, hJ, h1, h2, h3, by rw [h4, List.map_append, List.filter_append]; simp [hc], h5⟩, h.yc, h.ob, h.kb⟩
/-- A round has been run: the rank goes on. -/
theorem RI.next {v : Value} {m : List Int} {C : World} {pre : List YldG} (h : RI J yb rk l K B O w0 bs ms0 n prei V) (hw0 : w0 < n) (hy : O yb) (hr : O rk) (hne : yb ≠ rk) (hbs : ∀ b ∈ bs, O b ∧ b ≠ rk) (hkr : w0 ≠ rk) (hsz : ∀ k, tO O w0 n k → k < V.heap.size)
    (hms : msG pre = ms0 ++ (prei.map (·.2)).filter (canH B)) (hrc : V.heap[rk]? = some (.cells #[.int .i64 (pre.length : Int)] 2 (0, 0)))
    (hc : canH B m = true) (hJ : J (tO O w0 n) (pre ++ [(pre.length, v, m)]) C) (hk : Keep (tO O w0 n) V C) : RI J yb rk l K B O w0 bs ms0 n (prei ++ [(v, m)]) (C.setCell ⟨rk, 0, none⟩ (.int .i64 ((pre.length : Int) + 1))) := by
  have hcr := hk.heap hrc (.inl hr)
  refine ⟨⟨tO O w0 n, C, _, hJ, fun k h => h, fun k h => .inl h, (Chg.refl _ C).setCell (.inl (.inl hr)) _, ?_, ?_⟩, ?_, fun b hb => ?_, ?_⟩
  · rw [msG_snoc, hms, List.map_append, List.filter_append]; simp [hc]
  · rw [heap_setCell_same _ _ 0 _ _ _ hcr, List.length_append]; rfl
  · exact heap_stored (a := ⟨rk, 0, none⟩) hne (hk.heap h.yc (.inl hy))
  · exact heap_stored (a := ⟨rk, 0, none⟩) (hbs b hb).2 (hk.heap (h.ob b hb) (.inl (hbs b hb).1))
  · have h1 : C.cell? ⟨w0, 0, none⟩ = some (.int .i8 (K : Int)) := (World.cell?_of_block (w := V) (hk.block w0 (.inr ⟨Nat.le_refl _, hw0⟩))).trans h.kb
    exact (World.cell?_of_block (w := C) (Below.heap_setCell C ⟨rk, 0, none⟩ _ w0 hkr)).trans h1
/-- All lists of the length have been seen. -/
theorem RI.close (h : RI J yb rk l K B O w0 bs (bookL K B j) n prei V) (hS : prei.map (·.2) = kindsS K (j + 1)) (hy : O yb) (hr : O rk) (hlow : ∀ k, O k → lo ≤ k ∧ k < w0) (hlw : lo ≤ w0) (hn : n ≤ V.heap.size) (hbs : ∀ b ∈ bs, O b) (hnd : bs.Nodup) {d : Nat} (hd : V.heap[d]? = some (.deferred (some []))) (hd1 : w0 ≤ d) (hd2 : d < n) :
    ∃ pre', MI J lo yb rk l K B (j + 1) (tO O w0 n) (d :: bs) pre' V := by
  obtain ⟨own, A, pre, hJ, h1, h2, h3, h4, h5⟩ := h.held
  refine ⟨pre, ⟨⟨own, A, hJ, h1, h2, h3⟩, fun k hk => ?_, .inl hy, .inl hr, fun b hb => ?_, ?_, h.yc, h5, by rw [h4, hS]; rfl⟩⟩
  · rcases hk with hk | hk
    · have := hlow k hk; omega
    · omega
  · rcases List.mem_cons.1 hb with rfl | hb
    · exact ⟨.inr ⟨hd1, hd2⟩, hd⟩
    · exact ⟨.inl (hbs b hb), h.ob b hb⟩
  · exact List.nodup_cons.2 ⟨fun hb => by have := (hlow d (hbs d hb)).2; omega, hnd⟩
theorem book_prefix (K B : Nat) : ∀ {j L : Nat}, j ≤ L → ∃ t, bookL K B L = bookL K B j ++ t
  | j, 0, h => ⟨[], by rw [show j = 0 by omega]; simp⟩
  | j, L + 1, h => by
    by_cases e : j = L + 1
    · exact ⟨[], by rw [e]; simp⟩
    · obtain ⟨t, ht⟩ := book_prefix K B (j := j) (L := L) (by omega)
      exact ⟨t ++ (kindsS K (L + 1)).filter (canH B), by rw [bookL, ht, List.append_assoc]⟩
theorem book_next {K B j L : Nat} {ys rest : List (List Int)} {m : List Int} (hj : j + 1 ≤ L) (h : ys ++ m :: rest = kindsS K (j + 1)) (hc : canH B m = true) : ∃ t, (bookL K B j ++ ys.filter (canH B)) ++ m :: t = bookL K B L := by
  obtain ⟨t, ht⟩ := book_prefix K B hj
  refine ⟨rest.filter (canH B) ++ t, ?_⟩
  rw [ht, bookL, ← h, List.filter_append, List.filter_cons, if_pos hc]
  simp
end
end Go.Proofs.YtfaiehjomcgjgaaDoor
