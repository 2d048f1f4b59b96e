/- Books: copies, comparisons, sizes. -/
import Derived.Test.YtkbdblaciphmnaaStrs
namespace Go.Proofs.Ytkbdblaciphmnaa
set_option linter.unusedVariables false
open Go.RowKit
/-- A whole struct is loaded. -/
theorem wpList_load_whole {P : Program} {ops : Array Oper} {rest : List Oper} {o : Oper} {a : Act} {w : World} {Q : Exit → Act → World → Prop} (hw : Region.wanted o (yielded ops a.tmps) = true) (ty : TypeId) (x : Operand) (ho : o.op = .load ty x)
    (g : Nat) (hx : a.eval x = .pointer (some ⟨g, 0, none⟩)) (t : TypeId) (cs : Array Value) (d : TypeDesc) (hg : w.heap[g]? = some (.cells cs t (0, 0)))
    (hu : P.underlying ty = some d) (hd : (match d with | .struct _ | .array _ _ => true | _ => false) = true) (hi : (P.info? ty).map (·.size) = some cs.size)
    (h : wpList P ops Q rest (a.put o.dst (.agg cs)) w) : wpList P ops Q (o :: rest) a w :=
  BigFrame.wpList_want hw fun _ hK => wp_load_row ty x ho g hx t _ _ _ hg hu hd hi (hK _ _ h)
/-- A book as a value. -/
abbrev bookV (k l s : Int) (v : Value) : Value := .agg #[.int .i8 k, .int .i8 l, .int .i8 s, v]
abbrev bookC (k l s : Int) (v : Value) : Array Value := #[.int .i8 k, .int .i8 l, .int .i8 s, v]
set_option maxRecDepth 100000 in
set_option maxHeartbeats 1000000 in
theorem szBook_any (k l s : Int) (a : Option Addr) (cap n left : Nat) (ss : List ByteArray) (hl : n = ss.length) (hm : n ≤ 9223372036854775807) (hle : left ≤ 1048576) (hsz : ∀ i, (ss.getD i ByteArray.empty).size ≤ 9223372036854775807) (w : World) (hs : StrsOf w a ss) :
    Calls Try.prog 11 #[bookV k l s (.slice a n cap), .int .i64 left] w fun e w' => (∃ r : Int, e = .returned (.int .i64 r) ∧ (r = -1 ∨ (0 ≤ r ∧ r ≤ left ∧ n ≤ left))) ∧ Gr w w' := by
  have HC := hid (fun (V : World) (g : Gr w V) => szStringS_any a cap n left ss hl hm hle hsz V (hs.gr g))
  clear hs hl hsz
  go_enter Try.func11, Try.ntmps11
  go_wp2_with fail
  refine (HC.out _ ((Gr.refl _).alloc _)).mono ?_
  rintro e w' ⟨r, rfl, hr, rfl⟩
  rcases hr with rfl | ⟨h0, h1, h2⟩
  · go_wp2_with fail
    go_ret
    exact ⟨⟨-1, rfl, .inl rfl⟩, (Gr.refl _).alloc _⟩
  · have hn : ¬ r < 0 := by omega
    go_wp2_with fail
    go_ret
    exact ⟨⟨r, rfl, .inr ⟨h0, h1, h2⟩⟩, (Gr.refl _).alloc _⟩
set_option maxRecDepth 100000 in
set_option maxHeartbeats 2000000 in
theorem toBook_any (k l s : Int) (a : Option Addr) (cap n : Nat) (ss : List ByteArray) (hl : n = ss.length) (hn : n ≤ 1048576) (w : World) (hs : StrsOf w a ss) :
    Calls Try.prog 13 #[bookV k l s (.slice a n cap)] w fun e w' => e = .returned (bookV k l s (.slice (some ⟨w.heap.size + 3, 0, none⟩) n n)) ∧ w'.heap[w.heap.size + 3]? = some (.cells (strCells ss) 9 (0, 0)) ∧ Gr w w' := by
  have HC := hid (fun (V : World) (g : Gr w V) => toStringS_any a cap n ss hl hn V (hs.gr g))
  clear hs hl
  go_enter Try.func13, Try.ntmps13
  go_wp2_with fail
  refine (HC.out _ ((((Gr.refl _).alloc (.cells (bookC k l s (.slice a n cap)) 25)).alloc (.cells (bookC 0 0 0 (.slice none 0 0)) 29)).alloc (.cells (bookC k l s (.slice none 0 0)) 29))).mono ?_
  rintro e w' ⟨rfl, hb, g⟩
  have b1 := g.heap (heap_kept (o := .cells (bookC k l s (.slice none 0 0)) 29) (heap_new (w := w.alloc (.cells (bookC k l s (.slice a n cap)) 25)) (o := .cells (bookC 0 0 0 (.slice none 0 0)) 29) (n := w.heap.size + 1) (by simp)))
  have b2 := g.heap (heap_new (w := (w.alloc (.cells (bookC k l s (.slice a n cap)) 25)).alloc (.cells (bookC 0 0 0 (.slice none 0 0)) 29)) (o := .cells (bookC k l s (.slice none 0 0)) 29) (n := w.heap.size + 2) (by simp))
  have hbs : ∀ x : Nat, True := fun _ => trivial
  have c3 : w'.cell? ⟨w.heap.size + 2, 3, none⟩ = some (.slice none 0 0) := by rw [cell_of_row w' _ 3 _ _ _ b2]; rfl
  have f3 : w'.frozen? ⟨w.heap.size + 2, 3, none⟩ = false := frozen_of_row _ _ _ _ _ b2
  have HB1 := hid b1
  have HB2 := hid b2
  have HBS := hid hb
  have G := hid (((((Gr.refl w).alloc (.cells (bookC k l s (.slice a n cap)) 25)).alloc (.cells (bookC 0 0 0 (.slice none 0 0)) 29)).alloc (.cells (bookC k l s (.slice none 0 0)) 29)).trans g)
  clear b1 b2 hb g hbs
  have HB3 := hid (heap_setCell_same w' (w.heap.size + 2) 3 _ _ (.slice (some ⟨w.heap.size + 3, 0, none⟩) n n) HB2.out)
  have HB4 := hid ((heap_setCell_other w' ⟨w.heap.size + 2, 3, none⟩ (w.heap.size + 1) (.slice (some ⟨w.heap.size + 3, 0, none⟩) n n) (by simp)).trans HB1.out)
  have HBN : Hid (w'.heap[w.heap.size + 3]? = some (.cells (strCells ss) 9 (0, 0))) := hid (by have h := HBS.out; simp only [World.size_alloc] at h; exact h)
  have HB3' : Hid ((w'.setCell ⟨w.heap.size + 2, 3, none⟩ (.slice (some ⟨w.heap.size + 3, 0, none⟩) n n)).heap[w.heap.size + 2]? = some (.cells (bookC k l s (.slice (some ⟨w.heap.size + 3, 0, none⟩) n n)) 29 (0, 0))) := hid HB3.out
  go_wp2_with (first | (refine wpList_load_whole rfl 29 _ rfl _ rfl _ (bookC k l s (.slice (some ⟨w.heap.size + 3, 0, none⟩) n n)) _ HB3'.out Try.underlying29 rfl (by kernel_rfl) ?_) | (refine wpList_store_cells rfl 29 _ _ rfl _ (bookC k l s (.slice (some ⟨w.heap.size + 3, 0, none⟩) n n)) (bookC 0 0 0 (.slice none 0 0)) rfl rfl _ 4 HB4.out (by kernel_rfl) rfl rfl (by simp [Value.oneCell']) ?_))
  refine bodyPost_ret (results_cell_row (by rfl) _ _ _ _ _ _ _ rfl (heap_row_set HB4.out) Try.underlying29 rfl (by kernel_rfl)) rfl ⟨rfl, ?_, ?_⟩
  · rw [setRow_other _ _ _ _ (by omega), heap_setCell_other _ _ _ _ (by simp)]
    exact HBN.out
  · exact (G.out.setCell (p := ⟨w.heap.size + 2, 3, none⟩) (by dsimp only; omega) _).setRow (by omega) _
set_option maxRecDepth 100000 in
/-- Two equal books. -/
theorem eqBook_same (k l s : Int) (a b : Option Addr) (ca cb n : Nat) (ss : List ByteArray) (hl : n = ss.length) (hn : n ≤ 1048576) (w : World) (ha : StrsOf w a ss) (hb : StrsOf w b ss) :
    Calls Try.prog 15 #[bookV k l s (.slice a n ca), bookV k l s (.slice b n cb)] w fun e w' => e = .returned (.bool true) ∧ Gr w w' := by
  have HC := hid (fun (V : World) (g : Gr w V) => eqStringS_same a b ca cb n ss hl hn V (ha.gr g) (hb.gr g))
  clear ha hb hl
  go_enter Try.func15, Try.ntmps15
  go_wp2_with fail
  refine (HC.out _ (((Gr.refl _).alloc _).alloc _)).mono ?_
  rintro e w' ⟨rfl, g⟩
  have G := hid ((((Gr.refl w).alloc _).alloc _).trans g)
  clear g
  go_wp2_with fail
  go_ret
  exact ⟨rfl, G.out⟩
end Go.Proofs.Ytkbdblaciphmnaa
