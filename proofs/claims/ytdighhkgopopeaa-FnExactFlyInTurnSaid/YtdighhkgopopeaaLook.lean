/- The model's search of hoists: its state; at the end of a hoist. -/
import Derived.Test.YtdighhkgopopeaaSearchM
import Derived.Deep.AppendLies
namespace Go.Proofs.Ytdighhkgopopeaa
set_option linter.unusedVariables false
open Go.RowKit
/-- Of what was there only one block has turned. -/
def Mt (Bs : Nat) (w w' : World) : Prop := w.grownBy w' (some Bs)
theorem Mt.refl (Bs : Nat) (w : World) : Mt Bs w w := ⟨rfl, rfl, rfl, Nat.le_refl _, fun _ _ _ => rfl⟩
theorem Mt.size {Bs : Nat} {w w' : World} (h : Mt Bs w w') : w.heap.size ≤ w'.heap.size := World.grownBy.size h
theorem Mt.by_ {Bs : Nat} {w w1 w2 : World} {row : Option Nat} (h : Mt Bs w w1) (g : w1.grownBy w2 row) (hr : ∀ k, row = some k → k = Bs ∨ w.heap.size ≤ k) : Mt Bs w w2 := by
  refine ⟨g.os.trans h.os, g.tape.trans h.tape, g.output.trans h.output, Nat.le_trans h.size g.size, fun k hk hne => ?_⟩
  rw [g.block k (Nat.lt_of_lt_of_le hk h.size) (fun e => ?_)]
  · exact h.block k hk hne
  · rcases hr k e.symm with e1 | e1
    · exact hne (by rw [e1])
    · omega
theorem Mt.trans {Bs : Nat} {w w1 w2 : World} (h : Mt Bs w w1) (g : Mt Bs w1 w2) : Mt Bs w w2 := h.by_ (World.grownBy.mk g.os g.tape g.output g.size g.block) (fun k e => .inl (by cases e; rfl))
theorem Mt.gr {Bs : Nat} {w w1 w2 : World} (h : Mt Bs w w1) (g : Gr w1 w2) : Mt Bs w w2 :=
  h.by_ (row := none) ⟨g.1, g.2, g.3, g.4, fun k hk _ => g.5 k hk⟩ (fun k e => by cases e)
theorem Mt.set {Bs : Nat} {w w1 : World} (h : Mt Bs w w1) (i : Nat) (v : Value) : Mt Bs w (w1.setCell ⟨Bs, i, none⟩ v) :=
  h.by_ (row := some Bs) ⟨rfl, rfl, rfl, by simp, fun k _ hne => heap_setCell_other w1 ⟨Bs, i, none⟩ k v (fun e => hne (by rw [e]))⟩ (fun k e => .inl (by cases e; rfl))
theorem Mt.drewN {Bs : Nat} {w w1 : World} (h : Mt Bs w w1) (n : Nat) : Mt Bs w (w1.drewN n) := h.gr ((Gr.refl _).drewN n)
theorem Mt.cell {Bs : Nat} {w w' : World} (h : Mt Bs w w') {a : Addr} {v : Value} (hc : w.cell? a = some v) (hne : a.block ≠ Bs) : w'.cell? a = some v :=
  World.grownBy.cell h hc (fun e => hne (by cases e; rfl))
theorem Mt.slice {Bs : Nat} {k : IntKind} {w w' : World} {b o : Nat} {xs : List Int} (h : Mt Bs w w') (hs : SliceOf k w (some ⟨b, o, none⟩) xs) (hne : b ≠ Bs) : SliceOf k w' (some ⟨b, o, none⟩) xs := by
  intro i hi
  obtain ⟨b', o', e, hc⟩ := hs i hi
  refine ⟨b', o', e, h.cell hc ?_⟩
  simp only [Option.some.injEq, Addr.mk.injEq, and_true] at e
  obtain ⟨rfl, rfl⟩ := e
  exact hne
theorem Mt.below {Bs B : Nat} {w w' : World} (h : Mt Bs w w') (hB : B ≤ Bs) (hB2 : B ≤ w.heap.size) : Below B w w' :=
  ⟨h.os, h.tape, h.output, h.size, fun k hk => h.block k (by omega) (fun e => by cases e; omega)⟩
/-- What has been found so far: how many, and the first one. -/
def FstOk (w : World) (Bs : Nat) (L : List (List Int)) (F : Value) : Prop :=
  match L with
  | [] => F = .slice none 0 0
  | h :: _ => Own .i8 59 w (Bs + 1) w.heap.size F h
theorem news_of_slice {w : World} {b o : Nat} {xs : List Int} (hs : SliceOf .i8 w (some ⟨b, o, none⟩) xs) : ∀ j u, (xs.map (Value.int .i8))[j]? = some u → w.cell? ((⟨b, o, none⟩ : Addr).add j) = some u := by
  intro j u hj
  have hadd : (⟨b, o, none⟩ : Addr).add j = ⟨b, o + j, none⟩ := by unfold Addr.add; split <;> simp_all
  have hjl : j < xs.length := by
    rcases Nat.lt_or_ge j xs.length with h | h
    · exact h
    · simp [List.getElem?_eq_none (show (xs.map (Value.int .i8)).length ≤ j by simpa using h)] at hj
  obtain ⟨b', o', e, hc⟩ := hs j hjl
  simp only [Option.some.injEq, Addr.mk.injEq, and_true] at e
  obtain ⟨rfl, rfl⟩ := e
  rw [hadd, hc]
  simp [List.getElem?_eq_getElem hjl] at hj
  subst hj
  simp [List.getD, List.getElem?_eq_getElem hjl]
theorem cell_l1 (w : World) (v : Value) (t : TypeId) : ∀ j u, [v][j]? = some u → (w.alloc (.cells #[v] t)).cell? ((⟨w.heap.size, 0, none⟩ : Addr).add j) = some u := by
  intro j u hj
  match j, hj with
  | 0, hj => simp at hj; subst hj; simp [Addr.add]
end Go.Proofs.Ytdighhkgopopeaa
