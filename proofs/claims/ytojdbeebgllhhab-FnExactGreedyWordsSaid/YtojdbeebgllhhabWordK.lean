/- Words that are handed back: what is made of bytes. -/
import Derived.Test.YtojdbeebgllhhabWord1
import Derived.Test.YtojdbeebgllhhabWordN
namespace Go.Proofs.Ytojdbeebgllhhab
open Go.RowKit
theorem infoW : (Try.prog.info? 5).map (fun i => (i.zero, i.size, i.bytes)) = some (some (.int .u8 0), 1, 1) := by kernel_rfl
theorem Own.appendedW {k : IntKind} {e : TypeId} {w1 : World} {lo m j : Nat} {v : Value} {ys zs us : List Int} (h : w1.ownsRow lo e 1 v (m + j) (ys.map (Value.int k) ++ us.map (Value.int k))) (hz : zs = ys ++ us) (hm : ys.length = m) (hj : us.length = j) : Own k e w1 lo w1.heap.size v zs :=
  Own.ofRow h (by rw [hz, List.map_append]) (by rw [hz, List.length_append, hm, hj])
theorem ret_emptyW {k : IntKind} {e : TypeId} {w w1 : World} (g : Gr w w1) (mk : Value → Value) : RetOwn k e mk [] w (.returned (mk (.slice (some ⟨w1.heap.size, 0, none⟩) 0 0))) (w1.alloc (.cells #[] e)) :=
  ⟨_, rfl, (Own.new (k := k) (e := e) w1 [] (by simp)).widen g.size (by simp), g.alloc _⟩
theorem ret_nilW {k : IntKind} {e : TypeId} {w w1 : World} (g : Gr w w1) (mk : Value → Value) : RetOwn k e mk [] w (.returned (mk (.slice none 0 0))) w1 := ⟨_, rfl, Own.nil _ _ _, g⟩
theorem Own.capW {k : IntKind} {e : TypeId} {w : World} {lo hi n cap : Nat} {a : Option Addr} {xs : List Int} (h : Own k e w lo hi (.slice a n cap) xs) : n ≤ cap := by
  have hl := h.len
  subst hl
  rcases h.row.2 with ⟨h1, h2⟩ | ⟨g', cap', cur, h1, _, _, h2, _⟩
  · omega
  · simp only [Value.slice.injEq] at h1
    obtain ⟨_, _, rfl⟩ := h1
    exact h2
theorem shapeW {w : World} {lo m n : Nat} {e : TypeId} {v : Value} {ys : List Value} (h : w.ownsRow lo e 1 v m ys) (hm : m = n) (hn : 1 ≤ n) : ∃ g c, v = .slice (some ⟨g, 0, none⟩) n c := by
  subst hm
  rcases h.2 with ⟨h1, h2⟩ | ⟨g', cap, cur, h1, _⟩
  · omega
  · exact ⟨_, _, h1⟩
theorem onesW (xs : List Int) : ∀ u ∈ xs.map (Value.int .u8), u.oneCell' = true := by
  intro u hu; simp only [List.mem_map] at hu; obtain ⟨x, _, rfl⟩ := hu; rfl
theorem newsW {w V : World} {b off : Nat} {xs : List Int} (hs : SliceOf .u8 w (some ⟨b, off, none⟩) xs) (g : Gr w V) : ∀ j u, (xs.map (Value.int .u8))[j]? = some u → V.cell? ((⟨b, off, none⟩ : Addr).add j) = some u := by
  intro j u hu
  rw [List.getElem?_map] at hu
  cases hx : xs[j]? with
  | none => rw [hx] at hu; cases hu
  | some x =>
    rw [hx] at hu
    have hjl : j < xs.length := (List.getElem?_eq_some_iff.1 hx).1
    obtain ⟨b', off', e, hc⟩ := hs j hjl
    simp only [Option.some.injEq, Addr.mk.injEq] at e
    obtain ⟨rfl, rfl, _⟩ := e
    have hadd : (⟨b, off, none⟩ : Addr).add j = ⟨b, off + j, none⟩ := by unfold Addr.add; split <;> simp_all
    rw [hadd, g.cell hc]
    simp only [Option.map_some, Option.some.injEq] at hu
    rw [← hu]
    simp [List.getD, hx]
theorem cells_newW (w : World) (xs : List Int) (t : TypeId) : ∀ j u, (xs.map (Value.int .u8))[j]? = some u → (w.alloc (.cells (kCells .u8 xs) t)).cell? ((⟨w.heap.size, 0, none⟩ : Addr).add j) = some u :=
  newsW (w := w.alloc (.cells (kCells .u8 xs) t)) (b := w.heap.size) (off := 0) (sliceOf_block (heap_new rfl)) (Gr.refl _)
end Go.Proofs.Ytojdbeebgllhhab
