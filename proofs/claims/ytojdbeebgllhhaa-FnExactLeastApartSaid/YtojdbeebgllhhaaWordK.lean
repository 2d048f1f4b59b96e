/- Words that are handed back: what is made of bytes. -/
import Derived.Test.YtojdbeebgllhhaaWord1
import Derived.Test.YtojdbeebgllhhaaWordN
namespace Go.Proofs.Ytojdbeebgllhhaa
open Go.RowKit
theorem infoW : (Try.prog.info? 5).map (fun i => (i.zero, i.size, i.bytes)) = some (some (.int .u8 0), 1, 1) := by kernel_rfl
theorem Own.appendedW {k : IntKind} {e : TypeId} {w1 : World} {lo m j : Nat} {v : Value} {ys zs us : List Int} (h : w1.ownsRow lo e 1 v (m + j) (ys.map (Value.int k) ++ us.map (Value.int k))) (hz : zs = ys ++ us) (hm : ys.length = m) (hj : us.length = j) : Own k e w1 lo w1.heap.size v zs :=
  Own.ofRow h (by rw [hz, List.map_append]) (by rw [hz, List.length_append, hm, hj])
theorem ret_emptyW {k : IntKind} {e : TypeId} {w w1 : World} (g : Gr w w1) (mk : Value → Value) : RetOwn k e mk [] w (.returned (mk (.slice (some ⟨w1.heap.size, 0, none⟩) 0 0))) (w1.alloc (.cells #[] e)) :=
  ⟨_, rfl, (Own.new (k := k) (e := e) w1 [] (by simp)).widen g.size (by simp), g.alloc _⟩
theorem ret_nilW {k : IntKind} {e : TypeId} {w w1 : World} (g : Gr w w1) (mk : Value → Value) : RetOwn k e mk [] w (.returned (mk (.slice none 0 0))) w1 := ⟨_, rfl, Own.nil _ _ _, g⟩
theorem Own.capW {k : IntKind} {e : TypeId} {w : World} {lo hi n cap : Nat} {a : Option Addr} {xs : List Int} (h : Own k e w lo hi (.slice a n cap) xs) : n ≤ cap := by
  have hl := h.len
  subst hl
  rcases h.row.2 with ⟨h1, h2⟩ | ⟨g', cap', cur, h1, _, _, h2, _⟩
  · omega
  · simp only [Value.slice.injEq] at h1
    obtain ⟨_, _, rfl⟩ := h1
    exact h2
theorem shapeW {w : World} {lo m n : Nat} {e : TypeId} {v : Value} {ys : List Value} (h : w.ownsRow lo e 1 v m ys) (hm : m = n) (hn : 1 ≤ n) : ∃ g c, v = .slice (some ⟨g, 0, none⟩) n c := by
  subst hm
  rcases h.2 with ⟨h1, h2⟩ | ⟨g', cap, cur, h1, _⟩
  · omega
  · exact ⟨_, _, h1⟩
theorem onesW (xs : List Int) : ∀ u ∈ xs.map (Value.int .u8), u.oneCell' = true := by
  intro u hu; simp only [List.mem_map] at hu; obtain ⟨x, _, rfl⟩ := hu; rfl
theorem newsW {w V : World} {b off : Nat} {xs : List Int} (hs : SliceOf .u8 w (some ⟨b, off, none⟩) xs) (g : Gr w V) : ∀ j u, (xs.map (Value.int .u8))[j]? = some u → V.cell? ((⟨b, off, none⟩ : Addr).add j) = some u := by
  intro j u hu
  rw [List.getElem?_map] at hu
  cases hx : xs[j]? with
  | none => rw [hx] at hu; cases hu
  | some x =>
    rw [hx] at hu
    have hjl : j < xs.length := (List.getElem?_eq_some_iff.1 hx).1
    obtain ⟨b', off', e, hc⟩ := hs j hjl
    simp only [Option.some.injEq, Addr.mk.injEq] at e
    obtain ⟨rfl, rfl, _⟩ := e
    have hadd : (⟨b, off, none⟩ : Addr).add j = ⟨b, off + j, none⟩ := by unfold Addr.add; split <;> simp_all
    rw [hadd, g.cell hc]
    simp only [Option.map_some, Option.some.injEq] at hu
    rw [← hu]
    simp [List.getD, hx]
theorem cells_newW (w : World) (xs : List Int) (t : TypeId) : ∀ j u, (xs.map (Value.int .u8))[j]? = some u → (w.alloc (.cells (kCells .u8 xs) t)).cell? ((⟨w.heap.size, 0, none⟩ : Addr).add j) = some u :=
  newsW (w := w.alloc (.cells (kCells .u8 xs) t)) (b := w.heap.size) (off := 0) (sliceOf_block (heap_new rfl)) (Gr.refl _)
set_option maxRecDepth 100000 in
set_option maxHeartbeats 1000000 in
theorem cloneWord_any (a : Option Addr) (n cap : Nat) (xs : List Int) (hn : n = xs.length) (h1 : 1 ≤ n) (hm : n ≤ 1048576) (w : World) (hs : SliceOf .u8 w a xs) :
    Calls Try.prog 70 #[.slice a n cap] w (RetOwn .u8 5 (fun v => v) xs w) := by
  obtain ⟨i0, hi, hz0, hz1, hz2⟩ := info_parts infoW
  obtain ⟨b, off, rfl, _⟩ := hs 0 (by omega)
  have NEWS := hid (newsW hs ((Gr.refl w).alloc (.cells #[] 5)))
  have HN := hid hn
  have ROW := hid (Own.new (k := .u8) (e := 5) w [] (by simp)).row
  have ONE := hid (onesW xs)
  have HL := hid (show (xs.map (Value.int .u8)).length = n * 1 by rw [List.length_map, ← hn, Nat.mul_one])
  clear hs hn
  have hnil := fun (w : World) => Lib.run_eql_slice_nil (P := Try.prog) w 25 5 (some ⟨b, off, none⟩) n cap 0 0 Try.underlying25
  go_enter Try.func70, Try.ntmps70
  go_wp2_with (at_builtin; refine wpList_append_own _ rfl _ _ 25 rfl w.heap.size 5 i0 (.int .u8 0) 1 1 Try.underlying25 hi hz0 hz1 hz2 rfl (by decide) _ _ _ rfl ROW.out ⟨b, off, none⟩ n cap (xs.map (Value.int .u8)) rfl HL.out NEWS.out ONE.out (by unfold maxLen; simp; omega) (by simp; omega) (by simp) ?_; intro v' w1 hown' hgrow _)
  have O := hid (Own.ofRow (k := .u8) (xs := xs) hown' rfl (by rw [← HN.out]; simp))
  have G := hid (((Gr.refl w).alloc (.cells #[] 5)).by_ hgrow (fun k e => by have e' : some w.heap.size = some k := e; simp only [Option.some.injEq] at e'; omega))
  clear hown' hgrow
  go_wp2_with fail
  go_ret
  exact ⟨_, rfl, O.out, G.out⟩
end Go.Proofs.Ytojdbeebgllhhaa
