/- Lockers as arguments. -/
import Derived.Test.YtdighhkgopopeaaFrame
import Derived.Test.YtdighhkgopopeaaLock
import Derived.ChangeOld
import Derived.Below
import Derived.Lib.SmallJoins
namespace Go.Proofs.Ytdighhkgopopeaa
set_option linter.unusedVariables false
open Go.RowKit Go.ChangeShapes Go.WideShapes Go.ChangeAt Go.ChangeMaps
section
variable {H : Type} {enc : TypeId × Value → H} {P : Program} {w : World} {base : Nat} {spare : Nat → Bool} {held : Bool}
theorem open_arr_ints {k : IntKind} {t e : TypeId} {n fuel : Nat} {l : List Value} {x : DataW H × List MemPlace} (ht : P.underlying t = some (.array n e)) (he : P.underlying e = some (.int k)) (hce : P.cellsOf e = 1) (hl : l.length = n)
    (h : DataW.trod enc P w base spare held fuel t l = some x) : ∃ xs : List Int, xs.length = n ∧ Fits k xs ∧ l = xs.map (Value.int k) := by
  obtain ⟨ys, m, rfl, hx, hcl, hlen, hel⟩ := DataW.trod_array ht h
  have key : ∀ i, i < n → ∃ z : Int, l[i]? = some (.int k z) ∧ (Lit.int k z).wf = true := by
    intro i hi
    have h1 := hel i hi
    rw [hce, Nat.mul_one, List.getElem?_eq_getElem (by omega : i < ys.length)] at h1
    obtain ⟨z, e1, e2, e3⟩ := DataW.trod_int he h1
    have h3 : ((l.drop i).take 1)[0]? = some (.int k z) := by rw [e1]; rfl
    exact ⟨z, by simpa using h3, e3⟩
  refine ⟨l.map fun v => match v with | .int _ z => z | _ => 0, by simp [hl], ?_, ?_⟩
  · intro z hz
    obtain ⟨v, hv, rfl⟩ := List.mem_map.1 hz
    obtain ⟨i, hi, rfl⟩ := List.mem_iff_getElem.1 hv
    obtain ⟨z, h0, h3⟩ := key i (by omega)
    rw [List.getElem?_eq_getElem hi] at h0
    simp only [Option.some.injEq] at h0
    rw [h0]; exact h3
  · apply List.ext_getElem?
    intro i
    by_cases hi : i < n
    · obtain ⟨z, h0, _⟩ := key i hi
      rw [h0, List.getElem?_map, List.getElem?_map, h0]; rfl
    · rw [List.getElem?_eq_none (by omega), List.getElem?_eq_none (by simp [hl]; omega)]
end
set_option maxRecDepth 100000 in
theorem open_locker {H : Type} {enc : TypeId × Value → H} {w : World} {r : Reach} {b0 : Nat} {v : Value} {d : DataW H} {ps : List MemPlace} (hv : Value.okWide Try.prog w r b0 26 v) (h : DataW.Trod enc Try.prog w 0 (fun _ => true) true 26 v d ps) :
    ∃ xs : List Int, xs.length = 44 ∧ Fits .i16 xs ∧ v = .agg (kCells .i16 xs) := by
  obtain ⟨cs, rfl, hsz⟩ := okWide_struct Try.underlying26 hv
  have hsz' : cs.size = 44 := hsz.trans (by kernel_rfl)
  obtain ⟨fuel, hf⟩ := h
  obtain ⟨y0, y1, n, hx, _, h0, h1⟩ := trod_struct2 Try.underlying26 hf
  have h0' : DataW.trod enc Try.prog w 0 (fun _ => true) true n 23 ((cs.toList.drop 0).take 40) = some y0 := by
    have e : Try.prog.cellsOf 23 = 40 := by kernel_rfl
    rw [← e]; exact h0
  have h1' : DataW.trod enc Try.prog w 0 (fun _ => true) true n 24 ((cs.toList.drop 40).take 4) = some y1 := by
    have e : Try.prog.cellsOf 24 = 4 := by kernel_rfl
    rw [← e]; exact h1
  obtain ⟨fs, l0, f0, e0⟩ := open_arr_ints Try.underlying23 Try.underlying22 (by kernel_rfl) (by simp [hsz']) h0'
  obtain ⟨ss, l1, f1, e1⟩ := open_arr_ints Try.underlying24 Try.underlying22 (by kernel_rfl) (by simp [hsz']) h1'
  refine ⟨fs ++ ss, by simp [l0, l1], fun x hx => (List.mem_append.1 hx).elim (f0 x) (f1 x), ?_⟩
  have : cs.toList = fs.map (Value.int .i16) ++ ss.map (Value.int .i16) := by
    rw [← e0, ← e1, List.drop_zero, List.take_of_length_le (l := cs.toList.drop 40) (by simp [hsz']), List.take_append_drop]
  simp only [kCells, List.map_append, ← this]
end Go.Proofs.Ytdighhkgopopeaa
