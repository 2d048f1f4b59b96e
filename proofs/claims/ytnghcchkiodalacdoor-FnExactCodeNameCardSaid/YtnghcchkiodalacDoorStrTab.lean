/- A package-level table of strings: what the condition 'laid' gives. -/
import Derived.Test.YtnghcchkiodalacDoorKit
import Derived.Test.YtnghcchkiodalacDoorRows
import Derived.ProofKit
import Derived.OpenShut
import Derived.ChangeVars
import Derived.Deep.DeepHandedRow
import Derived.Lib.LaidTab
namespace Go.Proofs.YtnghcchkiodalacDoor
open Go.RowKit Go.ChangeShapes Go.WideShapes Go.ChangeAt
def strCells (names : List (List UInt8)) : Array Value := (names.map fun l => Value.string ⟨l.toArray⟩).toArray
def strData {H : Type} (names : List (List UInt8)) : DataW H := .agg (names.map fun l => .lit (.string l))
theorem strCells_get (names : List (List UInt8)) (i : Nat) (h : i < names.length) : (strCells names)[i]? = some (.string ⟨(names.getD i []).toArray⟩) := by
  simp [strCells, List.getElem?_eq_getElem h, List.getD]
theorem str_of_trod {H : Type} {enc : TypeId × Value → H} {P : Program} {w : World} {base : Nat} {sp : Nat → Bool} {held : Bool} {fuel n : Nat} {t e : TypeId} {cs : Array Value} {names : List (List UInt8)} {q : List MemPlace}
    (ht : P.underlying t = some (.array n e)) (he : P.underlying e = some .string) (hce : P.cellsOf e = 1) (hct : P.cellsOf t = n)
    (hd : DataW.trod enc P w base sp held fuel t cs.toList = some (strData names, q)) : cs = strCells names := by
  obtain ⟨xs, m, _, hx, hcl, hl, hel⟩ := DataW.trod_array ht hd
  simp only [strData, Prod.mk.injEq, DataW.agg.injEq] at hx
  have hnl : names.length = n := by
    have := congrArg List.length hx.1
    simpa [hl] using this
  have key : ∀ i, i < n → cs.toList[i]? = some (.string ⟨(names.getD i []).toArray⟩) := by
    intro i hi
    have h1 := hel i hi
    rw [hce, Nat.mul_one, List.getElem?_eq_getElem (by omega : i < xs.length)] at h1
    obtain ⟨s, e1, e2, _⟩ := DataW.trod_string he h1
    have h2 : (xs.map (·.1))[i]? = some (.lit (.string s.data.toList)) := by
      rw [List.getElem?_map, List.getElem?_eq_getElem (by omega : i < xs.length), e2]; rfl
    rw [← hx.1, List.getElem?_map, List.getElem?_eq_getElem (by omega : i < names.length)] at h2
    simp only [Option.map_some, Option.some.injEq, DataW.lit.injEq, Lit.string.injEq] at h2
    have h3 : ((cs.toList.drop i).take 1)[0]? = some (.string s) := by rw [e1]; rfl
    have h4 : cs.toList[i]? = some (.string s) := by simpa using h3
    rw [h4]
    have h5 : names.getD i [] = s.data.toList := by simpa [List.getD, List.getElem?_eq_getElem (by omega : i < names.length)] using h2
    rw [h5]
  apply Array.ext'
  apply List.ext_getElem?
  intro i
  by_cases hi : i < n
  · rw [key i hi]
    have := strCells_get names i (by omega)
    simpa using this.symm
  · rw [List.getElem?_eq_none (by rw [hcl, hct]; omega), List.getElem?_eq_none (by simp [strCells]; omega)]
theorem strTab_of_head {P : Program} {W : World} {name : String} {names : List (List UInt8)} {rest : List (String × DataW Unit)} {g : Nat} {t e : TypeId} {n : Nat}
    (hg : P.globalNamed name = some g) (hty : (P.globals[g]?).map (·.type) = some t) (ht : P.underlying t = some (.array n e)) (he : P.underlying e = some .string) (hce : P.cellsOf e = 1) (hct : P.cellsOf t = n)
    (h : laidMet P ((name, strData names) :: rest) W) : W.var? P name = some (strCells names) := by
  obtain ⟨ps, ⟨g', t', cs, fuel, p, q, hg', ht', hvar, hd, _, _⟩, _⟩ := h
  obtain rfl := Option.some.inj (hg.symm.trans hg')
  obtain rfl := Option.some.inj (hty.symm.trans ht')
  rw [hvar, str_of_trod ht he hce hct hd]
end Go.Proofs.YtnghcchkiodalacDoor
