/- Arrays of bytes as arguments: what they read as. -/
import Derived.Test.YtnkoakneffjkbaaDoorRows
import Derived.Test.YtnkoakneffjkbaaDoorKit
namespace Go.Proofs.YtnkoakneffjkbaaDoor
set_option linter.unusedVariables false
open Go.RowKit Go.ChangeShapes Go.WideShapes Go.ChangeAt

/-- The data of an array of bytes. -/
def byteData {H : Type} (xs : List Int) : DataW H := .agg (xs.map fun x => .lit (.int .u8 x))

section
variable {H : Type} {enc : TypeId × Value → H} {P : Program} {w : World} {base : Nat} {spare : Nat → Bool} {held : Bool}

theorem bytes_wf {x : Int} : (Lit.int .u8 x).wf = true ↔ 0 ≤ x ∧ x ≤ 255 := by
  simp [Lit.wf, IntKind.min, IntKind.max, IntKind.signed, IntKind.bits]

theorem open_bytes {r : Reach} {b0 : Nat} {t e : TypeId} {n : Nat} {v : Value} {d : DataW H} {ps : List MemPlace} (ht : P.underlying t = some (.array n e)) (he : P.underlying e = some (.int .u8)) (hce : P.cellsOf e = 1) (hct : P.cellsOf t = n)
    (hval : Value.okWide P w r b0 t v) (hd : DataW.Trod enc P w base spare held t v d ps) :
    ∃ xs : List Int, xs.length = n ∧ Bytes xs ∧ v = .agg (byteCells xs) ∧ d = byteData xs ∧ ps = [] := by
  obtain ⟨cs, rfl, hsz, _⟩ : ∃ cs, v = .agg cs ∧ cs.size = P.cellsOf t ∧ Row.okWide P w r b0 t cs := by
    simpa [Value.okWide, ht] using hval
  obtain ⟨l⟩ := cs
  rw [hct] at hsz
  simp at hsz
  obtain ⟨fuel, hf⟩ := hd
  obtain ⟨xs, m, rfl, hx, hcl, hl, hel⟩ := DataW.trod_array ht hf
  simp only [Value.cells] at hel hcl
  have key : ∀ i, i < n → ∃ z : Int, l[i]? = some (.int .u8 z) ∧ xs[i]? = some (.lit (.int .u8 z), []) ∧ (0 ≤ z ∧ z ≤ 255) := by
    intro i hi
    have h1 := hel i hi
    rw [hce, Nat.mul_one, List.getElem?_eq_getElem (by omega : i < xs.length)] at h1
    obtain ⟨z, e1, e2, e3⟩ := DataW.trod_int he h1
    have h3 : ((l.drop i).take 1)[0]? = some (.int .u8 z) := by rw [e1]; rfl
    refine ⟨z, by simpa using h3, ?_, bytes_wf.1 e3⟩
    rw [List.getElem?_eq_getElem (by omega : i < xs.length), e2]
  let zs : List Int := l.map fun v => match v with | .int _ z => z | _ => 0
  have hzl : zs.length = n := by simp [zs, hsz]
  have hzi : ∀ i, i < n → ∃ z, zs[i]? = some z ∧ l[i]? = some (.int .u8 z) ∧ xs[i]? = some (.lit (.int .u8 z), []) ∧ (0 ≤ z ∧ z ≤ 255) := by
    intro i hi
    obtain ⟨z, h1, h2, h3⟩ := key i hi
    exact ⟨z, by simp [zs, h1], h1, h2, h3⟩
  have hll : l = zs.map u8v := by
    apply List.ext_getElem?
    intro i
    by_cases hi : i < n
    · obtain ⟨z, h0, h1, _, _⟩ := hzi i hi
      rw [h1, List.getElem?_map, h0]; rfl
    · rw [List.getElem?_eq_none (by omega), List.getElem?_eq_none (by simp [hzl]; omega)]
  have hxx : xs = zs.map fun z => ((.lit (.int .u8 z), []) : DataW H × List MemPlace) := by
    apply List.ext_getElem?
    intro i
    by_cases hi : i < n
    · obtain ⟨z, h0, _, h2, _⟩ := hzi i hi
      rw [h2, List.getElem?_map, h0]; rfl
    · rw [List.getElem?_eq_none (by omega), List.getElem?_eq_none (by simp [hzl]; omega)]
  simp only [Prod.mk.injEq] at hx
  obtain ⟨rfl, rfl⟩ := hx
  refine ⟨zs, hzl, ?_, ?_, ?_, ?_⟩
  · intro x hx
    obtain ⟨i, hi, rfl⟩ := List.mem_iff_getElem.1 hx
    obtain ⟨z, h0, _, _, h3⟩ := hzi i (by omega)
    rw [List.getElem?_eq_getElem hi] at h0
    cases h0; exact h3
  · simp only [byteCells]; rw [← hll]
  · rw [hxx]; simp [byteData, Function.comp_def]
  · rw [hxx]; simp

theorem mapM_range_some {α : Type} (f : Nat → Option α) (l : List α) (h : ∀ i, (hi : i < l.length) → f i = some l[i]) : (List.range l.length).mapM f = some l := by
  have : ∀ (l : List α) (f : Nat → Option α) (k : Nat), (∀ i, (hi : i < l.length) → f (k + i) = some l[i]) → (List.range' k l.length).mapM f = some l := by
    intro l
    induction l with
    | nil => intro f k _; simp
    | cons a l ih =>
      intro f k h
      have h0 := h 0 (by simp)
      have ih' := ih f (k + 1) (fun i hi => by have := h (i + 1) (by simpa using hi); simpa [Nat.add_assoc, Nat.add_comm 1 i] using this)
      simp only [List.length_cons, List.range'_succ, List.mapM_cons]
      simp at h0
      simp [h0, ih']
  have := this l f 0 (by simpa using h)
  rwa [List.range_eq_range']

theorem shut_bytes {t e : TypeId} {n : Nat} {xs : List Int} (ht : P.underlying t = some (.array n e)) (he : P.underlying e = some (.int .u8)) (hce : P.cellsOf e = 1) (hct : P.cellsOf t = n) (hl : xs.length = n) (hb : Bytes xs) :
    DataW.Trod enc P w base spare held t (.agg (byteCells xs)) (byteData xs) [] := by
  refine ⟨2, ?_⟩
  show DataW.trod enc P w base spare held 2 t (byteCells xs).toList = some (byteData xs, [])
  subst hl
  have hm : (List.range xs.length).mapM (fun i => DataW.trod enc P w base spare held 1 e (((byteCells xs).toList.drop (i * P.cellsOf e)).take (P.cellsOf e))) = some (xs.map fun z => ((.lit (.int .u8 z), []) : DataW H × List MemPlace)) := by
    have := mapM_range_some (fun i => DataW.trod enc P w base spare held 1 e (((byteCells xs).toList.drop (i * P.cellsOf e)).take (P.cellsOf e))) (xs.map fun z => ((.lit (.int .u8 z), []) : DataW H × List MemPlace)) (by
      intro i hi
      simp only [List.length_map] at hi
      have hd : ((byteCells xs).toList.drop (i * P.cellsOf e)).take (P.cellsOf e) = [.int .u8 xs[i]] := by
        rw [hce, Nat.mul_one]
        have hi2 : i < (xs.map u8v).length := by simpa using hi
        simp only [byteCells]
        rw [List.drop_eq_getElem_cons hi2]
        simp
      have hw : (Lit.int .u8 xs[i]).wf = true := bytes_wf.2 (hb _ (List.getElem_mem hi))
      simp only [hd]
      simp [DataW.trod, he, hw])
    simpa using this
  unfold DataW.trod
  rw [ht]
  simp only []
  have hc : (byteCells xs).toList.length = P.cellsOf t := by simp [byteCells, hct]
  rw [if_pos hc, hm]
  simp [byteData, Function.comp_def]
end
end Go.Proofs.YtnkoakneffjkbaaDoor
