/- Arrays of bytes as arguments: what they read as. -/
import Derived.Test.YtfaiehjomcgjgaaDoorRows
import Derived.Test.YtfaiehjomcgjgaaDoorGKit
import Derived.ChangeOld
import Derived.Below
import Derived.SliceStrings
import Derived.Lib.SmallJoins
namespace Go.Proofs.YtfaiehjomcgjgaaDoor
set_option linter.unusedVariables false
open Go.RowKit Go.ChangeShapes Go.WideShapes Go.ChangeAt

/-- The data of an array of bytes. -/
def byteData {H : Type} (xs : List Int) : DataW H := .agg (xs.map fun x => .lit (.int .u8 x))

section
variable {H : Type} {enc : TypeId × Value → H} {P : Program} {w : World} {base : Nat} {spare : Nat → Bool} {held : Bool}

theorem bytes_wf {x : Int} : (Lit.int .u8 x).wf = true ↔ 0 ≤ x ∧ x ≤ 255 := by
  simp [Lit.wf, IntKind.min, IntKind.max, IntKind.signed, IntKind.bits]

theorem open_bytes {r : Reach} {b0 : Nat} {t e : TypeId} {n : Nat} {v : Value} {d : DataW H} {ps : List MemPlace} (ht : P.underlying t = some (.array n e)) (he : P.underlying e = some (.int .u8)) (hce : P.cellsOf e = 1) (hct : P.cellsOf t = n)
    (hval : Value.okWide P w r b0 t v) (hd : DataW.Trod enc P w base spare held t v d ps) :
    ∃ xs : List Int, xs.length = n ∧ Bytes xs ∧ v = .agg (byteCells xs) ∧ d = byteData xs ∧ ps = [] := by
  obtain ⟨cs, rfl, hsz, _⟩ : ∃ cs, v = .agg cs ∧ cs.size = P.cellsOf t ∧ Row.okWide P w r b0 t cs := by
    simpa [Value.okWide, ht] using hval
  obtain ⟨l⟩ := cs
  rw [hct] at hsz
  simp at hsz
  obtain ⟨fuel, hf⟩ := hd
  obtain ⟨xs, m, rfl, hx, hcl, hl, hel⟩ := DataW.trod_array ht hf
  simp only [Value.cells] at hel hcl
  have key : ∀ i, i < n → ∃ z : Int, l[i]? = some (.int .u8 z) ∧ xs[i]? = some (.lit (.int .u8 z), []) ∧ (0 ≤ z ∧ z ≤ 255) := by
    intro i hi
    have h1 := hel i hi
    rw [hce, Nat.mul_one, List.getElem?_eq_getElem (by omega : i < xs.length)] at h1
    obtain ⟨z, e1, e2, e3⟩ := DataW.trod_int he h1
    have h3 : ((l.drop i).take 1)[0]? = some (.int .u8 z) := by rw [e1]; rfl
    refine ⟨z, by simpa using h3, ?_, bytes_wf.1 e3⟩
    rw [List.getElem?_eq_getElem (by omega : i < xs.length), e2]
  let zs : List Int := l.map fun v => match v with | .int _ z => z | _ => 0
  have hzl : zs.length = n := by simp [zs, hsz]
  have hzi : ∀ i, i < n → ∃ z, zs[i]? = some z ∧ l[i]? = some (.int .u8 z) ∧ xs[i]? = some (.lit (.int .u8 z), []) ∧ (0 ≤ z ∧ z ≤ 255) := by
    intro i hi
    obtain ⟨z, h1, h2, h3⟩ := key i hi
    exact ⟨z, by simp [zs, h1], h1, h2, h3⟩
  have hll : l = zs.map u8v := by
    apply List.ext_getElem?
    intro i
    by_cases hi : i < n
    · obtain ⟨z, h0, h1, _, _⟩ := hzi i hi
      rw [h1, List.getElem?_map, h0]; rfl
    · rw [List.getElem?_eq_none (by omega), List.getElem?_eq_none (by simp [hzl]; omega)]
  have hxx : xs = zs.map fun z => ((.lit (.int .u8 z), []) : DataW H × List MemPlace) := by
    apply List.ext_getElem?
    intro i
    by_cases hi : i < n
    · obtain ⟨z, h0, _, h2, _⟩ := hzi i hi
      rw [h2, List.getElem?_map, h0]; rfl
    · rw [List.getElem?_eq_none (by omega), List.getElem?_eq_none (by simp [hzl]; omega)]
  simp only [Prod.mk.injEq] at hx
  obtain ⟨rfl, rfl⟩ := hx
  refine ⟨zs, hzl, ?_, ?_, ?_, ?_⟩
  · intro x hx
    obtain ⟨i, hi, rfl⟩ := List.mem_iff_getElem.1 hx
    obtain ⟨z, h0, _, _, h3⟩ := hzi i (by omega)
    rw [List.getElem?_eq_getElem hi] at h0
    cases h0; exact h3
  · simp only [byteCells]; rw [← hll]
  · rw [hxx]; simp [byteData, Function.comp_def]
  · rw [hxx]; simp

theorem mapM_range_some {α : Type} (f : Nat → Option α) (l : List α) (h : ∀ i, (hi : i < l.length) → f i = some l[i]) : (List.range l.length).mapM f = some l := by
  have : ∀ (l : List α) (f : Nat → Option α) (k : Nat), (∀ i, (hi : i < l.length) → f (k + i) = some l[i]) → (List.range' k l.length).mapM f = some l := by
    intro l
    induction l with
    | nil => intro f k _; simp
    | cons a l ih =>
      intro f k h
      have h0 := h 0 (by simp)
      have ih' := ih f (k + 1) (fun i hi => by have := h (i + 1) (by simpa using hi); simpa [Nat.add_assoc, Nat.add_comm 1 i] using this)
      simp only [List.length_cons, List.range'_succ, List.mapM_cons]
      simp at h0
      simp [h0, ih']
  have := this l f 0 (by simpa using h)
  rwa [List.range_eq_range']

theorem shut_bytes {t e : TypeId} {n : Nat} {xs : List Int} (ht : P.underlying t = some (.array n e)) (he : P.underlying e = some (.int .u8)) (hce : P.cellsOf e = 1) (hct : P.cellsOf t = n) (hl : xs.length = n) (hb : Bytes xs) :
    DataW.Trod enc P w base spare held t (.agg (byteCells xs)) (byteData xs) [] := by
  refine ⟨2, ?_⟩
  show DataW.trod enc P w base spare held 2 t (byteCells xs).toList = some (byteData xs, [])
  subst hl
  have hm : (List.range xs.length).mapM (fun i => DataW.trod enc P w base spare held 1 e (((byteCells xs).toList.drop (i * P.cellsOf e)).take (P.cellsOf e))) = some (xs.map fun z => ((.lit (.int .u8 z), []) : DataW H × List MemPlace)) := by
    have := mapM_range_some (fun i => DataW.trod enc P w base spare held 1 e (((byteCells xs).toList.drop (i * P.cellsOf e)).take (P.cellsOf e))) (xs.map fun z => ((.lit (.int .u8 z), []) : DataW H × List MemPlace)) (by
      intro i hi
      simp only [List.length_map] at hi
      have hd : ((byteCells xs).toList.drop (i * P.cellsOf e)).take (P.cellsOf e) = [.int .u8 xs[i]] := by
        rw [hce, Nat.mul_one]
        have hi2 : i < (xs.map u8v).length := by simpa using hi
        simp only [byteCells]
        rw [List.drop_eq_getElem_cons hi2]
        simp
      have hw : (Lit.int .u8 xs[i]).wf = true := bytes_wf.2 (hb _ (List.getElem_mem hi))
      simp only [hd]
      simp [DataW.trod, he, hw])
    simpa using this
  unfold DataW.trod
  rw [ht]
  simp only []
  have hc : (byteCells xs).toList.length = P.cellsOf t := by simp [byteCells, hct]
  rw [if_pos hc, hm]
  simp [byteData, Function.comp_def]
end
end Go.Proofs.YtfaiehjomcgjgaaDoor

/- Slices of integers as arguments. -/
namespace Go.Proofs.YtfaiehjomcgjgaaDoor
set_option linter.unusedVariables false
open Go.RowKit Go.ChangeShapes Go.WideShapes Go.ChangeAt
section
variable {H : Type} {enc : TypeId × Value → H} {P : Program} {w : World}
theorem open_slice_ints {k : IntKind} {t e : TypeId} {a : Option Addr} {len cap : Nat} {d : DataW H} {ps : List MemPlace} (ht : P.underlying t = some (.slice e)) (he : P.underlying e = some (.int k)) (hce : P.cellsOf e = 1)
    (h : DataW.Trod enc P w 0 (fun _ => true) true t (.slice a len cap) d ps) : ∃ xs : List Int, len = xs.length ∧ Fits k xs ∧ SliceOf k w a xs ∧ len ≤ maxLen := by
  obtain ⟨fuel, hf⟩ := h
  rcases open_ints ht he hce hf with ⟨hcs, _⟩ | ⟨x, l, c, zs, hcs, _, hl, hm, hz, _, hcell, hwz⟩
  · simp [Value.cells] at hcs
    obtain ⟨rfl, rfl, rfl⟩ := hcs
    exact ⟨[], rfl, fun _ h => (by cases h), fun i hi => (by simp at hi), Nat.zero_le _⟩
  · simp [Value.cells] at hcs
    obtain ⟨rfl, rfl, rfl⟩ := hcs
    have hz' : zs.length = cap := by simpa using hz
    refine ⟨zs.take len, by simp; omega, fun y hy => hwz y (List.mem_of_mem_take hy), ?_, Nat.le_trans hl hm⟩
    intro i hi
    have hi' : i < len := by simp at hi; omega
    obtain ⟨b, off, spot⟩ := x
    have h0 := hcell 0 (by omega)
    have hspot : spot = none := by
      cases spot with
      | none => rfl
      | some s =>
        exfalso
        unfold Addr.add World.cell? at h0
        simp at h0
        cases hb : w.heap[b]? with
        | none => rw [hb] at h0; simp at h0
        | some o => rw [hb] at h0; cases o <;> simp at h0
    subst hspot
    refine ⟨b, off, rfl, ?_⟩
    have hc := hcell i (by omega)
    have hadd : (⟨b, off, none⟩ : Addr).add i = ⟨b, off + i, none⟩ := by unfold Addr.add; split <;> simp_all
    rw [hadd] at hc
    rw [hc]
    have : (zs.take len).getD i 0 = zs.getD i 0 := by simp [List.getD, hi']
    rw [this]
end
end Go.Proofs.YtfaiehjomcgjgaaDoor

/- Books as arguments. -/
namespace Go.Proofs.YtfaiehjomcgjgaaDoor
set_option linter.unusedVariables false
open Go.RowKit Go.ChangeShapes Go.WideShapes Go.ChangeAt Go.ChangeMaps
section
variable {H : Type} {enc : TypeId × Value → H} {P : Program} {w : World}
theorem open_field_int {k : IntKind} {e : TypeId} {n : Nat} {v : Value} {y : DataW H × List MemPlace} (he : P.underlying e = some (.int k)) (h : DataW.trod enc P w 0 (fun _ => true) true n e [v] = some y) : ∃ x : Int, v = .int k x := by
  obtain ⟨x, hx, _⟩ := DataW.trod_int he h
  simp at hx
  exact ⟨x, hx⟩
theorem open_field_strs {t e : TypeId} {n : Nat} {v : Value} {y : DataW H × List MemPlace} (ht : P.underlying t = some (.slice e)) (he : P.underlying e = some .string) (hc : P.cellsOf e = 1) (h : DataW.trod enc P w 0 (fun _ => true) true n t [v] = some y) :
    ∃ (a : Option Addr) (len cap : Nat) (ss : List ByteArray), v = .slice a len cap ∧ len = ss.length ∧ len ≤ maxLen ∧ (∀ i, (ss.getD i ByteArray.empty).size ≤ maxLen) ∧ StrsOf w a ss := by
  rcases open_strings ht he hc h with ⟨hcs, _⟩ | ⟨x, l, c, ss, hcs, _, hl, hm, hz, _, hcell, hwz⟩
  · simp at hcs
    exact ⟨none, 0, 0, [], hcs, rfl, Nat.zero_le _, fun i => by simp, fun i hi => by simp at hi⟩
  · simp at hcs
    have hz' : ss.length = c := by simpa using hz
    refine ⟨some x, l, c, ss.take l, hcs, by simp; omega, Nat.le_trans hl hm, fun i => ?_, ?_⟩
    · by_cases hi : i < (ss.take l).length
      · have : (ss.take l).getD i ByteArray.empty ∈ ss.take l := by rw [List.getD, List.getElem?_eq_getElem hi]; exact List.getElem_mem hi
        exact hwz _ (List.mem_of_mem_take this)
      · rw [List.getD, List.getElem?_eq_none (by omega)]
        simp
    · intro i hi
      have hi' : i < l := by simp at hi; omega
      obtain ⟨b, off, spot⟩ := x
      have h0 := hcell 0 (by omega)
      have hspot : spot = none := by
        cases spot with
        | none => rfl
        | some s =>
          exfalso
          unfold Addr.add World.cell? at h0
          simp at h0
          cases hb : w.heap[b]? with
          | none => rw [hb] at h0; simp at h0
          | some o => rw [hb] at h0; cases o <;> simp at h0
      subst hspot
      refine ⟨b, off, rfl, ?_⟩
      have hc' := hcell i (by omega)
      have hadd : (⟨b, off, none⟩ : Addr).add i = ⟨b, off + i, none⟩ := by unfold Addr.add; split <;> simp_all
      rw [hadd] at hc'
      rw [hc']
      have : (ss.take l).getD i ByteArray.empty = ss.getD i ByteArray.empty := by simp [List.getD, hi']
      rw [this]
end
set_option maxRecDepth 100000 in
theorem open_book {H : Type} {enc : TypeId × Value → H} {w : World} {r : Reach} {b0 : Nat} {v : Value} {d : DataW H} {ps : List MemPlace} (hv : Value.okWide Tryd.prog w r b0 25 v) (h : DataW.Trod enc Tryd.prog w 0 (fun _ => true) true 25 v d ps) :
    ∃ (k l s : Int) (a : Option Addr) (n cap : Nat) (ss : List ByteArray), v = bookV k l s (.slice a n cap) ∧ n = ss.length ∧ n ≤ maxLen ∧ (∀ i, (ss.getD i ByteArray.empty).size ≤ maxLen) ∧ StrsOf w a ss := by
  obtain ⟨v0, v1, v2, v3, y0, y1, y2, y3, n, rfl, _, _, t0, t1, t2, t3⟩ := Joins.open_agg4 Tryd.underlying25 (by kernel_rfl) (by kernel_rfl) hv h
  obtain ⟨k, rfl⟩ := open_field_int Tryd.underlying22 t0
  obtain ⟨l, rfl⟩ := open_field_int Tryd.underlying22 t1
  obtain ⟨s, rfl⟩ := open_field_int Tryd.underlying22 t2
  obtain ⟨a, len, cap, ss, rfl, h1, h2, h3, h4⟩ := open_field_strs Tryd.underlying23 Tryd.underlying9 (by kernel_rfl) t3
  exact ⟨k, l, s, a, len, cap, ss, rfl, h1, h2, h3, h4⟩
end Go.Proofs.YtfaiehjomcgjgaaDoor
