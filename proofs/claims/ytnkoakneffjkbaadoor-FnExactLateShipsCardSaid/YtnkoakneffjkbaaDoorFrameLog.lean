/- Logs as arguments. -/
import Derived.Test.YtnkoakneffjkbaaDoorFrame
import Derived.Test.YtnkoakneffjkbaaDoorEntM
import Derived.ChangeOld
import Derived.Below
import Derived.Deep.Strs
import Derived.Lib.SmallJoins
namespace Go.Proofs.YtnkoakneffjkbaaDoor
set_option linter.unusedVariables false
open Go.RowKit Go.ChangeShapes Go.WideShapes Go.ChangeAt Go.ChangeMaps
section
variable {H : Type} {enc : TypeId × Value → H} {P : Program} {w : World}
theorem open_slice_structs {t e : TypeId} {sz : Nat} (Good : List Value → Prop) {a : Option Addr} {len cap : Nat} {d : DataW H} {ps : List MemPlace} (ht : P.underlying t = some (.slice e)) (hce : P.cellsOf e = sz) (hsz : 0 < sz)
    (hg : ∀ fuel (l : List Value) x, DataW.trod enc P w 0 (fun _ => true) true fuel e l = some x → Good l)
    (h : DataW.Trod enc P w 0 (fun _ => true) true t (.slice a len cap) d ps) : ∃ cs : List Value, cs.length = len * sz ∧ len ≤ maxLen ∧ CellsOf w a cs ∧ ∀ k, k < len → Good ((cs.drop (k * sz)).take sz) := by
  obtain ⟨fuel, hf⟩ := h
  rcases DataW.trod_slice ht hf with ⟨hcs, _⟩ | ⟨x, l, c, elems, rest, n, _, hcs, _, _, hl, hm, hlen, hel, _, _⟩
  · simp [Value.cells] at hcs
    obtain ⟨rfl, rfl, rfl⟩ := hcs
    exact ⟨[], by simp, Nat.zero_le _, fun i hi => by simp at hi, fun k hk => by omega⟩
  · simp [Value.cells] at hcs
    obtain ⟨rfl, rfl, rfl⟩ := hcs
    have key : ∀ k, k < len → ∃ us : List Value, us.length = sz ∧ (∀ q, q < sz → w.cell? (x.add (k * sz + q)) = us[q]?) ∧ Good us := by
      intro k hk
      have h1 := hel k hk
      rw [hce, List.getElem?_eq_getElem (by omega : k < elems.length), Option.bind_eq_some_iff] at h1
      obtain ⟨us, h2, h3⟩ := h1
      obtain ⟨_, h4, h5⟩ := World.cells?_some h2
      refine ⟨us, h4, fun q hq => ?_, hg _ _ _ h3⟩
      rw [← h5 q hq, Addr.add_add]
    let cs : List Value := (List.range (len * sz)).map fun q => (w.cell? (x.add q)).getD undef
    have hcl : cs.length = len * sz := by simp [cs]
    have hget : ∀ k q, k < len → q < sz → ∃ us : List Value, us.length = sz ∧ Good us ∧ (∀ q, q < sz → cs[k * sz + q]? = us[q]?) ∧ w.cell? (x.add (k * sz + q)) = us[q]? := by
      intro k q hk hq
      obtain ⟨us, h1, h2, h3⟩ := key k hk
      refine ⟨us, h1, h3, fun q' hq' => ?_, h2 q hq⟩
      have hb : k * sz + q' < len * sz := by
        have := Nat.mul_le_mul_right sz (show k + 1 ≤ len from hk)
        rw [Nat.add_mul, Nat.one_mul] at this
        omega
      simp only [cs, List.getElem?_map, List.getElem?_range hb, Option.map_some]
      rw [h2 q' hq', List.getElem?_eq_getElem (by omega)]
      rfl
    refine ⟨cs, hcl, Nat.le_trans hl hm, ?_, ?_⟩
    · intro i hi
      rw [hcl] at hi
      have hk : i / sz < len := Nat.div_lt_of_lt_mul (by rw [Nat.mul_comm]; exact hi)
      have hq : i % sz < sz := Nat.mod_lt _ hsz
      obtain ⟨us, h1, _, h3, h4⟩ := hget (i / sz) (i % sz) hk hq
      have e : i / sz * sz + i % sz = i := by rw [Nat.mul_comm]; exact Nat.div_add_mod i sz
      have h5 := h3 (i % sz) hq
      rw [e] at h4 h5
      obtain ⟨b, off, spot⟩ := x
      have hspot : spot = none := by
        cases spot with
        | none => rfl
        | some s =>
          exfalso
          obtain ⟨vs, g1, _, _, h0⟩ := hget 0 0 (Nat.lt_of_le_of_lt (Nat.zero_le _) hk) hsz
          rw [List.getElem?_eq_getElem (by omega)] at h0
          unfold Addr.add World.cell? at h0
          simp at h0
          cases hb : w.heap[b]? with
          | none => rw [hb] at h0; simp at h0
          | some o => rw [hb] at h0; cases o <;> simp at h0
      subst hspot
      refine ⟨b, off, rfl, ?_⟩
      have hadd : (⟨b, off, none⟩ : Addr).add i = ⟨b, off + i, none⟩ := by unfold Addr.add; split <;> simp_all
      rw [← hadd, h4, h5]
    · intro k hk
      obtain ⟨us, h1, h2, h3, _⟩ := hget k 0 hk hsz
      have : (cs.drop (k * sz)).take sz = us := by
        apply List.ext_getElem?
        intro q
        rw [List.getElem?_take]
        split
        · rename_i hq
          rw [List.getElem?_drop]; exact h3 q hq
        · rename_i hq
          rw [List.getElem?_eq_none (by omega)]
      rw [this]; exact h2
end
def GoodE (l : List Value) : Prop := ∃ (x0 x1 : Int) (x2 : Bool), l = [.int .i64 x0, .int .i64 x1, .bool x2] ∧ (Lit.int .i64 x0).wf = true ∧ (Lit.int .i64 x1).wf = true
theorem ens_of_good : ∀ (n : Nat) (cs : List Value), cs.length = n * 3 → (∀ k, k < n → GoodE ((cs.drop (k * 3)).take 3)) → ∃ ts : List En, n = ts.length ∧ EnFits ts ∧ cs = enCells ts
  | 0, cs, hl, _ => ⟨[], by simp, fun _ h => (by cases h), by simpa [enCells] using hl⟩
  | n + 1, cs, hl, h => by
    obtain ⟨x0, x1, x2, e, w0, w1⟩ := h 0 (by omega)
    obtain ⟨ts, h1, h2, h3⟩ := ens_of_good n (cs.drop 3) (by rw [List.length_drop]; omega) (fun k hk => by
      have := h (k + 1) (by omega)
      rw [List.drop_drop, show 3 + k * 3 = (k + 1) * 3 by omega]
      exact this)
    refine ⟨⟨x0, x1, x2⟩ :: ts, by simp [h1], fun t ht => ?_, ?_⟩
    · rcases List.mem_cons.1 ht with rfl | ht
      · exact ⟨w0, w1⟩
      · exact h2 t ht
    · rw [← List.take_append_drop 3 cs, h3]
      simp only [Nat.zero_mul, List.drop_zero] at e
      rw [e]; rfl
set_option maxRecDepth 100000 in
theorem open_logs {H : Type} {enc : TypeId × Value → H} {w : World} {a : Option Addr} {len cap : Nat} {d : DataW H} {ps : List MemPlace}
    (h : DataW.Trod enc Tryd.prog w 0 (fun _ => true) true 22 (.slice a len cap) d ps) : ∃ ts : List En, len = ts.length ∧ len ≤ maxLen ∧ EnFits ts ∧ CellsOf w a (enCells ts) := by
  obtain ⟨cs, h1, h2, h3, h4⟩ := open_slice_structs (sz := 3) GoodE Tryd.underlying22 (by kernel_rfl) (by omega) (fun fuel l x hx => by
    obtain ⟨y0, y1, y2, n, _, hl, t0, t1, t2⟩ := Go.Deep.trod_struct3 Tryd.underlying62 hx
    have hl3 : l.length = 3 := hl.trans (by kernel_rfl)
    match l, hl3 with
    | [v0, v1, v2], _ =>
      have c1 : Tryd.prog.cellsOf 2 = 1 := by kernel_rfl
      have c2 : Tryd.prog.cellsOf 4 = 1 := by kernel_rfl
      simp only [c1, c2] at t0 t1 t2
      obtain ⟨x0, e0, _, w0⟩ := DataW.trod_int Tryd.underlying2 t0
      obtain ⟨x1, e1, _, w1⟩ := DataW.trod_int Tryd.underlying2 t1
      obtain ⟨x2, e2, _⟩ := DataW.trod_bool Tryd.underlying4 t2
      simp at e0 e1 e2
      exact ⟨x0, x1, x2, by rw [e0, e1, e2], w0, w1⟩) h
  obtain ⟨ts, h5, h6, h7⟩ := ens_of_good len cs h1 h4
  exact ⟨ts, h5, h2, h6, by rw [← h7]; exact h3⟩
end Go.Proofs.YtnkoakneffjkbaaDoor
