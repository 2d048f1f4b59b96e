/- Lockers: plain lists; rows within rows. -/
import Derived.Test.YtdighhkgopopeaaOwn
import Derived.Deep.MidRow
namespace Go.Proofs.Ytdighhkgopopeaa
set_option linter.unusedVariables false
open Go.RowKit
/-- The block of integers after some of them have been written over. -/
theorem heap_ints_setCells {k : IntKind} {b : Nat} {t : TypeId} : ∀ (ys : List Int) (o : Nat) (w : World) (xs : List Int), w.heap[b]? = some (.cells (kCells k xs) t (0, 0)) → o + ys.length ≤ xs.length →
    (w.setCells b o (ys.map (Value.int k))).heap[b]? = some (.cells (kCells k (xs.take o ++ ys ++ xs.drop (o + ys.length))) t (0, 0))
  | [], o, w, xs, h, _ => by simpa [World.setCells] using h
  | y :: ys, o, w, xs, h, hl => by
    rw [List.length_cons] at hl
    have h1 := heap_int_set (i := o) (x := y) h
    have h2 := heap_ints_setCells ys (o + 1) (w.setCell ⟨b, o, none⟩ (.int k y)) (xs.set o y) h1 (by rw [List.length_set]; omega)
    have e : (xs.set o y).take (o + 1) ++ ys ++ (xs.set o y).drop (o + 1 + ys.length) = xs.take o ++ y :: ys ++ xs.drop (o + (y :: ys).length) := by
      have e1 : (xs.set o y).take (o + 1) = xs.take o ++ [y] := by
        rw [List.take_succ_eq_append_getElem (by rw [List.length_set]; omega)]
        simp [List.take_set_of_le]
      rw [e1, List.drop_set_of_lt (by omega), List.length_cons, show o + 1 + ys.length = o + (ys.length + 1) by omega]
      simp
    rw [e] at h2
    exact h2
theorem Gr.setCells {W : World} {b : Nat} (hb : W.heap.size ≤ b) : ∀ (vs : List Value) (o : Nat) (w : World), Gr W w → Gr W (w.setCells b o vs)
  | [], _, _, h => h
  | v :: vs, o, w, h => Gr.setCells hb vs (o + 1) _ (h.setCell (p := ⟨b, o, none⟩) hb v)
theorem heap_setCells_kept {b : Nat} {k : Nat} {x : Obj} (hne : k ≠ b) : ∀ (vs : List Value) (o : Nat) (w : World), w.heap[k]? = some x → (w.setCells b o vs).heap[k]? = some x
  | [], _, _, h => h
  | v :: vs, o, w, h => heap_setCells_kept hne vs (o + 1) _ (heap_stored (a := ⟨b, o, none⟩) hne h)
theorem size_setCells_ (b : Nat) : ∀ (vs : List Value) (o : Nat) (w : World), (w.setCells b o vs).heap.size = w.heap.size
  | [], _, _ => rfl
  | v :: vs, o, w => by
    show ((w.setCell ⟨b, o, none⟩ v).setCells b (o + 1) vs).heap.size = _
    rw [size_setCells_ b vs (o + 1), World.size_setCell]
theorem rangeAt_ints {k : IntKind} {w : World} {b : Nat} {xs : List Int} {t : TypeId} {fr : Nat × Nat} (h : w.heap[b]? = some (.cells (kCells k xs) t fr)) (o n : Nat) (hn : o + n ≤ xs.length) : w.rangeAt b o (((xs.drop o).take n).map (Value.int k)) := by
  intro j v hv
  have hj := (List.getElem?_eq_some_iff.1 hv).1
  simp only [List.length_map, List.length_take, List.length_drop] at hj
  rw [cell_ints h (by omega)]
  rw [List.getElem?_map, List.getElem?_take, if_pos (by omega), List.getElem?_drop] at hv
  rw [← hv, List.getD, List.getElem?_eq_getElem (by omega : o + j < xs.length)]
  rfl
theorem there_ints {k : IntKind} {w : World} {b : Nat} {xs : List Int} {t : TypeId} (h : w.heap[b]? = some (.cells (kCells k xs) t (0, 0))) (o n : Nat) (hn : o + n ≤ xs.length) : w.there b o n :=
  fun j hj => ⟨by rw [cell_ints h (by omega)]; rfl, frozen_of_row _ _ _ _ _ h⟩
/-- A part of a row is loaded, written over. -/
theorem wpList_load_part {P : Program} {ops : Array Oper} {rest : List Oper} {op : Oper} {a : Act} {w : World} {Q : Exit → Act → World → Prop} (hw : Region.wanted op (yielded ops a.tmps) = true) (ty : TypeId) (x : Operand) (ho : op.op = .load ty x)
    {k : IntKind} (b o n : Nat) (hx : a.eval x = .pointer (some ⟨b, o, none⟩)) (xs : List Int) (t e : TypeId) (fr : Nat × Nat) (hb : w.heap[b]? = some (.cells (kCells k xs) t fr)) (hn : o + n ≤ xs.length)
    (hu : P.underlying ty = some (.array n e)) (hi : (P.info? ty).map (·.size) = some n)
    (h : wpList P ops Q rest (a.put op.dst (.agg (kCells k ((xs.drop o).take n)))) w) : wpList P ops Q (op :: rest) a w :=
  BigFrame.wpList_want hw fun _ hK => wp_load_mid ty x ho b o hx _ _ (rangeAt_ints hb o n hn) hu rfl (by rw [hi, List.length_map, List.length_take, List.length_drop]; congr 1; omega) (hK _ _ h)
theorem wpList_store_part {P : Program} {ops : Array Oper} {rest : List Oper} {op : Oper} {a : Act} {w : World} {Q : Exit → Act → World → Prop} (hw : Region.wanted op (yielded ops a.tmps) = true) (ty : TypeId) (x y : Operand) (ho : op.op = .store ty x y)
    {k : IntKind} (b o n : Nat) (ys : List Int) (hx : a.eval x = .pointer (some ⟨b, o, none⟩)) (hy : a.eval y = .agg (kCells k ys)) (xs : List Int) (t : TypeId) (hb : w.heap[b]? = some (.cells (kCells k xs) t (0, 0))) (hn : o + n ≤ xs.length) (hl : ys.length = n)
    (hi : (P.info? ty).map (·.size) = some n)
    (h : wpList P ops Q rest (a.put op.dst undef) (w.setCells b o (ys.map (Value.int k)))) : wpList P ops Q (op :: rest) a w :=
  BigFrame.wpList_want hw fun _ hK => wp_store_mid ty x y ho b o (kCells k ys) hx hy (there_ints hb o _ (by rw [kCells_size]; omega)) (by rw [hi, kCells_size, hl]) (kCells_one k ys) (by
    have : (kCells k ys).toList = ys.map (Value.int k) := by simp [kCells]
    rw [this]; exact hK _ _ h)
theorem getD_map {α : Type} (f : Nat → α) (n i : Nat) (d : α) (h : i < n) : ((List.range n).map f).getD i d = f i := by
  rw [List.getD_eq_getElem?_getD, List.getElem?_map, List.getElem?_range h]; rfl
theorem eq_map_getD (xs : List Int) : xs = (List.range xs.length).map (fun i => xs.getD i 0) := (map_getD_range xs).symm
/-- A number of flags or substitutes: as many as a locker may have. -/
def lkB (x : Int) : Bool := decide (0 ≤ x) && decide (x ≤ 20)
theorem lkB_iff {x : Int} : lkB x = true ↔ 0 ≤ x ∧ x ≤ 20 := by simp [lkB]
theorem lkB_no {x : Int} : lkB x = false ↔ x < 0 ∨ 20 < x := by simp [lkB]; omega
def lockB (xs : List Int) : Bool := xs.all lkB
theorem lockB_get {xs : List Int} (h : lockB xs = true) (i : Nat) : 0 ≤ xs.getD i 0 ∧ xs.getD i 0 ≤ 20 := by
  by_cases hi : i < xs.length
  · have := lkB_iff.1 (List.all_eq_true.1 h _ (List.getElem_mem hi))
    simpa [List.getD, List.getElem?_eq_getElem hi] using this
  · simp [List.getD, List.getElem?_eq_none (by omega : xs.length ≤ i)]
theorem lockB_zero (xs : List Int) : lockB (xs.take 0) = true := by simp [lockB]
theorem lockB_succ {xs : List Int} {k : Nat} (hk : k < xs.length) (h : lockB (xs.take k) = true) (h0 : lkB (xs.getD k 0) = true) : lockB (xs.take (k + 1)) = true := by
  unfold lockB at *
  rw [List.take_succ_eq_append_getElem hk, List.all_append, h]
  simp [List.getD, List.getElem?_eq_getElem hk] at h0
  simp [h0]
theorem lockB_all {xs : List Int} {k : Nat} (hk : xs.length ≤ k) (h : lockB (xs.take k) = true) : lockB xs = true := by rwa [List.take_of_length_le hk] at h
theorem lockB_no {xs : List Int} {k : Nat} (hk : k < xs.length) (h : lkB (xs.getD k 0) = false) : lockB xs = false := by
  unfold lockB
  rw [List.all_eq_false]
  refine ⟨xs[k], List.getElem_mem hk, ?_⟩
  simp [List.getD, List.getElem?_eq_getElem hk] at h
  simp [h]
/-- A whole struct is loaded. -/
theorem wpList_load_struct {P : Program} {ops : Array Oper} {rest : List Oper} {o : Oper} {a : Act} {w : World} {Q : Exit → Act → World → Prop} (hw : Region.wanted o (yielded ops a.tmps) = true) (ty : TypeId) (x : Operand) (ho : o.op = .load ty x)
    (g : Nat) (hx : a.eval x = .pointer (some ⟨g, 0, none⟩)) (t : TypeId) (cs : Array Value) (d : TypeDesc) (hg : w.heap[g]? = some (.cells cs t (0, 0)))
    (hu : P.underlying ty = some d) (hd : (match d with | .struct _ | .array _ _ => true | _ => false) = true) (hi : (P.info? ty).map (·.size) = some cs.size)
    (h : wpList P ops Q rest (a.put o.dst (.agg cs)) w) : wpList P ops Q (o :: rest) a w :=
  BigFrame.wpList_want hw fun _ hK => wp_load_row ty x ho g hx t _ _ _ hg hu hd hi (hK _ _ h)
/-- Two parts of a struct, one behind the other. -/
theorem splice_fold : ∀ (vs : List Value) (off j : Nat) (cs : Array Value), off + j + vs.length ≤ cs.size →
    (vs.zipIdx j).foldl (fun cs (c, i) => cs.setIfInBounds (off + i) c) cs = (cs.toList.take (off + j) ++ vs ++ cs.toList.drop (off + j + vs.length)).toArray
  | [], off, j, cs, _ => by simp
  | v :: vs, off, j, cs, h => by
    rw [List.length_cons] at h
    rw [List.zipIdx_cons, List.foldl_cons, splice_fold vs off (j + 1) _ (by rw [Array.size_setIfInBounds]; omega)]
    congr 1
    rw [Array.toList_setIfInBounds]
    have e1 : (cs.toList.set (off + j) v).take (off + (j + 1)) = cs.toList.take (off + j) ++ [v] := by
      rw [show off + (j + 1) = off + j + 1 by omega, List.take_succ_eq_append_getElem (by rw [List.length_set, Array.length_toList]; omega)]
      simp [List.take_set_of_le]
    rw [e1, List.drop_set_of_lt (by omega), List.length_cons, show off + (j + 1) + vs.length = off + j + (vs.length + 1) by omega]
    simp
theorem fill_part {place : Nat → Option (Nat × Nat)} {i off n : Nat} {vs : Array Value} {cs : Array Value} {rest : List (Nat × Value)} (hp : place i = some (off, n)) (hn : vs.size = n) (hl : off + n ≤ cs.size) :
    Instr.fill place cs ((i, .agg vs) :: rest) = Instr.fill place (cs.toList.take off ++ vs.toList ++ cs.toList.drop (off + n)).toArray rest := by
  rw [Instr.fill, hp]
  show (if (decide (vs.size ≠ n) || decide (off + vs.size > cs.size)) = true then none else Instr.fill place (Array.foldl (fun cs x => cs.setIfInBounds (off + x.snd) x.fst) cs vs.zipIdx) rest) = _
  rw [if_neg (by simp [hn]; omega)]
  congr 1
  have := splice_fold vs.toList off 0 cs (by simp; omega)
  rw [Nat.add_zero, Array.length_toList, hn] at this
  rw [← this, ← Array.foldl_toList]
  simp [Array.toList_zipIdx]
/-- Zeros and the places of the fields of a struct. -/
def placesOf (P : Program) (t : TypeId) : Option (Array Value × List (Nat × Nat)) :=
  match P.info? t, P.underlying t with
  | some it, some (.struct fields) => (match it.zero, fields.toList.mapM (fun f => (P.info? f.type).map fun i => (f.offset, i.size)) with | some z, some places => some (z.cells, places) | _, _ => none)
  | _, _ => none
theorem built_places {P : Program} {t : TypeId} {z : Array Value} {places : List (Nat × Nat)} (h : placesOf P t = some (z, places)) (parts : List (Nat × Value)) : P.built t parts = Instr.fill (places.toArray[·]?) z parts := by
  unfold placesOf at h
  unfold Program.built
  split at h
  · rename_i it fields h1 h2
    rw [h1, h2]
    dsimp only
    split at h
    · rename_i z' pl h3 h4
      cases h
      rw [h3, h4]
    · cases h
  · cases h
theorem built_two {P : Program} {t : TypeId} {k : IntKind} {na nb : Nat} {A B Z : List Int} (h : placesOf P t = some (kCells k Z, [(0, na), (na, nb)])) (hz : Z.length = na + nb) (ha : A.length = na) (hb : B.length = nb) :
    P.built t [(0, .agg (kCells k A)), (1, .agg (kCells k B))] = some (kCells k (A ++ B)) := by
  subst ha hb
  have h1 : kCells k Z = ((Z.map (Value.int k)).toArray) := rfl
  rw [built_places h, fill_part (off := 0) (n := A.length) rfl (by rw [kCells_size]) (by rw [kCells_size, hz]; omega), fill_part (off := A.length) (n := B.length) rfl (by rw [kCells_size]) (by simp [kCells, hz])]
  rw [Instr.fill]
  congr 1
  simp only [kCells, List.take_zero, List.nil_append, Nat.zero_add]
  rw [List.take_append_of_le_length (by simp), List.take_of_length_le (by simp), List.drop_eq_nil_of_le (by simp [hz]), List.map_append]
  simp
theorem wpList_build_two {P : Program} {ops : Array Oper} {rest : List Oper} {o : Oper} {a : Act} {w : World} {Q : Exit → Act → World → Prop} (hg : o.guard = none) (t : TypeId) (x y : Operand) (ho : o.op = .build t #[(0, x), (1, y)])
    {k : IntKind} {na nb : Nat} (A B Z C : List Int) (hx : a.eval x = .agg (kCells k A)) (hy : a.eval y = .agg (kCells k B)) (hp : placesOf P t = some (kCells k Z, [(0, na), (na, nb)])) (hz : Z.length = na + nb) (ha : A.length = na) (hb : B.length = nb) (hc : A ++ B = C)
    (h : wpList P ops Q rest (a.put o.dst (.agg (kCells k C))) w) : wpList P ops Q (o :: rest) a w := by
  have e : ((#[(0, x), (1, y)] : Array (Nat × Operand)).map fun (i, x) => (i, a.eval x)).toList = [(0, .agg (kCells k A)), (1, .agg (kCells k B))] := by simp [hx, hy]
  have hbt := built_two hp hz ha hb
  rw [hc] at hbt
  exact wpList_build hg t _ ho (by rw [e, hbt]; rfl) (by rw [e, hbt]; exact h)
theorem results_struct2 {P : Program} {fn : Func} {p u : Tmp} {ty : TypeId} (h : fn.results = #[.cell p ty, .tmp u]) (tmps : Array Value) (w : World) (g : Nat) (cs : Array Value) (c : Value) (t : TypeId) (d : TypeDesc)
    (hp : tmps.getD p undef = .pointer (some ⟨g, 0, none⟩)) (hc : tmps.getD u undef = c) (hg : w.heap[g]? = some (.cells cs t (0, 0)))
    (hu : P.underlying ty = some d) (hd : (match d with | .struct _ | .array _ _ => true | _ => false) = true) (hi : (P.info? ty).map (·.size) = some cs.size) :
    (results fn tmps).run P w = .ok (.tuple #[.agg cs, c]) w := by
  rw [results_cell_tmp h, hp, hc]
  have := run_loadVar_row (P := P) w g t ty _ (0, 0) _ hg hu hd hi
  simp [asAddr, this]
theorem fillTo_skip {n k : Nat} {col : Nat → Int} (hk : k < n) (h : col k = 0) : fillTo n col (k + 1) = fillTo n col k := by
  unfold fillTo
  rw [List.range_succ, List.map_append, List.append_assoc, show n - k = (n - (k + 1)) + 1 by omega, List.replicate_succ]
  simp [h]
theorem fillTo_skips {n : Nat} {col : Nat → Int} {a : Nat} : ∀ {b : Nat}, a ≤ b → b ≤ n → (∀ i, a ≤ i → i < b → col i = 0) → fillTo n col b = fillTo n col a
  | 0, hab, _, _ => by rw [show a = 0 by omega]
  | b + 1, hab, hn, h => by
    by_cases e : a = b + 1
    · rw [e]
    · rw [fillTo_skip (by omega) (h b (by omega) (by omega)), fillTo_skips (by omega) (by omega) (fun i h1 h2 => h i h1 (by omega))]
theorem stk_parts {xs : List Int} (h : xs.length = 44) : (xs.drop 40).take 4 ++ (xs.drop 0).take 40 = xs.drop 40 ++ xs.take 40 := by
  rw [List.take_of_length_le (by simp [h]), List.drop_zero]
/-- A locker as the program keeps it: the substitutes first. -/
def stk (xs : List Int) : List Int := xs.drop 40 ++ xs.take 40
theorem stk_length {xs : List Int} (h : xs.length = 44) : (stk xs).length = 44 := by simp [stk, h]
/-- Where the k-th piece of a locker is kept there. -/
def sOff (k : Nat) : Nat := if k < 40 then 4 + k else k - 40
theorem sOff_lt {k : Nat} (h : k < 44) : sOff k < 44 := by unfold sOff; split <;> omega
theorem sOff_inj {j k : Nat} (hj : j < 44) (hk : k < 44) (h : sOff j = sOff k) : j = k := by unfold sOff at h; split at h <;> split at h <;> omega
theorem stk_get {xs : List Int} (h : xs.length = 44) {k : Nat} (hk : k < 44) : (stk xs).getD (sOff k) 0 = xs.getD k 0 := by
  unfold stk sOff
  simp only [List.getD_eq_getElem?_getD]
  split
  · rw [List.getElem?_append_right (by simp [h]), List.length_drop, h, List.getElem?_take, if_pos (by omega)]
    congr 2; omega
  · rw [List.getElem?_append_left (by simp [h]; omega), List.getElem?_drop]
    congr 2; omega
theorem stk_set {xs : List Int} (h : xs.length = 44) {k : Nat} (hk : k < 44) (x : Int) : (stk xs).set (sOff k) x = stk (xs.set k x) := by
  have h2 : (xs.set k x).length = 44 := by rw [List.length_set, h]
  apply List.ext_getElem?
  intro i
  by_cases hi : i < 44
  · obtain ⟨j, hj, rfl⟩ : ∃ j, j < 44 ∧ sOff j = i := by
      by_cases h4 : i < 4
      · exact ⟨i + 40, by omega, by unfold sOff; rw [if_neg (by omega)]; omega⟩
      · exact ⟨i - 4, by omega, by unfold sOff; rw [if_pos (by omega)]; omega⟩
    have e1 : (stk (xs.set k x))[sOff j]? = some ((xs.set k x).getD j 0) := by
      have := stk_get h2 hj
      rw [List.getD_eq_getElem?_getD, List.getElem?_eq_getElem (by rw [stk_length h2]; exact hi)] at this
      rw [List.getElem?_eq_getElem (by rw [stk_length h2]; exact hi)]
      simpa using this
    have e2 : (stk xs)[sOff j]? = some (xs.getD j 0) := by
      have := stk_get h hj
      rw [List.getD_eq_getElem?_getD, List.getElem?_eq_getElem (by rw [stk_length h]; exact hi)] at this
      rw [List.getElem?_eq_getElem (by rw [stk_length h]; exact hi)]
      simpa using this
    rw [e1, List.getElem?_set]
    by_cases hkj : sOff k = sOff j
    · have := sOff_inj hk hj hkj
      subst this
      rw [if_pos rfl, if_pos (by rw [stk_length h]; exact hi)]
      simp [List.getD, h, hk]
    · have hne : k ≠ j := fun e => hkj (by rw [e])
      rw [if_neg hkj, e2]
      simp [List.getD, hne]
  · rw [List.getElem?_eq_none (by rw [List.length_set, stk_length h]; omega), List.getElem?_eq_none (by rw [stk_length h2]; omega)]
/-- The number of the k-th piece. -/
def pNum (k : Nat) : Int := if k < 40 then (k : Int) else 39 - (k : Int)
theorem pNum_bd {k : Nat} (h : k < 44) : -4 ≤ pNum k ∧ pNum k ≤ 39 := by unfold pNum; split <;> omega
theorem wf16 {x : Int} : (Lit.int .i16 x).wf = true ↔ -32768 ≤ x ∧ x ≤ 32767 := by
  simp [Lit.wf, IntKind.min, IntKind.max, IntKind.signed, IntKind.bits]
theorem Fits.get16 {xs : List Int} (h : Fits .i16 xs) (i : Nat) : -32768 ≤ xs.getD i 0 ∧ xs.getD i 0 ≤ 32767 := by
  by_cases hi : i < xs.length
  · have := wf16.1 (h _ (List.getElem_mem hi))
    simpa [List.getD, List.getElem?_eq_getElem hi] using this
  · simp [List.getD, List.getElem?_eq_none (by omega : xs.length ≤ i)]
/-- The sum of the first k numbers. -/
def sumLk (xs : List Int) : Nat → Int
  | 0 => 0
  | k + 1 => sumLk xs k + xs.getD k 0
theorem sumLk_bd {xs : List Int} (h : lockB xs = true) (k : Nat) : 0 ≤ sumLk xs k ∧ sumLk xs k ≤ 20 * k := by
  induction k with
  | zero => simp [sumLk]
  | succ k ih => have := lockB_get h k; simp only [sumLk]; omega
end Go.Proofs.Ytdighhkgopopeaa
