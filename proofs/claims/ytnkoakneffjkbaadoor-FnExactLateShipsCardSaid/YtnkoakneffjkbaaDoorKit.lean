/- What several proofs of this seat need: lists of bytes as an array's cells. -/
import Derived.Test.YtnkoakneffjkbaaDoorChecked
import Derived.WalkKit
import Derived.ProofKit
import Derived.OpenShut
import Derived.Handy
import Derived.WalkSpells
import Derived.WalkLawsBesides
import Derived.Deep.QuietTactic
import Derived.BigQuiet
import Derived.Deep.RegionWith
import Derived.Deep.RegionHeld3
import Derived.Deep.MidRow
import Derived.StillTailTactics
namespace Go.Proofs.YtnkoakneffjkbaaDoor
set_option linter.unusedVariables false
open Go.RowKit

/-- The world has at most new blocks, and the tape is the same: of what was there nothing turns. -/
structure Grown (W w : World) : Prop where
  old : RowKit.Grown W w
  tape : w.tape = W.tape
theorem Grown.refl (W : World) : Grown W W := ⟨RowKit.Grown.refl W, rfl⟩
theorem Grown.alloc {W w : World} (h : Grown W w) (c : Array Value) (t : TypeId) : Grown W (w.alloc (.cells c t)) := ⟨h.old.alloc c t, h.tape⟩
theorem Grown.setCell {W w : World} (h : Grown W w) {a : Addr} (ha : W.heap.size ≤ a.block) (v : Value) : Grown W (w.setCell a v) := ⟨h.old.setCell ha v, h.tape⟩
theorem Grown.drew {W w : World} (h : Grown W w) : Grown W w.drew := ⟨h.old.drew, h.tape⟩
theorem Grown.drewN {W w : World} (h : Grown W w) (n : Nat) : Grown W (w.drewN n) := ⟨h.old, h.tape⟩
theorem Grown.size {W w : World} (h : Grown W w) : W.heap.size ≤ w.heap.size := h.old.2.2
/-- A fact behind a name that the walk does not open. -/
theorem hid {p : Prop} (h : p) : Hid p := h
theorem ret_bool {a b : Bool} (h : a = b) : Ending.returned (.bool a) = .returned (.bool b) := by rw [h]
theorem ret_int {k : IntKind} {a b : Int} (h : a = b) : Ending.returned (.int k a) = .returned (.int k b) := by rw [h]
/-- A block that has just been laid, and one that lies as it lay. -/
theorem heap_new {w : World} {o : Obj} {n : Nat} (h : n = w.heap.size) : (w.alloc o).heap[n]? = some o := by subst h; exact heap_alloc_new w o
theorem heap_kept {w : World} {o x : Obj} {n : Nat} (h : w.heap[n]? = some x) : (w.alloc o).heap[n]? = some x := by
  have hn : n < w.heap.size := (Array.getElem?_eq_some_iff.1 h).1
  show (w.heap.push o)[n]? = some x; rw [Array.getElem?_push, if_neg (Nat.ne_of_lt hn)]; exact h
theorem heap_drawn {w : World} {x : Obj} {n : Nat} (h : w.heap[n]? = some x) : w.drew.heap[n]? = some x := h
theorem heap_stored {w : World} {x : Obj} {n : Nat} {a : Addr} {v : Value} (hn : n ≠ a.block) (h : w.heap[n]? = some x) : (w.setCell a v).heap[n]? = some x := by
  rw [heap_setCell_other w a n v hn]; exact h
theorem lt_of_heap {w : World} {n : Nat} {x : Obj} (h : w.heap[n]? = some x) : n < w.heap.size := (Array.getElem?_eq_some_iff.1 h).1
/-- A byte as a value. -/
abbrev u8v (x : Int) : Value := .int .u8 x
/-- The cells of an array of bytes. -/
def byteCells (xs : List Int) : Array Value := (xs.map u8v).toArray
theorem byteCells_size (xs : List Int) : (byteCells xs).size = xs.length := by simp [byteCells]
theorem byteCells_get (xs : List Int) (i : Nat) (h : i < xs.length) : (byteCells xs)[i]? = some (.int .u8 (xs.getD i 0)) := by
  simp [byteCells, List.getElem?_eq_getElem h, List.getD]
theorem byteCells_set (xs : List Int) (i : Nat) (x : Int) : (byteCells xs).setIfInBounds i (.int .u8 x) = byteCells (xs.set i x) := by
  simp [byteCells, List.map_set]

/-- Bytes: every number of the list is one. -/
def Bytes (xs : List Int) : Prop := ∀ x ∈ xs, 0 ≤ x ∧ x ≤ 255
theorem Bytes.get {xs : List Int} (h : Bytes xs) (i : Nat) : 0 ≤ xs.getD i 0 ∧ xs.getD i 0 ≤ 255 := by
  by_cases hi : i < xs.length
  · have := h (xs[i]) (List.getElem_mem hi)
    simpa [List.getD, List.getElem?_eq_getElem hi] using this
  · simp [List.getD, List.getElem?_eq_none (by omega : xs.length ≤ i)]
theorem Bytes.set {xs : List Int} (h : Bytes xs) (i : Nat) {x : Int} (hx : 0 ≤ x ∧ x ≤ 255) : Bytes (xs.set i x) := by
  intro y hy
  rcases List.mem_or_eq_of_mem_set hy with h1 | rfl
  · exact h y h1
  · exact hx

/-- A pointer to an array of bytes: the cells from an offset on. -/
def BytesAt (w : World) (b off : Nat) (xs : List Int) : Prop := ∀ i, i < xs.length → w.cell? ⟨b, off + i, none⟩ = some (.int .u8 (xs.getD i 0))
theorem bytesAt_of_block {w : World} {b : Nat} {xs : List Int} {t : TypeId} {fr : Nat × Nat} (h : w.heap[b]? = some (.cells (byteCells xs) t fr)) : BytesAt w b 0 xs := by
  intro i hi
  rw [Nat.zero_add, cell_of_row w b i _ t fr h, byteCells_get xs i hi]

theorem heap_byte_set {w : World} {b i : Nat} {xs : List Int} {t : TypeId} {x : Int} (h : w.heap[b]? = some (.cells (byteCells xs) t (0, 0))) :
    (w.setCell ⟨b, i, none⟩ (.int .u8 x)).heap[b]? = some (.cells (byteCells (xs.set i x)) t (0, 0)) := by
  rw [heap_setCell_same w b i _ t _ h, byteCells_set]
theorem bytes_one (xs : List Int) : (byteCells xs).all (·.oneCell') = true := by
  simp [byteCells, Value.oneCell']
/-- 'a[i]' of an array of bytes by value. -/
theorem run_index_bytes {P : Program} {T E : TypeId} {len : Nat} (h : P.underlying T = some (.array len E)) (hE : P.underlying E = some (.int .u8)) (hi' : (P.info? E).map (·.size) = some 1)
    (xs : List Int) (k : Nat) (hk : k < len) (hl : xs.length = len) (w : World) :
    (Instr.index T (.agg (byteCells xs)) (.int .i64 k)).run P w = .ok (.int .u8 (xs.getD k 0)) w := by
  have hb := byteCells_get xs k (by omega)
  obtain ⟨i0, hi, hs⟩ := Option.map_eq_some_iff.1 hi'
  have h2 : (0 : Int) ≤ (k : Int) ∧ (k : Int) < (len : Int) := by omega
  simp [Instr.index, run_underlying h, run_underlying hE, asIntOf, h2, go_sem, part, sizeOf, typeInfo, hi, hs, isAgg, hb]
  intro h3; omega
/-- The whole array is loaded. -/
theorem wpList_load_bytes {P : Program} {ops : Array Oper} {rest : List Oper} {o : Oper} {a : Act} {w : World} {Q : Exit → Act → World → Prop} (hw : Region.wanted o (yielded ops a.tmps) = true) (ty : TypeId) (x : Operand) (ho : o.op = .load ty x)
    (g : Nat) (hx : a.eval x = .pointer (some ⟨g, 0, none⟩)) (t : TypeId) (xs : List Int) (e : TypeId) (n : Nat) (hg : w.heap[g]? = some (.cells (byteCells xs) t (0, 0)))
    (hu : P.underlying ty = some (.array n e)) (hi : (P.info? ty).map (·.size) = some n) (hl : xs.length = n)
    (h : wpList P ops Q rest (a.put o.dst (.agg (byteCells xs))) w) : wpList P ops Q (o :: rest) a w :=
  BigFrame.wpList_want hw fun _ hK => wp_load_row ty x ho g hx t _ _ _ hg hu rfl (by rw [byteCells_size, hl]; exact hi) (hK _ _ h)

/-- An array of bytes is stored whole. -/
theorem wpList_store_bytes {P : Program} {ops : Array Oper} {rest : List Oper} {o : Oper} {a : Act} {w : World} {Q : Exit → Act → World → Prop} (hgd : o.guard = none) (ty : TypeId) (x y : Operand) (ho : o.op = .store ty x y)
    (g : Nat) (xs ys : List Int) (hx : a.eval x = .pointer (some ⟨g, 0, none⟩)) (hy : a.eval y = .agg (byteCells xs))
    (t : TypeId) (n : Nat) (hg : w.heap[g]? = some (.cells (byteCells ys) t (0, 0))) (hi : (P.info? ty).map (·.size) = some n) (hl : xs.length = n) (hl2 : ys.length = n)
    (h : wpList P ops Q rest (a.put o.dst undef) (w.setRow g (byteCells xs))) : wpList P ops Q (o :: rest) a w :=
  wpList_store_row hgd ty x y ho g _ hx hy t _ hg (by rw [byteCells_size, hl]; exact hi) (by rw [byteCells_size, byteCells_size, hl, hl2]) (bytes_one xs) h
theorem heap_row_set {w : World} {g : Nat} {old cs : Array Value} {t : TypeId} {fr : Nat × Nat} (hg : w.heap[g]? = some (.cells old t fr)) : (w.setRow g cs).heap[g]? = some (.cells cs t fr) := setRow_heap w g old cs t fr hg
theorem heap_row_kept {w : World} {g n : Nat} {cs : Array Value} {x : Obj} (hn : n ≠ g) (h : w.heap[n]? = some x) : (w.setRow g cs).heap[n]? = some x := by
  rw [setRow_other w g n cs hn]; exact h
theorem Grown_setRow {W w : World} (h : Grown W w) {g : Nat} (hg : W.heap.size ≤ g) (cs : Array Value) : Grown W (w.setRow g cs) := by
  obtain ⟨⟨⟨h1, h2, h3⟩, hf, hs⟩, ht⟩ := h
  refine ⟨⟨⟨h1, h2, fun i hi => ?_⟩, fun a => ?_, by rw [size_setRow]; exact hs⟩, ht⟩
  · have e : (w.setRow g cs).heap[i]? = w.heap[i]? := setRow_other w g i cs (by omega)
    rw [e]; exact h3 i hi
  · rw [← hf a]
    by_cases ha : a.block = g
    · unfold World.frozen?
      rw [ha]
      simp only [World.setRow, Array.getElem?_modify, if_true]
      cases w.heap[g]? with
      | none => rfl
      | some o => cases o <;> rfl
    · simp [World.frozen?, setRow_other w g a.block cs ha]
theorem Grown_trans {A B C : World} (h : Grown A B) (h' : Grown B C) : Grown A C :=
  ⟨⟨World.keptBut_trans h.old.1 h'.old.1, fun a => (h'.old.2.1 a).trans (h.old.2.1 a), Nat.le_trans h.size h'.size⟩, h'.tape.trans h.tape⟩
/-- Of what was there nothing has turned. -/
theorem heap_grown {W w : World} (h : Grown W w) {i : Nat} {x : Obj} (hx : W.heap[i]? = some x) : w.heap[i]? = some x := by
  have hi : i < W.heap.size := (Array.getElem?_eq_some_iff.1 hx).1
  have := h.old.1.2.2 i hi
  rw [hx] at this
  have hi' : i < w.heap.size := Nat.lt_of_lt_of_le hi h.size
  have he : w.heap[i]? = some w.heap[i] := Array.getElem?_eq_getElem hi'
  rw [he] at this ⊢
  generalize w.heap[i] = y at *
  cases x <;> cases y <;> simp_all
  obtain ⟨_, _, h3, h4⟩ := this
  exact Array.ext_getElem? h4

/-- A function with a body is entered. -/
theorem callFunc_enter {P : Program} {f : FuncId} {fn : Func} (hf : P.funcs[f]? = some fn) (hname : (fn.name == "runtime.NumGoroutine") = false) (hb : fn.body.isNone = false) (args : Array Value) (w : World) :
    (callFunc f args).run P w = .ok (.enter f args) w := by
  have h1 : fn.name ≠ "runtime.NumGoroutine" := by simpa using hname
  have h2 : ¬ fn.body = none := by intro h; rw [h] at hb; simp at hb
  simp [callFunc, hf, h1, h2]
/-- A cell that was there. -/
theorem cell_grown {W w : World} (h : Grown W w) {b o : Nat} {v : Value} (hc : W.cell? ⟨b, o, none⟩ = some v) : w.cell? ⟨b, o, none⟩ = some v := by
  unfold World.cell? at hc ⊢
  dsimp only at hc ⊢
  cases hb : W.heap[b]? with
  | none => rw [hb] at hc; simp at hc
  | some x => rw [heap_grown h hb]; rw [hb] at hc; exact hc
theorem Grown.below {W w : World} (h : Grown W w) : Below W.heap.size W w :=
  ⟨h.old.1.1, h.tape, h.old.1.2.1, h.size, fun k hk => by rw [heap_grown h (Array.getElem?_eq_getElem hk), Array.getElem?_eq_getElem hk]⟩
theorem rangeAt_block {w : World} {b : Nat} {xs : List Int} {t : TypeId} {fr : Nat × Nat} (h : w.heap[b]? = some (.cells (byteCells xs) t fr)) : w.rangeAt b 0 (xs.map u8v) := by
  intro j v hv
  rw [Nat.zero_add, cell_of_row w b j _ t fr h]
  simpa [byteCells] using hv
theorem rangeAt_grown {W w : World} (h : Grown W w) {b o : Nat} {cs : List Value} (hr : W.rangeAt b o cs) : w.rangeAt b o cs :=
  fun j v hv => cell_grown h (hr j v hv)
/-- The cells of the row to whose head a value points. -/
def rowOf (w : World) (v : Value) (n : Nat) : Option (Array Value) :=
  match v with
  | .pointer (some ⟨g, 0, none⟩) => (match w.heap[g]? with | some (.cells c _ _) => if c.size = n then some c else none | _ => none)
  | _ => none
theorem rowOf_block {w : World} {b n : Nat} {cs : Array Value} {t : TypeId} {fr : Nat × Nat} (h : w.heap[b]? = some (.cells cs t fr)) (hl : cs.size = n) : rowOf w (.pointer (some ⟨b, 0, none⟩)) n = some cs := by
  simp [rowOf, h, hl]
theorem rowOf_drew (w : World) (v : Value) (n : Nat) : rowOf w.drew v n = rowOf w v n := rfl
theorem rowOf_cells {w : World} {v : Value} {n : Nat} {c : Array Value} (h : rowOf w v n = some c) : ∃ g t fr, v = .pointer (some ⟨g, 0, none⟩) ∧ w.heap[g]? = some (.cells c t fr) ∧ c.size = n := by
  unfold rowOf at h
  split at h
  · rename_i g
    split at h
    · rename_i c' t fr hb
      split at h
      · simp only [Option.some.injEq] at h; subst h; exact ⟨g, t, fr, rfl, hb, by assumption⟩
      · cases h
    · cases h
  · cases h
theorem rowOf_grown {W w : World} (hg : Grown W w) {v : Value} {n : Nat} {c : Array Value} (h : rowOf W v n = some c) : rowOf w v n = some c := by
  obtain ⟨g, t, fr, rfl, hb, hn⟩ := rowOf_cells h
  exact rowOf_block (heap_grown hg hb) hn
theorem run_loadAt_rowOf {P : Program} {t e : TypeId} {n : Nat} (hu : P.underlying t = some (.array n e)) (hi : (P.info? t).map (·.size) = some n) (v : Value) (w : World) (h : (rowOf w v n).isSome = true) :
    (Instr.loadAt t v).run P w = .ok (.agg ((rowOf w v n).getD #[])) w := by
  obtain ⟨c, hc⟩ := Option.isSome_iff_exists.1 h
  obtain ⟨g, t', fr, rfl, hb, hn⟩ := rowOf_cells hc
  rw [hc]
  have := run_loadVar_row (P := P) w g t' t c fr _ hb hu rfl (by rw [hn]; exact hi)
  simp [Instr.loadAt, Instr.sureAddr, this]
/-- The operation loads a variable of type T; from where. -/
def loadsOf (T : TypeId) (o : Oper) : Bool := match o.op with | .load t _ => t == T | _ => false
def loadsFrom (o : Oper) : Operand := match o.op with | .load _ x => x | _ => .const undef
theorem run_execOp_rowOf {P : Program} {t e : TypeId} {n : Nat} (hu : P.underlying t = some (.array n e)) (hi : (P.info? t).map (·.size) = some n) (ρ : Operand → Value) (o : Oper) (w : World) (ho : loadsOf t o = true) (h : (rowOf w (ρ (loadsFrom o)) n).isSome = true) :
    (execOp ρ o).run P w = .ok (.value (.agg ((rowOf w (ρ (loadsFrom o)) n).getD #[]))) w := by
  obtain ⟨d, op, ty, p, af, gd⟩ := o
  cases op <;> simp [loadsOf] at ho
  subst ho
  have := run_loadAt_rowOf (P := P) hu hi _ w h
  simp only [loadsFrom] at this h ⊢
  simp [execOp, this]
/-- An array is built whole. -/
theorem wpList_build_to {P : Program} {ops : Array Oper} {rest : List Oper} {o : Oper} {a : Act} {w : World} {Q : Exit → Act → World → Prop} (hg : o.guard = none) (t : TypeId) (ho : o.op = .build t #[]) {cs : Array Value}
    (hb : P.built t [] = some cs) (h : wpList P ops Q rest (a.put o.dst (.agg cs)) w) : wpList P ops Q (o :: rest) a w :=
  wpList_build hg t #[] ho (by simp [hb]) (by simpa [hb] using h)
/-- The two results of a function that hands back an array and a code. -/
theorem results_bytes2 {P : Program} {fn : Func} {p u : Tmp} {ty : TypeId} (h : fn.results = #[.cell p ty, .tmp u]) (tmps : Array Value) (w : World) (g : Nat) (xs : List Int) (c : Value) (t e : TypeId) (n : Nat)
    (hp : tmps.getD p undef = .pointer (some ⟨g, 0, none⟩)) (hc : tmps.getD u undef = c) (hg : w.heap[g]? = some (.cells (byteCells xs) t (0, 0)))
    (hu : P.underlying ty = some (.array n e)) (hi : (P.info? ty).map (·.size) = some n) (hl : xs.length = n) :
    (results fn tmps).run P w = .ok (.tuple #[.agg (byteCells xs), c]) w := by
  rw [results_cell_tmp h, hp, hc]
  have := run_loadVar_row (P := P) w g t ty _ (0, 0) _ hg hu rfl (by rw [byteCells_size, hl]; exact hi)
  simp [asAddr, this]
theorem results_bytes1 {P : Program} {fn : Func} {p : Tmp} {ty : TypeId} (h : fn.results = #[.cell p ty]) (tmps : Array Value) (w : World) (g : Nat) (xs : List Int) (t e : TypeId) (n : Nat)
    (hp : tmps.getD p undef = .pointer (some ⟨g, 0, none⟩)) (hg : w.heap[g]? = some (.cells (byteCells xs) t (0, 0)))
    (hu : P.underlying ty = some (.array n e)) (hi : (P.info? ty).map (·.size) = some n) (hl : xs.length = n) :
    (results fn tmps).run P w = .ok (.agg (byteCells xs)) w :=
  results_cell_row h tmps w g t _ (0, 0) _ hp hg hu rfl (by rw [byteCells_size, hl]; exact hi)

/-- An array that is filled from the left. -/
def fillTo (n : Nat) (col : Nat → Int) (k : Nat) : List Int := (List.range k).map col ++ List.replicate (n - k) 0
theorem fillTo_length (n : Nat) (col : Nat → Int) (k : Nat) (h : k ≤ n) : (fillTo n col k).length = n := by simp [fillTo]; omega
theorem fillTo_set (n : Nat) (col : Nat → Int) (k : Nat) (h : k < n) : (fillTo n col k).set k (col k) = fillTo n col (k + 1) := by
  unfold fillTo
  rw [List.set_append_right _ _ (by simp), List.range_succ, List.map_append, List.append_assoc]
  congr 1
  rw [List.length_map, List.length_range, Nat.sub_self, show n - k = (n - (k + 1)) + 1 by omega, List.replicate_succ]
  simp
theorem fillTo_all (n : Nat) (col : Nat → Int) : fillTo n col n = (List.range n).map col := by simp [fillTo]
theorem fillTo_zero (n : Nat) (col : Nat → Int) : fillTo n col 0 = List.replicate n 0 := by simp [fillTo]
theorem map_getD_range (xs : List Int) : (List.range xs.length).map (fun i => xs.getD i 0) = xs := by
  apply List.ext_getElem?
  intro i
  by_cases hi : i < xs.length
  · simp [hi, List.getD]
  · simp [hi]
def zeros24 : List Int := List.replicate 24 0
/-- A number that is a colour. -/
def colourB (n : Int) : Bool := decide (0 ≤ n) && decide (n < 6)
theorem colourB_true {n : Int} (h : colourB n = true) : 0 ≤ n ∧ n < 6 := by simpa [colourB] using h
theorem colourB_false {n : Int} (h : colourB n = false) : n < 0 ∨ 6 ≤ n := by
  simp [colourB] at h; omega
/-- The colours of a flag are colours. -/
def okB (xs : List Int) : Bool := xs.all fun x => decide (x ≤ 5)
theorem okB_take_succ (xs : List Int) (k : Nat) (h : k < xs.length) : okB (xs.take (k + 1)) = (okB (xs.take k) && decide (xs.getD k 0 ≤ 5)) := by
  unfold okB
  rw [List.take_succ_eq_append_getElem h, List.all_append]
  simp [List.getD, List.getElem?_eq_getElem h]
theorem okB_false_of (xs : List Int) (k : Nat) (h : k < xs.length) (hx : 5 < xs.getD k 0) : okB xs = false := by
  unfold okB
  rw [List.all_eq_false]
  refine ⟨xs[k], List.getElem_mem h, ?_⟩
  simp [List.getD, List.getElem?_eq_getElem h] at hx
  simp; omega
end Go.Proofs.YtnkoakneffjkbaaDoor
