/- What several proofs of this seat need: lists of bytes as an array's cells. -/
import Derived.Test.YtfaiehjomcgjgaaDoorChecked
import Derived.WalkKit
import Derived.ProofKit
import Derived.OpenShut
import Derived.Handy
import Derived.WalkSpells
import Derived.WalkLawsBesides
import Derived.Deep.QuietTactic
import Derived.BigQuiet
import Derived.Deep.RegionWith
import Derived.Deep.RegionHeld3
import Derived.Deep.MidRow
import Derived.StillTailTactics
import Derived.Laws.MakeOwn
import Derived.Laws.OwnMore
import Derived.Below
import Derived.Maps.AppendAt
namespace Go.Proofs.YtfaiehjomcgjgaaDoor
set_option linter.unusedVariables false
open Go.RowKit

/-- The world has at most new blocks, and the tape is the same: of what was there nothing turns. -/
structure Grown (W w : World) : Prop where
  old : RowKit.Grown W w
  tape : w.tape = W.tape
theorem Grown.refl (W : World) : Grown W W := ⟨RowKit.Grown.refl W, rfl⟩
theorem Grown.alloc {W w : World} (h : Grown W w) (c : Array Value) (t : TypeId) : Grown W (w.alloc (.cells c t)) := ⟨h.old.alloc c t, h.tape⟩
theorem Grown.setCell {W w : World} (h : Grown W w) {a : Addr} (ha : W.heap.size ≤ a.block) (v : Value) : Grown W (w.setCell a v) := ⟨h.old.setCell ha v, h.tape⟩
theorem Grown.drew {W w : World} (h : Grown W w) : Grown W w.drew := ⟨h.old.drew, h.tape⟩
theorem Grown.drewN {W w : World} (h : Grown W w) (n : Nat) : Grown W (w.drewN n) := ⟨h.old, h.tape⟩
theorem Grown.size {W w : World} (h : Grown W w) : W.heap.size ≤ w.heap.size := h.old.2.2
/-- A fact behind a name that the walk does not open. -/
theorem hid {p : Prop} (h : p) : Hid p := h
theorem ret_bool {a b : Bool} (h : a = b) : Ending.returned (.bool a) = .returned (.bool b) := by rw [h]
theorem ret_int {k : IntKind} {a b : Int} (h : a = b) : Ending.returned (.int k a) = .returned (.int k b) := by rw [h]
/-- A block that has just been laid, and one that lies as it lay. -/
theorem heap_new {w : World} {o : Obj} {n : Nat} (h : n = w.heap.size) : (w.alloc o).heap[n]? = some o := by subst h; exact heap_alloc_new w o
theorem heap_kept {w : World} {o x : Obj} {n : Nat} (h : w.heap[n]? = some x) : (w.alloc o).heap[n]? = some x := by
  have hn : n < w.heap.size := (Array.getElem?_eq_some_iff.1 h).1
  show (w.heap.push o)[n]? = some x; rw [Array.getElem?_push, if_neg (Nat.ne_of_lt hn)]; exact h
theorem heap_drawn {w : World} {x : Obj} {n : Nat} (h : w.heap[n]? = some x) : w.drew.heap[n]? = some x := h
theorem heap_stored {w : World} {x : Obj} {n : Nat} {a : Addr} {v : Value} (hn : n ≠ a.block) (h : w.heap[n]? = some x) : (w.setCell a v).heap[n]? = some x := by
  rw [heap_setCell_other w a n v hn]; exact h
theorem lt_of_heap {w : World} {n : Nat} {x : Obj} (h : w.heap[n]? = some x) : n < w.heap.size := (Array.getElem?_eq_some_iff.1 h).1
/-- A byte as a value. -/
abbrev u8v (x : Int) : Value := .int .u8 x
/-- The cells of an array of bytes. -/
def byteCells (xs : List Int) : Array Value := (xs.map u8v).toArray
theorem byteCells_size (xs : List Int) : (byteCells xs).size = xs.length := by simp [byteCells]
theorem byteCells_get (xs : List Int) (i : Nat) (h : i < xs.length) : (byteCells xs)[i]? = some (.int .u8 (xs.getD i 0)) := by
  simp [byteCells, List.getElem?_eq_getElem h, List.getD]
theorem byteCells_set (xs : List Int) (i : Nat) (x : Int) : (byteCells xs).setIfInBounds i (.int .u8 x) = byteCells (xs.set i x) := by
  simp [byteCells, List.map_set]

/-- Bytes: every number of the list is one. -/
def Bytes (xs : List Int) : Prop := ∀ x ∈ xs, 0 ≤ x ∧ x ≤ 255
theorem Bytes.get {xs : List Int} (h : Bytes xs) (i : Nat) : 0 ≤ xs.getD i 0 ∧ xs.getD i 0 ≤ 255 := by
  by_cases hi : i < xs.length
  · have := h (xs[i]) (List.getElem_mem hi)
    simpa [List.getD, List.getElem?_eq_getElem hi] using this
  · simp [List.getD, List.getElem?_eq_none (by omega : xs.length ≤ i)]
theorem Bytes.set {xs : List Int} (h : Bytes xs) (i : Nat) {x : Int} (hx : 0 ≤ x ∧ x ≤ 255) : Bytes (xs.set i x) := by
  intro y hy
  rcases List.mem_or_eq_of_mem_set hy with h1 | rfl
  · exact h y h1
  · exact hx

/-- A pointer to an array of bytes: the cells from an offset on. -/
def BytesAt (w : World) (b off : Nat) (xs : List Int) : Prop := ∀ i, i < xs.length → w.cell? ⟨b, off + i, none⟩ = some (.int .u8 (xs.getD i 0))
theorem bytesAt_of_block {w : World} {b : Nat} {xs : List Int} {t : TypeId} {fr : Nat × Nat} (h : w.heap[b]? = some (.cells (byteCells xs) t fr)) : BytesAt w b 0 xs := by
  intro i hi
  rw [Nat.zero_add, cell_of_row w b i _ t fr h, byteCells_get xs i hi]

theorem heap_byte_set {w : World} {b i : Nat} {xs : List Int} {t : TypeId} {x : Int} (h : w.heap[b]? = some (.cells (byteCells xs) t (0, 0))) :
    (w.setCell ⟨b, i, none⟩ (.int .u8 x)).heap[b]? = some (.cells (byteCells (xs.set i x)) t (0, 0)) := by
  rw [heap_setCell_same w b i _ t _ h, byteCells_set]
theorem bytes_one (xs : List Int) : (byteCells xs).all (·.oneCell') = true := by
  simp [byteCells, Value.oneCell']
/-- 'a[i]' of an array of bytes by value. -/
theorem run_index_bytes {P : Program} {T E : TypeId} {len : Nat} (h : P.underlying T = some (.array len E)) (hE : P.underlying E = some (.int .u8)) (hi' : (P.info? E).map (·.size) = some 1)
    (xs : List Int) (k : Nat) (hk : k < len) (hl : xs.length = len) (w : World) :
    (Instr.index T (.agg (byteCells xs)) (.int .i64 k)).run P w = .ok (.int .u8 (xs.getD k 0)) w := by
  have hb := byteCells_get xs k (by omega)
  obtain ⟨i0, hi, hs⟩ := Option.map_eq_some_iff.1 hi'
  have h2 : (0 : Int) ≤ (k : Int) ∧ (k : Int) < (len : Int) := by omega
  simp [Instr.index, run_underlying h, run_underlying hE, asIntOf, h2, go_sem, part, sizeOf, typeInfo, hi, hs, isAgg, hb]
  intro h3; omega
/-- The whole array is loaded. -/
theorem wpList_load_bytes {P : Program} {ops : Array Oper} {rest : List Oper} {o : Oper} {a : Act} {w : World} {Q : Exit → Act → World → Prop} (hw : Region.wanted o (yielded ops a.tmps) = true) (ty : TypeId) (x : Operand) (ho : o.op = .load ty x)
    (g : Nat) (hx : a.eval x = .pointer (some ⟨g, 0, none⟩)) (t : TypeId) (xs : List Int) (e : TypeId) (n : Nat) (hg : w.heap[g]? = some (.cells (byteCells xs) t (0, 0)))
    (hu : P.underlying ty = some (.array n e)) (hi : (P.info? ty).map (·.size) = some n) (hl : xs.length = n)
    (h : wpList P ops Q rest (a.put o.dst (.agg (byteCells xs))) w) : wpList P ops Q (o :: rest) a w :=
  BigFrame.wpList_want hw fun _ hK => wp_load_row ty x ho g hx t _ _ _ hg hu rfl (by rw [byteCells_size, hl]; exact hi) (hK _ _ h)

/-- An array of bytes is stored whole. -/
theorem wpList_store_bytes {P : Program} {ops : Array Oper} {rest : List Oper} {o : Oper} {a : Act} {w : World} {Q : Exit → Act → World → Prop} (hgd : o.guard = none) (ty : TypeId) (x y : Operand) (ho : o.op = .store ty x y)
    (g : Nat) (xs ys : List Int) (hx : a.eval x = .pointer (some ⟨g, 0, none⟩)) (hy : a.eval y = .agg (byteCells xs))
    (t : TypeId) (n : Nat) (hg : w.heap[g]? = some (.cells (byteCells ys) t (0, 0))) (hi : (P.info? ty).map (·.size) = some n) (hl : xs.length = n) (hl2 : ys.length = n)
    (h : wpList P ops Q rest (a.put o.dst undef) (w.setRow g (byteCells xs))) : wpList P ops Q (o :: rest) a w :=
  wpList_store_row hgd ty x y ho g _ hx hy t _ hg (by rw [byteCells_size, hl]; exact hi) (by rw [byteCells_size, byteCells_size, hl, hl2]) (bytes_one xs) h
theorem heap_row_set {w : World} {g : Nat} {old cs : Array Value} {t : TypeId} {fr : Nat × Nat} (hg : w.heap[g]? = some (.cells old t fr)) : (w.setRow g cs).heap[g]? = some (.cells cs t fr) := setRow_heap w g old cs t fr hg
theorem heap_row_kept {w : World} {g n : Nat} {cs : Array Value} {x : Obj} (hn : n ≠ g) (h : w.heap[n]? = some x) : (w.setRow g cs).heap[n]? = some x := by
  rw [setRow_other w g n cs hn]; exact h
theorem Grown_setRow {W w : World} (h : Grown W w) {g : Nat} (hg : W.heap.size ≤ g) (cs : Array Value) : Grown W (w.setRow g cs) := by
  obtain ⟨⟨⟨h1, h2, h3⟩, hf, hs⟩, ht⟩ := h
  refine ⟨⟨⟨h1, h2, fun i hi => ?_⟩, fun a => ?_, by rw [size_setRow]; exact hs⟩, ht⟩
  · have e : (w.setRow g cs).heap[i]? = w.heap[i]? := setRow_other w g i cs (by omega)
    rw [e]; exact h3 i hi
  · rw [← hf a]
    by_cases ha : a.block = g
    · unfold World.frozen?
      rw [ha]
      simp only [World.setRow, Array.getElem?_modify, if_true]
      cases w.heap[g]? with
      | none => rfl
      | some o => cases o <;> rfl
    · simp [World.frozen?, setRow_other w g a.block cs ha]
theorem Grown_trans {A B C : World} (h : Grown A B) (h' : Grown B C) : Grown A C :=
  ⟨⟨World.keptBut_trans h.old.1 h'.old.1, fun a => (h'.old.2.1 a).trans (h.old.2.1 a), Nat.le_trans h.size h'.size⟩, h'.tape.trans h.tape⟩
/-- Of what was there nothing has turned. -/
theorem heap_grown {W w : World} (h : Grown W w) {i : Nat} {x : Obj} (hx : W.heap[i]? = some x) : w.heap[i]? = some x := by
  have hi : i < W.heap.size := (Array.getElem?_eq_some_iff.1 hx).1
  have := h.old.1.2.2 i hi
  rw [hx] at this
  have hi' : i < w.heap.size := Nat.lt_of_lt_of_le hi h.size
  have he : w.heap[i]? = some w.heap[i] := Array.getElem?_eq_getElem hi'
  rw [he] at this ⊢
  generalize w.heap[i] = y at *
  cases x <;> cases y <;> simp_all
  obtain ⟨_, _, h3, h4⟩ := this
  exact Array.ext_getElem? h4

/-- A function with a body is entered. -/
theorem callFunc_enter {P : Program} {f : FuncId} {fn : Func} (hf : P.funcs[f]? = some fn) (hname : (fn.name == "runtime.NumGoroutine") = false) (hb : fn.body.isNone = false) (args : Array Value) (w : World) :
    (callFunc f args).run P w = .ok (.enter f args) w := by
  have h1 : fn.name ≠ "runtime.NumGoroutine" := by simpa using hname
  have h2 : ¬ fn.body = none := by intro h; rw [h] at hb; simp at hb
  simp [callFunc, hf, h1, h2]
/-- A cell that was there. -/
theorem cell_grown {W w : World} (h : Grown W w) {b o : Nat} {v : Value} (hc : W.cell? ⟨b, o, none⟩ = some v) : w.cell? ⟨b, o, none⟩ = some v := by
  unfold World.cell? at hc ⊢
  dsimp only at hc ⊢
  cases hb : W.heap[b]? with
  | none => rw [hb] at hc; simp at hc
  | some x => rw [heap_grown h hb]; rw [hb] at hc; exact hc
theorem Grown.below {W w : World} (h : Grown W w) : Below W.heap.size W w :=
  ⟨h.old.1.1, h.tape, h.old.1.2.1, h.size, fun k hk => by rw [heap_grown h (Array.getElem?_eq_getElem hk), Array.getElem?_eq_getElem hk]⟩
theorem rangeAt_block {w : World} {b : Nat} {xs : List Int} {t : TypeId} {fr : Nat × Nat} (h : w.heap[b]? = some (.cells (byteCells xs) t fr)) : w.rangeAt b 0 (xs.map u8v) := by
  intro j v hv
  rw [Nat.zero_add, cell_of_row w b j _ t fr h]
  simpa [byteCells] using hv
theorem rangeAt_grown {W w : World} (h : Grown W w) {b o : Nat} {cs : List Value} (hr : W.rangeAt b o cs) : w.rangeAt b o cs :=
  fun j v hv => cell_grown h (hr j v hv)
/-- The cells of the row to whose head a value points. -/
def rowOf (w : World) (v : Value) (n : Nat) : Option (Array Value) :=
  match v with
  | .pointer (some ⟨g, 0, none⟩) => (match w.heap[g]? with | some (.cells c _ _) => if c.size = n then some c else none | _ => none)
  | _ => none
theorem rowOf_block {w : World} {b n : Nat} {cs : Array Value} {t : TypeId} {fr : Nat × Nat} (h : w.heap[b]? = some (.cells cs t fr)) (hl : cs.size = n) : rowOf w (.pointer (some ⟨b, 0, none⟩)) n = some cs := by
  simp [rowOf, h, hl]
theorem rowOf_drew (w : World) (v : Value) (n : Nat) : rowOf w.drew v n = rowOf w v n := rfl
theorem rowOf_cells {w : World} {v : Value} {n : Nat} {c : Array Value} (h : rowOf w v n = some c) : ∃ g t fr, v = .pointer (some ⟨g, 0, none⟩) ∧ w.heap[g]? = some (.cells c t fr) ∧ c.size = n := by
  unfold rowOf at h
  split at h
  · rename_i g
    split at h
    · rename_i c' t fr hb
      split at h
      · simp only [Option.some.injEq] at h; subst h; exact ⟨g, t, fr, rfl, hb, by assumption⟩
      · cases h
    · cases h
  · cases h
theorem rowOf_grown {W w : World} (hg : Grown W w) {v : Value} {n : Nat} {c : Array Value} (h : rowOf W v n = some c) : rowOf w v n = some c := by
  obtain ⟨g, t, fr, rfl, hb, hn⟩ := rowOf_cells h
  exact rowOf_block (heap_grown hg hb) hn
theorem run_loadAt_rowOf {P : Program} {t e : TypeId} {n : Nat} (hu : P.underlying t = some (.array n e)) (hi : (P.info? t).map (·.size) = some n) (v : Value) (w : World) (h : (rowOf w v n).isSome = true) :
    (Instr.loadAt t v).run P w = .ok (.agg ((rowOf w v n).getD #[])) w := by
  obtain ⟨c, hc⟩ := Option.isSome_iff_exists.1 h
  obtain ⟨g, t', fr, rfl, hb, hn⟩ := rowOf_cells hc
  rw [hc]
  have := run_loadVar_row (P := P) w g t' t c fr _ hb hu rfl (by rw [hn]; exact hi)
  simp [Instr.loadAt, Instr.sureAddr, this]
/-- The operation loads a variable of type T; from where. -/
def loadsOf (T : TypeId) (o : Oper) : Bool := match o.op with | .load t _ => t == T | _ => false
def loadsFrom (o : Oper) : Operand := match o.op with | .load _ x => x | _ => .const undef
theorem run_execOp_rowOf {P : Program} {t e : TypeId} {n : Nat} (hu : P.underlying t = some (.array n e)) (hi : (P.info? t).map (·.size) = some n) (ρ : Operand → Value) (o : Oper) (w : World) (ho : loadsOf t o = true) (h : (rowOf w (ρ (loadsFrom o)) n).isSome = true) :
    (execOp ρ o).run P w = .ok (.value (.agg ((rowOf w (ρ (loadsFrom o)) n).getD #[]))) w := by
  obtain ⟨d, op, ty, p, af, gd⟩ := o
  cases op <;> simp [loadsOf] at ho
  subst ho
  have := run_loadAt_rowOf (P := P) hu hi _ w h
  simp only [loadsFrom] at this h ⊢
  simp [execOp, this]
/-- An array is built whole. -/
theorem wpList_build_to {P : Program} {ops : Array Oper} {rest : List Oper} {o : Oper} {a : Act} {w : World} {Q : Exit → Act → World → Prop} (hg : o.guard = none) (t : TypeId) (ho : o.op = .build t #[]) {cs : Array Value}
    (hb : P.built t [] = some cs) (h : wpList P ops Q rest (a.put o.dst (.agg cs)) w) : wpList P ops Q (o :: rest) a w :=
  wpList_build hg t #[] ho (by simp [hb]) (by simpa [hb] using h)
/-- The two results of a function that hands back an array and a code. -/
theorem results_bytes2 {P : Program} {fn : Func} {p u : Tmp} {ty : TypeId} (h : fn.results = #[.cell p ty, .tmp u]) (tmps : Array Value) (w : World) (g : Nat) (xs : List Int) (c : Value) (t e : TypeId) (n : Nat)
    (hp : tmps.getD p undef = .pointer (some ⟨g, 0, none⟩)) (hc : tmps.getD u undef = c) (hg : w.heap[g]? = some (.cells (byteCells xs) t (0, 0)))
    (hu : P.underlying ty = some (.array n e)) (hi : (P.info? ty).map (·.size) = some n) (hl : xs.length = n) :
    (results fn tmps).run P w = .ok (.tuple #[.agg (byteCells xs), c]) w := by
  rw [results_cell_tmp h, hp, hc]
  have := run_loadVar_row (P := P) w g t ty _ (0, 0) _ hg hu rfl (by rw [byteCells_size, hl]; exact hi)
  simp [asAddr, this]
theorem results_bytes1 {P : Program} {fn : Func} {p : Tmp} {ty : TypeId} (h : fn.results = #[.cell p ty]) (tmps : Array Value) (w : World) (g : Nat) (xs : List Int) (t e : TypeId) (n : Nat)
    (hp : tmps.getD p undef = .pointer (some ⟨g, 0, none⟩)) (hg : w.heap[g]? = some (.cells (byteCells xs) t (0, 0)))
    (hu : P.underlying ty = some (.array n e)) (hi : (P.info? ty).map (·.size) = some n) (hl : xs.length = n) :
    (results fn tmps).run P w = .ok (.agg (byteCells xs)) w :=
  results_cell_row h tmps w g t _ (0, 0) _ hp hg hu rfl (by rw [byteCells_size, hl]; exact hi)

/-- An array that is filled from the left. -/
def fillTo (n : Nat) (col : Nat → Int) (k : Nat) : List Int := (List.range k).map col ++ List.replicate (n - k) 0
theorem fillTo_length (n : Nat) (col : Nat → Int) (k : Nat) (h : k ≤ n) : (fillTo n col k).length = n := by simp [fillTo]; omega
theorem fillTo_set (n : Nat) (col : Nat → Int) (k : Nat) (h : k < n) : (fillTo n col k).set k (col k) = fillTo n col (k + 1) := by
  unfold fillTo
  rw [List.set_append_right _ _ (by simp), List.range_succ, List.map_append, List.append_assoc]
  congr 1
  rw [List.length_map, List.length_range, Nat.sub_self, show n - k = (n - (k + 1)) + 1 by omega, List.replicate_succ]
  simp
theorem fillTo_all (n : Nat) (col : Nat → Int) : fillTo n col n = (List.range n).map col := by simp [fillTo]
theorem fillTo_zero (n : Nat) (col : Nat → Int) : fillTo n col 0 = List.replicate n 0 := by simp [fillTo]
theorem map_getD_range (xs : List Int) : (List.range xs.length).map (fun i => xs.getD i 0) = xs := by
  apply List.ext_getElem?
  intro i
  by_cases hi : i < xs.length
  · simp [hi, List.getD]
  · simp [hi]
def zeros24 : List Int := List.replicate 24 0
/-- A number that is a colour. -/
def colourB (n : Int) : Bool := decide (0 ≤ n) && decide (n < 6)
theorem colourB_true {n : Int} (h : colourB n = true) : 0 ≤ n ∧ n < 6 := by simpa [colourB] using h
theorem colourB_false {n : Int} (h : colourB n = false) : n < 0 ∨ 6 ≤ n := by
  simp [colourB] at h; omega
/-- The colours of a flag are colours. -/
def okB (xs : List Int) : Bool := xs.all fun x => decide (x ≤ 5)
theorem okB_take_succ (xs : List Int) (k : Nat) (h : k < xs.length) : okB (xs.take (k + 1)) = (okB (xs.take k) && decide (xs.getD k 0 ≤ 5)) := by
  unfold okB
  rw [List.take_succ_eq_append_getElem h, List.all_append]
  simp [List.getD, List.getElem?_eq_getElem h]
theorem okB_false_of (xs : List Int) (k : Nat) (h : k < xs.length) (hx : 5 < xs.getD k 0) : okB xs = false := by
  unfold okB
  rw [List.all_eq_false]
  refine ⟨xs[k], List.getElem_mem h, ?_⟩
  simp [List.getD, List.getElem?_eq_getElem h] at hx
  simp; omega
end Go.Proofs.YtfaiehjomcgjgaaDoor

/- Slices and arrays of integers. -/
namespace Go.Proofs.YtfaiehjomcgjgaaDoor
set_option linter.unusedVariables false
open Go.RowKit

/-- The cells of integers of one kind. -/
def kCells (k : IntKind) (xs : List Int) : Array Value := (xs.map (Value.int k)).toArray
theorem kCells_size (k : IntKind) (xs : List Int) : (kCells k xs).size = xs.length := by simp [kCells]
theorem kCells_get (k : IntKind) (xs : List Int) (i : Nat) (h : i < xs.length) : (kCells k xs)[i]? = some (.int k (xs.getD i 0)) := by
  simp [kCells, List.getElem?_eq_getElem h, List.getD]
theorem kCells_set (k : IntKind) (xs : List Int) (i : Nat) (x : Int) : (kCells k xs).setIfInBounds i (.int k x) = kCells k (xs.set i x) := by
  simp [kCells, List.map_set]
theorem kCells_one (k : IntKind) (xs : List Int) : (kCells k xs).all (·.oneCell') = true := by simp [kCells, Value.oneCell']
theorem heap_int_set {k : IntKind} {w : World} {b i : Nat} {xs : List Int} {t : TypeId} {x : Int} (h : w.heap[b]? = some (.cells (kCells k xs) t (0, 0))) :
    (w.setCell ⟨b, i, none⟩ (.int k x)).heap[b]? = some (.cells (kCells k (xs.set i x)) t (0, 0)) := by
  rw [heap_setCell_same w b i _ t _ h, kCells_set]
theorem cell_ints {k : IntKind} {w : World} {b i : Nat} {xs : List Int} {t : TypeId} {fr : Nat × Nat} (h : w.heap[b]? = some (.cells (kCells k xs) t fr)) (hi : i < xs.length) :
    w.cell? ⟨b, i, none⟩ = some (.int k (xs.getD i 0)) := by
  rw [cell_of_row w b i _ t fr h, kCells_get k xs i hi]

/-- A row of cells is loaded, stored, handed back. -/
theorem wpList_load_cells {P : Program} {ops : Array Oper} {rest : List Oper} {o : Oper} {a : Act} {w : World} {Q : Exit → Act → World → Prop} (hw : Region.wanted o (yielded ops a.tmps) = true) (ty : TypeId) (x : Operand) (ho : o.op = .load ty x)
    (g : Nat) (hx : a.eval x = .pointer (some ⟨g, 0, none⟩)) (t : TypeId) (cs : Array Value) (e : TypeId) (n : Nat) (hg : w.heap[g]? = some (.cells cs t (0, 0)))
    (hu : P.underlying ty = some (.array n e)) (hi : (P.info? ty).map (·.size) = some n) (hl : cs.size = n)
    (h : wpList P ops Q rest (a.put o.dst (.agg cs)) w) : wpList P ops Q (o :: rest) a w :=
  BigFrame.wpList_want hw fun _ hK => wp_load_row ty x ho g hx t _ _ _ hg hu rfl (by rw [hl]; exact hi) (hK _ _ h)
theorem wpList_store_cells {P : Program} {ops : Array Oper} {rest : List Oper} {o : Oper} {a : Act} {w : World} {Q : Exit → Act → World → Prop} (hw : Region.wanted o (yielded ops a.tmps) = true) (ty : TypeId) (x y : Operand) (ho : o.op = .store ty x y)
    (g : Nat) (cs old : Array Value) (hx : a.eval x = .pointer (some ⟨g, 0, none⟩)) (hy : a.eval y = .agg cs)
    (t : TypeId) (n : Nat) (hg : w.heap[g]? = some (.cells old t (0, 0))) (hi : (P.info? ty).map (·.size) = some n) (hl : cs.size = n) (hl2 : old.size = n) (h1 : cs.all (·.oneCell') = true)
    (h : wpList P ops Q rest (a.put o.dst undef) (w.setRow g cs)) : wpList P ops Q (o :: rest) a w :=
  BigFrame.wpList_want hw fun _ hK => wp_store_row ty x y ho g _ hx hy t _ hg (by rw [hl]; exact hi) (by rw [hl, hl2]) h1 (hK _ _ h)
theorem results_cells2 {P : Program} {fn : Func} {p u : Tmp} {ty : TypeId} (h : fn.results = #[.cell p ty, .tmp u]) (tmps : Array Value) (w : World) (g : Nat) (cs : Array Value) (c : Value) (t e : TypeId) (n : Nat)
    (hp : tmps.getD p undef = .pointer (some ⟨g, 0, none⟩)) (hc : tmps.getD u undef = c) (hg : w.heap[g]? = some (.cells cs t (0, 0)))
    (hu : P.underlying ty = some (.array n e)) (hi : (P.info? ty).map (·.size) = some n) (hl : cs.size = n) :
    (results fn tmps).run P w = .ok (.tuple #[.agg cs, c]) w := by
  rw [results_cell_tmp h, hp, hc]
  have := run_loadVar_row (P := P) w g t ty _ (0, 0) _ hg hu rfl (by rw [hl]; exact hi)
  simp [asAddr, this]
/-- A slice of integers: its numbers. -/
def SliceOf (k : IntKind) (w : World) (a : Option Addr) (xs : List Int) : Prop :=
  ∀ i, i < xs.length → ∃ b off, a = some ⟨b, off, none⟩ ∧ w.cell? ⟨b, off + i, none⟩ = some (.int k (xs.getD i 0))
theorem SliceOf.grown {k : IntKind} {W w : World} {a : Option Addr} {xs : List Int} (h : SliceOf k W a xs) (hg : Grown W w) : SliceOf k w a xs := by
  intro i hi
  obtain ⟨b, off, e, hc⟩ := h i hi
  exact ⟨b, off, e, cell_grown hg hc⟩
theorem sliceOf_block {k : IntKind} {w : World} {b : Nat} {xs : List Int} {t : TypeId} {fr : Nat × Nat} (h : w.heap[b]? = some (.cells (kCells k xs) t fr)) : SliceOf k w (some ⟨b, 0, none⟩) xs := by
  intro i hi
  exact ⟨b, 0, rfl, by rw [Nat.zero_add]; exact cell_ints h hi⟩
/-- Every number fits its kind. -/
def Fits (k : IntKind) (xs : List Int) : Prop := ∀ x ∈ xs, (Lit.int k x).wf = true
theorem Fits.get64 {xs : List Int} (h : Fits .i64 xs) (i : Nat) : -9223372036854775808 ≤ xs.getD i 0 ∧ xs.getD i 0 ≤ 9223372036854775807 := by
  by_cases hi : i < xs.length
  · have := bounds_i64 (h _ (List.getElem_mem hi))
    simpa [List.getD, List.getElem?_eq_getElem hi] using this
  · simp [List.getD, List.getElem?_eq_none (by omega : xs.length ≤ i)]

/-- 'make([]T, n)' of integers. -/
theorem madeInts (k : IntKind) (n : Nat) : madeCells (Value.int k 0).cells (n * 1) = kCells k (List.replicate n 0) := by
  unfold madeCells kCells
  apply Array.ext_getElem?
  intro i
  by_cases h : i < n
  · simp [Value.cells, h, Nat.mod_one]
  · simp [Value.cells, h]
theorem run_make_ints {P : Program} {t e : TypeId} {k : IntKind} {bytes : Nat} (ht : P.underlying t = some (.slice e)) (hi' : (P.info? e).map (fun i => (i.zero, i.size, i.bytes)) = some (some (.int k 0), 1, bytes))
    (n : Nat) (hb : bytes * n ≤ 281474976710656) (hn : n ≤ 9223372036854775807) (w : World) :
    (Instr.makeSlice t (.int .i64 n) (.int .i64 n)).run P w = .ok (.slice (some ⟨w.heap.size, 0, none⟩) n n) (w.alloc (.cells (kCells k (List.replicate n 0)) e)) := by
  obtain ⟨i0, hi, hh⟩ := Option.map_eq_some_iff.1 hi'
  simp only [Prod.mk.injEq] at hh
  obtain ⟨h1, h2, h3⟩ := hh
  have hb' : (i0.bytes : Int) * (n : Int) ≤ 281474976710656 := by
    have h : ((bytes * n : Nat) : Int) ≤ 281474976710656 := by omega
    rw [Int.natCast_mul] at h; rw [h3]; exact h
  have := run_make (P := P) w t e i0 (.int k 0) ht hi h1 .i64 .i64 n n (by omega) (Int.le_refl _) hb' (by omega)
  rw [this, h2]
  simp only [Int.toNat_natCast]
  rw [madeInts]

set_option maxRecDepth 100000 in
theorem toInt64S_any (a0 : Option Addr) (cap : Nat) (xs : List Int) (hn : xs.length ≤ 1048576) (w : World) (hs : SliceOf .i64 w a0 xs) :
    Calls Tryd.prog 20 #[.slice a0 xs.length cap] w fun e w' => e = .returned (.slice (some ⟨w.heap.size, 0, none⟩) xs.length xs.length) ∧ w'.heap[w.heap.size]? = some (.cells (kCells .i64 xs) 2 (0, 0)) ∧ Grown w w' := by
  have hmk := run_make_ints (P := Tryd.prog) (t := 38) (e := 2) (k := .i64) (bytes := 8) Tryd.underlying38 (by kernel_rfl) xs.length (by omega) (by omega)
  have HS := hid hs
  clear hs
  obtain ⟨n, hxn⟩ : ∃ n, n = xs.length := ⟨_, rfl⟩
  rw [← hxn] at hmk hn ⊢
  have HN := hid hxn
  clear hxn
  go_enter Tryd.func20, Tryd.ntmps20
  go_wp2_with fail
  clear hmk
  go_loopw [4] (fun i wr => ∃ k : Nat, k ≤ n ∧ i = .int .i64 k ∧ Hid (Grown w wr) ∧ Hid (wr.heap[w.heap.size]? = some (.cells (kCells .i64 (fillTo n (fun i => xs.getD i 0) k)) 2 (0, 0)))) (fun i _ => n - (intOf i).toNat)
  case atStart => exact ⟨0, Nat.zero_le _, rfl, hid ((Grown.refl _).alloc _ _), hid (by rw [fillTo_zero]; exact heap_new rfl)⟩
  case round =>
    obtain ⟨k, hk, rfl, hg, h0⟩ := hrel
    by_cases hlt : k < n
    · obtain ⟨b, off, rfl, hc⟩ := HS.out k (by rw [← HN.out]; exact hlt)
      have hc0 := cell_grown hg.out hc
      have hl := fillTo_length n (fun i => xs.getD i 0) k hk
      have hc1 := cell_ints h0.out (i := k) (by omega)
      have hf1 : wr.frozen? ⟨w.heap.size, k, none⟩ = false := frozen_of_row _ _ _ _ _ h0.out
      have HSET := hid (fillTo_set n (fun i => xs.getD i 0) k hlt)
      clear hc hl
      generalize (fillTo n (fun i => xs.getD i 0) k).getD k 0 = y at *
      generalize hv : xs.getD k 0 = v at *
      have HV := hid hv
      clear hv
      go_wp2_with fail
      go_roundw
      case rel => exact ⟨k + 1, by omega, by go_num, hid (hg.out.setCell (by dsimp only; omega) _), hid (by rw [← HSET.out]; have := heap_int_set (i := k) (x := v) h0.out; rw [← HV.out] at this ⊢; exact this)⟩
      case measure => simp [intOf]; omega
    · have hkn : k = n := by omega
      have H0 : Hid (wr.heap[w.heap.size]? = some (.cells (kCells .i64 xs) 2 (0, 0))) := by
        rw [hkn, fillTo_all, HN.out, map_getD_range] at h0; exact h0
      clear h0 hkn
      go_wp2_with fail
      go_ret
      exact ⟨rfl, H0.out, hg.out⟩

set_option maxRecDepth 100000 in
/-- Two slices with the same numbers. -/
theorem eqInt64S_same (a b : Option Addr) (ca cb : Nat) (xs : List Int) (hn : xs.length ≤ 1048576) (w : World) (ha : SliceOf .i64 w a xs) (hb : SliceOf .i64 w b xs) :
    Calls Tryd.prog 22 #[.slice a xs.length ca, .slice b xs.length cb] w fun e w' => e = .returned (.bool true) ∧ Grown w w' := by
  have HA := hid ha
  have HB := hid hb
  clear ha hb
  obtain ⟨n, hxn⟩ : ∃ n, n = xs.length := ⟨_, rfl⟩
  rw [← hxn] at hn ⊢
  have HN := hid hxn
  clear hxn
  go_enter Tryd.func22, Tryd.ntmps22
  go_wp2_with fail
  go_loopw [5] (fun i wr => ∃ k : Nat, k ≤ n ∧ i = .int .i64 k ∧ Hid (Grown w wr)) (fun i _ => n - (intOf i).toNat)
  case atStart => exact ⟨0, Nat.zero_le _, rfl, hid (Grown.refl _)⟩
  case round =>
    obtain ⟨k, hk, rfl, hg⟩ := hrel
    by_cases hlt : k < n
    · obtain ⟨b0, o0, rfl, h0⟩ := HA.out k (by rw [← HN.out]; exact hlt)
      obtain ⟨b1, o1, rfl, h1⟩ := HB.out k (by rw [← HN.out]; exact hlt)
      have hc0 := cell_grown hg.out h0
      have hc1 := cell_grown hg.out h1
      clear h0 h1
      generalize xs.getD k 0 = v at *
      have hb0 : (0 : Int) ≤ k := by omega
      have hb1 : (k : Int) < n := by omega
      go_wp2_with fail
      go_quiet (fail)
      go_wp2_with fail
      go_roundw
      case rel => exact ⟨k + 1, by omega, by go_num, hid (hg.out.drewN _)⟩
      case measure => simp [intOf]; omega
    · go_wp2_with fail
      go_ret
      exact ⟨rfl, hg.out⟩
end Go.Proofs.YtfaiehjomcgjgaaDoor

/- Slices of the call's own; worlds in which nothing old has turned. -/
namespace Go.Proofs.YtfaiehjomcgjgaaDoor
set_option linter.unusedVariables false
open Go.RowKit

/-- Nothing that was there has turned. -/
def Gr (W w : World) : Prop := Below W.heap.size W w
theorem Gr.size {W w : World} (h : Gr W w) : W.heap.size ≤ w.heap.size := Below.size h
theorem Gr.refl (W : World) : Gr W W := Below.refl _ _
theorem Gr.trans {A B C : World} (h : Gr A B) (g : Gr B C) : Gr A C := Below.trans h (Below.mono g h.size)
theorem Gr.alloc {W w : World} (h : Gr W w) (o : Obj) : Gr W (w.alloc o) := Below.alloc h (Below.size h) o
theorem Gr.setCell {W w : World} (h : Gr W w) {p : Addr} (hp : W.heap.size ≤ p.block) (u : Value) : Gr W (w.setCell p u) := Below.setCell h hp u
theorem Gr.drew {W w : World} (h : Gr W w) : Gr W w.drew := Below.drew h
theorem Gr.drewN {W w : World} (h : Gr W w) (n : Nat) : Gr W (w.drewN n) := ⟨h.1, h.2, h.3, h.4, h.5⟩
theorem Gr.by_ {W w w' : World} {row : Option Nat} (h : Gr W w) (hg : w.grownBy w' row) (hr : ∀ k, row = some k → W.heap.size ≤ k) : Gr W w' := Below.grown h hg h.size hr
theorem Gr.setRow {W w : World} (h : Gr W w) {g : Nat} (hg : W.heap.size ≤ g) (cs : Array Value) : Gr W (w.setRow g cs) :=
  h.by_ (row := some g) ⟨rfl, rfl, rfl, by rw [size_setRow]; exact Nat.le_refl _, fun k _ hk => setRow_other w g k cs (fun e => hk (by rw [e]))⟩ (fun k e => by cases e; exact hg)
theorem Gr.heap {W w : World} (h : Gr W w) {i : Nat} {x : Obj} (hx : W.heap[i]? = some x) : w.heap[i]? = some x := by rw [Below.block h i (lt_of_heap hx)]; exact hx
theorem Gr.cell {W w : World} (h : Gr W w) {a : Addr} {v : Value} (hc : W.cell? a = some v) : w.cell? a = some v :=
  (World.cell?_of_block (w := W) (Below.block h a.block (World.block_lt_of_cell? W a hc))).trans hc
theorem Gr.of {W w : World} (h : Grown W w) : Gr W w := h.below
theorem SliceOf.gr {k : IntKind} {W w : World} {a : Option Addr} {xs : List Int} (h : SliceOf k W a xs) (hg : Gr W w) : SliceOf k w a xs := by
  intro i hi
  obtain ⟨b, off, e, hc⟩ := h i hi
  exact ⟨b, off, e, hg.cell hc⟩
theorem SliceOf.drewN {k : IntKind} {W : World} {a : Option Addr} {xs : List Int} (h : SliceOf k W a xs) (n : Nat) : SliceOf k (W.drewN n) a xs := h.gr ((Gr.refl W).drewN n)

/-- A slice whose row lies in a block from lo on, below hi, and holds xs. -/
structure Own (k : IntKind) (e : TypeId) (w : World) (lo hi : Nat) (v : Value) (xs : List Int) : Prop where
  row : w.ownsRow lo e 1 v xs.length (xs.map (Value.int k))
  top : ∀ b, v.ownBlock = some b → b < hi
section
variable {k : IntKind} {e : TypeId} {W w w' : World} {lo hi n cap : Nat} {v : Value} {a : Option Addr} {xs : List Int}
theorem Own.by_ {row : Option Nat} (h : Own k e w lo hi v xs) (hg : w.grownBy w' row) (hne : ∀ b, row = some b → b < lo ∨ hi ≤ b) : Own k e w' lo hi v xs := by
  refine ⟨h.row.kept hg ?_, h.top⟩
  cases hv : v.ownBlock with
  | none => exact .inl rfl
  | some b =>
    right
    intro hr
    have h1 := (h.row.lt b hv).1
    have h2 := h.top b hv
    have h3 := hne b hr.symm
    omega
theorem Own.gr (h : Own k e W lo hi v xs) (g : Gr W w) : Own k e w lo hi v xs := by
  refine ⟨⟨h.row.1, ?_⟩, h.top⟩
  rcases h.row.2 with h1 | ⟨g', cap, cur, h1, h2, h3, r⟩
  · exact .inl h1
  · exact .inr ⟨g', cap, cur, h1, h2, g.heap h3, r⟩
theorem Own.widen {lo' hi' : Nat} (h : Own k e w lo hi v xs) (hl : lo' ≤ lo) (hh : hi ≤ hi') : Own k e w lo' hi' v xs := by
  refine ⟨⟨h.row.1, ?_⟩, fun b hb => Nat.lt_of_lt_of_le (h.top b hb) hh⟩
  rcases h.row.2 with h1 | ⟨g', cap, cur, h1, h2, r⟩
  · exact .inl h1
  · exact .inr ⟨g', cap, cur, h1, Nat.le_trans hl h2, r⟩
theorem Own.shape (h : Own k e w lo hi v xs) : ∃ a cap, v = .slice a xs.length cap := by
  rcases h.row.2 with ⟨h1, h2⟩ | ⟨g', cap, cur, h1, _⟩
  · exact ⟨none, 0, by rw [h1, h2]⟩
  · exact ⟨_, _, h1⟩
theorem Own.len (h : Own k e w lo hi (.slice a n cap) xs) : n = xs.length := by
  obtain ⟨a', c', h1⟩ := h.shape
  simp only [Value.slice.injEq] at h1
  exact h1.2.1
theorem Own.at_ (h : Own k e w lo hi (.slice a n cap) xs) {i : Nat} (hi' : i < xs.length) :
    ∃ g, a = some ⟨g, 0, none⟩ ∧ (lo ≤ g ∧ g < hi) ∧ w.cell? ⟨g, i, none⟩ = some (.int k (xs.getD i 0)) ∧ w.frozen? ⟨g, i, none⟩ = false := by
  have hl := h.len
  subst hl
  rcases h.row.2 with ⟨h1, h2⟩ | ⟨g', cap', cur, h1, h2, _⟩
  · omega
  · simp only [Value.slice.injEq] at h1
    obtain ⟨rfl, _, rfl⟩ := h1
    refine ⟨g', rfl, ⟨h2, h.top g' rfl⟩, ?_, h.row.frozenAt i⟩
    rw [h.row.cellAt i (by omega)]
    simp [List.getElem?_eq_getElem hi', List.getD]
theorem Own.reads (h : Own k e w lo hi (.slice a n cap) xs) : SliceOf k w a xs := by
  intro i hi'
  obtain ⟨g, rfl, _, hc, _⟩ := h.at_ hi'
  exact ⟨g, 0, rfl, by rw [Nat.zero_add]; exact hc⟩
theorem Own.put {g : Nat} (h : Own k e w lo hi (.slice (some ⟨g, 0, none⟩) n cap) xs) (i : Nat) (x : Int) :
    Own k e (w.setCell ⟨g, i, none⟩ (.int k x)) lo hi (.slice (some ⟨g, 0, none⟩) n cap) (xs.set i x) ∧ w.grownBy (w.setCell ⟨g, i, none⟩ (.int k x)) (some g) := by
  have hl := h.len
  subst hl
  have h1 := h.row.stored i (.int k x)
  refine ⟨⟨?_, h.top⟩, h1.2⟩
  rw [List.length_set, List.map_set]
  exact h1.1
theorem Own.new (w : World) (xs : List Int) (hm : xs.length ≤ maxLen) : Own k e (w.alloc (.cells (kCells k xs) e)) w.heap.size (w.heap.size + 1) (.slice (some ⟨w.heap.size, 0, none⟩) xs.length xs.length) xs := by
  refine ⟨?_, fun b hb => ?_⟩
  · have := World.ownsRow_lit (e := e) (size := 1) w (kCells k xs) xs.length (Nat.le_refl _) hm (by rw [kCells_size, Nat.mul_one])
    simpa [kCells] using this
  · simp only [Value.ownBlock, Option.some.injEq] at hb; omega
theorem Own.ofBlock {b : Nat} (hb : w.heap[b]? = some (.cells (kCells k xs) e (0, 0))) (hm : xs.length ≤ maxLen) : Own k e w b (b + 1) (.slice (some ⟨b, 0, none⟩) xs.length xs.length) xs := by
  refine ⟨⟨by simp, .inr ⟨b, xs.length, kCells k xs, rfl, Nat.le_refl _, hb, Nat.le_refl _, hm, by rw [kCells_size, Nat.mul_one], ?_⟩⟩, fun b' hb' => ?_⟩
  · rw [Nat.mul_one]
    exact List.take_of_length_le (by rw [Array.length_toList, kCells_size]; exact Nat.le_refl _)
  · simp only [Value.ownBlock, Option.some.injEq] at hb'; omega
theorem Own.nil (w : World) (lo hi : Nat) : Own k e w lo hi (.slice none 0 0) [] := ⟨World.ownsRow_nil w lo e 1, fun b hb => by simp [Value.ownBlock] at hb⟩
theorem Own.ofRow {ys : List Value} {m : Nat} (h : w.ownsRow lo e 1 v m ys) (hy : ys = xs.map (Value.int k)) (hm : m = xs.length) : Own k e w lo w.heap.size v xs := by
  subst hy hm
  exact ⟨h, fun b hb => (h.lt b hb).2⟩
theorem own_row_block {g : Nat} (h : w.grownBy w' (Value.slice (some ⟨g, 0, none⟩) n cap).ownBlock) : w.grownBy w' (some g) := h
end

/-- A slice is handed back, with a code or without. -/
def RetOwn (k : IntKind) (e : TypeId) (mk : Value → Value) (xs : List Int) (w : World) (r : Ending) (w' : World) : Prop :=
  ∃ v, r = .returned (mk v) ∧ Own k e w' w.heap.size w'.heap.size v xs ∧ Gr w w'
def withCode (c : Int) (v : Value) : Value := .tuple #[v, .int .i64 c]

/-- Marks: numbers that rise from k0 on, as so many as there are places. -/
def markL (k : IntKind) (k0 n : Nat) : List Int := (List.range n).map fun i => k.wrap ((k0 + i : Nat) : Int)
theorem markL_length (k : IntKind) (k0 n : Nat) : (markL k k0 n).length = n := by simp [markL]
theorem markL_get {k : IntKind} {k0 n i : Nat} (h : i < n) : (markL k k0 n).getD i 0 = k.wrap ((k0 + i : Nat) : Int) := by simp [markL, List.getD, h]
def markTo (k : IntKind) (k0 : Nat) (xs : List Int) (j : Nat) : List Int := (List.range j).map (fun i => k.wrap ((k0 + i : Nat) : Int)) ++ xs.drop j
theorem markTo_length {k : IntKind} {k0 : Nat} {xs : List Int} {j : Nat} (h : j ≤ xs.length) : (markTo k k0 xs j).length = xs.length := by simp [markTo]; omega
theorem markTo_zero (k : IntKind) (k0 : Nat) (xs : List Int) : markTo k k0 xs 0 = xs := by simp [markTo]
theorem markTo_all (k : IntKind) (k0 : Nat) (xs : List Int) : markTo k k0 xs xs.length = markL k k0 xs.length := by simp [markTo, markL]
theorem markTo_set {k : IntKind} {k0 : Nat} {xs : List Int} {j : Nat} (h : j < xs.length) : (markTo k k0 xs j).set j (k.wrap ((k0 + j : Nat) : Int)) = markTo k k0 xs (j + 1) := by
  unfold markTo
  rw [List.set_append_right _ _ (by simp), List.length_map, List.length_range, Nat.sub_self, List.range_succ, List.map_append, List.append_assoc]
  congr 1
  rw [List.drop_eq_getElem_cons h]
  rfl
end Go.Proofs.YtfaiehjomcgjgaaDoor

/- Hoists: what is valid, what a hoist means: plain lists. -/
namespace Go.Proofs.YtfaiehjomcgjgaaDoor
set_option linter.unusedVariables false
open Go.RowKit

/-- All numbers below k. -/
def allTo (p : Nat → Bool) : Nat → Bool
  | 0 => true
  | k + 1 => allTo p k && p k
theorem allTo_iff {p : Nat → Bool} {k : Nat} : allTo p k = true ↔ ∀ i, i < k → p i = true := by
  induction k with
  | zero => simp [allTo]
  | succ k ih =>
    simp only [allTo, Bool.and_eq_true, ih]
    refine ⟨fun ⟨h, hk⟩ i hi => ?_, fun h => ⟨fun i hi => h i (by omega), h k (by omega)⟩⟩
    by_cases e : i = k
    · rw [e]; exact hk
    · exact h i (by omega)
theorem allTo_no {p : Nat → Bool} {k i : Nat} (hi : i < k) (h : p i = false) : allTo p k = false := by
  cases hk : allTo p k
  · rfl
  · rw [allTo_iff.1 hk i hi] at h; cases h
theorem allTo_step {p : Nat → Bool} {k : Nat} (h : allTo p k = true) (hp : p k = true) : allTo p (k + 1) = true := by simp [allTo, h, hp]

/-- Where the group of a place begins. -/
def startOf (h : List Int) : Nat → Nat
  | 0 => 0
  | i + 1 => if h.getD i 0 = -10 then i + 1 else startOf h i
theorem startOf_le (h : List Int) (i : Nat) : startOf h i ≤ i := by
  induction i with
  | zero => simp [startOf]
  | succ i ih => simp only [startOf]; split <;> omega
theorem startOf_brk {h : List Int} {i : Nat} (hb : h.getD i 0 = -10) : startOf h (i + 1) = i + 1 := by simp only [startOf]; rw [if_pos hb]
theorem startOf_no {h : List Int} {i : Nat} (hb : ¬ h.getD i 0 = -10) : startOf h (i + 1) = startOf h i := by simp only [startOf]; rw [if_neg hb]
theorem startOf_in {h : List Int} {i j : Nat} (h1 : startOf h i ≤ j) (h2 : j < i) : ¬ h.getD j 0 = -10 := by
  induction i with
  | zero => omega
  | succ i ih =>
    intro hb
    by_cases e : h.getD i 0 = -10
    · rw [startOf_brk e] at h1; omega
    · rw [startOf_no e] at h1
      by_cases ej : j = i
      · rw [ej] at hb; exact e hb
      · exact ih h1 (by omega) hb
theorem startOf_congr {h g : List Int} {i : Nat} (hc : ∀ j, j < i → (h.getD j 0 = -10 ↔ g.getD j 0 = -10)) : startOf h i = startOf g i := by
  induction i with
  | zero => rfl
  | succ i ih =>
    have h1 := hc i (by omega)
    have h2 := ih (fun j hj => hc j (by omega))
    simp only [startOf]
    by_cases e : h.getD i 0 = -10
    · rw [if_pos e, if_pos (h1.1 e)]
    · rw [if_neg e, if_neg (fun g => e (h1.2 g)), h2]

def brkI (x : Int) : Bool := decide (x = -10)
def subI (x : Int) : Bool := decide (-4 ≤ x) && decide (x ≤ -1)
def kindI (x : Int) : Bool := decide (0 ≤ x) && decide (x ≤ 39)
/-- A number of a hoist. -/
def numI (x : Int) : Bool := brkI x || (subI x || kindI x)
theorem brkI_iff {x : Int} : brkI x = true ↔ x = -10 := by simp [brkI]
theorem subI_iff {x : Int} : subI x = true ↔ -4 ≤ x ∧ x ≤ -1 := by simp [subI]
theorem kindI_iff {x : Int} : kindI x = true ↔ 0 ≤ x ∧ x ≤ 39 := by simp [kindI]
theorem brkI_no {x : Int} (h : brkI x = false) : ¬ x = -10 := by simpa [brkI] using h
theorem subI_no {x : Int} (h : subI x = false) : ¬ (-4 ≤ x ∧ x ≤ -1) := fun g => by rw [subI_iff.2 g] at h; cases h
theorem kindI_no {x : Int} (h : kindI x = false) : ¬ (0 ≤ x ∧ x ≤ 39) := fun g => by rw [kindI_iff.2 g] at h; cases h

/-- A place is as told. -/
def okAt (h : List Int) (i : Nat) : Bool :=
  if brkI (h.getD i 0) then decide (startOf h i < i) && decide (i + 1 < h.length)
  else if subI (h.getD i 0) then decide (startOf h i + (-(h.getD i 0)).toNat ≤ i) else kindI (h.getD i 0)
def lenB (h : List Int) : Bool := decide (1 ≤ h.length) && decide (h.length ≤ 8)
def validH (h : List Int) : Bool := lenB h && allTo (okAt h) h.length
/-- The program's checks. -/
def numsB (h : List Int) : Bool := allTo (fun i => numI (h.getD i 0)) h.length
def grpAt (h : List Int) (i : Nat) : Bool := !((decide (i = h.length) || brkI (h.getD i 0)) && decide (startOf h i = i))
def grpsB (h : List Int) : Bool := allTo (grpAt h) (h.length + 1)
def repAt (h : List Int) (i : Nat) : Bool := !(subI (h.getD i 0) && decide (i < startOf h i + (-(h.getD i 0)).toNat))
def repsB (h : List Int) : Bool := allTo (repAt h) h.length
theorem lenB_iff {h : List Int} : lenB h = true ↔ 1 ≤ h.length ∧ h.length ≤ 8 := by simp [lenB]

theorem validH_checks (h : List Int) : validH h = (lenB h && (numsB h && (grpsB h && repsB h))) := by
  rw [Bool.eq_iff_iff]
  unfold validH numsB grpsB repsB
  simp only [Bool.and_eq_true, allTo_iff]
  constructor
  · rintro ⟨hl, ho⟩
    have hl' := lenB_iff.1 hl
    refine ⟨hl, fun i hi => ?_, fun i hi => ?_, fun i hi => ?_⟩
    · have h1 := ho i hi
      unfold okAt at h1
      unfold numI
      split at h1
      · rename_i hb; rw [hb]; rfl
      · split at h1
        · rename_i hs; rw [hs]; simp
        · rw [h1]; simp
    · unfold grpAt
      by_cases e : i = h.length
      · have h1 := ho (h.length - 1) (by omega)
        have hle := startOf_le h (h.length - 1)
        have hne : ¬ h.getD (h.length - 1) 0 = -10 := by
          intro hb
          unfold okAt at h1
          rw [if_pos (brkI_iff.2 hb)] at h1
          simp only [Bool.and_eq_true, decide_eq_true_eq] at h1
          omega
        have hs := startOf_no hne
        rw [show h.length - 1 + 1 = h.length by omega] at hs
        have : ¬ startOf h i = i := by rw [e, hs]; omega
        simp [this]
      · have hi' : i < h.length := by omega
        have h1 := ho i hi'
        cases hb : brkI (h.getD i 0)
        · simp [e]
        · unfold okAt at h1
          rw [if_pos hb] at h1
          simp only [Bool.and_eq_true, decide_eq_true_eq] at h1
          have : ¬ startOf h i = i := by omega
          simp [this]
    · unfold repAt
      have h1 := ho i hi
      cases hs : subI (h.getD i 0)
      · simp
      · have hb : brkI (h.getD i 0) = false := by
          have := subI_iff.1 hs
          simp only [brkI, decide_eq_false_iff_not]; omega
        unfold okAt at h1
        rw [if_neg (by rw [hb]; simp), if_pos hs] at h1
        simp only [decide_eq_true_eq] at h1
        have h2 : ¬ i < startOf h i + (-(h.getD i 0)).toNat := by omega
        simp only [decide_eq_false h2]; rfl
  · rintro ⟨hl, hn, hg, hr⟩
    have hl' := lenB_iff.1 hl
    refine ⟨hl, fun i hi => ?_⟩
    have h1 := hn i hi
    have h2 := hg i (by omega)
    have h3 := hr i hi
    unfold okAt
    cases hb : brkI (h.getD i 0)
    · rw [if_neg (by simp)]
      cases hs : subI (h.getD i 0)
      · rw [if_neg (by simp)]
        unfold numI at h1
        rw [hb, hs] at h1
        simpa using h1
      · rw [if_pos rfl]
        unfold repAt at h3
        rw [hs] at h3
        simp only [Bool.true_and, Bool.not_eq_true', decide_eq_false_iff_not] at h3
        simp only [decide_eq_true_eq]; omega
    · rw [if_pos rfl]
      have hbb := brkI_iff.1 hb
      unfold grpAt at h2
      rw [hb] at h2
      simp only [Bool.or_true, Bool.true_and, Bool.not_eq_true', decide_eq_false_iff_not] at h2
      have hle := startOf_le h i
      simp only [Bool.and_eq_true, decide_eq_true_eq]
      refine ⟨by omega, ?_⟩
      by_cases e : i + 1 = h.length
      · have h4 := hg (i + 1) (by omega)
        unfold grpAt at h4
        rw [startOf_brk hbb, e] at h4
        simp at h4
      · omega

/-- What the numbers up to a place mean. -/
def meanTo (h : List Int) : Nat → List Int
  | 0 => []
  | k + 1 => meanTo h k ++ [if subI (h.getD k 0) then (meanTo h k).getD (startOf h k + (-(h.getD k 0)).toNat - 1) 0 else h.getD k 0]
theorem meanTo_length (h : List Int) (k : Nat) : (meanTo h k).length = k := by
  induction k with
  | zero => rfl
  | succ k ih => simp [meanTo, ih]
def meanL (h : List Int) : List Int := meanTo h h.length
theorem meanL_length (h : List Int) : (meanL h).length = h.length := meanTo_length _ _
theorem meanTo_sub {h : List Int} {k : Nat} (hs : subI (h.getD k 0) = true) : meanTo h (k + 1) = meanTo h k ++ [(meanTo h k).getD (startOf h k + (-(h.getD k 0)).toNat - 1) 0] := by simp only [meanTo]; rw [if_pos hs]
theorem meanTo_own {h : List Int} {k : Nat} (hs : subI (h.getD k 0) = false) : meanTo h (k + 1) = meanTo h k ++ [h.getD k 0] := by simp only [meanTo]; rw [if_neg (by rw [hs]; simp)]
theorem getD_snoc_lt {l : List Int} {x : Int} {i : Nat} (h : i < l.length) : (l ++ [x]).getD i 0 = l.getD i 0 := by
  simp [List.getD, List.getElem?_append_left h]
theorem getD_snoc_eq {l : List Int} {x : Int} {i : Nat} (h : i = l.length) : (l ++ [x]).getD i 0 = x := by
  subst h; simp [List.getD]
theorem meanTo_stay {h : List Int} {k i : Nat} (hi : i < k) : (meanTo h k).getD i 0 = (meanTo h (i + 1)).getD i 0 := by
  induction k with
  | zero => omega
  | succ k ih =>
    by_cases e : i = k
    · rw [e]
    · have : (meanTo h (k + 1)).getD i 0 = (meanTo h k).getD i 0 := by
        simp only [meanTo]; exact getD_snoc_lt (by rw [meanTo_length]; omega)
      rw [this]; exact ih (by omega)
/-- In a valid hoist what is repeated lies above, in the group. -/
theorem okAt_sub {h : List Int} {i : Nat} (ho : okAt h i = true) (hs : subI (h.getD i 0) = true) : startOf h i + (-(h.getD i 0)).toNat ≤ i ∧ 1 ≤ (-(h.getD i 0)).toNat := by
  have h1 := subI_iff.1 hs
  unfold okAt at ho
  rw [if_neg (by simp only [brkI, decide_eq_true_eq]; omega), if_pos hs] at ho
  simp only [decide_eq_true_eq] at ho
  omega
theorem okAt_kind {h : List Int} {i : Nat} (ho : okAt h i = true) (hb : ¬ h.getD i 0 = -10) (hs : subI (h.getD i 0) = false) : 0 ≤ h.getD i 0 ∧ h.getD i 0 ≤ 39 := by
  unfold okAt at ho
  rw [if_neg (by simpa [brkI] using hb), if_neg (by rw [hs]; simp)] at ho
  exact kindI_iff.1 ho
/-- Flags and substitutes mean kinds. -/
theorem meanTo_kind {h : List Int} {k : Nat} (ho : allTo (okAt h) k = true) : ∀ i, i < k → ¬ h.getD i 0 = -10 → 0 ≤ (meanTo h k).getD i 0 ∧ (meanTo h k).getD i 0 ≤ 39 := by
  induction k with
  | zero => intro i hi; omega
  | succ k ih =>
    have ho' : allTo (okAt h) k = true := by simp only [allTo, Bool.and_eq_true] at ho; exact ho.1
    have hk : okAt h k = true := by simp only [allTo, Bool.and_eq_true] at ho; exact ho.2
    intro i hi hb
    by_cases e : i = k
    · subst e
      cases hs : subI (h.getD i 0)
      · rw [meanTo_own hs, getD_snoc_eq (meanTo_length h i).symm]
        exact okAt_kind hk hb hs
      · rw [meanTo_sub hs, getD_snoc_eq (meanTo_length h i).symm]
        obtain ⟨h1, h2⟩ := okAt_sub hk hs
        exact ih ho' _ (by omega) (startOf_in (i := i) (by omega) (by omega))
    · have : (meanTo h (k + 1)).getD i 0 = (meanTo h k).getD i 0 := by
        simp only [meanTo]; exact getD_snoc_lt (by rw [meanTo_length]; omega)
      rw [this]; exact ih ho' i (by omega) hb
theorem meanTo_brk {h : List Int} {k i : Nat} (hi : i < k) (hb : h.getD i 0 = -10) : (meanTo h k).getD i 0 = -10 := by
  rw [meanTo_stay hi, meanTo_own (by rw [hb]; rfl), getD_snoc_eq (meanTo_length h i).symm, hb]
/-- The list in which the numbers up to a place have been replaced. -/
def mixTo (h : List Int) (k : Nat) : List Int := meanTo h k ++ h.drop k
theorem mixTo_length {h : List Int} {k : Nat} (hk : k ≤ h.length) : (mixTo h k).length = h.length := by
  simp [mixTo, meanTo_length]; omega
theorem mixTo_zero (h : List Int) : mixTo h 0 = h := by simp [mixTo, meanTo]
theorem mixTo_all (h : List Int) : mixTo h h.length = meanL h := by simp [mixTo, meanL]
theorem mixTo_lt {h : List Int} {k i : Nat} (hi : i < k) : (mixTo h k).getD i 0 = (meanTo h k).getD i 0 := by
  unfold mixTo; simp [List.getD, List.getElem?_append_left (show i < (meanTo h k).length by rw [meanTo_length]; exact hi)]
theorem mixTo_ge {h : List Int} {k i : Nat} (hi : k ≤ i) : (mixTo h k).getD i 0 = h.getD i 0 := by
  unfold mixTo
  simp only [List.getD]
  rw [List.getElem?_append_right (by rw [meanTo_length]; exact hi), meanTo_length, List.getElem?_drop, show k + (i - k) = i by omega]
theorem mixTo_step {h : List Int} {k : Nat} (hk : k < h.length) {x : Int} (hx : meanTo h (k + 1) = meanTo h k ++ [x]) : (mixTo h k).set k x = mixTo h (k + 1) := by
  unfold mixTo
  rw [List.set_append_right _ _ (by rw [meanTo_length]; omega), meanTo_length, Nat.sub_self, hx, List.append_assoc]
  congr 1
  rw [List.drop_eq_getElem_cons hk]
  rfl
theorem mixTo_keep {h : List Int} {k : Nat} (hk : k < h.length) (hs : subI (h.getD k 0) = false) : mixTo h k = mixTo h (k + 1) := by
  rw [← mixTo_step hk (meanTo_own hs)]
  unfold mixTo
  have hd := List.drop_eq_getElem_cons hk
  have hx : h.getD k 0 = h[k] := by simp [List.getD, List.getElem?_eq_getElem hk]
  rw [List.set_append_right _ _ (by rw [meanTo_length]; omega), meanTo_length, Nat.sub_self, hd, hx]
  rfl
theorem startOf_mix {h : List Int} {k : Nat} (ho : allTo (okAt h) k = true) : startOf (mixTo h k) k = startOf h k := by
  refine startOf_congr fun j hj => ?_
  rw [mixTo_lt hj]
  constructor
  · intro hm
    by_cases hb : h.getD j 0 = -10
    · exact hb
    · have := (meanTo_kind ho j hj hb).1; omega
  · intro hb; exact meanTo_brk hj hb
theorem validH_all {h : List Int} (hv : validH h = true) : allTo (okAt h) h.length = true := by unfold validH at hv; simp only [Bool.and_eq_true] at hv; exact hv.2
theorem validH_len {h : List Int} (hv : validH h = true) : 1 ≤ h.length ∧ h.length ≤ 8 := by unfold validH at hv; simp only [Bool.and_eq_true] at hv; exact lenB_iff.1 hv.1
theorem validH_at {h : List Int} (hv : validH h = true) {i : Nat} (hi : i < h.length) : okAt h i = true := allTo_iff.1 (validH_all hv) i hi
theorem allTo_upto {p : Nat → Bool} {k n : Nat} (h : allTo p n = true) (hk : k ≤ n) : allTo p k = true := allTo_iff.2 fun i hi => allTo_iff.1 h i (by omega)
/-- Another flag in the place of a flag. -/
theorem validH_set {h : List Int} (hv : validH h = true) {at' : Nat} (ha : at' < h.length) (hf : 0 ≤ h.getD at' 0) {x : Int} (hx : 0 ≤ x ∧ x ≤ 39) : validH (h.set at' x) = true := by
  have hg : ∀ j, (h.set at' x).getD j 0 = if j = at' then x else h.getD j 0 := by
    intro j
    simp only [List.getD, List.getElem?_set]
    by_cases e : at' = j
    · subst e; simp [ha]
    · simp [e, Ne.symm e]
  have hst : ∀ i, startOf (h.set at' x) i = startOf h i := by
    intro i
    refine startOf_congr fun j _ => ?_
    rw [hg j]
    by_cases e : j = at'
    · subst e; rw [if_pos rfl]; omega
    · rw [if_neg e]
  unfold validH at hv ⊢
  simp only [Bool.and_eq_true] at hv ⊢
  refine ⟨by unfold lenB; rw [List.length_set]; exact hv.1, allTo_iff.2 fun i hi => ?_⟩
  rw [List.length_set] at hi
  have h1 := allTo_iff.1 hv.2 i hi
  unfold okAt at h1 ⊢
  rw [hst, hg, List.length_set]
  by_cases e : i = at'
  · subst e
    rw [if_pos rfl, if_neg (by simp only [brkI, decide_eq_true_eq]; omega), if_neg (by simp only [subI, Bool.and_eq_true, decide_eq_true_eq]; omega)]
    exact kindI_iff.2 hx
  · rw [if_neg e]; exact h1
end Go.Proofs.YtfaiehjomcgjgaaDoor

/- Counts of numbers, the first greatest count, greatest numbers: plain lists. -/
namespace Go.Proofs.YtfaiehjomcgjgaaDoor
set_option linter.unusedVariables false
open Go.RowKit
/-- How often a number is among the first k of a list. -/
def occ (h : List Int) (c : Int) : Nat → Int
  | 0 => 0
  | k + 1 => occ h c k + (if h.getD k 0 = c then 1 else 0)
theorem occ_bd (h : List Int) (c : Int) (k : Nat) : 0 ≤ occ h c k ∧ occ h c k ≤ k := by
  induction k with
  | zero => simp [occ]
  | succ k ih => simp only [occ]; split <;> omega
theorem occ_yes {h : List Int} {c : Int} {k : Nat} (e : h.getD k 0 = c) : occ h c (k + 1) = occ h c k + 1 := by simp only [occ]; rw [if_pos e]
theorem occ_no {h : List Int} {c : Int} {k : Nat} (e : ¬ h.getD k 0 = c) : occ h c (k + 1) = occ h c k := by simp only [occ]; rw [if_neg e]; omega
theorem occ_zero {h : List Int} {c : Int} {k : Nat} (e : ∀ i, i < k → ¬ h.getD i 0 = c) : occ h c k = 0 := by
  induction k with
  | zero => rfl
  | succ k ih => rw [occ_no (e k (by omega)), ih (fun i hi => e i (by omega))]
theorem occ_pos {h : List Int} {c : Int} {k i : Nat} (hi : i < k) (e : h.getD i 0 = c) : 1 ≤ occ h c k := by
  induction k with
  | zero => omega
  | succ k ih =>
    have hb := occ_bd h c k
    by_cases ek : i = k
    · rw [occ_yes (by rw [← ek]; exact e)]; omega
    · have := ih (by omega)
      simp only [occ]; split <;> omega
/-- The counts of n numbers. -/
def colL (n : Nat) (f : Nat → Int) (h : List Int) (k : Nat) : List Int := (List.range n).map fun c => occ h (f c) k
theorem colL_length (n : Nat) (f : Nat → Int) (h : List Int) (k : Nat) : (colL n f h k).length = n := by simp [colL]
theorem colL_get {n : Nat} {f : Nat → Int} {h : List Int} {k v : Nat} (hv : v < n) : (colL n f h k).getD v 0 = occ h (f v) k := by simp [colL, List.getD, hv]
theorem colL_bd (n : Nat) (f : Nat → Int) (h : List Int) (k v : Nat) : 0 ≤ (colL n f h k).getD v 0 ∧ (colL n f h k).getD v 0 ≤ k := by
  by_cases hv : v < n
  · rw [colL_get hv]; exact occ_bd h _ k
  · simp [List.getD, List.getElem?_eq_none (show (colL n f h k).length ≤ v by rw [colL_length]; omega)]
theorem colL_zero (n : Nat) (f : Nat → Int) (h : List Int) : colL n f h 0 = List.replicate n 0 := by
  unfold colL
  apply List.ext_getElem?
  intro i
  by_cases hi : i < n
  · simp [hi, occ]
  · simp [hi]
theorem colL_hit {n : Nat} {f : Nat → Int} {h : List Int} {k v : Nat} (hv : v < n) (hf : h.getD k 0 = f v) (hi : ∀ c, c < n → f c = f v → c = v) : (colL n f h k).set v ((colL n f h k).getD v 0 + 1) = colL n f h (k + 1) := by
  rw [colL_get hv]
  apply List.ext_getElem?
  intro i
  by_cases e : i = v
  · subst e
    rw [List.getElem?_set_self (by rw [colL_length]; exact hv)]
    simp only [colL, List.getElem?_map, List.getElem?_range hv, Option.map_some]
    rw [occ_yes hf]
  · rw [List.getElem?_set_ne (Ne.symm e)]
    by_cases h6 : i < n
    · simp only [colL, List.getElem?_map, List.getElem?_range h6, Option.map_some]
      rw [occ_no (fun g => e (hi i h6 (by rw [← hf, g])))]
    · rw [List.getElem?_eq_none (by rw [colL_length]; omega), List.getElem?_eq_none (by rw [colL_length]; omega)]
theorem colL_miss {n : Nat} {f : Nat → Int} {h : List Int} {k : Nat} (hm : ∀ c, c < n → ¬ h.getD k 0 = f c) : colL n f h (k + 1) = colL n f h k := by
  unfold colL
  apply List.map_congr_left
  intro c hc
  exact occ_no (hm c (by simpa using hc))
/-- The first greatest one of the first k numbers. -/
def bestOf (ys : List Int) : Nat → Nat
  | 0 => 0
  | c + 1 => if ys.getD (bestOf ys c) 0 < ys.getD c 0 then c else bestOf ys c
theorem bestOf_lt (ys : List Int) (k : Nat) : bestOf ys k < k ∨ bestOf ys k = 0 := by
  induction k with
  | zero => simp [bestOf]
  | succ k ih => simp only [bestOf]; split <;> omega
theorem bestOf_yes {ys : List Int} {c : Nat} (h : ys.getD (bestOf ys c) 0 < ys.getD c 0) : bestOf ys (c + 1) = c := by simp only [bestOf]; rw [if_pos h]
theorem bestOf_no {ys : List Int} {c : Nat} (h : ¬ ys.getD (bestOf ys c) 0 < ys.getD c 0) : bestOf ys (c + 1) = bestOf ys c := by simp only [bestOf]; rw [if_neg h]
theorem bestOf_one (ys : List Int) : bestOf ys 1 = 0 := by simp [bestOf]
/-- Greatest numbers. -/
def maxFrom (m : Int) (f : Nat → Int) : Nat → Int
  | 0 => m
  | k + 1 => if maxFrom m f k < f k then f k else maxFrom m f k
theorem maxFrom_le {m : Int} {f : Nat → Int} {k : Nat} {b : Int} : maxFrom m f k ≤ b ↔ m ≤ b ∧ ∀ i, i < k → f i ≤ b := by
  induction k with
  | zero => simp [maxFrom]
  | succ k ih =>
    simp only [maxFrom]
    constructor
    · intro h
      have h1 : maxFrom m f k ≤ b ∧ f k ≤ b := by split at h <;> omega
      obtain ⟨h2, h3⟩ := ih.1 h1.1
      refine ⟨h2, fun i hi => ?_⟩
      by_cases e : i = k
      · rw [e]; exact h1.2
      · exact h3 i (by omega)
    · rintro ⟨h1, h2⟩
      have h3 := ih.2 ⟨h1, fun i hi => h2 i (by omega)⟩
      have h4 := h2 k (by omega)
      split <;> omega
theorem maxFrom_bd {m : Int} {f : Nat → Int} {k : Nat} {b : Int} (hm : 0 ≤ m ∧ m ≤ b) (hf : ∀ i, i < k → f i ≤ b) : 0 ≤ maxFrom m f k ∧ maxFrom m f k ≤ b := by
  refine ⟨?_, maxFrom_le.2 ⟨hm.2, hf⟩⟩
  have := (maxFrom_le (m := m) (f := f) (k := k)).1 (Int.le_refl _)
  omega
theorem maxFrom_yes {m : Int} {f : Nat → Int} {k : Nat} (h : maxFrom m f k < f k) : maxFrom m f (k + 1) = f k := by simp only [maxFrom]; rw [if_pos h]
theorem maxFrom_no {m : Int} {f : Nat → Int} {k : Nat} (h : ¬ maxFrom m f k < f k) : maxFrom m f (k + 1) = maxFrom m f k := by simp only [maxFrom]; rw [if_neg h]

/-- The cells of a block of two by two. -/
def blkI (b k : Nat) : Nat := (b % 3 * 2 + k % 2) + 6 * (b / 3 * 2 + k / 2)
theorem blkI_lt {b k : Nat} (hb : b < 6) (hk : k < 4) : blkI b k < 24 := by unfold blkI; omega
def blkL (xs : List Int) (b : Nat) : List Int := (List.range 4).map fun k => xs.getD (blkI b k) 0
theorem blkL_length (xs : List Int) (b : Nat) : (blkL xs b).length = 4 := by simp [blkL]
theorem blkL_get (xs : List Int) (b : Nat) {k : Nat} (hk : k < 4) : (blkL xs b).getD k 0 = xs.getD (blkI b k) 0 := by simp [blkL, List.getD, hk]
def blkC (xs : List Int) (b k : Nat) : List Int := colL 6 (fun c => (c : Int)) (blkL xs b) k
theorem blkC_length (xs : List Int) (b k : Nat) : (blkC xs b k).length = 6 := colL_length _ _ _ _
theorem blkC_hit {xs : List Int} {b k v : Nat} (hk : k < 4) (hv : v < 6) (he : xs.getD (blkI b k) 0 = (v : Int)) : (blkC xs b k).set v ((blkC xs b k).getD v 0 + 1) = blkC xs b (k + 1) :=
  colL_hit hv (by rw [blkL_get xs b hk]; exact he) (fun _ _ e => by exact_mod_cast e)
def blurAt (xs : List Int) (b : Nat) : Nat := bestOf (blkC xs b 4) 6
theorem blurAt_lt (xs : List Int) (b : Nat) : blurAt xs b < 6 := by have := bestOf_lt (blkC xs b 4) 6; unfold blurAt; omega
def blurL (xs : List Int) : List Int := (List.range 6).map fun b => (blurAt xs b : Int)
theorem blurL_length (xs : List Int) : (blurL xs).length = 6 := by simp [blurL]
theorem blurL_bytes (xs : List Int) : Bytes (blurL xs) := by
  intro x hx
  simp only [blurL, List.mem_map] at hx
  obtain ⟨b, _, rfl⟩ := hx
  have := blurAt_lt xs b
  omega
end Go.Proofs.YtfaiehjomcgjgaaDoor

/- Slices of strings. -/
namespace Go.Proofs.YtfaiehjomcgjgaaDoor
set_option linter.unusedVariables false
open Go.RowKit
def StrsOf (w : World) (a : Option Addr) (ss : List ByteArray) : Prop :=
  ∀ i, i < ss.length → ∃ b off, a = some ⟨b, off, none⟩ ∧ w.cell? ⟨b, off + i, none⟩ = some (.string (ss.getD i ByteArray.empty))
theorem StrsOf.gr {W w : World} {a : Option Addr} {ss : List ByteArray} (h : StrsOf W a ss) (hg : Gr W w) : StrsOf w a ss := by
  intro i hi
  obtain ⟨b, off, e, hc⟩ := h i hi
  exact ⟨b, off, e, hg.cell hc⟩
def strCells (ss : List ByteArray) : Array Value := (ss.map Value.string).toArray
theorem strCells_size (ss : List ByteArray) : (strCells ss).size = ss.length := by simp [strCells]
theorem strCells_get (ss : List ByteArray) (i : Nat) (h : i < ss.length) : (strCells ss)[i]? = some (.string (ss.getD i ByteArray.empty)) := by
  simp [strCells, List.getElem?_eq_getElem h, List.getD]
theorem strCells_set (ss : List ByteArray) (i : Nat) (x : ByteArray) : (strCells ss).setIfInBounds i (.string x) = strCells (ss.set i x) := by
  simp [strCells, List.map_set]
theorem cell_strs {w : World} {b i : Nat} {ss : List ByteArray} {t : TypeId} {fr : Nat × Nat} (h : w.heap[b]? = some (.cells (strCells ss) t fr)) (hi : i < ss.length) :
    w.cell? ⟨b, i, none⟩ = some (.string (ss.getD i ByteArray.empty)) := by rw [cell_of_row w b i _ t fr h, strCells_get ss i hi]
theorem strsOf_block {w : World} {b : Nat} {ss : List ByteArray} {t : TypeId} {fr : Nat × Nat} (h : w.heap[b]? = some (.cells (strCells ss) t fr)) : StrsOf w (some ⟨b, 0, none⟩) ss := by
  intro i hi
  exact ⟨b, 0, rfl, by rw [Nat.zero_add]; exact cell_strs h hi⟩
theorem heap_str_set {w : World} {b i : Nat} {ss : List ByteArray} {t : TypeId} {x : ByteArray} (h : w.heap[b]? = some (.cells (strCells ss) t (0, 0))) :
    (w.setCell ⟨b, i, none⟩ (.string x)).heap[b]? = some (.cells (strCells (ss.set i x)) t (0, 0)) := by rw [heap_setCell_same w b i _ t _ h, strCells_set]
theorem madeStrs (n : Nat) : madeCells (Value.string ⟨#[]⟩).cells (n * 1) = strCells (List.replicate n ⟨#[]⟩) := by
  unfold madeCells strCells
  apply Array.ext_getElem?
  intro i
  by_cases h : i < n
  · simp [Value.cells, h, Nat.mod_one]
  · simp [Value.cells, h]
theorem run_make_strs {P : Program} {t e : TypeId} {bytes : Nat} (ht : P.underlying t = some (.slice e)) (hi' : (P.info? e).map (fun i => (i.zero, i.size, i.bytes)) = some (some (.string ⟨#[]⟩), 1, bytes))
    (n : Nat) (hb : bytes * n ≤ 281474976710656) (hn : n ≤ 9223372036854775807) (w : World) :
    (Instr.makeSlice t (.int .i64 n) (.int .i64 n)).run P w = .ok (.slice (some ⟨w.heap.size, 0, none⟩) n n) (w.alloc (.cells (strCells (List.replicate n ⟨#[]⟩)) e)) := by
  obtain ⟨i0, hi, hh⟩ := Option.map_eq_some_iff.1 hi'
  simp only [Prod.mk.injEq] at hh
  obtain ⟨h1, h2, h3⟩ := hh
  have hb' : (i0.bytes : Int) * (n : Int) ≤ 281474976710656 := by
    have h : ((bytes * n : Nat) : Int) ≤ 281474976710656 := by omega
    rw [Int.natCast_mul] at h; rw [h3]; exact h
  have := run_make (P := P) w t e i0 (.string ⟨#[]⟩) ht hi h1 .i64 .i64 n n (by omega) (Int.le_refl _) hb' (by omega)
  rw [this, h2]
  simp only [Int.toNat_natCast]
  rw [madeStrs]
def fillS (n : Nat) (ss : List ByteArray) (k : Nat) : List ByteArray := ss.take k ++ List.replicate (n - k) ⟨#[]⟩
theorem fillS_length {n : Nat} {ss : List ByteArray} {k : Nat} (hn : n = ss.length) (h : k ≤ n) : (fillS n ss k).length = n := by simp [fillS]; omega
theorem fillS_set {n : Nat} {ss : List ByteArray} {k : Nat} (hn : n = ss.length) (h : k < n) : (fillS n ss k).set k (ss.getD k ByteArray.empty) = fillS n ss (k + 1) := by
  unfold fillS
  have hl : (ss.take k).length = k := by rw [List.length_take]; omega
  rw [List.set_append_right _ _ (by omega), hl, Nat.sub_self, show n - k = (n - (k + 1)) + 1 by omega, List.replicate_succ, List.set_cons_zero, List.take_succ_eq_append_getElem (show k < ss.length by omega), List.append_assoc]
  congr 1
  simp [List.getD, List.getElem?_eq_getElem (show k < ss.length by omega)]
theorem fillS_zero (n : Nat) (ss : List ByteArray) : fillS n ss 0 = List.replicate n ⟨#[]⟩ := by simp [fillS]
theorem fillS_all {n : Nat} {ss : List ByteArray} (hn : n = ss.length) : fillS n ss n = ss := by rw [hn]; simp [fillS]
set_option maxRecDepth 100000 in
theorem toStringS_any (a0 : Option Addr) (cap n : Nat) (ss : List ByteArray) (hl : n = ss.length) (hn : n ≤ 1048576) (w : World) (hs : StrsOf w a0 ss) :
    Calls Tryd.prog 39 #[.slice a0 n cap] w fun e w' => e = .returned (.slice (some ⟨w.heap.size, 0, none⟩) n n) ∧ w'.heap[w.heap.size]? = some (.cells (strCells ss) 9 (0, 0)) ∧ Gr w w' := by
  have hmk := run_make_strs (P := Tryd.prog) (t := 23) (e := 9) (bytes := 16) Tryd.underlying23 (by kernel_rfl) n (by omega) (by omega)
  have HS := hid hs
  have HL := hid hl
  clear hs hl
  go_enter Tryd.func39, Tryd.ntmps39
  go_wp2_with fail
  clear hmk
  go_loopw [4] (fun i wr => ∃ k : Nat, k ≤ n ∧ i = .int .i64 k ∧ Hid (Gr w wr) ∧ Hid (wr.heap[w.heap.size]? = some (.cells (strCells (fillS n ss k)) 9 (0, 0)))) (fun i _ => n - (intOf i).toNat)
  case atStart => exact ⟨0, Nat.zero_le _, rfl, hid ((Gr.refl _).alloc _), hid (by rw [fillS_zero]; exact heap_new rfl)⟩
  case round =>
    obtain ⟨k, hk, rfl, hg, h0⟩ := hrel
    by_cases hlt : k < n
    · obtain ⟨b, off, rfl, hc⟩ := HS.out k (by rw [← HL.out]; exact hlt)
      have hc0 := hg.out.cell hc
      have hc1 := cell_strs h0.out (i := k) (by rw [fillS_length HL.out hk]; exact hlt)
      have hf1 : wr.frozen? ⟨w.heap.size, k, none⟩ = false := frozen_of_row _ _ _ _ _ h0.out
      have HSET := hid (fillS_set HL.out hlt)
      clear hc
      generalize (fillS n ss k).getD k ByteArray.empty = y at *
      generalize hv : ss.getD k ByteArray.empty = v at *
      clear hv
      go_wp2_with fail
      go_roundw
      case rel => exact ⟨k + 1, by omega, by go_num, hid (hg.out.setCell (by dsimp only; omega) _), hid (by rw [← HSET.out]; exact heap_str_set h0.out)⟩
      case measure => simp [intOf]; omega
    · have H0 : Hid (wr.heap[w.heap.size]? = some (.cells (strCells ss) 9 (0, 0))) := by
        rw [show k = n by omega, fillS_all HL.out] at h0; exact h0
      clear h0
      go_wp2_with fail
      go_ret
      exact ⟨rfl, H0.out, hg.out⟩
/-- Two lists agree up to a place. -/
def sameS (xs ys : List ByteArray) (k : Nat) : Prop := ∀ i, i < k → xs.getD i ByteArray.empty = ys.getD i ByteArray.empty
theorem sameS_all {xs ys : List ByteArray} (hl : xs.length = ys.length) (h : sameS xs ys xs.length) : xs = ys := by
  apply List.ext_getElem hl
  intro i h1 h2
  have := h i h1
  simpa [List.getD, List.getElem?_eq_getElem h1, List.getElem?_eq_getElem h2] using this
theorem sameS_succ {xs ys : List ByteArray} {k : Nat} (h : sameS xs ys k) (e : xs.getD k ByteArray.empty = ys.getD k ByteArray.empty) : sameS xs ys (k + 1) := by
  intro i hi
  by_cases hk : i = k
  · subst hk; exact e
  · exact h i (by omega)
set_option maxRecDepth 100000 in
set_option maxHeartbeats 1000000 in
theorem eqStringS_same (a b : Option Addr) (ca cb n : Nat) (ss : List ByteArray) (hl : n = ss.length) (hn : n ≤ 1048576) (w : World) (ha : StrsOf w a ss) (hb : StrsOf w b ss) :
    Calls Tryd.prog 45 #[.slice a n ca, .slice b n cb] w fun e w' => e = .returned (.bool true) ∧ Gr w w' := by
  have HA := hid ha
  have HB := hid hb
  have HL := hid hl
  clear ha hb hl
  go_enter Tryd.func45, Tryd.ntmps45
  go_wp2_with fail
  go_loopw [5] (fun i wr => ∃ k : Nat, k ≤ n ∧ i = .int .i64 k ∧ Hid (Gr w wr)) (fun i _ => n - (intOf i).toNat)
  case atStart => exact ⟨0, Nat.zero_le _, rfl, hid (Gr.refl _)⟩
  case round =>
    obtain ⟨k, hk, rfl, hg⟩ := hrel
    by_cases hlt : k < n
    · obtain ⟨b0, o0, rfl, h0⟩ := HA.out k (by rw [← HL.out]; exact hlt)
      obtain ⟨b1, o1, rfl, h1⟩ := HB.out k (by rw [← HL.out]; exact hlt)
      have hc0 := hg.out.cell h0
      have hc1 := hg.out.cell h1
      clear h0 h1
      generalize ss.getD k ByteArray.empty = v at *
      have hb0 : (0 : Int) ≤ k := by omega
      have hb1 : (k : Int) < n := by omega
      go_wp2_with fail
      go_quiet (fail)
      go_wp2_with fail
      go_roundw
      case rel => exact ⟨k + 1, by omega, by go_num, hid (hg.out.drewN _)⟩
      case measure => simp [intOf]; omega
    · go_wp2_with fail
      go_ret
      exact ⟨rfl, hg.out⟩
theorem toList_ne {v u : ByteArray} (h : v ≠ u) : (v.toList == u.toList) = false := by
  rw [beq_eq_false_iff_ne]
  intro e
  rw [Go.ByteArray.toList_eq, Go.ByteArray.toList_eq] at e
  exact h (Go.WideShapes.bytes_inj e)
/-- What is left behind a slice of strings: too little, or no more than before. -/
def SzPost (left n : Nat) (w : World) (e : Ending) (w' : World) : Prop := ∃ r : Int, e = .returned (.int .i64 r) ∧ (r = -1 ∨ (0 ≤ r ∧ r ≤ left ∧ n ≤ left)) ∧ w = w'
set_option maxRecDepth 100000 in
set_option maxHeartbeats 1000000 in
theorem szStringS_any (a : Option Addr) (cap n left : Nat) (ss : List ByteArray) (hl : n = ss.length) (hm : n ≤ 9223372036854775807) (hle : left ≤ 1048576) (hsz : ∀ i, (ss.getD i ByteArray.empty).size ≤ 9223372036854775807) (w : World) (hs : StrsOf w a ss) :
    Calls Tryd.prog 35 #[.slice a n cap, .int .i64 left] w (SzPost left n w) := by
  have HS := hid hs
  have HL := hid hl
  have HZ := hid hsz
  clear hs hl hsz
  by_cases hlt : left < n
  · have e1 : IntKind.i64.wrap ((left : Int) - (n : Int)) = (left : Int) - (n : Int) := IntWalk.i64_in _ (by omega)
    have t1 : (left : Int) - (n : Int) < 0 := by omega
    go_enter Tryd.func35, Tryd.ntmps35
    go_wp2_with fail
    go_ret
    exact ⟨-1, rfl, .inl rfl, rfl⟩
  · obtain ⟨r0, hr0⟩ : ∃ r0 : Nat, (left : Int) - (n : Int) = (r0 : Int) := ⟨left - n, by omega⟩
    have hr1 : r0 ≤ left := by omega
    have hnl : n ≤ left := by omega
    go_enter Tryd.func35, Tryd.ntmps35
    go_wp2_with fail
    go_loop [1, 5] (fun l i => ∃ (k r : Nat), k ≤ n ∧ r ≤ left ∧ i = .int .i64 k ∧ l = .int .i64 r) (fun _ i => n - (intOf i).toNat)
    case atStart => exact ⟨0, r0, Nat.zero_le _, hr1, rfl, by rw [← hr0]⟩
    case round =>
      obtain ⟨k, r, hk, hr, rfl, rfl⟩ := hrel
      clear hr0
      by_cases hkn : k < n
      · obtain ⟨b0, o0, rfl, h0⟩ := HS.out k (by rw [← HL.out]; exact hkn)
        have hz := HZ.out k
        generalize ss.getD k ByteArray.empty = v at *
        by_cases hv : (r : Int) - (v.size : Int) < 0
        · go_wp2_with fail
          go_ret
          exact ⟨-1, rfl, .inl rfl, rfl⟩
        · obtain ⟨r', hr'⟩ : ∃ r' : Nat, (r : Int) - (v.size : Int) = (r' : Int) := ⟨r - v.size, by omega⟩
          have hr2 : r' ≤ left := by omega
          have HR := hid hr'
          clear hr'
          go_wp2_with fail
          go_round
          case rel => exact ⟨k + 1, r', by omega, hr2, by go_num, by rw [← HR.out]⟩
          case measure => simp [intOf]; omega
      · go_wp2_with fail
        go_ret
        exact ⟨r, rfl, .inr ⟨by omega, by omega, hnl⟩, rfl⟩
end Go.Proofs.YtfaiehjomcgjgaaDoor

/- Books: copies, comparisons, sizes. -/
namespace Go.Proofs.YtfaiehjomcgjgaaDoor
set_option linter.unusedVariables false
open Go.RowKit
/-- A whole struct is loaded. -/
theorem wpList_load_whole {P : Program} {ops : Array Oper} {rest : List Oper} {o : Oper} {a : Act} {w : World} {Q : Exit → Act → World → Prop} (hw : Region.wanted o (yielded ops a.tmps) = true) (ty : TypeId) (x : Operand) (ho : o.op = .load ty x)
    (g : Nat) (hx : a.eval x = .pointer (some ⟨g, 0, none⟩)) (t : TypeId) (cs : Array Value) (d : TypeDesc) (hg : w.heap[g]? = some (.cells cs t (0, 0)))
    (hu : P.underlying ty = some d) (hd : (match d with | .struct _ | .array _ _ => true | _ => false) = true) (hi : (P.info? ty).map (·.size) = some cs.size)
    (h : wpList P ops Q rest (a.put o.dst (.agg cs)) w) : wpList P ops Q (o :: rest) a w :=
  BigFrame.wpList_want hw fun _ hK => wp_load_row ty x ho g hx t _ _ _ hg hu hd hi (hK _ _ h)
/-- A book as a value. -/
abbrev bookV (k l s : Int) (v : Value) : Value := .agg #[.int .i8 k, .int .i8 l, .int .i8 s, v]
abbrev bookC (k l s : Int) (v : Value) : Array Value := #[.int .i8 k, .int .i8 l, .int .i8 s, v]
set_option maxRecDepth 100000 in
set_option maxHeartbeats 1000000 in
theorem szBook_any (k l s : Int) (a : Option Addr) (cap n left : Nat) (ss : List ByteArray) (hl : n = ss.length) (hm : n ≤ 9223372036854775807) (hle : left ≤ 1048576) (hsz : ∀ i, (ss.getD i ByteArray.empty).size ≤ 9223372036854775807) (w : World) (hs : StrsOf w a ss) :
    Calls Tryd.prog 10 #[bookV k l s (.slice a n cap), .int .i64 left] w fun e w' => (∃ r : Int, e = .returned (.int .i64 r) ∧ (r = -1 ∨ (0 ≤ r ∧ r ≤ left ∧ n ≤ left))) ∧ Gr w w' := by
  have HC := hid (fun (V : World) (g : Gr w V) => szStringS_any a cap n left ss hl hm hle hsz V (hs.gr g))
  clear hs hl hsz
  go_enter Tryd.func10, Tryd.ntmps10
  go_wp2_with fail
  refine (HC.out _ ((Gr.refl _).alloc _)).mono ?_
  rintro e w' ⟨r, rfl, hr, rfl⟩
  rcases hr with rfl | ⟨h0, h1, h2⟩
  · go_wp2_with fail
    go_ret
    exact ⟨⟨-1, rfl, .inl rfl⟩, (Gr.refl _).alloc _⟩
  · have hn : ¬ r < 0 := by omega
    go_wp2_with fail
    go_ret
    exact ⟨⟨r, rfl, .inr ⟨h0, h1, h2⟩⟩, (Gr.refl _).alloc _⟩
set_option maxRecDepth 100000 in
set_option maxHeartbeats 2000000 in
theorem toBook_any (k l s : Int) (a : Option Addr) (cap n : Nat) (ss : List ByteArray) (hl : n = ss.length) (hn : n ≤ 1048576) (w : World) (hs : StrsOf w a ss) :
    Calls Tryd.prog 12 #[bookV k l s (.slice a n cap)] w fun e w' => e = .returned (bookV k l s (.slice (some ⟨w.heap.size + 3, 0, none⟩) n n)) ∧ w'.heap[w.heap.size + 3]? = some (.cells (strCells ss) 9 (0, 0)) ∧ Gr w w' := by
  have HC := hid (fun (V : World) (g : Gr w V) => toStringS_any a cap n ss hl hn V (hs.gr g))
  clear hs hl
  go_enter Tryd.func12, Tryd.ntmps12
  go_wp2_with fail
  refine (HC.out _ ((((Gr.refl _).alloc (.cells (bookC k l s (.slice a n cap)) 25)).alloc (.cells (bookC 0 0 0 (.slice none 0 0)) 31)).alloc (.cells (bookC k l s (.slice none 0 0)) 31))).mono ?_
  rintro e w' ⟨rfl, hb, g⟩
  have b1 := g.heap (heap_kept (o := .cells (bookC k l s (.slice none 0 0)) 31) (heap_new (w := w.alloc (.cells (bookC k l s (.slice a n cap)) 25)) (o := .cells (bookC 0 0 0 (.slice none 0 0)) 31) (n := w.heap.size + 1) (by simp)))
  have b2 := g.heap (heap_new (w := (w.alloc (.cells (bookC k l s (.slice a n cap)) 25)).alloc (.cells (bookC 0 0 0 (.slice none 0 0)) 31)) (o := .cells (bookC k l s (.slice none 0 0)) 31) (n := w.heap.size + 2) (by simp))
  have hbs : ∀ x : Nat, True := fun _ => trivial
  have c3 : w'.cell? ⟨w.heap.size + 2, 3, none⟩ = some (.slice none 0 0) := by rw [cell_of_row w' _ 3 _ _ _ b2]; rfl
  have f3 : w'.frozen? ⟨w.heap.size + 2, 3, none⟩ = false := frozen_of_row _ _ _ _ _ b2
  have HB1 := hid b1
  have HB2 := hid b2
  have HBS := hid hb
  have G := hid (((((Gr.refl w).alloc (.cells (bookC k l s (.slice a n cap)) 25)).alloc (.cells (bookC 0 0 0 (.slice none 0 0)) 31)).alloc (.cells (bookC k l s (.slice none 0 0)) 31)).trans g)
  clear b1 b2 hb g hbs
  have HB3 := hid (heap_setCell_same w' (w.heap.size + 2) 3 _ _ (.slice (some ⟨w.heap.size + 3, 0, none⟩) n n) HB2.out)
  have HB4 := hid ((heap_setCell_other w' ⟨w.heap.size + 2, 3, none⟩ (w.heap.size + 1) (.slice (some ⟨w.heap.size + 3, 0, none⟩) n n) (by simp)).trans HB1.out)
  have HBN : Hid (w'.heap[w.heap.size + 3]? = some (.cells (strCells ss) 9 (0, 0))) := hid (by have h := HBS.out; simp only [World.size_alloc] at h; exact h)
  have HB3' : Hid ((w'.setCell ⟨w.heap.size + 2, 3, none⟩ (.slice (some ⟨w.heap.size + 3, 0, none⟩) n n)).heap[w.heap.size + 2]? = some (.cells (bookC k l s (.slice (some ⟨w.heap.size + 3, 0, none⟩) n n)) 31 (0, 0))) := hid HB3.out
  go_wp2_with (first | (refine wpList_load_whole rfl 31 _ rfl _ rfl _ (bookC k l s (.slice (some ⟨w.heap.size + 3, 0, none⟩) n n)) _ HB3'.out Tryd.underlying31 rfl (by kernel_rfl) ?_) | (refine wpList_store_cells rfl 31 _ _ rfl _ (bookC k l s (.slice (some ⟨w.heap.size + 3, 0, none⟩) n n)) (bookC 0 0 0 (.slice none 0 0)) rfl rfl _ 4 HB4.out (by kernel_rfl) rfl rfl (by simp [Value.oneCell']) ?_))
  refine bodyPost_ret (results_cell_row (by rfl) _ _ _ _ _ _ _ rfl (heap_row_set HB4.out) Tryd.underlying31 rfl (by kernel_rfl)) rfl ⟨rfl, ?_, ?_⟩
  · rw [setRow_other _ _ _ _ (by omega), heap_setCell_other _ _ _ _ (by simp)]
    exact HBN.out
  · exact (G.out.setCell (p := ⟨w.heap.size + 2, 3, none⟩) (by dsimp only; omega) _).setRow (by omega) _
set_option maxRecDepth 100000 in
/-- Two equal books. -/
theorem eqBook_same (k l s : Int) (a b : Option Addr) (ca cb n : Nat) (ss : List ByteArray) (hl : n = ss.length) (hn : n ≤ 1048576) (w : World) (ha : StrsOf w a ss) (hb : StrsOf w b ss) :
    Calls Tryd.prog 15 #[bookV k l s (.slice a n ca), bookV k l s (.slice b n cb)] w fun e w' => e = .returned (.bool true) ∧ Gr w w' := by
  have HC := hid (fun (V : World) (g : Gr w V) => eqStringS_same a b ca cb n ss hl hn V (ha.gr g) (hb.gr g))
  clear ha hb hl
  go_enter Tryd.func15, Tryd.ntmps15
  go_wp2_with fail
  refine (HC.out _ (((Gr.refl _).alloc _).alloc _)).mono ?_
  rintro e w' ⟨rfl, g⟩
  have G := hid ((((Gr.refl w).alloc _).alloc _).trans g)
  clear g
  go_wp2_with fail
  go_ret
  exact ⟨rfl, G.out⟩
end Go.Proofs.YtfaiehjomcgjgaaDoor
