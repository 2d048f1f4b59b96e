/- Patterns of flags, in the order of lists: plain lists. -/
import Derived.Test.YtfaiehjomcgjgaaDoorGSeq
import Derived.Test.YtfaiehjomcgjgaaDoorGHst
import Derived.Lib.SliceRun
namespace Go.Proofs.YtfaiehjomcgjgaaDoor
set_option linter.unusedVariables false
open Go.RowKit
def patN (next : List Int → Nat → List (List Int)) (m : List Int) (nx : Nat) : Nat → Nat → List (List Int)
  | _, 0 => []
  | x, c + 1 => next (m ++ [(x : Int)]) (if x = nx then nx + 1 else nx) ++ patN next m nx (x + 1) c
/-- All patterns that go on from m, in which nx numbers have come, with f places more. -/
def patF : Nat → List Int → Nat → List (List Int)
  | 0, m, _ => [m]
  | f + 1, m, nx => patN (patF f) m nx 0 (nx + 1)
/-- How many numbers have come in the first k places. -/
def used (m : List Int) : Nat → Nat
  | 0 => 0
  | k + 1 => if m.getD k 0 = (used m k : Int) then used m k + 1 else used m k
/-- What comes behind a pattern, with the same first places. -/
def remP (m : List Int) (n : Nat) : Nat → List (List Int)
  | 0 => []
  | k + 1 => patN (patF (n - k - 1)) (m.take k) (used m k) ((m.getD k 0).toNat + 1) (used m k - (m.getD k 0).toNat) ++ remP m n k
theorem used_same {m m' : List Int} : ∀ {k : Nat}, (∀ j, j < k → m'.getD j 0 = m.getD j 0) → used m' k = used m k := by
  intro k
  induction k with
  | zero => intro _; rfl
  | succ k ih =>
    intro h
    simp only [used]
    rw [ih (fun j hj => h j (by omega)), h k (by omega)]
theorem used_le (m : List Int) (k : Nat) : used m k ≤ k := by
  induction k with
  | zero => exact Nat.le_refl _
  | succ k ih =>
    simp only [used]
    split <;> omega
theorem used_mono (m : List Int) (k : Nat) : used m k ≤ used m (k + 1) := by
  simp only [used]
  split <;> omega
theorem take_same {m m' : List Int} (hl : m'.length = m.length) {k : Nat} (h : ∀ j, j < k → m'.getD j 0 = m.getD j 0) : m'.take k = m.take k := by
  apply List.ext_getElem?
  intro i
  rw [List.getElem?_take, List.getElem?_take]
  by_cases hi : i < k
  · rw [if_pos hi, if_pos hi]
    have := h i hi
    simp only [List.getD_eq_getElem?_getD] at this
    by_cases hm : i < m.length
    · rw [List.getElem?_eq_getElem hm, List.getElem?_eq_getElem (by omega : i < m'.length)] at this ⊢
      simpa using this
    · rw [List.getElem?_eq_none (by omega), List.getElem?_eq_none (by omega)]
  · rw [if_neg hi, if_neg hi]
theorem remP_same {m m' : List Int} {n : Nat} (hl : m'.length = m.length) : ∀ {k : Nat}, (∀ j, j < k → m'.getD j 0 = m.getD j 0) → remP m' n k = remP m n k := by
  intro k
  induction k with
  | zero => intro _; rfl
  | succ k ih =>
    intro h
    simp only [remP]
    rw [ih (fun j hj => h j (by omega)), h k (by omega), used_same (fun j hj => h j (by omega)), take_same hl (fun j hj => h j (by omega))]
theorem take_next {m : List Int} {k : Nat} (hk : k < m.length) : m.take (k + 1) = m.take k ++ [m.getD k 0] := by
  rw [List.take_succ_eq_append_getElem hk, List.getD_eq_getElem?_getD, List.getElem?_eq_getElem hk]
  rfl
/-- All that share the first k places, where zeros follow. -/
theorem patF_rem {m : List Int} {n : Nat} (hl : m.length = n) : ∀ (f k : Nat), n - k = f → k ≤ n → (∀ j, k ≤ j → j < n → m.getD j 0 = 0) → patF f (m.take k) (used m k) ++ remP m n k = m :: remP m n n := by
  intro f
  induction f with
  | zero =>
    intro k hf hk _
    obtain rfl : k = n := by omega
    rw [patF, List.take_of_length_le (by omega)]
    rfl
  | succ f ih =>
    intro k hf hk hz
    have h0 := hz k (Nat.le_refl _) (by omega)
    have ihk := ih (k + 1) (by omega) (by omega) (fun j h1 h2 => hz j (by omega) h2)
    have hu : used m (k + 1) = if 0 = used m k then used m k + 1 else used m k := by
      simp only [used, h0]
      by_cases h : 0 = used m k
      · rw [if_pos h, if_pos (by omega)]
      · rw [if_neg h, if_neg (by omega)]
    rw [take_next (by omega), h0, hu] at ihk
    rw [← ihk, patF, patN, remP, h0, show n - k - 1 = f by omega]
    simp only [Int.toNat_zero, Nat.zero_add, Nat.sub_zero, List.append_assoc]
    rfl
/-- All patterns of a length. -/
theorem pat_start {n : Nat} : patF n [] 0 = List.replicate n 0 :: remP (List.replicate n 0) n n := by
  have hz : ∀ j, (List.replicate n (0 : Int)).getD j 0 = 0 := fun j => by
    simp only [List.getD_eq_getElem?_getD, List.getElem?_replicate]
    split <;> rfl
  have := patF_rem (m := List.replicate n 0) (n := n) (by simp) n 0 (by omega) (by omega) (fun j _ _ => hz j)
  rw [remP, List.append_nil] at this
  exact this
/-- Nothing more at a place. -/
theorem remP_none {m : List Int} {n k : Nat} (h : used m k ≤ (m.getD k 0).toNat) : remP m n (k + 1) = remP m n k := by
  rw [remP, show used m k - (m.getD k 0).toNat = 0 by omega, patN, List.nil_append]
/-- The next pattern. -/
theorem remP_next {m m' : List Int} {n k : Nat} (hl : m.length = n) (hl' : m'.length = n) (hk : k < n) {x : Nat} (hx : m.getD k 0 = (x : Int)) (hu : x < used m k) (hb : ∀ j, j < k → m'.getD j 0 = m.getD j 0) (hx' : m'.getD k 0 = (x : Int) + 1) (hz : ∀ j, k < j → j < n → m'.getD j 0 = 0) :
    remP m n (k + 1) = m' :: remP m' n n := by
  have hus := used_same (m := m) (m' := m') (k := k) hb
  have hu' : used m' (k + 1) = if x + 1 = used m k then used m k + 1 else used m k := by
    simp only [used, hx', hus]
    by_cases h : x + 1 = used m k
    · rw [if_pos h, if_pos (by omega)]
    · rw [if_neg h, if_neg (by omega)]
  have e := patF_rem (m := m') (n := n) hl' (n - (k + 1)) (k + 1) rfl (by omega) (fun j h1 h2 => hz j (by omega) h2)
  rw [← e, hu', take_next (by omega), hx', take_same (by omega) hb, remP, remP, hx, hx', hus, remP_same (by omega) hb, take_same (by omega) hb]
  obtain ⟨c, hc⟩ : ∃ c, used m k - x = c + 1 := ⟨used m k - x - 1, by omega⟩
  rw [Int.toNat_natCast, show ((x : Int) + 1).toNat = x + 1 by omega, hc, patN, show used m k - (x + 1) = c by omega, show n - k - 1 = n - (k + 1) by omega, List.append_assoc]
  rfl
end Go.Proofs.YtfaiehjomcgjgaaDoor

/- Patterns, one by one: the program's iterator. -/
namespace Go.Proofs.YtfaiehjomcgjgaaDoor
set_option linter.unusedVariables false
open Go.RowKit
attribute [local go_sem] Oper.semAt_some
/-- The block of integers after some of them have been written over. -/
theorem heap_cells_over {k : IntKind} {b : Nat} {t : TypeId} : ∀ (ys : List Int) (o : Nat) (w : World) (xs : List Int), w.heap[b]? = some (.cells (kCells k xs) t (0, 0)) → o + ys.length ≤ xs.length →
    (w.setCells b o (ys.map (Value.int k))).heap[b]? = some (.cells (kCells k (xs.take o ++ ys ++ xs.drop (o + ys.length))) t (0, 0))
  | [], o, w, xs, h, _ => by simpa [World.setCells] using h
  | y :: ys, o, w, xs, h, hl => by
    rw [List.length_cons] at hl
    have h1 := heap_int_set (i := o) (x := y) h
    have h2 := heap_cells_over ys (o + 1) (w.setCell ⟨b, o, none⟩ (.int k y)) (xs.set o y) h1 (by rw [List.length_set]; omega)
    have e : (xs.set o y).take (o + 1) ++ ys ++ (xs.set o y).drop (o + 1 + ys.length) = xs.take o ++ y :: ys ++ xs.drop (o + (y :: ys).length) := by
      have e1 : (xs.set o y).take (o + 1) = xs.take o ++ [y] := by
        rw [List.take_succ_eq_append_getElem (by rw [List.length_set]; omega)]
        simp [List.take_set_of_le]
      rw [e1, List.drop_set_of_lt (by omega), List.length_cons, show o + 1 + ys.length = o + (ys.length + 1) by omega]
      simp
    rw [e] at h2
    exact h2
theorem Out.setCells {lo hi : Nat} {A W : World} {b : Nat} (h : Out lo hi A W) (h1 : lo ≤ b) (h2 : b < hi) (vs : List Value) (o : Nat) : Out lo hi A (W.setCells b o vs) := by
  induction vs generalizing o W with
  | nil => exact h
  | cons v vs ih => exact ih (h.setCell (p := ⟨b, o, none⟩) h1 (.inl h2) v) (o + 1)
/-- The greatest of the first numbers. -/
def mxTo (xs : List Int) : Nat → Int
  | 0 => xs.getD 0 0
  | k + 1 => maxI (mxTo xs k) (xs.getD (k + 1) 0)
set_option maxRecDepth 100000 in
set_option maxHeartbeats 1000000 in
theorem maxMeaning_any (b off n cap : Nat) (xs : List Int) (hn : n = xs.length) (h1 : 1 ≤ n) (hm : n ≤ 1048576) (w : World) (hs : SliceOf .i8 w (some ⟨b, off, none⟩) xs) :
    Calls Tryd.prog 108 #[.slice (some ⟨b, off, none⟩) n cap] w fun e w' => e = .returned (.int .i8 (mxTo xs (n - 1))) ∧ w = w' := by
  obtain ⟨p, rfl⟩ : ∃ p, n = p + 1 := ⟨n - 1, by omega⟩
  rw [Nat.add_sub_cancel]
  have HN := hid hn
  have HC : Hid (∀ k, k < p + 1 → w.cell? ⟨b, off + k, none⟩ = some (.int .i8 (xs.getD k 0))) := hid (fun k hk => by
    obtain ⟨b', o', e, hc⟩ := hs k (by rw [← hn]; exact hk)
    simp only [Option.some.injEq, Addr.mk.injEq, and_true] at e
    obtain ⟨rfl, rfl⟩ := e
    exact hc)
  have HS := hid (fun k => show mxTo xs (k + 1) = maxI (mxTo xs k) (xs.getD (k + 1) 0) from rfl)
  have H0 := hid (show mxTo xs 0 = xs.getD 0 0 from rfl)
  have hc0 := HC.out 0 (by omega)
  rw [Nat.add_zero] at hc0
  clear hs hn
  have hp1 : ((p + 1 : Nat) : Int) = (p : Int) + 1 := by omega
  generalize mxTo xs = mx at *
  rw [← H0.out] at hc0
  go_enter Tryd.func108, Tryd.ntmps108
  go_wp2_with fail
  go_loop [3, 4] (fun m i => ∃ k : Nat, k ≤ p ∧ i = .int .i64 ((k + 1 : Nat) : Int) ∧ m = .int .i8 (mx k)) (fun _ i => p + 1 - (intOf i).toNat)
  case atStart => exact ⟨0, Nat.zero_le _, rfl, rfl⟩
  case round =>
    obtain ⟨k, hk, rfl, rfl⟩ := hrel
    by_cases hlt : k < p
    · have hck := HC.out (k + 1) (by omega)
      have HSK := hid (HS.out k)
      have hb0 : (0 : Int) ≤ ((k + 1 : Nat) : Int) := by omega
      have hb1 : ((k + 1 : Nat) : Int) < ((p + 1 : Nat) : Int) := by omega
      have hb2 : ((k + 1 : Nat) : Int) ≤ 1048576 := by omega
      generalize xs.getD (k + 1) 0 = x at *
      generalize mx k = y at *
      go_wp2_with fail
      refine ⟨⟨k + 1, by omega, by rw [show ((k + 1 + 1 : Nat) : Int) = (k : Int) + 1 + 1 by omega], by rw [HSK.out]; rfl⟩, by simp [intOf]; omega⟩
    · obtain rfl : k = p := by omega
      go_wp2_with fail
      go_ret
      exact ⟨rfl, rfl⟩
/-- New numbers come one by one. -/
def Rgs (m : List Int) (n : Nat) : Prop := m.length = n ∧ ∀ j, j < n → ∃ p : Nat, m.getD j 0 = (p : Int) ∧ p ≤ used m j
theorem mx_used {m : List Int} {n : Nat} (h : Rgs m n) : ∀ {k : Nat}, k < n → mxTo m k = (used m (k + 1) : Int) - 1 := by
  intro k
  induction k with
  | zero =>
    intro hk
    obtain ⟨p, hp, hu⟩ := h.2 0 hk
    have h0 : p = 0 := by simp only [used] at hu; omega
    simp only [mxTo, used, hp, h0]
    rfl
  | succ k ih =>
    intro hk
    obtain ⟨p, hp, hu⟩ := h.2 (k + 1) hk
    rw [mxTo, ih (by omega), hp]
    unfold maxI
    have hu1 : used m (k + 1 + 1) = if (p : Int) = (used m (k + 1) : Int) then used m (k + 1) + 1 else used m (k + 1) := by rw [used, hp]
    rw [hu1]
    by_cases he : p = used m (k + 1)
    · rw [if_pos (by omega), if_pos (by omega)]; omega
    · rw [if_neg (by omega : ¬ (p : Int) = _)]
      split <;> omega
/-- The next pattern in memory. -/
def nextM (m : List Int) (n k p : Nat) : List Int := (m.set k ((p : Int) + 1)).take (k + 1) ++ List.replicate (n - k - 1) 0 ++ (m.set k ((p : Int) + 1)).drop (k + 1 + (n - k - 1))
theorem nextM_length {m : List Int} {n k p : Nat} (hl : m.length = n) (hk : k < n) : (nextM m n k p).length = n := by
  unfold nextM
  simp [hl]
  omega
theorem nextM_get {m : List Int} {n k p : Nat} (hl : m.length = n) (hk : k < n) (j : Nat) (hj : j < n) : (nextM m n k p).getD j 0 = if j < k then m.getD j 0 else if j = k then (p : Int) + 1 else 0 := by
  unfold nextM
  have ht : ((m.set k ((p : Int) + 1)).take (k + 1)).length = k + 1 := by rw [List.length_take, List.length_set]; omega
  simp only [List.getD_eq_getElem?_getD, List.append_assoc]
  by_cases h1 : j < k + 1
  · rw [List.getElem?_append_left (by omega), List.getElem?_take, if_pos h1, List.getElem?_set]
    by_cases h2 : j < k
    · rw [if_neg (by omega), if_pos h2]
    · rw [if_pos (by omega), if_pos (by omega), if_neg h2, if_pos (by omega)]
      rfl
  · rw [List.getElem?_append_right (by omega), ht, List.getElem?_append_left (by rw [List.length_replicate]; omega), List.getElem?_replicate, if_pos (by omega), if_neg (by omega), if_neg (by omega)]
    rfl
theorem nextM_rgs {m : List Int} {n k p : Nat} (h : Rgs m n) (hk : k < n) (hp : m.getD k 0 = (p : Int)) (hu : p < used m k) : Rgs (nextM m n k p) n := by
  refine ⟨nextM_length h.1 hk, fun j hj => ?_⟩
  rw [nextM_get h.1 hk j hj]
  have hsame : ∀ i, i ≤ k → used (nextM m n k p) i = used m i := fun i hi => used_same (fun q hq => by rw [nextM_get h.1 hk q (by omega), if_pos (by omega)])
  by_cases h1 : j < k
  · rw [if_pos h1, hsame j (by omega)]
    exact h.2 j hj
  · rw [if_neg h1]
    by_cases h2 : j = k
    · rw [if_pos h2]
      subst h2
      exact ⟨p + 1, rfl, by rw [hsame j (Nat.le_refl _)]; omega⟩
    · rw [if_neg h2]
      exact ⟨0, rfl, Nat.zero_le _⟩
theorem nextM_rem {m : List Int} {n k p : Nat} (h : Rgs m n) (hk : k < n) (hp : m.getD k 0 = (p : Int)) (hu : p < used m k) : remP m n (k + 1) = nextM m n k p :: remP (nextM m n k p) n n :=
  remP_next h.1 (nextM_length h.1 hk) hk hp hu (fun j hj => by rw [nextM_get h.1 hk j (by omega), if_pos hj]) (by rw [nextM_get h.1 hk k hk, if_neg (by omega), if_pos rfl]) (fun j h1 h2 => by rw [nextM_get h.1 hk j h2, if_neg (by omega), if_neg (by omega)])
theorem mxTo_same {xs xs' : List Int} : ∀ {k : Nat}, (∀ i, i ≤ k → xs'.getD i 0 = xs.getD i 0) → mxTo xs' k = mxTo xs k := by
  intro k
  induction k with
  | zero => intro h; exact h 0 (Nat.le_refl _)
  | succ k ih => intro h; rw [mxTo, mxTo, ih (fun i hi => h i (by omega)), h (k + 1) (Nat.le_refl _)]
theorem mx_take {m : List Int} {n k : Nat} (h : Rgs m n) (h1 : 1 ≤ k) (hk : k < n) : mxTo (m.take k) (k - 1) = (used m k : Int) - 1 := by
  rw [mxTo_same (xs := m) (fun i hi => by simp only [List.getD_eq_getElem?_getD, List.getElem?_take]; rw [if_pos (by omega)]), mx_used h (by omega), show k - 1 + 1 = k by omega]
theorem wpList_clear {P : Program} {ops : Array Oper} {rest : List Oper} {o : Oper} {a : Act} {w w' : World} {Q : Exit → Act → World → Prop} (hw : Region.wanted o (yielded ops a.tmps) = true) (t : TypeId) (x : Operand)
    (ho : o.op = .call { callee := .builtin .clear, args := #[x], argTypes := #[t] }) (v : Value) (hx : a.eval x = v) (hrun : (Builtin.clear_ #[t] o.type #[v]).run P w = .ok (.tuple #[]) w')
    (h : wpList P ops Q rest (a.put o.dst (.tuple #[])) w') : wpList P ops Q (o :: rest) a w :=
  BigFrame.wpList_want hw fun _ hK => by
    unfold Oper.wp
    simp [execOp, ho, resolve, invoke, builtin, hx, hrun, Result.andThen]
    exact hK _ _ h
theorem clear_run {P : Program} {t e ty : TypeId} (ht : P.underlying t = some (.slice e)) (hv : ∀ w, (zeroValue e).run P w = .ok (.int .i8 0) w) (b o q c : Nat) (w : World) (hc : ∀ j, j < q → (w.cell? ⟨b, o + j, none⟩).isSome = true) (hf : ∀ j, j < q → w.frozen? ⟨b, o + j, none⟩ = false) :
    (Builtin.clear_ #[t] ty #[.slice (some ⟨b, o, none⟩) q c]).run P w = .ok (.tuple #[]) (w.setCells b o (List.replicate q (.int .i8 0))) := by
  cases q with
  | zero => simp [Builtin.clear_, run_underlying ht, World.setCells]
  | succ q => exact Lib.run_clear_slice w t e ty (.int .i8 0) ht hv rfl rfl b o (q + 1) c (by omega) hc hf
/-- The state of the walk through the patterns: block g holds the one at hand. -/
structure InvP (J : Nat → List Yld → World → Prop) (g n : Nat) (L : List (List Int)) (pre : List Yld) (m : List Int) (wr : World) : Prop where
  held : ∃ A, J (g + 1) pre A ∧ g + 1 ≤ A.heap.size ∧ Out g (g + 1) A wr
  b : wr.heap[g]? = some (.cells (kCells .i8 m) 22 (0, 0))
  rgs : Rgs m n
set_option maxHeartbeats 8000000 in
set_option maxRecDepth 100000 in
theorem patterns_iter (n : Nat) (h1 : 1 ≤ n) (h6 : n ≤ 6) (bl : Nat) (W : World) (hbl : W.cell? ⟨bl, 0, none⟩ = some (.int .i64 (n : Int))) :
    Iter Tryd.prog 122 #[.pointer (some ⟨bl, 0, none⟩)] (fun x : Yld => #[x.1]) OkH (NxH (patF n [] 0)) (SH (patF n [] 0)) (SpH (patF n [] 0)) W := by
  intro l J Jx h0 hY
  have hmk := run_make_ints (P := Tryd.prog) (t := 59) (e := 22) (k := .i8) (bytes := 1) Tryd.underlying59 (by kernel_rfl) n (by omega) (by omega)
  obtain ⟨g, hg⟩ : ∃ g, g = W.heap.size := ⟨_, rfl⟩
  obtain ⟨L, hL⟩ : ∃ L, L = patF n [] 0 := ⟨_, rfl⟩
  rw [← hL] at hY ⊢
  rw [← hg] at hY
  have HL := hid hL
  have HY := hid hY
  have H0 := hid h0
  have HG := hid hg
  clear hL hY h0 hg
  refine callsIn_of_wp Tryd.func122 rfl trivial ?_ rfl
  simp only [Tryd.ntmps122, List.size_toArray, List.length_cons, List.length_nil, Nat.reduceAdd, Nat.reduceSub, Array.replicate_succ, Array.replicate_zero, List.push_toArray, List.append_toArray, List.nil_append, List.cons_append]
  gi_wp2_with fail
  rw [← HG.out]
  generalize hW3 : World.alloc _ _ = W3
  have IV0 : Hid (InvP J g n L [] (List.replicate n 0) W3 ∧ [] ++ List.replicate n 0 :: remP (List.replicate n 0) n n = L) := by
    have hz : ∀ j, (List.replicate n (0 : Int)).getD j 0 = 0 := fun j => by
      simp only [List.getD_eq_getElem?_getD, List.getElem?_replicate]
      split <;> rfl
    refine hid ⟨⟨⟨W3, H0.out _ _ ?_ ?_, ?_, Out.refl _ _ _⟩, ?_, by simp, fun j _ => ⟨0, hz j, Nat.zero_le _⟩⟩, ?_⟩
    · rw [← hW3]; exact (Gr.refl W).alloc _
    · rw [← hW3, HG.out]; simp
    · rw [← hW3, HG.out]; simp
    · rw [← hW3, HG.out]; exact heap_new rfl
    · rw [HL.out, pat_start]; rfl
  clear hW3 hmk hbl
  gi_loopw [4] (fun t wr => ∃ (pre : List Yld) (m : List Int), Hid (InvP J g n L pre m wr ∧ pre.map (·.2) ++ m :: remP m n n = L)) (fun _ wr => (remP (intsIn wr g) n n).length)
  case atStart => exact ⟨[], _, IV0⟩
  case round =>
    obtain ⟨pre, m, IV⟩ := hrel
    have HMU := hid (show intsIn wr g = m from intsIn_ints IV.out.1.b)
    gi_wp2_with fail
    refine ⟨trivial, ?_⟩
    refine ((callsIn_wide (n := 7)).2 (cloneMeaning_any (some ⟨g, 0, none⟩) n n m IV.out.1.rgs.1.symm h1 (by omega) wr (by have := sliceOf_block IV.out.1.b; exact this))).mono ?_
    rintro e B ⟨v, rfl, ow, gB⟩
    have hyd : YieldAt Fence.wide 7 Tryd.prog l #[v] B fun e C => e = .returned (.bool true) ∧ J (g + 1) (pre ++ [(v, m)]) C ∧ Ins g (g + 1) B C ∨ e = .returned (.bool false) ∧ Jx (pre ++ [(v, m)]) C := by
      obtain ⟨A, hJ, hA, hO⟩ := IV.out.1.held
      exact HY.out (g + 1) pre (v, m) A B (by omega) hA hJ (hO.trans (Out.ofBelow _ _ gB)) (ow.widen hO.size (Nat.le_refl _)) ⟨_, IV.out.2⟩
    obtain ⟨fn, tmps, assign, body, hyr, hR⟩ := hyd
    have HR := hid hR
    have HGB := hid gB
    obtain ⟨k0, hk0⟩ : ∃ k, n = k + 1 := ⟨n - 1, by omega⟩
    have ek : IntKind.i64.wrap ((n : Int) - 1) = (k0 : Int) := (IntWalk.i64_in _ (by omega)).trans (by omega)
    clear hR gB ow
    have HK0 := hid hk0
    clear hk0
    gi_wp2_with fail
    refine HR.out.mono ?_
    rintro e wo (⟨rfl, hJ, hin⟩ | ⟨rfl, hJx⟩)
    rotate_left
    · have HJX := hid hJx
      have HSP := hid (show SpH L (pre ++ [(v, m)]) from ⟨_, by rw [List.map_append, List.append_assoc]; exact IV.out.2⟩)
      clear hJx
      gi_wp2_with fail
      go_end0
      exact ⟨⟨_, rfl⟩, .inr ⟨pre ++ [(v, m)], wo, HSP.out, HJX.out, Below.refl _ _⟩⟩
    have hszB : g + 1 ≤ B.heap.size := by
      obtain ⟨A, _, hA, hO⟩ := IV.out.1.held
      exact Nat.le_trans hA (Nat.le_trans hO.size HGB.out.size)
    have IVo : Hid (InvP J g n L (pre ++ [(v, m)]) m wo ∧ (pre ++ [(v, m)]).map (·.2) ++ remP m n n = L) := hid ⟨⟨⟨wo, hJ, Nat.le_trans hszB hin.size, Out.refl _ _ _⟩, hin.heap (HGB.out.heap IV.out.1.b) (Nat.le_refl _) (by omega), IV.out.1.rgs⟩, by rw [List.map_append, List.append_assoc]; exact IV.out.2⟩
    generalize pre ++ [(v, m)] = pre' at *
    clear hJ hin hyr HR HGB IV hszB
    have HRG := hid IVo.out.1.rgs
    gi_wp2_with fail
    gi_loopw [4] (fun t wi => ∃ k : Nat, k < n ∧ t = .int .i64 k ∧ Hid (remP m n (k + 1) = remP m n n ∧ ∃ q, wi = wo.drewN q)) (fun t _ => (intOf t).toNat)
    case atStart => exact ⟨k0, by rw [HK0.out]; omega, rfl, hid ⟨by rw [← HK0.out], 0, (World.drewN_zero _).symm⟩⟩
    case round =>
      obtain ⟨k, hk, rfl, HI⟩ := hrel
      obtain ⟨hrem, q, hq⟩ := HI.out
      have HREM := hid hrem
      have HW := hid hq
      have IVr : Hid (InvP J g n L pre' m wr ∧ pre'.map (·.2) ++ remP m n n = L) := hid ⟨by
        obtain ⟨A, hJ, hA, hO⟩ := IVo.out.1.held
        rw [hq]
        exact ⟨⟨A, hJ, hA, hO.drewN _⟩, IVo.out.1.b, IVo.out.1.rgs⟩, IVo.out.2⟩
      clear HI hrem hq
      obtain ⟨p, hp, hpu⟩ := HRG.out.2 k hk
      have HP := hid hp
      have HPU := hid hpu
      have hu8 := used_le m k
      have hb0 : (0 : Int) ≤ (k : Int) := by omega
      have hcx := cell_ints IVr.out.1.b (i := k) (by rw [HRG.out.1]; exact hk)
      rw [hp] at hcx
      have hlen := HRG.out.1
      clear hp hpu
      have hfx : wr.frozen? ⟨g, k, none⟩ = false := frozen_of_row _ _ _ _ _ IVr.out.1.b
      by_cases hk0 : k = 0
      · subst hk0
        have HE := hid (show remP m n n = [] by rw [← HREM.out, remP_none (by rw [HP.out]; have := HPU.out; simp only [used] at this; simp [used])]; rfl)
        gi_wp2_with fail
        refine (wpIn_wide (n := 8)).2 ?_
        go_quiet (fail)
        gi_wp2_with fail
        refine bodyPost_ret (results_none rfl _ _ _) rfl ?_
        obtain ⟨A, hJ, hA, hO⟩ := IVr.out.1.held
        rw [← HG.out]
        exact ⟨⟨_, rfl⟩, .inl ⟨g + 1, pre', A, by omega, hA, (by have := IVr.out.2; rwa [HE.out, List.append_nil] at this), hJ, hO.drewN _⟩⟩
      · obtain ⟨r, hr⟩ : ∃ r, k = r + 1 := ⟨k - 1, by omega⟩
        have hb1 : (0 : Int) < (k : Int) := by omega
        have hkd : decide (0 < k) = true := decide_eq_true (by omega)
        have hkz : (k == 0) = false := by rw [beq_eq_false_iff_ne]; omega
        have hb2 : (k : Int) < (n : Int) := by omega
        have hb3 : (k : Int) ≤ (n : Int) := by omega
        have hb4 : ((k : Int) == 0) = false := by rw [beq_eq_false_iff_ne]; omega
        have er : IntKind.i64.wrap ((k : Int) - 1) = (r : Int) := (IntWalk.i64_in _ (by omega)).trans (by omega)
        have HTK := hid (show (m.take k).length = k by rw [List.length_take, HRG.out.1]; omega)
        have HSM : Hid (SliceOf .i8 wr (some ⟨g, 0, none⟩) (m.take k)) := hid (fun i hi => by
          rw [HTK.out] at hi
          refine ⟨g, 0, rfl, ?_⟩
          rw [Nat.zero_add, cell_ints IVr.out.1.b (by rw [HRG.out.1]; omega)]
          simp only [List.getD_eq_getElem?_getD, List.getElem?_take, if_pos hi])
        have HMX := hid (fun V (hs : SliceOf .i8 V (some ⟨g, 0, none⟩) (m.take k)) => maxMeaning_any g 0 k n (m.take k) HTK.out.symm (by omega) (by omega) V hs)
        have HMV := hid (mx_take HRG.out (by omega : 1 ≤ k) hk)
        generalize mxTo (m.take k) (k - 1) = y at *
        have HR1 := hid hr
        clear hr
        have hu6 := HPU.out
        have ew : IntKind.i8.wrap ((p : Int) + 1) = (p : Int) + 1 := IntWalk.i8_in _ (by omega)
        clear hu6
        by_cases hy : y < (p : Int)
        · have HR2 := hid (show remP m n (r + 1) = remP m n n by rw [← HR1.out, ← remP_none (k := k) (by rw [HP.out, Int.toNat_natCast]; have := HMV.out; omega), HREM.out])
          gi_wp2_with fail
          refine (wpIn_wide (n := 8)).2 ?_
          go_quiet ((go_at_call 108; exact Calls.quiet_of_same ((HMX.out _ (HSM.out.drewN _)).mono fun _ _ h => ⟨h.1, h.2.symm⟩)))
          gi_wp2_with fail
          exact ⟨⟨r, by have := HR1.out; omega, rfl, hid ⟨HR2.out, by rw [HW.out]; exact ⟨_, World.drewN_drewN _ _ _⟩⟩⟩, by have := HR1.out; simp [intOf]; omega⟩
        · gi_wp2_with fail
          refine (wpIn_wide (n := 8)).2 ?_
          go_quiet ((go_at_call 108; exact Calls.quiet_of_same ((HMX.out _ (HSM.out.drewN _)).mono fun _ _ h => ⟨h.1, h.2.symm⟩)))
          have HN1 := hid (nextM_rem HRG.out hk HP.out (by have := HMV.out; omega))
          have HN2 := hid (nextM_rgs HRG.out hk HP.out (by have := HMV.out; omega))
          gi_wp2_with fail
          all_goals
            generalize hW5 : World.setCell _ _ _ = W5
            have b5 : W5.heap[g]? = some (.cells (kCells .i8 (m.set k ((p : Int) + 1))) 22 (0, 0)) := by rw [← hW5]; exact heap_int_set (w := wr.drewN nq) IVr.out.1.b
            have o5 : ∃ A, J (g + 1) pre' A ∧ g + 1 ≤ A.heap.size ∧ Out g (g + 1) A W5 := by
              obtain ⟨A, hJ, hA, hO⟩ := IVr.out.1.held
              rw [← hW5]
              exact ⟨A, hJ, hA, (hO.drewN _).setCell (p := ⟨g, k, none⟩) (Nat.le_refl _) (.inl (by dsimp only; omega)) _⟩
            have b6 := heap_cells_over (k := .i8) (List.replicate (n - k - 1) 0) (k + 1) W5 _ b5 (by rw [List.length_replicate, List.length_set, HRG.out.1]; omega)
            rw [List.length_replicate] at b6
            have HB5 := hid b5
            have HO5 := hid o5
            have HB6 : Hid ((W5.setCells g (k + 1) ((List.replicate (n - k - 1) 0).map (Value.int .i8))).heap[g]? = some (.cells (kCells .i8 (nextM m n k p)) 22 (0, 0))) := hid b6
            clear hW5 b5 o5 b6
          · rw [clear_run (P := Tryd.prog) (e := 22) Tryd.underlying59 (fun w => by kernel_rfl) g 0 0 0 W5 (fun j hj => absurd hj (by omega)) (fun j hj => absurd hj (by omega))]
            have hnk' : ((k : Int) + 1) = (n : Int) := by omega
            rw [hnk', ← h]
            have HNK := hid (show n - k - 1 = 0 by omega)
            rw [HNK.out] at HB6
            clear h hnk'
            gi_wp2_with fail
            have B6 : (W5.setCells g 0 []).heap[g]? = some (.cells (kCells .i8 (nextM m n k p)) 22 (0, 0)) := HB6.out
            refine ⟨⟨pre', nextM m n k p, hid ⟨⟨HO5.out, B6, HN2.out⟩, by rw [← HN1.out, HREM.out]; exact IVr.out.2⟩⟩, ?_⟩
            rw [intsIn_ints B6, HMU.out, ← HREM.out, HN1.out, List.length_cons]
            omega
          · rw [clear_run (P := Tryd.prog) (e := 22) Tryd.underlying59 (fun w => by kernel_rfl) g (k + 1) (n - (k + 1)) (n - (k + 1)) W5 (fun j hj => by rw [cell_ints HB5.out (by rw [List.length_set, HRG.out.1]; omega)]; rfl) (fun j hj => frozen_of_row _ _ _ _ _ HB5.out)]
            have HWS := hid (show W5.setCells g (k + 1) (List.replicate (n - (k + 1)) (.int .i8 0)) = W5.setCells g (k + 1) ((List.replicate (n - k - 1) 0).map (Value.int .i8)) by rw [List.map_replicate]; rfl)
            rw [HWS.out]
            have HO6 := hid (show ∃ A, J (g + 1) pre' A ∧ g + 1 ≤ A.heap.size ∧ Out g (g + 1) A (W5.setCells g (k + 1) ((List.replicate (n - k - 1) 0).map (Value.int .i8))) by
              obtain ⟨A, hJ, hA, hO⟩ := HO5.out
              exact ⟨A, hJ, hA, hO.setCells (Nat.le_refl _) (by omega) _ _⟩)
            clear HWS
            generalize W5.setCells g (k + 1) ((List.replicate (n - k - 1) 0).map (Value.int .i8)) = W6 at *
            gi_wp2_with fail
            refine ⟨⟨pre', nextM m n k p, hid ⟨⟨HO6.out, HB6.out, HN2.out⟩, by rw [← HN1.out, HREM.out]; exact IVr.out.2⟩⟩, ?_⟩
            rw [intsIn_ints HB6.out, HMU.out, ← HREM.out, HN1.out, List.length_cons]
            omega
end Go.Proofs.YtfaiehjomcgjgaaDoor

/- How many meanings there are: plain lists; in how many ways kinds can be chosen. -/
namespace Go.Proofs.YtfaiehjomcgjgaaDoor
set_option linter.unusedVariables false
open Go.RowKit
def posI (x : Int) : Int := if x < 0 then 0 else x
/-- In how many ways so many kinds can be chosen. -/
def wtC (K : Int) : Nat → Int
  | 0 => 1
  | c + 1 => wtC K c * posI (K - c)
theorem posI_bd {K : Int} {c : Nat} (h0 : 0 ≤ K) (h4 : K ≤ 40) : 0 ≤ posI (K - c) ∧ posI (K - c) ≤ 40 := by unfold posI; split <;> omega
theorem wtC_bd {K : Int} (h0 : 0 ≤ K) (h4 : K ≤ 40) (c : Nat) : 0 ≤ wtC K c ∧ wtC K c ≤ 40 ^ c := by
  induction c with
  | zero => exact ⟨by show (0 : Int) ≤ 1; decide, by show (1 : Int) ≤ 40 ^ 0; decide⟩
  | succ c ih =>
    have h := posI_bd (c := c) h0 h4
    refine ⟨Int.mul_nonneg ih.1 h.1, ?_⟩
    rw [Int.pow_succ]
    exact Int.mul_le_mul ih.2 h.2 h.1 (Int.le_trans ih.1 ih.2)
theorem pow40 {c : Nat} (h : c ≤ 6) : (40 : Int) ^ c ≤ 4096000000 := by
  rcases (show c = 0 ∨ c = 1 ∨ c = 2 ∨ c = 3 ∨ c = 4 ∨ c = 5 ∨ c = 6 by omega) with rfl | rfl | rfl | rfl | rfl | rfl | rfl <;> decide
theorem wtC_big {K : Int} (h0 : 0 ≤ K) (h4 : K ≤ 40) {c : Nat} (h : c ≤ 6) : 0 ≤ wtC K c ∧ wtC K c ≤ 4096000000 := ⟨(wtC_bd h0 h4 c).1, Int.le_trans (wtC_bd h0 h4 c).2 (pow40 h)⟩
/-- More kinds than there are. -/
theorem wtC_none {K : Nat} : ∀ {c : Nat}, K < c → wtC (K : Int) c = 0 := by
  intro c
  induction c with
  | zero => intro h; omega
  | succ c ih =>
    intro h
    rw [wtC]
    by_cases e : K = c
    · rw [e, Int.sub_self]; simp [posI]
    · rw [ih (by omega), Int.zero_mul]
def wgt (K S : Int) (B n : Nat) (M : List Int) : Int := if hoistsL M S B = [] then 0 else wtC K (used M n)
def sumW (K S : Int) (B n : Nat) : List (List Int) → Int
  | [] => 0
  | M :: L => wgt K S B n M + sumW K S B n L
theorem sumW_append (K S : Int) (B n : Nat) (L L' : List (List Int)) : sumW K S B n (L ++ L') = sumW K S B n L + sumW K S B n L' := by
  induction L with
  | nil => simp [sumW]
  | cons M L ih => simp only [List.cons_append, sumW, ih]; omega
theorem wgt_bd {K S : Int} {B n : Nat} {M : List Int} (h0 : 0 ≤ K) (h4 : K ≤ 40) (hn : n ≤ 6) : 0 ≤ wgt K S B n M ∧ wgt K S B n M ≤ 4096000000 := by
  unfold wgt
  split
  · exact ⟨by decide, by decide⟩
  · exact wtC_big h0 h4 (by have := used_le M n; omega)
theorem sumW_bd {K S : Int} {B n : Nat} (h0 : 0 ≤ K) (h4 : K ≤ 40) (hn : n ≤ 6) (L : List (List Int)) : 0 ≤ sumW K S B n L ∧ sumW K S B n L ≤ 4096000000 * L.length := by
  induction L with
  | nil => exact ⟨by simp [sumW], by simp [sumW]⟩
  | cons M L ih =>
    have h := wgt_bd (S := S) (B := B) (M := M) h0 h4 hn
    simp only [sumW, List.length_cons]
    omega
theorem patN_length {next : List Int → Nat → List (List Int)} {P : Nat} {m : List Int} {nx : Nat} (hp : ∀ g k, k ≤ nx + 1 → (next g k).length ≤ P) : ∀ (c x : Nat), (patN next m nx x c).length ≤ c * P := by
  intro c
  induction c with
  | zero => intro x; simp [patN]
  | succ c ih =>
    intro x
    have h1 := hp (m ++ [(x : Int)]) (if x = nx then nx + 1 else nx) (by split <;> omega)
    have h2 := ih (x + 1)
    rw [patN, List.length_append, Nat.succ_mul]
    omega
theorem patF_length : ∀ (f : Nat) (m : List Int) (nx : Nat), nx + f ≤ 6 → (patF f m nx).length ≤ 7 ^ f := by
  intro f
  induction f with
  | zero => intro m nx _; simp [patF]
  | succ f ih =>
    intro m nx h
    rw [patF]
    have h1 := patN_length (next := patF f) (P := 7 ^ f) (m := m) (nx := nx) (fun g k hk => ih g k (by omega)) (nx + 1) 0
    have h2 : (nx + 1) * 7 ^ f ≤ 7 * 7 ^ f := Nat.mul_le_mul_right _ (by omega)
    rw [Nat.pow_succ]
    omega
theorem patF_big {n : Nat} (h : n ≤ 6) : (patF n [] 0).length ≤ 117649 := Nat.le_trans (patF_length n [] 0 (by omega)) (by
  have := Nat.pow_le_pow_right (n := 7) (by omega) h
  omega)
/-- New numbers come one by one in all of them. -/
theorem rgs_snoc {m : List Int} {k x : Nat} (h : Rgs m k) (hx : x ≤ used m k) : Rgs (m ++ [(x : Int)]) (k + 1) ∧ used (m ++ [(x : Int)]) (k + 1) = if x = used m k then used m k + 1 else used m k := by
  have hlt : ∀ j, j < k → (m ++ [(x : Int)]).getD j 0 = m.getD j 0 := fun j hj => getD_snoc_lt (by rw [h.1]; exact hj)
  have hu : ∀ j, j ≤ k → used (m ++ [(x : Int)]) j = used m j := fun j hj => used_same (fun i hi => hlt i (by omega))
  have hk : (m ++ [(x : Int)]).getD k 0 = (x : Int) := getD_snoc_eq h.1.symm
  refine ⟨⟨by rw [List.length_append, h.1]; rfl, fun j hj => ?_⟩, ?_⟩
  · by_cases e : j = k
    · subst e
      exact ⟨x, hk, by rw [hu j (Nat.le_refl _)]; exact hx⟩
    · rw [hlt j (by omega), hu j (by omega)]
      exact h.2 j (by omega)
  · simp only [used, hk, hu k (Nat.le_refl _)]
    by_cases e : x = used m k
    · rw [if_pos (by omega), if_pos e]
    · rw [if_neg (by omega), if_neg e]
theorem patN_mem {next : List Int → Nat → List (List Int)} {m M : List Int} {nx : Nat} : ∀ {c x : Nat}, M ∈ patN next m nx x c → ∃ y, x ≤ y ∧ y < x + c ∧ M ∈ next (m ++ [(y : Int)]) (if y = nx then nx + 1 else nx) := by
  intro c
  induction c with
  | zero => intro x h; simp [patN] at h
  | succ c ih =>
    intro x h
    rw [patN] at h
    rcases List.mem_append.1 h with h1 | h1
    · exact ⟨x, Nat.le_refl _, by omega, h1⟩
    · obtain ⟨y, h2, h3, h4⟩ := ih h1
      exact ⟨y, by omega, by omega, h4⟩
theorem patF_rgs : ∀ (f : Nat) (m : List Int) (k : Nat), Rgs m k → ∀ M ∈ patF f m (used m k), Rgs M (k + f) := by
  intro f
  induction f with
  | zero => intro m k h M hM; rw [patF, List.mem_singleton] at hM; rw [hM]; exact h
  | succ f ih =>
    intro m k h M hM
    rw [patF] at hM
    obtain ⟨y, _, h2, h3⟩ := patN_mem hM
    obtain ⟨g1, g2⟩ := rgs_snoc h (show y ≤ used m k by omega)
    rw [← g2] at h3
    have := ih _ _ g1 M h3
    rwa [show k + 1 + f = k + (f + 1) by omega] at this
theorem pat_rgs {n : Nat} {M : List Int} (h : M ∈ patF n [] 0) : Rgs M n := by
  have := patF_rgs n [] 0 ⟨rfl, fun j hj => by omega⟩ M h
  rwa [Nat.zero_add] at this
theorem rgs_fits {M : List Int} {n : Nat} (h : Rgs M n) (hn : n ≤ 6) : Fits .i8 M := by
  intro x hx
  obtain ⟨i, hi, rfl⟩ := List.mem_iff_getElem.1 hx
  obtain ⟨p, hp, hu⟩ := h.2 i (by rw [← h.1]; exact hi)
  have := used_le M i
  rw [List.getD_eq_getElem?_getD, List.getElem?_eq_getElem hi] at hp
  simp only [Option.getD_some] at hp
  rw [hp]
  have hl := h.1
  have h6 : p ≤ 6 := by omega
  rcases (show p = 0 ∨ p = 1 ∨ p = 2 ∨ p = 3 ∨ p = 4 ∨ p = 5 ∨ p = 6 by omega) with rfl | rfl | rfl | rfl | rfl | rfl | rfl <;> rfl
set_option maxRecDepth 100000 in
set_option maxHeartbeats 1000000 in
theorem waysToChoose_any (c : Nat) (h6 : c ≤ 6) (K : Int) (h0 : 0 ≤ K) (h4 : K ≤ 40) (w : World) :
    Calls Tryd.prog 107 #[.int .i64 c, .int .i64 K] w fun e w' => e = .returned (.int .i64 (wtC K c)) ∧ w = w' := by
  have HB := hid (fun i (h : i ≤ 6) => wtC_big h0 h4 h)
  have HP := hid (fun i : Nat => posI_bd (c := i) h0 h4)
  have HS := hid (fun i => show wtC K (i + 1) = wtC K i * posI (K - i) from rfl)
  have HZ := hid (show wtC K 0 = 1 from rfl)
  generalize wtC K = f at *
  go_enter Tryd.func107, Tryd.ntmps107
  go_wp2_with fail
  go_loop [5, 8] (fun v i => ∃ k : Nat, k ≤ c ∧ i = .int .i64 k ∧ v = .int .i64 (f k)) (fun _ i => c - (intOf i).toNat)
  case atStart => exact ⟨0, Nat.zero_le _, rfl, by rw [HZ.out]⟩
  case round =>
    obtain ⟨k, hk, rfl, rfl⟩ := hrel
    by_cases hlt : k < c
    · have HSK := hid (HS.out k)
      obtain ⟨p0, p1⟩ := HP.out k
      obtain ⟨q0, q1⟩ := HB.out k (by omega)
      have e1 : IntKind.i64.wrap (K - (k : Int)) = K - (k : Int) := IntWalk.i64_in _ (by omega)
      have hm : f k * posI (K - k) ≤ 4096000000 * 40 := Int.mul_le_mul q1 p1 p0 (by omega)
      have hm0 : 0 ≤ f k * posI (K - k) := Int.mul_nonneg q0 p0
      have e2 : IntKind.i64.wrap (f k * posI (K - k)) = f k * posI (K - k) := IntWalk.i64_in _ (by omega)
      unfold posI at e2 HSK
      clear hm hm0 p0 p1
      generalize f k = y at *
      go_wp2_with fail
      exact ⟨⟨k + 1, by omega, by rw [show ((k + 1 : Nat) : Int) = (k : Int) + 1 by omega], by rw [HSK.out]⟩, by simp [intOf]; omega⟩
    · obtain rfl : k = c := by omega
      go_wp2_with fail
      go_ret
      exact ⟨rfl, rfl⟩
end Go.Proofs.YtfaiehjomcgjgaaDoor
