/- Slices of strings. -/
import Derived.Test.YtkbdblaciphmnaaOwn
namespace Go.Proofs.Ytkbdblaciphmnaa
set_option linter.unusedVariables false
open Go.RowKit
def StrsOf (w : World) (a : Option Addr) (ss : List ByteArray) : Prop :=
  ∀ i, i < ss.length → ∃ b off, a = some ⟨b, off, none⟩ ∧ w.cell? ⟨b, off + i, none⟩ = some (.string (ss.getD i ByteArray.empty))
theorem StrsOf.gr {W w : World} {a : Option Addr} {ss : List ByteArray} (h : StrsOf W a ss) (hg : Gr W w) : StrsOf w a ss := by
  intro i hi
  obtain ⟨b, off, e, hc⟩ := h i hi
  exact ⟨b, off, e, hg.cell hc⟩
def strCells (ss : List ByteArray) : Array Value := (ss.map Value.string).toArray
theorem strCells_size (ss : List ByteArray) : (strCells ss).size = ss.length := by simp [strCells]
theorem strCells_get (ss : List ByteArray) (i : Nat) (h : i < ss.length) : (strCells ss)[i]? = some (.string (ss.getD i ByteArray.empty)) := by
  simp [strCells, List.getElem?_eq_getElem h, List.getD]
theorem strCells_set (ss : List ByteArray) (i : Nat) (x : ByteArray) : (strCells ss).setIfInBounds i (.string x) = strCells (ss.set i x) := by
  simp [strCells, List.map_set]
theorem cell_strs {w : World} {b i : Nat} {ss : List ByteArray} {t : TypeId} {fr : Nat × Nat} (h : w.heap[b]? = some (.cells (strCells ss) t fr)) (hi : i < ss.length) :
    w.cell? ⟨b, i, none⟩ = some (.string (ss.getD i ByteArray.empty)) := by rw [cell_of_row w b i _ t fr h, strCells_get ss i hi]
theorem strsOf_block {w : World} {b : Nat} {ss : List ByteArray} {t : TypeId} {fr : Nat × Nat} (h : w.heap[b]? = some (.cells (strCells ss) t fr)) : StrsOf w (some ⟨b, 0, none⟩) ss := by
  intro i hi
  exact ⟨b, 0, rfl, by rw [Nat.zero_add]; exact cell_strs h hi⟩
theorem heap_str_set {w : World} {b i : Nat} {ss : List ByteArray} {t : TypeId} {x : ByteArray} (h : w.heap[b]? = some (.cells (strCells ss) t (0, 0))) :
    (w.setCell ⟨b, i, none⟩ (.string x)).heap[b]? = some (.cells (strCells (ss.set i x)) t (0, 0)) := by rw [heap_setCell_same w b i _ t _ h, strCells_set]
theorem madeStrs (n : Nat) : madeCells (Value.string ⟨#[]⟩).cells (n * 1) = strCells (List.replicate n ⟨#[]⟩) := by
  unfold madeCells strCells
  apply Array.ext_getElem?
  intro i
  by_cases h : i < n
  · simp [Value.cells, h, Nat.mod_one]
  · simp [Value.cells, h]
theorem run_make_strs {P : Program} {t e : TypeId} {bytes : Nat} (ht : P.underlying t = some (.slice e)) (hi' : (P.info? e).map (fun i => (i.zero, i.size, i.bytes)) = some (some (.string ⟨#[]⟩), 1, bytes))
    (n : Nat) (hb : bytes * n ≤ 281474976710656) (hn : n ≤ 9223372036854775807) (w : World) :
    (Instr.makeSlice t (.int .i64 n) (.int .i64 n)).run P w = .ok (.slice (some ⟨w.heap.size, 0, none⟩) n n) (w.alloc (.cells (strCells (List.replicate n ⟨#[]⟩)) e)) := by
  obtain ⟨i0, hi, hh⟩ := Option.map_eq_some_iff.1 hi'
  simp only [Prod.mk.injEq] at hh
  obtain ⟨h1, h2, h3⟩ := hh
  have hb' : (i0.bytes : Int) * (n : Int) ≤ 281474976710656 := by
    have h : ((bytes * n : Nat) : Int) ≤ 281474976710656 := by omega
    rw [Int.natCast_mul] at h; rw [h3]; exact h
  have := run_make (P := P) w t e i0 (.string ⟨#[]⟩) ht hi h1 .i64 .i64 n n (by omega) (Int.le_refl _) hb' (by omega)
  rw [this, h2]
  simp only [Int.toNat_natCast]
  rw [madeStrs]
def fillS (n : Nat) (ss : List ByteArray) (k : Nat) : List ByteArray := ss.take k ++ List.replicate (n - k) ⟨#[]⟩
theorem fillS_length {n : Nat} {ss : List ByteArray} {k : Nat} (hn : n = ss.length) (h : k ≤ n) : (fillS n ss k).length = n := by simp [fillS]; omega
theorem fillS_set {n : Nat} {ss : List ByteArray} {k : Nat} (hn : n = ss.length) (h : k < n) : (fillS n ss k).set k (ss.getD k ByteArray.empty) = fillS n ss (k + 1) := by
  unfold fillS
  have hl : (ss.take k).length = k := by rw [List.length_take]; omega
  rw [List.set_append_right _ _ (by omega), hl, Nat.sub_self, show n - k = (n - (k + 1)) + 1 by omega, List.replicate_succ, List.set_cons_zero, List.take_succ_eq_append_getElem (show k < ss.length by omega), List.append_assoc]
  congr 1
  simp [List.getD, List.getElem?_eq_getElem (show k < ss.length by omega)]
theorem fillS_zero (n : Nat) (ss : List ByteArray) : fillS n ss 0 = List.replicate n ⟨#[]⟩ := by simp [fillS]
theorem fillS_all {n : Nat} {ss : List ByteArray} (hn : n = ss.length) : fillS n ss n = ss := by rw [hn]; simp [fillS]
set_option maxRecDepth 100000 in
theorem toStringS_any (a0 : Option Addr) (cap n : Nat) (ss : List ByteArray) (hl : n = ss.length) (hn : n ≤ 1048576) (w : World) (hs : StrsOf w a0 ss) :
    Calls Try.prog 43 #[.slice a0 n cap] w fun e w' => e = .returned (.slice (some ⟨w.heap.size, 0, none⟩) n n) ∧ w'.heap[w.heap.size]? = some (.cells (strCells ss) 9 (0, 0)) ∧ Gr w w' := by
  have hmk := run_make_strs (P := Try.prog) (t := 23) (e := 9) (bytes := 16) Try.underlying23 (by kernel_rfl) n (by omega) (by omega)
  have HS := hid hs
  have HL := hid hl
  clear hs hl
  go_enter Try.func43, Try.ntmps43
  go_wp2_with fail
  clear hmk
  go_loopw [4] (fun i wr => ∃ k : Nat, k ≤ n ∧ i = .int .i64 k ∧ Hid (Gr w wr) ∧ Hid (wr.heap[w.heap.size]? = some (.cells (strCells (fillS n ss k)) 9 (0, 0)))) (fun i _ => n - (intOf i).toNat)
  case atStart => exact ⟨0, Nat.zero_le _, rfl, hid ((Gr.refl _).alloc _), hid (by rw [fillS_zero]; exact heap_new rfl)⟩
  case round =>
    obtain ⟨k, hk, rfl, hg, h0⟩ := hrel
    by_cases hlt : k < n
    · obtain ⟨b, off, rfl, hc⟩ := HS.out k (by rw [← HL.out]; exact hlt)
      have hc0 := hg.out.cell hc
      have hc1 := cell_strs h0.out (i := k) (by rw [fillS_length HL.out hk]; exact hlt)
      have hf1 : wr.frozen? ⟨w.heap.size, k, none⟩ = false := frozen_of_row _ _ _ _ _ h0.out
      have HSET := hid (fillS_set HL.out hlt)
      clear hc
      generalize (fillS n ss k).getD k ByteArray.empty = y at *
      generalize hv : ss.getD k ByteArray.empty = v at *
      clear hv
      go_wp2_with fail
      go_roundw
      case rel => exact ⟨k + 1, by omega, by go_num, hid (hg.out.setCell (by dsimp only; omega) _), hid (by rw [← HSET.out]; exact heap_str_set h0.out)⟩
      case measure => simp [intOf]; omega
    · have H0 : Hid (wr.heap[w.heap.size]? = some (.cells (strCells ss) 9 (0, 0))) := by
        rw [show k = n by omega, fillS_all HL.out] at h0; exact h0
      clear h0
      go_wp2_with fail
      go_ret
      exact ⟨rfl, H0.out, hg.out⟩
/-- Two lists agree up to a place. -/
def sameS (xs ys : List ByteArray) (k : Nat) : Prop := ∀ i, i < k → xs.getD i ByteArray.empty = ys.getD i ByteArray.empty
theorem sameS_all {xs ys : List ByteArray} (hl : xs.length = ys.length) (h : sameS xs ys xs.length) : xs = ys := by
  apply List.ext_getElem hl
  intro i h1 h2
  have := h i h1
  simpa [List.getD, List.getElem?_eq_getElem h1, List.getElem?_eq_getElem h2] using this
theorem sameS_succ {xs ys : List ByteArray} {k : Nat} (h : sameS xs ys k) (e : xs.getD k ByteArray.empty = ys.getD k ByteArray.empty) : sameS xs ys (k + 1) := by
  intro i hi
  by_cases hk : i = k
  · subst hk; exact e
  · exact h i (by omega)
set_option maxRecDepth 100000 in
set_option maxHeartbeats 1000000 in
theorem eqStringS_same (a b : Option Addr) (ca cb n : Nat) (ss : List ByteArray) (hl : n = ss.length) (hn : n ≤ 1048576) (w : World) (ha : StrsOf w a ss) (hb : StrsOf w b ss) :
    Calls Try.prog 47 #[.slice a n ca, .slice b n cb] w fun e w' => e = .returned (.bool true) ∧ Gr w w' := by
  have HA := hid ha
  have HB := hid hb
  have HL := hid hl
  clear ha hb hl
  go_enter Try.func47, Try.ntmps47
  go_wp2_with fail
  go_loopw [5] (fun i wr => ∃ k : Nat, k ≤ n ∧ i = .int .i64 k ∧ Hid (Gr w wr)) (fun i _ => n - (intOf i).toNat)
  case atStart => exact ⟨0, Nat.zero_le _, rfl, hid (Gr.refl _)⟩
  case round =>
    obtain ⟨k, hk, rfl, hg⟩ := hrel
    by_cases hlt : k < n
    · obtain ⟨b0, o0, rfl, h0⟩ := HA.out k (by rw [← HL.out]; exact hlt)
      obtain ⟨b1, o1, rfl, h1⟩ := HB.out k (by rw [← HL.out]; exact hlt)
      have hc0 := hg.out.cell h0
      have hc1 := hg.out.cell h1
      clear h0 h1
      generalize ss.getD k ByteArray.empty = v at *
      have hb0 : (0 : Int) ≤ k := by omega
      have hb1 : (k : Int) < n := by omega
      go_wp2_with fail
      go_quiet (fail)
      go_wp2_with fail
      go_roundw
      case rel => exact ⟨k + 1, by omega, by go_num, hid (hg.out.drewN _)⟩
      case measure => simp [intOf]; omega
    · go_wp2_with fail
      go_ret
      exact ⟨rfl, hg.out⟩
theorem toList_ne {v u : ByteArray} (h : v ≠ u) : (v.toList == u.toList) = false := by
  rw [beq_eq_false_iff_ne]
  intro e
  rw [Go.ByteArray.toList_eq, Go.ByteArray.toList_eq] at e
  exact h (Go.WideShapes.bytes_inj e)
/-- What is left behind a slice of strings: too little, or no more than before. -/
def SzPost (left n : Nat) (w : World) (e : Ending) (w' : World) : Prop := ∃ r : Int, e = .returned (.int .i64 r) ∧ (r = -1 ∨ (0 ≤ r ∧ r ≤ left ∧ n ≤ left)) ∧ w = w'
set_option maxRecDepth 100000 in
set_option maxHeartbeats 1000000 in
theorem szStringS_any (a : Option Addr) (cap n left : Nat) (ss : List ByteArray) (hl : n = ss.length) (hm : n ≤ 9223372036854775807) (hle : left ≤ 1048576) (hsz : ∀ i, (ss.getD i ByteArray.empty).size ≤ 9223372036854775807) (w : World) (hs : StrsOf w a ss) :
    Calls Try.prog 40 #[.slice a n cap, .int .i64 left] w (SzPost left n w) := by
  have HS := hid hs
  have HL := hid hl
  have HZ := hid hsz
  clear hs hl hsz
  by_cases hlt : left < n
  · have e1 : IntKind.i64.wrap ((left : Int) - (n : Int)) = (left : Int) - (n : Int) := IntWalk.i64_in _ (by omega)
    have t1 : (left : Int) - (n : Int) < 0 := by omega
    go_enter Try.func40, Try.ntmps40
    go_wp2_with fail
    go_ret
    exact ⟨-1, rfl, .inl rfl, rfl⟩
  · obtain ⟨r0, hr0⟩ : ∃ r0 : Nat, (left : Int) - (n : Int) = (r0 : Int) := ⟨left - n, by omega⟩
    have hr1 : r0 ≤ left := by omega
    have hnl : n ≤ left := by omega
    go_enter Try.func40, Try.ntmps40
    go_wp2_with fail
    go_loop [1, 5] (fun l i => ∃ (k r : Nat), k ≤ n ∧ r ≤ left ∧ i = .int .i64 k ∧ l = .int .i64 r) (fun _ i => n - (intOf i).toNat)
    case atStart => exact ⟨0, r0, Nat.zero_le _, hr1, rfl, by rw [← hr0]⟩
    case round =>
      obtain ⟨k, r, hk, hr, rfl, rfl⟩ := hrel
      clear hr0
      by_cases hkn : k < n
      · obtain ⟨b0, o0, rfl, h0⟩ := HS.out k (by rw [← HL.out]; exact hkn)
        have hz := HZ.out k
        generalize ss.getD k ByteArray.empty = v at *
        by_cases hv : (r : Int) - (v.size : Int) < 0
        · go_wp2_with fail
          go_ret
          exact ⟨-1, rfl, .inl rfl, rfl⟩
        · obtain ⟨r', hr'⟩ : ∃ r' : Nat, (r : Int) - (v.size : Int) = (r' : Int) := ⟨r - v.size, by omega⟩
          have hr2 : r' ≤ left := by omega
          have HR := hid hr'
          clear hr'
          go_wp2_with fail
          go_round
          case rel => exact ⟨k + 1, r', by omega, hr2, by go_num, by rw [← HR.out]⟩
          case measure => simp [intOf]; omega
      · go_wp2_with fail
        go_ret
        exact ⟨r, rfl, .inr ⟨by omega, by omega, hnl⟩, rfl⟩
end Go.Proofs.Ytkbdblaciphmnaa
