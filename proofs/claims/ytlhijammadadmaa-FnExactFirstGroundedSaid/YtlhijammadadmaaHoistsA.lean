/- Lists of hoists: sizes, copies, comparisons. -/
import Derived.Test.YtlhijammadadmaaSlices
import Derived.Test.YtlhijammadadmaaSlicesO
namespace Go.Proofs.Ytlhijammadadmaa
set_option linter.unusedVariables false
open Go.RowKit
/-- The cells of slices, of which the first ones hold these numbers; none of them lies in a block. -/
def RowH (g : Nat) (w : World) (vs : List Value) (xss : List (List Int)) (k : Nat) : Prop :=
  ∀ i, i < k → ∃ a', vs[i]? = some (.slice a' (xss.getD i []).length (xss.getD i []).length) ∧ SliceOf .i8 w a' (xss.getD i []) ∧ ∀ b off s, a' = some ⟨b, off, s⟩ → b ≠ g
theorem RowH.gr {g : Nat} {W w : World} {vs : List Value} {xss : List (List Int)} {k : Nat} (h : RowH g W vs xss k) (hg : Gr W w) : RowH g w vs xss k := by
  intro i hi
  obtain ⟨a', e, hs, hne⟩ := h i hi
  exact ⟨a', e, hs.gr hg, hne⟩
theorem SliceOf.storeH {k : IntKind} {w : World} {a : Option Addr} {xs : List Int} (h : SliceOf k w a xs) {p : Addr} (hne : ∀ b off s, a = some ⟨b, off, s⟩ → b ≠ p.block) (v : Value) : SliceOf k (w.setCell p v) a xs := by
  intro i hi
  obtain ⟨b, off, e, hc⟩ := h i hi
  refine ⟨b, off, e, ?_⟩
  rw [← hc]
  exact World.cell?_of_block (heap_setCell_other w p b v (hne b off none e))
theorem RowH.step {g : Nat} {w : World} {vs : List Value} {xss : List (List Int)} {k : Nat} (h : RowH g w vs xss k) (hk : k < vs.length) {a' : Option Addr} (hs : SliceOf .i8 w a' (xss.getD k [])) (hne : ∀ b off s, a' = some ⟨b, off, s⟩ → b ≠ g) :
    RowH g (w.setCell ⟨g, k, none⟩ (.slice a' (xss.getD k []).length (xss.getD k []).length)) (vs.set k (.slice a' (xss.getD k []).length (xss.getD k []).length)) xss (k + 1) := by
  intro i hi
  by_cases e : i = k
  · subst e
    exact ⟨a', by simp [hk], hs.storeH (p := ⟨g, i, none⟩) hne _, hne⟩
  · obtain ⟨a2, e2, s2, n2⟩ := h i (by omega)
    exact ⟨a2, by rw [List.getElem?_set_ne (by omega)]; exact e2, s2.storeH (p := ⟨g, k, none⟩) n2 _, n2⟩
/-- A slice whose elements are slices without spare places that hold these numbers. -/
def SlicesX (w : World) (a : Option Addr) (xss : List (List Int)) : Prop :=
  ∀ i, i < xss.length → ∃ b off a', a = some ⟨b, off, none⟩ ∧ w.cell? ⟨b, off + i, none⟩ = some (.slice a' (xss.getD i []).length (xss.getD i []).length) ∧ SliceOf .i8 w a' (xss.getD i [])
theorem SlicesX.gr {W w : World} {a : Option Addr} {xss : List (List Int)} (h : SlicesX W a xss) (hg : Gr W w) : SlicesX w a xss := by
  intro i hi
  obtain ⟨b, off, a', e, hc, hs⟩ := h i hi
  exact ⟨b, off, a', e, hg.cell hc, hs.gr hg⟩
theorem SlicesX.of {w : World} {a : Option Addr} {xss : List (List Int)} (h : SlicesX w a xss) : SlicesOf .i8 w a xss := by
  intro i hi
  obtain ⟨b, off, a', e, hc, hs⟩ := h i hi
  exact ⟨b, off, a', _, e, hc, hs⟩
theorem RowH.reads {g : Nat} {w : World} {vs : List Value} {xss : List (List Int)} {t : TypeId} (h : RowH g w vs xss xss.length) (hb : w.heap[g]? = some (.cells vs.toArray t (0, 0))) : SlicesX w (some ⟨g, 0, none⟩) xss := by
  intro i hi
  obtain ⟨a', e, hs, _⟩ := h i hi
  refine ⟨g, 0, a', rfl, ?_, hs⟩
  rw [Nat.zero_add, cell_of_row w g i _ t _ hb]
  simpa using e
theorem heap_val_setH {w : World} {b i : Nat} {vs : List Value} {t : TypeId} {v : Value} (h : w.heap[b]? = some (.cells vs.toArray t (0, 0))) :
    (w.setCell ⟨b, i, none⟩ v).heap[b]? = some (.cells (vs.set i v).toArray t (0, 0)) := by
  rw [heap_setCell_same w b i _ t _ h]
  simp
theorem madeNilsH (n : Nat) : madeCells (Value.slice none 0 0).cells (n * 1) = (List.replicate n (Value.slice none 0 0)).toArray := by
  unfold madeCells
  apply Array.ext_getElem?
  intro i
  by_cases h : i < n
  · simp [Value.cells, h, Nat.mod_one]
  · simp [Value.cells, h]
theorem run_make_nilsH {P : Program} {t e : TypeId} {bytes : Nat} (ht : P.underlying t = some (.slice e)) (hi' : (P.info? e).map (fun i => (i.zero, i.size, i.bytes)) = some (some (.slice none 0 0), 1, bytes))
    (n : Nat) (hb : bytes * n ≤ 281474976710656) (hn : n ≤ 9223372036854775807) (w : World) :
    (Instr.makeSlice t (.int .i64 n) (.int .i64 n)).run P w = .ok (.slice (some ⟨w.heap.size, 0, none⟩) n n) (w.alloc (.cells (List.replicate n (Value.slice none 0 0)).toArray e)) := by
  obtain ⟨i0, hi, hh⟩ := Option.map_eq_some_iff.1 hi'
  simp only [Prod.mk.injEq] at hh
  obtain ⟨h1, h2, h3⟩ := hh
  have hb' : (i0.bytes : Int) * (n : Int) ≤ 281474976710656 := by
    have h : ((bytes * n : Nat) : Int) ≤ 281474976710656 := by omega
    rw [Int.natCast_mul] at h; rw [h3]; exact h
  have := run_make (P := P) w t e i0 (.slice none 0 0) ht hi h1 .i64 .i64 n n (by omega) (Int.le_refl _) hb' (by omega)
  rw [this, h2]
  simp only [Int.toNat_natCast]
  rw [madeNilsH]
def SzH (left n : Nat) (xss : List (List Int)) (w : World) (e : Ending) (w' : World) : Prop :=
  ∃ r : Int, e = .returned (.int .i64 r) ∧ (r = -1 ∨ (0 ≤ r ∧ r ≤ left ∧ n ≤ left ∧ ∀ i, i < n → (xss.getD i []).length ≤ left)) ∧ w = w'
set_option maxRecDepth 100000 in
theorem szHoist_any (a : Option Addr) (cap n left : Nat) (hm : n ≤ 9223372036854775807) (hle : left ≤ 1048576) (w : World) :
    Calls Try.prog 17 #[.slice a n cap, .int .i64 left] w fun e w' => (∃ r : Int, e = .returned (.int .i64 r) ∧ (r = -1 ∨ (0 ≤ r ∧ r ≤ left ∧ n ≤ left))) ∧ w = w' := by
  have e1 : IntKind.i64.wrap ((left : Int) - (n : Int)) = (left : Int) - (n : Int) := IntWalk.i64_in _ (by omega)
  by_cases hlt : left < n
  · have t1 : (left : Int) - (n : Int) < 0 := by omega
    go_enter Try.func17, Try.ntmps17
    go_wp2_with fail
    go_ret
    exact ⟨⟨-1, rfl, .inl rfl⟩, rfl⟩
  · have t1 : ¬ (left : Int) - (n : Int) < 0 := by omega
    go_enter Try.func17, Try.ntmps17
    go_wp2_with fail
    go_ret
    exact ⟨⟨_, rfl, .inr ⟨by omega, by omega, by omega⟩⟩, rfl⟩
set_option maxRecDepth 100000 in
theorem szHoistS_any (a : Option Addr) (cap n left : Nat) (xss : List (List Int)) (hl : n = xss.length) (hm : n ≤ 9223372036854775807) (hle : left ≤ 1048576) (hsz : ∀ i, (xss.getD i []).length ≤ 9223372036854775807) (w : World) (hs : SlicesOf .i8 w a xss) :
    Calls Try.prog 6 #[.slice a n cap, .int .i64 left] w (SzH left n xss w) := by
  have HS := hid hs
  have HL := hid hl
  have HZ := hid hsz
  clear hs hl hsz
  by_cases hlt : left < n
  · have e1 : IntKind.i64.wrap ((left : Int) - (n : Int)) = (left : Int) - (n : Int) := IntWalk.i64_in _ (by omega)
    have t1 : (left : Int) - (n : Int) < 0 := by omega
    go_enter Try.func6, Try.ntmps6
    go_wp2_with fail
    go_ret
    exact ⟨-1, rfl, .inl rfl, rfl⟩
  · obtain ⟨r0, hr0⟩ : ∃ r0 : Nat, (left : Int) - (n : Int) = (r0 : Int) := ⟨left - n, by omega⟩
    have hr1 : r0 ≤ left := by omega
    have hnl : n ≤ left := by omega
    have e1 : IntKind.i64.wrap ((left : Int) - (n : Int)) = (r0 : Int) := by rw [IntWalk.i64_in _ (by omega)]; exact hr0
    clear hr0
    go_enter Try.func6, Try.ntmps6
    go_wp2_with fail
    go_loop [1, 5] (fun l i => ∃ (k r : Nat), k ≤ n ∧ r ≤ left ∧ i = .int .i64 k ∧ l = .int .i64 r ∧ Hid (∀ i, i < k → (xss.getD i []).length ≤ left)) (fun _ i => n - (intOf i).toNat)
    case atStart => exact ⟨0, r0, Nat.zero_le _, hr1, rfl, rfl, hid (fun i hi => absurd hi (Nat.not_lt_zero i))⟩
    case round =>
      obtain ⟨k, r, hk, hr, rfl, rfl, HB⟩ := hrel
      by_cases hkn : k < n
      · obtain ⟨b0, o0, a', c', rfl, h0, -⟩ := HS.out k (by rw [← HL.out]; exact hkn)
        have hz := HZ.out k
        have HST := hid (fun (h : (xss.getD k []).length ≤ left) i (hi : i < k + 1) => show (xss.getD i []).length ≤ left by
          by_cases e : i = k
          · rw [e]; exact h
          · exact HB.out i (by omega))
        generalize (xss.getD k []).length = v at *
        have HC := hid (szHoist_any a' c' v r hz (by omega) w)
        go_wp2_with fail
        refine HC.out.mono ?_
        rintro e w' ⟨⟨q, rfl, hq⟩, rfl⟩
        rcases hq with rfl | ⟨q0, q1, q2⟩
        · go_wp2_with fail
          go_ret
          exact ⟨-1, rfl, .inl rfl, rfl⟩
        · obtain ⟨r', rfl⟩ : ∃ r' : Nat, q = (r' : Int) := ⟨q.toNat, by omega⟩
          have hn0 : ¬ (r' : Int) < 0 := by omega
          go_wp2_with fail
          go_round
          case rel => exact ⟨k + 1, r', by omega, by omega, by go_num, rfl, hid (HST.out (by omega))⟩
          case measure => simp [intOf]; omega
      · go_wp2_with fail
        go_ret
        exact ⟨r, rfl, .inr ⟨by omega, by omega, hnl, fun i hi => HB.out i (by omega)⟩, rfl⟩
set_option maxRecDepth 100000 in
set_option maxHeartbeats 1000000 in
theorem toHoistS_reads (a0 : Option Addr) (cap n : Nat) (xss : List (List Int)) (hl : n = xss.length) (hn : n ≤ 1048576) (hz : ∀ i, i < n → (xss.getD i []).length ≤ 1048576) (w : World) (hs : SlicesOf .i8 w a0 xss) :
    Calls Try.prog 8 #[.slice a0 n cap] w fun e w' => e = .returned (.slice (some ⟨w.heap.size, 0, none⟩) n n) ∧ SlicesX w' (some ⟨w.heap.size, 0, none⟩) xss ∧ Gr w w' := by
  have hmk := run_make_nilsH (P := Try.prog) (t := 31) (e := 49) (bytes := 24) Try.underlying31 (by kernel_rfl) n (by omega) (by omega)
  have HS := hid hs
  have HL := hid hl
  have HZ := hid hz
  clear hs hl hz
  go_enter Try.func8, Try.ntmps8
  go_wp2_with fail
  clear hmk
  go_loopw [4] (fun i wr => ∃ k : Nat, k ≤ n ∧ i = .int .i64 k ∧ Hid (Gr w wr) ∧ Hid (∃ vs : List Value, vs.length = n ∧ wr.heap[w.heap.size]? = some (.cells vs.toArray 49 (0, 0)) ∧ RowH w.heap.size wr vs xss k)) (fun i _ => n - (intOf i).toNat)
  case atStart => exact ⟨0, Nat.zero_le _, rfl, hid ((Gr.refl _).alloc _), hid ⟨List.replicate n (Value.slice none 0 0), by simp, heap_new rfl, fun i hi => absurd hi (Nat.not_lt_zero i)⟩⟩
  case round =>
    obtain ⟨k, hk, rfl, hg, ⟨vs, hvl, hb, hrow⟩⟩ := hrel
    by_cases hlt : k < n
    · obtain ⟨b, off, a', cap', rfl, hc, hsl⟩ := HS.out.gr hg.out k (by rw [← HL.out]; exact hlt)
      have HTO := hid (toHoist_own a' cap' (xss.getD k []) (HZ.out k hlt) wr hsl)
      have HB := hid hb
      have HV := hid hvl
      have HR := hid hrow
      have hgs := hid hg.out.size
      have HLT := hid (lt_of_heap hb)
      clear hsl hb hvl hrow
      obtain ⟨m, hm⟩ : ∃ m, m = (xss.getD k []).length := ⟨_, rfl⟩
      rw [← hm] at hc HTO
      have HM := hid hm
      clear hm
      have hk0 : (0 : Int) ≤ k := by omega
      have hk1 : (k : Int) < n := by omega
      go_wp2_with fail
      refine HTO.out.mono ?_
      rintro e W2 ⟨rfl, h2, g2⟩
      have B2 := hid (g2.heap HB.out)
      have SN := hid (sliceOf_block (k := .i8) h2)
      have R2 := hid (HR.out.gr g2)
      have G2 := hid (hg.out.trans g2)
      clear h2 g2
      have hfz : W2.frozen? ⟨w.heap.size, k, none⟩ = false := frozen_of_row _ _ _ _ _ B2.out
      obtain ⟨v0, hv0⟩ : ∃ v0, W2.cell? ⟨w.heap.size, k, none⟩ = some v0 := by
        rw [cell_of_row _ _ _ _ _ _ B2.out]
        exact ⟨_, by simp [HV.out, hlt]; rfl⟩
      go_wp2_with fail
      have ST := hid (R2.out.step (g := w.heap.size) (by rw [HV.out]; exact hlt) SN.out (fun b off s e => by cases e; have := HLT.out; omega))
      rw [← HM.out] at ST
      go_roundw
      case rel => exact ⟨k + 1, by omega, by go_num, hid (G2.out.setCell (by dsimp only; omega) _), hid ⟨_, by rw [List.length_set]; exact HV.out, heap_val_setH B2.out, ST.out⟩⟩
      case measure => simp [intOf]; omega
    · have HK := hid (show k = n by omega)
      have SR := hid (RowH.reads (t := 49) (show RowH w.heap.size wr vs xss xss.length by rw [← HL.out, ← HK.out]; exact hrow) hb)
      clear hvl hb hrow
      go_wp2_with fail
      go_ret
      exact ⟨rfl, SR.out, hg.out⟩
set_option maxRecDepth 100000 in
set_option maxHeartbeats 1000000 in
theorem eqHoistS_own (a b : Option Addr) (ca cb n : Nat) (xss : List (List Int)) (hl : n = xss.length) (hn : n ≤ 1048576) (hm : ∀ i, i < n → (xss.getD i []).length ≤ 1048576) (w : World) (ha : SlicesOf .i8 w a xss) (hb : SlicesOf .i8 w b xss) :
    Calls Try.prog 11 #[.slice a n ca, .slice b n cb] w fun e w' => e = .returned (.bool true) ∧ Gr w w' := by
  have HA := hid ha
  have HB := hid hb
  have HM := hid hm
  have HN := hid hl
  clear ha hb hm hl
  go_enter Try.func11, Try.ntmps11
  go_wp2_with fail
  go_loopw [5] (fun i wr => ∃ k : Nat, k ≤ n ∧ i = .int .i64 k ∧ Hid (Gr w wr)) (fun i _ => n - (intOf i).toNat)
  case atStart => exact ⟨0, Nat.zero_le _, rfl, hid (Gr.refl _)⟩
  case round =>
    obtain ⟨k, hk, rfl, hg⟩ := hrel
    by_cases hlt : k < n
    · obtain ⟨b0, o0, p0, c0, rfl, h0, s0⟩ := (HA.out.gr hg.out) k (by rw [← HN.out]; exact hlt)
      obtain ⟨b1, o1, p1, c1, rfl, h1, s1⟩ := (HB.out.gr hg.out) k (by rw [← HN.out]; exact hlt)
      have HQ := hid (HM.out k hlt)
      have S0 := hid s0
      have S1 := hid s1
      clear s0 s1
      generalize xss.getD k [] = xs at *
      have HCE := hid (fun (V : World) (g : Gr wr V) => eqHoist_own p0 p1 c0 c1 xs HQ.out V (S0.out.gr g) (S1.out.gr g))
      generalize hl : xs.length = m at *
      clear hl
      have hb0 : (0 : Int) ≤ k := by omega
      have hb1 : (k : Int) < n := by omega
      go_wp2_with fail
      go_region_with (refine (HCE.out _ (by first | exact Gr.refl _ | exact (Gr.refl _).drew | exact (Gr.refl _).drewN _ | exact ((Gr.refl _).drew).drew)).mono ?_; rintro e V ⟨rfl, gV⟩; have GV : Gr w V := Gr.trans hg.out (by first | exact gV | exact Gr.trans ((Gr.refl _).drew) gV | exact Gr.trans ((Gr.refl _).drewN _) gV))
      all_goals
        go_wp2_with fail
        go_roundw
        case rel => exact ⟨k + 1, by omega, by go_num, hid (by first | assumption | exact Gr.drew (by assumption) | exact Gr.drewN (by assumption) _)⟩
        case measure => simp [intOf]; omega
    · go_wp2_with fail
      go_ret
      exact ⟨rfl, hg.out⟩
end Go.Proofs.Ytlhijammadadmaa
