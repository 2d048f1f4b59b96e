/- Slices of integers: copies, comparisons, marks. -/
import Derived.Test.YtfaiehjomcgjgaaDoorGKit
namespace Go.Proofs.YtfaiehjomcgjgaaDoor
set_option linter.unusedVariables false
open Go.RowKit

set_option maxRecDepth 100000 in
/-- Two slices with the same numbers. -/
theorem eqHoist_own (a b : Option Addr) (ca cb : Nat) (xs : List Int) (hn : xs.length ≤ 1048576) (w : World) (ha : SliceOf .i8 w a xs) (hb : SliceOf .i8 w b xs) :
    Calls Tryd.prog 14 #[.slice a xs.length ca, .slice b xs.length cb] w fun e w' => e = .returned (.bool true) ∧ Gr w w' := by
  have HA := hid ha
  have HB := hid hb
  clear ha hb
  obtain ⟨n, hxn⟩ : ∃ n, n = xs.length := ⟨_, rfl⟩
  rw [← hxn] at hn ⊢
  have HN := hid hxn
  clear hxn
  go_enter Tryd.func14, Tryd.ntmps14
  go_wp2_with fail
  go_loopw [5] (fun i wr => ∃ k : Nat, k ≤ n ∧ i = .int .i64 k ∧ Hid (Gr w wr)) (fun i _ => n - (intOf i).toNat)
  case atStart => exact ⟨0, Nat.zero_le _, rfl, hid (Gr.refl _)⟩
  case round =>
    obtain ⟨k, hk, rfl, hg⟩ := hrel
    by_cases hlt : k < n
    · obtain ⟨b0, o0, rfl, h0⟩ := HA.out k (by rw [← HN.out]; exact hlt)
      obtain ⟨b1, o1, rfl, h1⟩ := HB.out k (by rw [← HN.out]; exact hlt)
      have hc0 := hg.out.cell h0
      have hc1 := hg.out.cell h1
      clear h0 h1
      generalize xs.getD k 0 = v at *
      have hb0 : (0 : Int) ≤ k := by omega
      have hb1 : (k : Int) < n := by omega
      go_wp2_with fail
      go_quiet (fail)
      go_wp2_with fail
      go_roundw
      case rel => exact ⟨k + 1, by omega, by go_num, hid (hg.out.drewN _)⟩
      case measure => simp [intOf]; omega
    · go_wp2_with fail
      go_ret
      exact ⟨rfl, hg.out⟩
set_option maxRecDepth 100000 in
theorem markHoist_own (a : Option Addr) (n cap lo hi k0 : Nat) (xs : List Int) (hn : xs.length ≤ 1048576) (hk0 : k0 ≤ 10) (w : World) (ho : Own .i8 22 w lo hi (.slice a n cap) xs) :
    Calls Tryd.prog 17 #[.slice a n cap, .int .i64 k0] w fun e w' => e = .returned (.int .i64 (k0 + n : Nat)) ∧ Own .i8 22 w' lo hi (.slice a n cap) (markL .i8 k0 n) ∧ w.grownBy w' (Value.slice a n cap).ownBlock := by
  have hl := ho.len
  rw [← hl] at hn
  have HO := hid ho
  have HL := hid hl
  clear ho hl
  go_enter Tryd.func17, Tryd.ntmps17
  go_wp2_with fail
  go_loopw [1, 5] (fun q i wr => ∃ k : Nat, k ≤ n ∧ i = .int .i64 k ∧ q = .int .i64 (k0 + k : Nat) ∧ Hid (Own .i8 22 wr lo hi (.slice a n cap) (markTo .i8 k0 xs k)) ∧ Hid (w.grownBy wr (Value.slice a n cap).ownBlock)) (fun _ i _ => n - (intOf i).toNat)
  case atStart => exact ⟨0, Nat.zero_le _, rfl, rfl, hid (by rw [markTo_zero]; exact HO.out), hid ⟨rfl, rfl, rfl, Nat.le_refl _, fun _ _ _ => rfl⟩⟩
  case round =>
    obtain ⟨k, hk, rfl, rfl, hw, hg⟩ := hrel
    by_cases hlt : k < n
    · have hlx : k < xs.length := by rw [← HL.out]; exact hlt
      have hlm : k < (markTo .i8 k0 xs k).length := by rw [markTo_length (by omega)]; exact hlx
      obtain ⟨g, rfl, hgb, hc, hf⟩ := hw.out.at_ hlm
      have hp := hw.out.put k (IntKind.wrap .i8 ((k0 + k : Nat) : Int))
      rw [markTo_set hlx] at hp
      have HP := hid hp
      clear hp hlx hlm hgb
      generalize (markTo .i8 k0 xs k).getD k 0 = y at *
      generalize hv : IntKind.wrap .i8 ((k0 + k : Nat) : Int) = v at *
      have hv' := hv
      push_cast at hv hv'
      go_wp2_with fail
      go_roundw
      case rel => exact ⟨k + 1, by omega, by go_num, by go_num, hid HP.out.1, hid (hg.out.trans HP.out.2)⟩
      case measure => simp [intOf]; omega
    · have hkn : k = n := by omega
      have H0 : Hid (Own .i8 22 wr lo hi (.slice a n cap) (markL .i8 k0 n)) := by
        rw [hkn, HL.out, markTo_all, ← HL.out] at hw; exact hw
      have HK := hid hkn
      clear hw hkn
      go_wp2_with fail
      go_ret
      exact ⟨ret_int (by rw [HK.out]), H0.out, hg.out⟩
theorem markHoist_one (a : Option Addr) (n cap lo hi : Nat) (xs : List Int) (hn : xs.length ≤ 1048576) (w : World) (ho : Own .i8 22 w lo hi (.slice a n cap) xs) :
    Calls Tryd.prog 17 #[.slice a n cap, .int .i64 1] w fun e w' => e = .returned (.int .i64 (1 + (n : Int))) ∧ Own .i8 22 w' lo hi (.slice a n cap) (markL .i8 1 n) ∧ w.grownBy w' (Value.slice a n cap).ownBlock := by
  have h := markHoist_own a n cap lo hi 1 xs hn (by omega) w ho
  push_cast at h
  exact h
set_option maxRecDepth 100000 in
theorem heldHoist_own (a : Option Addr) (n cap k0 : Nat) (hn : n ≤ 1048576) (hk0 : k0 ≤ 10) (w : World) (hs : SliceOf .i8 w a (markL .i8 k0 n)) :
    Calls Tryd.prog 18 #[.slice a n cap, .int .i64 k0] w fun e w' => e = .returned (.int .i64 (k0 + n : Nat)) ∧ Gr w w' := by
  have HS := hid hs
  clear hs
  go_enter Tryd.func18, Tryd.ntmps18
  go_wp2_with fail
  go_loopw [1, 5] (fun q i wr => ∃ k : Nat, k ≤ n ∧ i = .int .i64 k ∧ q = .int .i64 (k0 + k : Nat) ∧ Hid (Gr w wr)) (fun _ i _ => n - (intOf i).toNat)
  case atStart => exact ⟨0, Nat.zero_le _, rfl, rfl, hid (Gr.refl _)⟩
  case round =>
    obtain ⟨k, hk, rfl, rfl, hg⟩ := hrel
    by_cases hlt : k < n
    · obtain ⟨b0, o0, rfl, h0⟩ := HS.out k (by rw [markL_length]; exact hlt)
      have hc0 := hg.out.cell h0
      rw [markL_get hlt] at hc0
      clear h0
      generalize hv : IntKind.wrap .i8 ((k0 + k : Nat) : Int) = v at *
      push_cast at hv
      go_wp2_with fail
      go_roundw
      case rel => exact ⟨k + 1, by omega, by go_num, by go_num, hg⟩
      case measure => simp [intOf]; omega
    · have hkn : k = n := by omega
      have HK := hid hkn
      clear hkn
      go_wp2_with fail
      go_ret
      exact ⟨ret_int (by rw [HK.out]), hg.out⟩
theorem heldHoist_one (a : Option Addr) (n cap : Nat) (hn : n ≤ 1048576) (w : World) (hs : SliceOf .i8 w a (markL .i8 1 n)) :
    Calls Tryd.prog 18 #[.slice a n cap, .int .i64 1] w fun e w' => e = .returned (.int .i64 (1 + (n : Int))) ∧ Gr w w' := by
  have h := heldHoist_own a n cap 1 hn (by omega) w hs
  push_cast at h
  exact h
set_option maxRecDepth 100000 in
theorem toInt64S_own (a0 : Option Addr) (cap : Nat) (xs : List Int) (hn : xs.length ≤ 1048576) (w : World) (hs : SliceOf .i64 w a0 xs) :
    Calls Tryd.prog 20 #[.slice a0 xs.length cap] w fun e w' => e = .returned (.slice (some ⟨w.heap.size, 0, none⟩) xs.length xs.length) ∧ w'.heap[w.heap.size]? = some (.cells (kCells .i64 xs) 2 (0, 0)) ∧ Gr w w' := by
  have hmk := run_make_ints (P := Tryd.prog) (t := 38) (e := 2) (k := .i64) (bytes := 8) Tryd.underlying38 (by kernel_rfl) xs.length (by omega) (by omega)
  have HS := hid hs
  clear hs
  obtain ⟨n, hxn⟩ : ∃ n, n = xs.length := ⟨_, rfl⟩
  rw [← hxn] at hmk hn ⊢
  have HN := hid hxn
  clear hxn
  go_enter Tryd.func20, Tryd.ntmps20
  go_wp2_with fail
  clear hmk
  go_loopw [4] (fun i wr => ∃ k : Nat, k ≤ n ∧ i = .int .i64 k ∧ Hid (Gr w wr) ∧ Hid (wr.heap[w.heap.size]? = some (.cells (kCells .i64 (fillTo n (fun i => xs.getD i 0) k)) 2 (0, 0)))) (fun i _ => n - (intOf i).toNat)
  case atStart => exact ⟨0, Nat.zero_le _, rfl, hid ((Gr.refl _).alloc _), hid (by rw [fillTo_zero]; exact heap_new rfl)⟩
  case round =>
    obtain ⟨k, hk, rfl, hg, h0⟩ := hrel
    by_cases hlt : k < n
    · obtain ⟨b, off, rfl, hc⟩ := HS.out k (by rw [← HN.out]; exact hlt)
      have hc0 := hg.out.cell hc
      have hl := fillTo_length n (fun i => xs.getD i 0) k hk
      have hc1 := cell_ints h0.out (i := k) (by omega)
      have hf1 : wr.frozen? ⟨w.heap.size, k, none⟩ = false := frozen_of_row _ _ _ _ _ h0.out
      have HSET := hid (fillTo_set n (fun i => xs.getD i 0) k hlt)
      clear hc hl
      generalize (fillTo n (fun i => xs.getD i 0) k).getD k 0 = y at *
      generalize hv : xs.getD k 0 = v at *
      have HV := hid hv
      clear hv
      go_wp2_with fail
      go_roundw
      case rel => exact ⟨k + 1, by omega, by go_num, hid (hg.out.setCell (by dsimp only; omega) _), hid (by rw [← HSET.out]; have := heap_int_set (i := k) (x := v) h0.out; rw [← HV.out] at this ⊢; exact this)⟩
      case measure => simp [intOf]; omega
    · have hkn : k = n := by omega
      have H0 : Hid (wr.heap[w.heap.size]? = some (.cells (kCells .i64 xs) 2 (0, 0))) := by
        rw [hkn, fillTo_all, HN.out, map_getD_range] at h0; exact h0
      clear h0 hkn
      go_wp2_with fail
      go_ret
      exact ⟨rfl, H0.out, hg.out⟩
set_option maxRecDepth 100000 in
/-- Two slices with the same numbers. -/
theorem eqInt64S_own (a b : Option Addr) (ca cb : Nat) (xs : List Int) (hn : xs.length ≤ 1048576) (w : World) (ha : SliceOf .i64 w a xs) (hb : SliceOf .i64 w b xs) :
    Calls Tryd.prog 22 #[.slice a xs.length ca, .slice b xs.length cb] w fun e w' => e = .returned (.bool true) ∧ Gr w w' := by
  have HA := hid ha
  have HB := hid hb
  clear ha hb
  obtain ⟨n, hxn⟩ : ∃ n, n = xs.length := ⟨_, rfl⟩
  rw [← hxn] at hn ⊢
  have HN := hid hxn
  clear hxn
  go_enter Tryd.func22, Tryd.ntmps22
  go_wp2_with fail
  go_loopw [5] (fun i wr => ∃ k : Nat, k ≤ n ∧ i = .int .i64 k ∧ Hid (Gr w wr)) (fun i _ => n - (intOf i).toNat)
  case atStart => exact ⟨0, Nat.zero_le _, rfl, hid (Gr.refl _)⟩
  case round =>
    obtain ⟨k, hk, rfl, hg⟩ := hrel
    by_cases hlt : k < n
    · obtain ⟨b0, o0, rfl, h0⟩ := HA.out k (by rw [← HN.out]; exact hlt)
      obtain ⟨b1, o1, rfl, h1⟩ := HB.out k (by rw [← HN.out]; exact hlt)
      have hc0 := hg.out.cell h0
      have hc1 := hg.out.cell h1
      clear h0 h1
      generalize xs.getD k 0 = v at *
      have hb0 : (0 : Int) ≤ k := by omega
      have hb1 : (k : Int) < n := by omega
      go_wp2_with fail
      go_quiet (fail)
      go_wp2_with fail
      go_roundw
      case rel => exact ⟨k + 1, by omega, by go_num, hid (hg.out.drewN _)⟩
      case measure => simp [intOf]; omega
    · go_wp2_with fail
      go_ret
      exact ⟨rfl, hg.out⟩
set_option maxRecDepth 100000 in
theorem markInt64S_own (a : Option Addr) (n cap lo hi k0 : Nat) (xs : List Int) (hn : xs.length ≤ 1048576) (hk0 : k0 ≤ 10) (w : World) (ho : Own .i64 2 w lo hi (.slice a n cap) xs) :
    Calls Tryd.prog 34 #[.slice a n cap, .int .i64 k0] w fun e w' => e = .returned (.int .i64 (k0 + n : Nat)) ∧ Own .i64 2 w' lo hi (.slice a n cap) (markL .i64 k0 n) ∧ w.grownBy w' (Value.slice a n cap).ownBlock := by
  have hl := ho.len
  rw [← hl] at hn
  have HO := hid ho
  have HL := hid hl
  clear ho hl
  go_enter Tryd.func34, Tryd.ntmps34
  go_wp2_with fail
  go_loopw [1, 5] (fun q i wr => ∃ k : Nat, k ≤ n ∧ i = .int .i64 k ∧ q = .int .i64 (k0 + k : Nat) ∧ Hid (Own .i64 2 wr lo hi (.slice a n cap) (markTo .i64 k0 xs k)) ∧ Hid (w.grownBy wr (Value.slice a n cap).ownBlock)) (fun _ i _ => n - (intOf i).toNat)
  case atStart => exact ⟨0, Nat.zero_le _, rfl, rfl, hid (by rw [markTo_zero]; exact HO.out), hid ⟨rfl, rfl, rfl, Nat.le_refl _, fun _ _ _ => rfl⟩⟩
  case round =>
    obtain ⟨k, hk, rfl, rfl, hw, hg⟩ := hrel
    by_cases hlt : k < n
    · have hlx : k < xs.length := by rw [← HL.out]; exact hlt
      have hlm : k < (markTo .i64 k0 xs k).length := by rw [markTo_length (by omega)]; exact hlx
      obtain ⟨g, rfl, hgb, hc, hf⟩ := hw.out.at_ hlm
      have hp := hw.out.put k (IntKind.wrap .i64 ((k0 + k : Nat) : Int))
      rw [markTo_set hlx] at hp
      have HP := hid hp
      clear hp hlx hlm hgb
      generalize (markTo .i64 k0 xs k).getD k 0 = y at *
      have ew : IntKind.wrap .i64 ((k0 + k : Nat) : Int) = (k0 : Int) + (k : Int) := by rw [IntWalk.i64_in _ (by omega)]; push_cast; rfl
      rw [ew] at HP
      clear ew
      go_wp2_with fail
      go_roundw
      case rel => exact ⟨k + 1, by omega, by go_num, by go_num, hid HP.out.1, hid (hg.out.trans HP.out.2)⟩
      case measure => simp [intOf]; omega
    · have hkn : k = n := by omega
      have H0 : Hid (Own .i64 2 wr lo hi (.slice a n cap) (markL .i64 k0 n)) := by
        rw [hkn, HL.out, markTo_all, ← HL.out] at hw; exact hw
      have HK := hid hkn
      clear hw hkn
      go_wp2_with fail
      go_ret
      exact ⟨ret_int (by rw [HK.out]), H0.out, hg.out⟩
theorem markInt64S_one (a : Option Addr) (n cap lo hi : Nat) (xs : List Int) (hn : xs.length ≤ 1048576) (w : World) (ho : Own .i64 2 w lo hi (.slice a n cap) xs) :
    Calls Tryd.prog 34 #[.slice a n cap, .int .i64 1] w fun e w' => e = .returned (.int .i64 (1 + (n : Int))) ∧ Own .i64 2 w' lo hi (.slice a n cap) (markL .i64 1 n) ∧ w.grownBy w' (Value.slice a n cap).ownBlock := by
  have h := markInt64S_own a n cap lo hi 1 xs hn (by omega) w ho
  push_cast at h
  exact h
end Go.Proofs.YtfaiehjomcgjgaaDoor

/- Hoists of the program: what is valid. -/
namespace Go.Proofs.YtfaiehjomcgjgaaDoor
set_option linter.unusedVariables false
open Go.RowKit
def betB (n a b : Int) : Bool := decide (a ≤ n) && decide (n ≤ b)
set_option maxRecDepth 100000 in
theorem isBetween_any (n a b : Int) (w : World) :
    Calls Tryd.prog 66 #[.int .i64 n, .int .i64 a, .int .i64 b] w fun e w' => e = .returned (.bool (betB n a b)) ∧ w = w' := by
  by_cases h1 : a ≤ n
  · have d1 : decide (a ≤ n) = true := by simpa using h1
    go_enter Tryd.func66, Tryd.ntmps66
    go_wp2
    go_ret
    exact ⟨ret_bool (by simp [betB, h1]), rfl⟩
  · have d1 : decide (a ≤ n) = false := by simpa using h1
    go_enter Tryd.func66, Tryd.ntmps66
    go_wp2
    go_ret
    exact ⟨ret_bool (by unfold betB; rw [d1]; rfl), rfl⟩
set_option maxRecDepth 100000 in
theorem l00In_b (n a b : Int) (w : World) :
    Calls Tryd.prog 63 #[.int .i64 n, .int .i64 a, .int .i64 b] w fun e w' => e = .returned (.bool (betB n a b)) ∧ w = w' := by
  by_cases h1 : a ≤ n
  · have d1 : decide (a ≤ n) = true := by simpa using h1
    go_enter Tryd.func63, Tryd.ntmps63
    go_wp2
    go_ret
    exact ⟨ret_bool (by simp [betB, h1]), rfl⟩
  · have d1 : decide (a ≤ n) = false := by simpa using h1
    go_enter Tryd.func63, Tryd.ntmps63
    go_wp2
    go_ret
    exact ⟨ret_bool (by unfold betB; rw [d1]; rfl), rfl⟩
set_option maxRecDepth 100000 in
theorem isSub_any (x : Int) (h0 : -128 ≤ x) (h1 : x ≤ 127) (w : World) :
    Calls Tryd.prog 116 #[.int .i8 x] w fun e w' => e = .returned (.bool (subI x)) ∧ w = w' := by
  go_enter Tryd.func116, Tryd.ntmps116
  go_wp2_with (go_at_call 66; refine (isBetween_any _ _ _ _).mono ?_; rintro e w' ⟨rfl, rfl⟩)
  go_ret
  exact ⟨rfl, rfl⟩
set_option maxRecDepth 100000 in
theorem isKind_any (x : Int) (h0 : -128 ≤ x) (h1 : x ≤ 127) (w : World) :
    Calls Tryd.prog 130 #[.int .i8 x] w fun e w' => e = .returned (.bool (kindI x)) ∧ w = w' := by
  go_enter Tryd.func130, Tryd.ntmps130
  go_wp2_with (go_at_call 66; refine (isBetween_any _ _ _ _).mono ?_; rintro e w' ⟨rfl, rfl⟩)
  go_ret
  exact ⟨rfl, rfl⟩
theorem Fits.get8 {xs : List Int} (h : Fits .i8 xs) (i : Nat) : -128 ≤ xs.getD i 0 ∧ xs.getD i 0 ≤ 127 := by
  by_cases hi : i < xs.length
  · have h1 := h _ (List.getElem_mem hi)
    have h2 : xs.getD i 0 = xs[i] := by simp [List.getD, List.getElem?_eq_getElem hi]
    rw [h2]
    simpa [Lit.wf, IntKind.min, IntKind.max, IntKind.signed, IntKind.bits] using h1
  · simp [List.getD, List.getElem?_eq_none (by omega : xs.length ≤ i)]
theorem Fits.set8 {xs : List Int} (h : Fits .i8 xs) (i : Nat) {x : Int} (hx : -128 ≤ x ∧ x ≤ 127) : Fits .i8 (xs.set i x) := by
  intro y hy
  rcases List.mem_or_eq_of_mem_set hy with h1 | rfl
  · exact h y h1
  · simpa [Lit.wf, IntKind.min, IntKind.max, IntKind.signed, IntKind.bits] using hx
/-- A part of a list. -/
def partL (xs : List Int) (i j : Nat) : List Int := (xs.take j).drop i
theorem partL_length {xs : List Int} {i j : Nat} (hi : i ≤ j) (hj : j ≤ xs.length) : (partL xs i j).length = j - i := by simp [partL]; omega
theorem partL_get {xs : List Int} {i j k : Nat} (hj : j ≤ xs.length) (hk : i + k < j) : (partL xs i j).getD k 0 = xs.getD (i + k) 0 := by
  simp [partL, List.getD, hk]
def RetPart (k : IntKind) (xs : List Int) (i j : Nat) (w : World) (r : Ending) (w' : World) : Prop :=
  ∃ a, r = .returned (.slice a (j - i) (j - i)) ∧ SliceOf k w a (partL xs i j) ∧ w = w'
theorem SliceOf.part0 {k : IntKind} {w : World} {a : Option Addr} {xs : List Int} (h : SliceOf k w a xs) {p : Nat} (hp : p ≤ xs.length) : SliceOf k w a (partL xs 0 p) := by
  intro i hi
  rw [partL_length (by omega) hp] at hi
  obtain ⟨b, off, e, hc⟩ := h i (by omega)
  exact ⟨b, off, e, by rw [partL_get hp (by omega), Nat.zero_add]; exact hc⟩
theorem SliceOf.part {k : IntKind} {w : World} {b off : Nat} {xs : List Int} (h : SliceOf k w (some ⟨b, off, none⟩) xs) {s p : Nat} (hs : s ≤ p) (hp : p ≤ xs.length) : SliceOf k w (some ⟨b, off + s, none⟩) (partL xs s p) := by
  intro i hi
  rw [partL_length hs hp] at hi
  obtain ⟨b', off', e, hc⟩ := h (s + i) (by omega)
  simp only [Option.some.injEq, Addr.mk.injEq] at e
  obtain ⟨rfl, rfl, _⟩ := e
  exact ⟨b, off + s, rfl, by rw [partL_get hp (by omega), Nat.add_assoc]; exact hc⟩
theorem SliceOf.part_nil {k : IntKind} {w : World} {a : Option Addr} {xs : List Int} {p : Nat} (hp : p ≤ xs.length) : SliceOf k w a (partL xs p p) := by
  intro i hi
  rw [partL_length (Nat.le_refl _) hp] at hi
  omega
set_option maxRecDepth 100000 in
theorem aboveHoist_any (a : Option Addr) (n cap : Nat) (xs : List Int) (hn : n = xs.length) (hm : n ≤ 1048576) (hcap : n ≤ cap) (p : Nat) (hp : p ≤ n) (w : World) (hs : SliceOf .i8 w a xs) :
    Calls Tryd.prog 131 #[.slice a n cap, .int .i64 p] w (RetPart .i8 xs (startOf xs p) p w) := by
  have S := hid hs
  have HN := hid hn
  clear hs hn
  go_enter Tryd.func131, Tryd.ntmps131
  go_wp2
  go_loop [5] (fun s => ∃ j : Nat, j ≤ p ∧ s = .int .i64 j ∧ Hid (startOf xs j = startOf xs p)) (fun s => (intOf s).toNat)
  case atStart => exact ⟨p, Nat.le_refl _, rfl, hid rfl⟩
  case round =>
    obtain ⟨j, hj, rfl, hst⟩ := hrel
    cases j with
    | zero =>
      have hz : startOf xs p = 0 := by rw [← hst.out]; rfl
      have HZ := hid hz
      clear hz
      go_wp2
      go_ret
      exact ⟨a, by rw [HZ.out]; rfl, by rw [HZ.out]; exact S.out.part0 (by rw [← HN.out]; exact hp), rfl⟩
    | succ i =>
      obtain ⟨b, off, rfl, hc⟩ := S.out i (by rw [← HN.out]; omega)
      cases hb : brkI (xs.getD i 0)
      · have hx : (xs.getD i 0 == -10) = false := by have := brkI_no hb; simpa using this
        have hx' : (xs.getD i 0 != -10) = true := by have := brkI_no hb; simpa using this
        have HS := hid ((startOf_no (brkI_no hb)).symm.trans hst.out)
        clear hb
        generalize xs.getD i 0 = x at *
        go_wp2
        go_round
        case rel => exact ⟨i, by omega, rfl, HS⟩
        case measure => simp [intOf]
      · have hx : (xs.getD i 0 == -10) = true := by have := brkI_iff.1 hb; simpa using this
        have hx' : (xs.getD i 0 != -10) = false := by have := brkI_iff.1 hb; simpa using this
        have hz : startOf xs p = i + 1 := by rw [← hst.out]; exact startOf_brk (brkI_iff.1 hb)
        have HZ := hid hz
        clear hz hb
        generalize xs.getD i 0 = x at *
        go_wp2
        · go_ret
          obtain rfl : p = i + 1 := by assumption
          exact ⟨_, by rw [HZ.out, Nat.sub_self]; rfl, by rw [HZ.out]; exact SliceOf.part_nil (by rw [← HN.out]; exact hp), rfl⟩
        · go_ret
          exact ⟨_, by rw [HZ.out]; rfl, by rw [HZ.out]; exact S.out.part hj (by rw [← HN.out]; exact hp), rfl⟩
set_option maxRecDepth 100000 in
theorem aboveMeaning_any (a : Option Addr) (n cap : Nat) (xs : List Int) (hn : n = xs.length) (hm : n ≤ 1048576) (hcap : n ≤ cap) (p : Nat) (hp : p ≤ n) (w : World) (hs : SliceOf .i8 w a xs) :
    Calls Tryd.prog 129 #[.slice a n cap, .int .i64 p] w (RetPart .i8 xs (startOf xs p) p w) := by
  have S := hid hs
  have HN := hid hn
  clear hs hn
  go_enter Tryd.func129, Tryd.ntmps129
  go_wp2
  go_loop [5] (fun s => ∃ j : Nat, j ≤ p ∧ s = .int .i64 j ∧ Hid (startOf xs j = startOf xs p)) (fun s => (intOf s).toNat)
  case atStart => exact ⟨p, Nat.le_refl _, rfl, hid rfl⟩
  case round =>
    obtain ⟨j, hj, rfl, hst⟩ := hrel
    cases j with
    | zero =>
      have hz : startOf xs p = 0 := by rw [← hst.out]; rfl
      have HZ := hid hz
      clear hz
      go_wp2
      go_ret
      exact ⟨a, by rw [HZ.out]; rfl, by rw [HZ.out]; exact S.out.part0 (by rw [← HN.out]; exact hp), rfl⟩
    | succ i =>
      obtain ⟨b, off, rfl, hc⟩ := S.out i (by rw [← HN.out]; omega)
      cases hb : brkI (xs.getD i 0)
      · have hx : (xs.getD i 0 == -10) = false := by have := brkI_no hb; simpa using this
        have hx' : (xs.getD i 0 != -10) = true := by have := brkI_no hb; simpa using this
        have HS := hid ((startOf_no (brkI_no hb)).symm.trans hst.out)
        clear hb
        generalize xs.getD i 0 = x at *
        go_wp2
        go_round
        case rel => exact ⟨i, by omega, rfl, HS⟩
        case measure => simp [intOf]
      · have hx : (xs.getD i 0 == -10) = true := by have := brkI_iff.1 hb; simpa using this
        have hx' : (xs.getD i 0 != -10) = false := by have := brkI_iff.1 hb; simpa using this
        have hz : startOf xs p = i + 1 := by rw [← hst.out]; exact startOf_brk (brkI_iff.1 hb)
        have HZ := hid hz
        clear hz hb
        generalize xs.getD i 0 = x at *
        go_wp2
        · go_ret
          obtain rfl : p = i + 1 := by assumption
          exact ⟨_, by rw [HZ.out, Nat.sub_self]; rfl, by rw [HZ.out]; exact SliceOf.part_nil (by rw [← HN.out]; exact hp), rfl⟩
        · go_ret
          exact ⟨_, by rw [HZ.out]; rfl, by rw [HZ.out]; exact S.out.part hj (by rw [← HN.out]; exact hp), rfl⟩
end Go.Proofs.YtfaiehjomcgjgaaDoor

/- Hoists of the program: the four checks, ValidHoist. -/
namespace Go.Proofs.YtfaiehjomcgjgaaDoor
set_option linter.unusedVariables false
open Go.RowKit
set_option maxRecDepth 100000 in
theorem hasLength_any (a : Option Addr) (n cap : Nat) (hm : n ≤ 1048576) (w : World) :
    Calls Tryd.prog 124 #[.slice a n cap] w fun e w' => e = .returned (.bool (decide (1 ≤ n) && decide (n ≤ 8))) ∧ w = w' := by
  by_cases h1 : 1 ≤ n
  · go_enter Tryd.func124, Tryd.ntmps124
    go_wp2
    go_ret
    exact ⟨ret_bool (by simp [h1] <;> omega), rfl⟩
  · go_enter Tryd.func124, Tryd.ntmps124
    go_wp2
    go_ret
    exact ⟨ret_bool (by simp), rfl⟩
set_option maxRecDepth 100000 in
set_option maxHeartbeats 2000000 in
theorem hasNumbers_any (a : Option Addr) (n cap : Nat) (xs : List Int) (hn : n = xs.length) (hm : n ≤ 1048576) (hf : Fits .i8 xs) (w : World) (hs : SliceOf .i8 w a xs) :
    Calls Tryd.prog 125 #[.slice a n cap] w fun e w' => e = .returned (.bool (numsB xs)) ∧ w = w' := by
  have S := hid hs
  have HN := hid hn
  have HF := hid hf
  clear hs hn hf
  go_enter Tryd.func125, Tryd.ntmps125
  go_wp2
  go_loop [7] (fun i => ∃ k : Nat, k ≤ n ∧ i = .int .i64 k ∧ Hid (allTo (fun i => numI (xs.getD i 0)) k = true)) (fun i => n - (intOf i).toNat)
  case atStart => exact ⟨0, Nat.zero_le _, rfl, hid rfl⟩
  case round =>
    obtain ⟨k, hk, rfl, hok⟩ := hrel
    by_cases hlt : k < n
    · obtain ⟨b, off, rfl, hc⟩ := S.out k (by rw [← HN.out]; exact hlt)
      obtain ⟨h0, h1⟩ := HF.out.get8 k
      have HY := hid (fun (h : numI (xs.getD k 0) = true) => allTo_step (p := fun i => numI (xs.getD i 0)) hok.out h)
      have HZ := hid (fun (h : numI (xs.getD k 0) = false) => allTo_no (p := fun i => numI (xs.getD i 0)) (k := xs.length) (by rw [← HN.out]; exact hlt) h)
      generalize xs.getD k 0 = x at *
      cases hb : brkI x
      · have hx : (x == -10) = false := by have := brkI_no hb; simpa using this
        have hx' : (x != -10) = true := by have := brkI_no hb; simpa using this
        cases hs : subI x
        · cases hkd : kindI x
          · have HZ' := hid (HZ.out (by unfold numI; rw [hb, hs, hkd]; rfl))
            clear HY HZ hb
            go_wp2_with (first | (go_at_call 116; refine (isSub_any _ h0 h1 _).mono ?_; rintro e w' ⟨rfl, rfl⟩) | (go_at_call 130; refine (isKind_any _ h0 h1 _).mono ?_; rintro e w' ⟨rfl, rfl⟩))
            go_ret
            exact ⟨ret_bool HZ'.out.symm, rfl⟩
          · have HY' := hid (HY.out (by unfold numI; rw [hb, hs, hkd]; rfl))
            clear HY HZ hb
            go_wp2_with (first | (go_at_call 116; refine (isSub_any _ h0 h1 _).mono ?_; rintro e w' ⟨rfl, rfl⟩) | (go_at_call 130; refine (isKind_any _ h0 h1 _).mono ?_; rintro e w' ⟨rfl, rfl⟩))
            go_round
            case rel => exact ⟨k + 1, by omega, by go_num, HY'⟩
            case measure => simp [intOf] <;> omega
        · have HY' := hid (HY.out (by unfold numI; rw [hb, hs]; rfl))
          clear HY HZ hb
          go_wp2_with (first | (go_at_call 116; refine (isSub_any _ h0 h1 _).mono ?_; rintro e w' ⟨rfl, rfl⟩) | (go_at_call 130; refine (isKind_any _ h0 h1 _).mono ?_; rintro e w' ⟨rfl, rfl⟩))
          go_round
          case rel => exact ⟨k + 1, by omega, by go_num, HY'⟩
          case measure => simp [intOf] <;> omega
      · have hx : (x == -10) = true := by have := brkI_iff.1 hb; simpa using this
        have hx' : (x != -10) = false := by have := brkI_iff.1 hb; simpa using this
        have HY' := hid (HY.out (by unfold numI; rw [hb]; rfl))
        clear HY HZ hb
        go_wp2
        go_round
        case rel => exact ⟨k + 1, by omega, by go_num, HY'⟩
        case measure => simp [intOf] <;> omega
    · have hkn : k = n := by omega
      have hv : numsB xs = true := by unfold numsB; rw [← HN.out, ← hkn]; exact hok.out
      have HV := hid hv
      clear hv
      go_wp2
      go_ret
      exact ⟨ret_bool HV.out.symm, rfl⟩

set_option maxRecDepth 100000 in
set_option maxHeartbeats 2000000 in
theorem hasGroups_any (a : Option Addr) (n cap : Nat) (xs : List Int) (hn : n = xs.length) (hm : n ≤ 1048576) (hcap : n ≤ cap) (w : World) (hs : SliceOf .i8 w a xs) :
    Calls Tryd.prog 126 #[.slice a n cap] w fun e w' => e = .returned (.bool (grpsB xs)) ∧ w = w' := by
  have S := hid hs
  have HN := hid hn
  clear hs hn
  go_enter Tryd.func126, Tryd.ntmps126
  go_wp2
  go_loop [7] (fun i => ∃ k : Nat, k ≤ n + 1 ∧ i = .int .i64 k ∧ Hid (allTo (grpAt xs) k = true)) (fun i => n + 1 - (intOf i).toNat)
  case atStart => exact ⟨0, Nat.zero_le _, rfl, hid rfl⟩
  case round =>
    obtain ⟨k, hk, rfl, hok⟩ := hrel
    by_cases hlt : k < n + 1
    · have HA := fun ad hsd => aboveHoist_any ad n cap xs HN.out hm hcap k (by omega) w hsd
      unfold RetPart at HA
      have HY := hid (fun (h : grpAt xs k = true) => allTo_step hok.out h)
      have HZ := hid (fun (h : grpAt xs k = false) => allTo_no (k := xs.length + 1) (by rw [← HN.out]; exact hlt) h)
      have hle := startOf_le xs k
      have hkl : k < n → k < xs.length := fun h => by rw [← HN.out]; exact h
      have hen : (decide (k = xs.length)) = decide (k = n) := by rw [HN.out]
      by_cases hkn : k = n
      · have hg : grpAt xs k = !(decide (startOf xs k = k)) := by unfold grpAt; rw [hen, decide_eq_true hkn]; rfl
        rw [hg] at HY HZ
        clear hg hen hkl
        subst hkn
        by_cases hz : startOf xs k = k
        · have HZ' := hid (HZ.out (by rw [decide_eq_true hz]; rfl))
          have hd : k - startOf xs k = 0 := by omega
          rw [hd] at HA
          have HAH := hid HA
          clear HA HY HZ hz hd hle
          go_wp2_with (go_at_call 131; refine (HAH.out _ S.out).mono ?_; rintro e w' ⟨ad, rfl, -, rfl⟩)
          go_ret
          exact ⟨ret_bool HZ'.out.symm, rfl⟩
        · have HY' := hid (HY.out (by rw [decide_eq_false hz]; rfl))
          obtain ⟨d, hd⟩ : ∃ d, d = k - startOf xs k := ⟨_, rfl⟩
          have hd0 : 0 < d := by omega
          rw [← hd] at HA
          have HAH := hid HA
          clear HA HY HZ hz hd hle
          go_wp2_with (go_at_call 131; refine (HAH.out _ S.out).mono ?_; rintro e w' ⟨ad, rfl, -, rfl⟩)
          go_round
          case rel => exact ⟨k + 1, by omega, by go_num, HY'⟩
          case measure => simp [intOf] <;> omega
      · have hkn' : k < n := by omega
        obtain ⟨b, off, rfl, hc⟩ := S.out k (hkl hkn')
        have hg : grpAt xs k = !(brkI (xs.getD k 0) && decide (startOf xs k = k)) := by unfold grpAt; rw [hen, decide_eq_false hkn]; rfl
        rw [hg] at HY HZ
        clear hg hen hkl
        have HAH := hid HA
        clear HA
        generalize xs.getD k 0 = x at *
        cases hb : brkI x
        · have hx : (x == -10) = false := by have := brkI_no hb; simpa using this
          have HY' := hid (HY.out (by rw [hb]; rfl))
          clear HY HZ hb hle
          go_wp2
          go_round
          case rel => exact ⟨k + 1, by omega, by go_num, HY'⟩
          case measure => simp [intOf] <;> omega
        · have hx : (x == -10) = true := by have := brkI_iff.1 hb; simpa using this
          by_cases hz : startOf xs k = k
          · have HZ' := hid (HZ.out (by rw [hb, decide_eq_true hz]; rfl))
            have HA := HAH.out
            have hd : k - startOf xs k = 0 := by omega
            rw [hd] at HA
            have HAH := hid HA
            clear HA HY HZ hz hd hle hb
            go_wp2_with (go_at_call 131; refine (HAH.out _ S.out).mono ?_; rintro e w' ⟨ad, rfl, -, rfl⟩)
            go_ret
            exact ⟨ret_bool HZ'.out.symm, rfl⟩
          · have HY' := hid (HY.out (by rw [hb, decide_eq_false hz]; rfl))
            have HA := HAH.out
            obtain ⟨d, hd⟩ : ∃ d, d = k - startOf xs k := ⟨_, rfl⟩
            have hd0 : 0 < d := by omega
            rw [← hd] at HA
            have HAH := hid HA
            clear HA HY HZ hz hd hle hb
            go_wp2_with (go_at_call 131; refine (HAH.out _ S.out).mono ?_; rintro e w' ⟨ad, rfl, -, rfl⟩)
            go_round
            case rel => exact ⟨k + 1, by omega, by go_num, HY'⟩
            case measure => simp [intOf] <;> omega
    · have hkn : k = n + 1 := by omega
      have hv : grpsB xs = true := by unfold grpsB; rw [← HN.out, ← hkn]; exact hok.out
      have HV := hid hv
      clear hv
      go_wp2
      go_ret
      exact ⟨ret_bool HV.out.symm, rfl⟩

set_option maxRecDepth 100000 in
set_option maxHeartbeats 2000000 in
theorem hasRepeated_any (a : Option Addr) (n cap : Nat) (xs : List Int) (hn : n = xs.length) (hm : n ≤ 1048576) (hcap : n ≤ cap) (hf : Fits .i8 xs) (w : World) (hs : SliceOf .i8 w a xs) :
    Calls Tryd.prog 127 #[.slice a n cap] w fun e w' => e = .returned (.bool (repsB xs)) ∧ w = w' := by
  have S := hid hs
  have HN := hid hn
  have HF := hid hf
  clear hs hn hf
  go_enter Tryd.func127, Tryd.ntmps127
  go_wp2
  go_loop [7] (fun i => ∃ k : Nat, k ≤ n ∧ i = .int .i64 k ∧ Hid (allTo (repAt xs) k = true)) (fun i => n - (intOf i).toNat)
  case atStart => exact ⟨0, Nat.zero_le _, rfl, hid rfl⟩
  case round =>
    obtain ⟨k, hk, rfl, hok⟩ := hrel
    by_cases hlt : k < n
    · have HA := fun ad hsd => aboveHoist_any ad n cap xs HN.out hm hcap k (by omega) w hsd
      unfold RetPart at HA
      have HY := hid (fun (h : repAt xs k = true) => allTo_step hok.out h)
      have HZ := hid (fun (h : repAt xs k = false) => allTo_no (k := xs.length) (by rw [← HN.out]; exact hlt) h)
      have hle := startOf_le xs k
      obtain ⟨b, off, rfl, hc⟩ := S.out k (by rw [← HN.out]; exact hlt)
      obtain ⟨h0, h1⟩ := HF.out.get8 k
      have hg : repAt xs k = !(subI (xs.getD k 0) && decide (k < startOf xs k + (-(xs.getD k 0)).toNat)) := rfl
      rw [hg] at HY HZ
      clear hg
      obtain ⟨d, hd⟩ : ∃ d, d = k - startOf xs k := ⟨_, rfl⟩
      rw [← hd] at HA
      have HAH := hid HA
      clear HA
      generalize xs.getD k 0 = x at *
      cases hs : subI x
      · have HY' := hid (HY.out (by rw [hs]; rfl))
        clear HY HZ hle hd
        go_wp2_with (first | (go_at_call 116; refine (isSub_any _ h0 h1 _).mono ?_; rintro e w' ⟨rfl, rfl⟩))
        go_round
        case rel => exact ⟨k + 1, by omega, by go_num, HY'⟩
        case measure => simp [intOf] <;> omega
      · obtain ⟨x0, x1⟩ := subI_iff.1 hs
        by_cases hz : (d : Int) < -x
        · have HZ' := hid (HZ.out (by rw [hs, decide_eq_true (by omega)]; rfl))
          clear HY HZ hle hd h0 h1
          go_wp2_with (first | (go_at_call 116; refine (isSub_any _ (by omega) (by omega) _).mono ?_; rintro e w' ⟨rfl, rfl⟩) | (go_at_call 131; refine (HAH.out _ S.out).mono ?_; rintro e w' ⟨ad, rfl, -, rfl⟩))
          go_ret
          exact ⟨ret_bool HZ'.out.symm, rfl⟩
        · have HY' := hid (HY.out (by rw [hs, decide_eq_false (by omega)]; rfl))
          clear HY HZ hle hd h0 h1
          go_wp2_with (first | (go_at_call 116; refine (isSub_any _ (by omega) (by omega) _).mono ?_; rintro e w' ⟨rfl, rfl⟩) | (go_at_call 131; refine (HAH.out _ S.out).mono ?_; rintro e w' ⟨ad, rfl, -, rfl⟩))
          go_round
          case rel => exact ⟨k + 1, by omega, by go_num, HY'⟩
          case measure => simp [intOf] <;> omega
    · have hkn : k = n := by omega
      have hv : repsB xs = true := by unfold repsB; rw [← HN.out, ← hkn]; exact hok.out
      have HV := hid hv
      clear hv
      go_wp2
      go_ret
      exact ⟨ret_bool HV.out.symm, rfl⟩
end Go.Proofs.YtfaiehjomcgjgaaDoor

/- ValidHoist: the program's, the model's. -/
namespace Go.Proofs.YtfaiehjomcgjgaaDoor
set_option linter.unusedVariables false
open Go.RowKit
def passedH (xs : List Int) (k : Nat) : Prop := (1 ≤ k → lenB xs = true) ∧ (2 ≤ k → numsB xs = true) ∧ (3 ≤ k → grpsB xs = true) ∧ (4 ≤ k → repsB xs = true)
set_option maxRecDepth 100000 in
set_option maxHeartbeats 2000000 in
theorem impl_ValidHoist_cap (a : Option Addr) (n cap : Nat) (xs : List Int) (hn : n = xs.length) (hm : n ≤ 1048576) (hcap : n ≤ cap) (hf : Fits .i8 xs) (w : World) (hs : SliceOf .i8 w a xs) :
    Calls Tryd.prog 114 #[.slice a n cap] w fun e w' => e = .returned (.bool (validH xs)) ∧ Gr w w' := by
  have h1 := hid (fun W => hasLength_any a n cap hm W)
  have h2 := hid (fun W hg => hasNumbers_any a n cap xs hn hm hf W hg)
  have h3 := hid (fun W hg => hasGroups_any a n cap xs hn hm hcap W hg)
  have h4 := hid (fun W hg => hasRepeated_any a n cap xs hn hm hcap hf W hg)
  have hL : lenB xs = (decide (1 ≤ n) && decide (n ≤ 8)) := by unfold lenB; rw [hn]
  have hV := validH_checks xs
  rw [← hL] at h1
  have HV := hid hV
  have S := hid hs
  clear hs hn hV hL hf
  go_enter Tryd.func114, Tryd.ntmps114
  go_wp2
  have hgr : Gr w (w.alloc (.cells #[.func (.func 124) #[] #[], .func (.func 125) #[] #[], .func (.func 126) #[] #[], .func (.func 127) #[] #[]] 131)) := (Gr.refl w).alloc _
  have hb := hid (heap_alloc_new w (.cells #[.func (.func 124) #[] #[], .func (.func 125) #[] #[], .func (.func 126) #[] #[], .func (.func 127) #[] #[]] 131))
  replace S := hid (S.out.gr hgr)
  have GR := hid hgr
  clear hgr
  generalize w.alloc _ = W at *
  go_loop [9] (fun i => ∃ k : Nat, k ≤ 4 ∧ i = .int .i64 k ∧ Hid (passedH xs k)) (fun i => 4 - (intOf i).toNat)
  case atStart => exact ⟨0, by omega, rfl, hid ⟨by omega, by omega, by omega, by omega⟩⟩
  case round =>
    obtain ⟨k, hk, rfl, hok⟩ := hrel
    have hcell := fun i => cell_of_row W w.heap.size i _ _ _ hb.out
    obtain rfl | rfl | rfl | rfl | rfl : k = 0 ∨ k = 1 ∨ k = 2 ∨ k = 3 ∨ k = 4 := by omega
    · have hc0 := hcell 0
      clear hcell
      simp only [List.getElem?_toArray] at hc0
      cases hc : lenB xs
      · have HF := hid (show validH xs = false by rw [HV.out, hc]; simp)
        go_wp2_with fail
        refine (h1.out _).mono ?_
        rintro e w' ⟨rfl, rfl⟩
        go_wp2_with fail
        go_ret
        exact ⟨ret_bool HF.out.symm, GR.out⟩
      · have HN := hid (show passedH xs 1 from ⟨(fun _ => hc), (fun h => by omega), (fun h => by omega), (fun h => by omega)⟩)
        clear hok
        go_wp2_with fail
        refine (h1.out _).mono ?_
        rintro e w' ⟨rfl, rfl⟩
        go_wp2_with fail
        go_round
        case rel => exact ⟨1, by omega, rfl, HN⟩
        case measure => simp [intOf]
    · have hc0 := hcell 1
      clear hcell
      simp only [List.getElem?_toArray] at hc0
      cases hc : numsB xs
      · have HF := hid (show validH xs = false by rw [HV.out, hc]; simp)
        go_wp2_with fail
        refine (h2.out _ S.out).mono ?_
        rintro e w' ⟨rfl, rfl⟩
        go_wp2_with fail
        go_ret
        exact ⟨ret_bool HF.out.symm, GR.out⟩
      · have HN := hid (show passedH xs 2 from ⟨(fun _ => hok.out.1 (by omega)), (fun _ => hc), (fun h => by omega), (fun h => by omega)⟩)
        clear hok
        go_wp2_with fail
        refine (h2.out _ S.out).mono ?_
        rintro e w' ⟨rfl, rfl⟩
        go_wp2_with fail
        go_round
        case rel => exact ⟨2, by omega, rfl, HN⟩
        case measure => simp [intOf]
    · have hc0 := hcell 2
      clear hcell
      simp only [List.getElem?_toArray] at hc0
      cases hc : grpsB xs
      · have HF := hid (show validH xs = false by rw [HV.out, hc]; simp)
        go_wp2_with fail
        refine (h3.out _ S.out).mono ?_
        rintro e w' ⟨rfl, rfl⟩
        go_wp2_with fail
        go_ret
        exact ⟨ret_bool HF.out.symm, GR.out⟩
      · have HN := hid (show passedH xs 3 from ⟨(fun _ => hok.out.1 (by omega)), (fun _ => hok.out.2.1 (by omega)), (fun _ => hc), (fun h => by omega)⟩)
        clear hok
        go_wp2_with fail
        refine (h3.out _ S.out).mono ?_
        rintro e w' ⟨rfl, rfl⟩
        go_wp2_with fail
        go_round
        case rel => exact ⟨3, by omega, rfl, HN⟩
        case measure => simp [intOf]
    · have hc0 := hcell 3
      clear hcell
      simp only [List.getElem?_toArray] at hc0
      cases hc : repsB xs
      · have HF := hid (show validH xs = false by rw [HV.out, hc]; simp)
        go_wp2_with fail
        refine (h4.out _ S.out).mono ?_
        rintro e w' ⟨rfl, rfl⟩
        go_wp2_with fail
        go_ret
        exact ⟨ret_bool HF.out.symm, GR.out⟩
      · have HN := hid (show passedH xs 4 from ⟨(fun _ => hok.out.1 (by omega)), (fun _ => hok.out.2.1 (by omega)), (fun _ => hok.out.2.2.1 (by omega)), (fun _ => hc)⟩)
        clear hok
        go_wp2_with fail
        refine (h4.out _ S.out).mono ?_
        rintro e w' ⟨rfl, rfl⟩
        go_wp2_with fail
        go_round
        case rel => exact ⟨4, by omega, rfl, HN⟩
        case measure => simp [intOf]
    · have HT := hid (show validH xs = true by rw [HV.out, hok.out.1 (by omega), hok.out.2.1 (by omega), hok.out.2.2.1 (by omega), hok.out.2.2.2 (by omega)]; rfl)
      clear hcell
      go_wp2_with fail
      go_ret
      exact ⟨ret_bool HT.out.symm, GR.out⟩
end Go.Proofs.YtfaiehjomcgjgaaDoor

/- Hoists of the model: what is read. -/
namespace Go.Proofs.YtfaiehjomcgjgaaDoor
set_option linter.unusedVariables false
open Go.RowKit
def readL (xs : List Int) : List Int := if validH xs then meanL xs else []
def withOk (b : Bool) (v : Value) : Value := .tuple #[v, .bool b]
theorem readL_yes {xs : List Int} (h : validH xs = true) : readL xs = meanL xs := by unfold readL; rw [if_pos h]
theorem readL_no {xs : List Int} (h : validH xs = false) : readL xs = [] := by unfold readL; rw [if_neg (by rw [h]; simp)]
theorem readL_length (xs : List Int) : (readL xs).length ≤ 8 := by
  cases h : validH xs
  · rw [readL_no h]; simp
  · rw [readL_yes h, meanL_length]; exact (validH_len h).2
theorem validH_bad {h : List Int} {i : Nat} (hi : i < h.length) (ho : okAt h i = false) : validH h = false := by
  unfold validH; rw [allTo_no hi ho, Bool.and_false]
theorem validH_short {h : List Int} (hl : lenB h = false) : validH h = false := by unfold validH; rw [hl, Bool.false_and]
theorem validH_good {h : List Int} (hl : lenB h = true) (ho : allTo (okAt h) h.length = true) : validH h = true := by unfold validH; rw [hl, ho]; rfl
theorem infoI8 : (Tryd.prog.info? 22).map (fun i => (i.zero, i.size, i.bytes)) = some (some (.int .i8 0), 1, 1) := by kernel_rfl
theorem okAt_brk {h : List Int} {i : Nat} (hb : brkI (h.getD i 0) = true) : okAt h i = (decide (startOf h i < i) && decide (i + 1 < h.length)) := by unfold okAt; rw [if_pos hb]
theorem okAt_s {h : List Int} {i : Nat} (hb : brkI (h.getD i 0) = false) (hs : subI (h.getD i 0) = true) : okAt h i = decide (startOf h i + (-(h.getD i 0)).toNat ≤ i) := by unfold okAt; rw [if_neg (by rw [hb]; simp), if_pos hs]
theorem okAt_k {h : List Int} {i : Nat} (hb : brkI (h.getD i 0) = false) (hs : subI (h.getD i 0) = false) : okAt h i = kindI (h.getD i 0) := by unfold okAt; rw [if_neg (by rw [hb]; simp), if_neg (by rw [hs]; simp)]
/-- A row that has got one number more. -/
theorem Own.appended {k : IntKind} {e : TypeId} {w1 : World} {lo m : Nat} {v : Value} {ys zs : List Int} {x : Int} (h : w1.ownsRow lo e 1 v (m + 1) (ys.map (Value.int k) ++ [.int k x])) (hz : zs = ys ++ [x]) (hm : ys.length = m) : Own k e w1 lo w1.heap.size v zs := by
  refine Own.ofRow h (by rw [hz, List.map_append]; rfl) (by rw [hz, List.length_append, hm]; rfl)
theorem ret_empty {k : IntKind} {e : TypeId} {w w1 : World} (g : Gr w w1) (mk : Value → Value) : RetOwn k e mk [] w (.returned (mk (.slice (some ⟨w1.heap.size, 0, none⟩) 0 0))) (w1.alloc (.cells #[] e)) :=
  ⟨_, rfl, (Own.new (k := k) (e := e) w1 [] (by simp)).widen g.size (by simp), g.alloc _⟩
set_option maxRecDepth 100000 in
set_option maxHeartbeats 4000000 in
theorem l02Read_any (a : Option Addr) (n cap : Nat) (xs : List Int) (hn : n = xs.length) (hm : n ≤ 1048576) (hf : Fits .i8 xs) (w : World) (hs : SliceOf .i8 w a xs) :
    Calls Tryd.prog 110 #[.slice a n cap] w (RetOwn .i8 22 (withOk (validH xs)) (readL xs) w) := by
  have S := hid hs
  have HN := hid hn
  have HF := hid hf
  obtain ⟨i0, hi, hz0, hz1, hz2⟩ := info_parts infoI8
  have hL : betB (n : Int) 1 8 = lenB xs := by unfold betB lenB; rw [← hn, Bool.eq_iff_iff]; simp; omega
  have HL := hid hL
  clear hs hn hf hL
  cases hl : lenB xs
  · have HV := hid (validH_short hl)
    have HLF := hid (HL.out.trans hl)
    clear hl HL hi hz0 hz1 hz2
    go_enter Tryd.func110, Tryd.ntmps110
    go_wp2_with (go_at_call 63; refine (l00In_b _ _ _ _).mono ?_; rintro e w' ⟨rfl, rfl⟩; rw [HLF.out])
    go_ret2
    rw [HV.out, readL_no HV.out]
    exact ret_empty (Gr.refl _) _
  · have HLT := hid (HL.out.trans hl)
    have HLN := hid hl
    have h8 := (lenB_iff.1 hl)
    rw [← HN.out] at h8
    obtain ⟨h81, h88⟩ := h8
    clear hl HL
    go_enter Tryd.func110, Tryd.ntmps110
    go_wp2_with (go_at_call 63; refine (l00In_b _ _ _ _).mono ?_; rintro e w' ⟨rfl, rfl⟩; rw [HLT.out])
    have S0 := S
    go_loopw [5, 6, 7] (fun v s i wr => ∃ k : Nat, k ≤ n ∧ i = .int .i64 k ∧ s = .int .i64 (startOf xs k) ∧ Hid (allTo (okAt xs) k = true) ∧ Hid (Own .i8 22 wr w.heap.size wr.heap.size v (meanTo xs k)) ∧ Hid (Gr w wr)) (fun _ _ i _ => n - (intOf i).toNat)
    case atStart => exact ⟨0, Nat.zero_le _, rfl, rfl, hid rfl, hid ((Own.new (k := .i8) (e := 22) w [] (by simp)).widen (Nat.le_refl _) (by simp)), hid ((Gr.refl _).alloc _)⟩
    case round =>
      obtain ⟨k, hk, rfl, rfl, hok, ow, GR⟩ := hrel
      obtain ⟨ao, co, rfl⟩ := ow.out.shape
      have ROW := hid ow.out.row
      have HML := hid (meanTo_length xs k)
      rw [HML.out] at ROW ow ⊢
      by_cases hlt : k < n
      · have hlx : k < xs.length := by rw [← HN.out]; exact hlt
        obtain ⟨b, off, rfl, hc0⟩ := S0.out k hlx
        have hc := GR.out.cell hc0
        obtain ⟨h0, h1⟩ := HF.out.get8 k
        have hle := startOf_le xs k
        have HYY := hid (fun (h : okAt xs k = true) => allTo_step hok.out h)
        have HVV := hid (fun (h : okAt xs k = false) => validH_bad hlx h)
        clear hc0
        cases hb : brkI (xs.getD k 0)
        · have hx : (xs.getD k 0 == -10) = false := by have := brkI_no hb; simpa using this
          have HST := hid (startOf_no (brkI_no hb))
          cases hs : subI (xs.getD k 0)
          · have HO := hid (okAt_k hb hs)
            have HM := hid (meanTo_own hs)
            cases hkd : kindI (xs.getD k 0)
            · -- no number
              have HV := hid (HVV.out (by rw [HO.out, hkd]))
              have hno : (xs.getD k 0 < 0 ∧ xs.getD k 0 < -4) ∨ 40 ≤ xs.getD k 0 := by have := subI_no hs; have := kindI_no hkd; omega
              clear HYY HVV HO HM HST hlx hb hs hkd
              generalize xs.getD k 0 = x at *
              rcases hno with ⟨n0, n1⟩ | n0
              · go_wp2_with fail
                go_ret2
                rw [HV.out, readL_no HV.out]
                exact ret_empty GR.out _
              · go_wp2_with fail
                go_ret2
                rw [HV.out, readL_no HV.out]
                exact ret_empty GR.out _
            · -- a flag
              have HY := hid (HYY.out (by rw [HO.out, hkd]))
              obtain ⟨x0, x1⟩ := kindI_iff.1 hkd
              clear HYY HVV HO hlx hb hs hkd h0 h1
              generalize xs.getD k 0 = x at *
              go_wp2_with (at_builtin; refine wpList_append_own _ rfl _ _ 59 rfl w.heap.size 22 i0 (.int .i8 0) 1 1 Tryd.underlying59 hi hz0 hz1 hz2 rfl (by decide) _ _ _ rfl (ROW.out.alloc _) ⟨wr.heap.size, 0, none⟩ 1 1 [.int .i8 x] rfl rfl (cell_one_new _ _ _) (by simp [Value.oneCell']) (by unfold maxLen; omega) (by omega) (by have := GR.out.size; simp; omega) ?_; intro v' w1 hown' hgrow _)
              have OW := hid (Own.appended hown' HM.out HML.out)
              have GW := hid ((GR.out.alloc _).by_ hgrow (fun b e => by have := (ROW.out.lt b e).1; omega))
              clear hown' hgrow
              go_wp2_with fail
              go_roundw
              case rel => exact ⟨k + 1, by omega, by go_num, by rw [HST.out], HY, OW, GW⟩
              case measure => simp [intOf] <;> omega
          · -- a substitute
            obtain ⟨x0, x1⟩ := subI_iff.1 hs
            have HO := hid (okAt_s hb hs)
            have HM := hid (meanTo_sub hs)
            obtain ⟨j, hj⟩ : ∃ j : Nat, (j : Int) = -(xs.getD k 0) := ⟨(-(xs.getD k 0)).toNat, by omega⟩
            have hj1 : 1 ≤ j := by omega
            have hj4 : j ≤ 4 := by omega
            have hjn : (-(xs.getD k 0)).toNat = j := by omega
            rw [hjn] at HO HM
            have hxj : xs.getD k 0 = -(j : Int) := by omega
            have HXJ := hid hxj
            clear hb hs hj hjn h0 h1 hxj x0 x1
            obtain ⟨p, hp⟩ : ∃ p, p + 1 = startOf xs k + j := ⟨startOf xs k + j - 1, by omega⟩
            by_cases hfit : p < k
            · have HY := hid (HYY.out (by rw [HO.out, decide_eq_true (by omega)]))
              obtain ⟨g, rfl, hgb, hcp, hfp⟩ := ow.out.at_ (i := p) (by rw [HML.out]; exact hfit)
              rw [show startOf xs k + j - 1 = p by omega] at HM
              clear HYY HVV HO hlx hgb hfp
              generalize (meanTo xs k).getD p 0 = y at *
              rw [HXJ.out] at hc hx
              have hpi : (startOf xs k : Int) + (j : Int) - 1 = (p : Int) := by omega
              generalize startOf xs k = st at *
              go_wp2_with (at_builtin; refine wpList_append_own _ rfl _ _ 59 rfl w.heap.size 22 i0 (.int .i8 0) 1 1 Tryd.underlying59 hi hz0 hz1 hz2 rfl (by decide) _ _ _ rfl (ROW.out.alloc _) ⟨wr.heap.size, 0, none⟩ 1 1 [.int .i8 y] rfl rfl (cell_one_new _ _ _) (by simp [Value.oneCell']) (by unfold maxLen; omega) (by omega) (by have := GR.out.size; simp; omega) ?_; intro v' w1 hown' hgrow _)
              have OW := hid (Own.appended hown' HM.out HML.out)
              have GW := hid ((GR.out.alloc _).by_ hgrow (fun b e => by have := (ROW.out.lt b e).1; omega))
              clear hown' hgrow
              go_wp2_with fail
              go_roundw
              case rel => exact ⟨k + 1, by omega, by go_num, by rw [HST.out], HY, OW, GW⟩
              case measure => simp [intOf] <;> omega
            · have HV := hid (HVV.out (by rw [HO.out, decide_eq_false (by omega)]))
              clear HYY HVV HO HM hlx
              rw [HXJ.out] at hc hx
              have hpi : (startOf xs k : Int) + (j : Int) - 1 = (p : Int) := by omega
              generalize startOf xs k = st at *
              go_wp2_with fail
              go_ret2
              rw [HV.out, readL_no HV.out]
              exact ret_empty GR.out _
        · -- a break
          have hxm : xs.getD k 0 = -10 := brkI_iff.1 hb
          have HST := hid (startOf_brk hxm)
          have HO := hid (okAt_brk hb)
          have HM := hid (meanTo_own (h := xs) (k := k) (by rw [hxm]; rfl))
          rw [← HN.out] at HO
          rw [hxm] at hc HM
          clear hb hxm h0 h1 hlx
          by_cases hks : startOf xs k = k
          · have HV := hid (HVV.out (by rw [HO.out, decide_eq_false (by omega)]; rfl))
            clear HYY HVV HO HM HST
            rw [hks]
            clear hks hle
            go_wp2_with fail
            go_ret2
            rw [HV.out, readL_no HV.out]
            exact ret_empty GR.out _
          · by_cases hkn : k + 1 = n
            · have HV := hid (HVV.out (by rw [HO.out, decide_eq_false (show ¬ k + 1 < n by omega), Bool.and_false]))
              have hkn' : (n : Int) - 1 = (k : Int) := by omega
              clear HYY HVV HO HM HST hkn
              generalize startOf xs k = st at *
              go_wp2_with fail
              go_ret2
              rw [HV.out, readL_no HV.out]
              exact ret_empty GR.out _
            · have HY := hid (HYY.out (by rw [HO.out, decide_eq_true (by omega), decide_eq_true (by omega)]; rfl))
              have hks' : startOf xs k < k := by omega
              have hks2 : ((k : Int) == (startOf xs k : Int)) = false := by rw [beq_eq_false_iff_ne]; omega
              have hkn2 : ((k : Int) == (n : Int) - 1) = false := by rw [beq_eq_false_iff_ne]; omega
              clear HYY HVV HO
              generalize startOf xs k = st at *
              go_wp2_with (at_builtin; refine wpList_append_own _ rfl _ _ 59 rfl w.heap.size 22 i0 (.int .i8 0) 1 1 Tryd.underlying59 hi hz0 hz1 hz2 rfl (by decide) _ _ _ rfl (ROW.out.alloc _) ⟨wr.heap.size, 0, none⟩ 1 1 [.int .i8 (-10)] rfl rfl (cell_one_new _ _ _) (by simp [Value.oneCell']) (by unfold maxLen; omega) (by omega) (by have := GR.out.size; simp; omega) ?_; intro v' w1 hown' hgrow _)
              have OW := hid (Own.appended hown' HM.out HML.out)
              have GW := hid ((GR.out.alloc _).by_ hgrow (fun b e => by have := (ROW.out.lt b e).1; omega))
              clear hown' hgrow
              go_wp2_with fail
              go_roundw
              case rel => exact ⟨k + 1, by omega, by go_num, by rw [HST.out]; go_num, HY, OW, GW⟩
              case measure => simp [intOf] <;> omega
      · have hkn : k = n := by omega
        have hv : validH xs = true := validH_good HLN.out (by rw [← HN.out, ← hkn]; exact hok.out)
        have hme : meanTo xs k = readL xs := by rw [readL_yes hv, hkn, HN.out]; rfl
        rw [hme] at ow
        have HV := hid hv
        clear hv hme hok ROW HML hkn
        go_wp2_with fail
        go_ret2
        rw [HV.out]
        exact ⟨_, rfl, ow.out, GR.out⟩
end Go.Proofs.YtfaiehjomcgjgaaDoor

/- ValidHoist, MeaningOf, WithoutSubs of the model; ValidHoist's law. -/
namespace Go.Proofs.YtfaiehjomcgjgaaDoor
set_option linter.unusedVariables false
open Go.RowKit
set_option maxRecDepth 100000 in
set_option maxHeartbeats 1000000 in
theorem l02Ok_any (a : Option Addr) (n cap : Nat) (xs : List Int) (hn : n = xs.length) (hm : n ≤ 1048576) (hf : Fits .i8 xs) (w : World) (hs : SliceOf .i8 w a xs) :
    Calls Tryd.prog 98 #[.slice a n cap] w fun e w' => e = .returned (.bool (validH xs)) ∧ Gr w w' := by
  have h := hid (l02Read_any a n cap xs hn hm hf w hs)
  clear hs hn hf
  generalize validH xs = b at *
  go_enter Tryd.func98, Tryd.ntmps98
  go_wp2_with fail
  refine h.out.mono ?_
  rintro e w' ⟨v, rfl, -, g⟩
  have G := hid g
  clear g
  unfold withOk
  go_wp2_with fail
  go_ret
  exact ⟨rfl, G.out⟩
theorem impl_ValidHoist_any (a : Option Addr) (xs : List Int) (hm : xs.length ≤ 1048576) (hf : Fits .i8 xs) (w : World) (hs : SliceOf .i8 w a xs) :
    Calls Tryd.prog 114 #[.slice a xs.length xs.length] w fun e w' => e = .returned (.bool (validH xs)) ∧ Gr w w' := impl_ValidHoist_cap a _ _ xs rfl hm (Nat.le_refl _) hf w hs
end Go.Proofs.YtfaiehjomcgjgaaDoor

/- MeaningOf, WithoutSubs: the functions. -/
namespace Go.Proofs.YtfaiehjomcgjgaaDoor
set_option linter.unusedVariables false
open Go.RowKit
def codeH (xs : List Int) : Int := if validH xs then 0 else 1
theorem codeH_yes {xs : List Int} (h : validH xs = true) : codeH xs = 0 := by unfold codeH; rw [if_pos h]
theorem codeH_no {xs : List Int} (h : validH xs = false) : codeH xs = 1 := by unfold codeH; rw [if_neg (by rw [h]; simp)]
theorem Own.capLe {k : IntKind} {e : TypeId} {w : World} {lo hi n cap : Nat} {a : Option Addr} {xs : List Int} (h : Own k e w lo hi (.slice a n cap) xs) : n ≤ cap := by
  have hl := h.len
  subst hl
  rcases h.row.2 with ⟨h1, h2⟩ | ⟨g', cap', cur, h1, _, _, h2, _⟩
  · omega
  · simp only [Value.slice.injEq] at h1
    obtain ⟨_, _, rfl⟩ := h1
    exact h2
theorem ret_nil {k : IntKind} {e : TypeId} {w w1 : World} (g : Gr w w1) (mk : Value → Value) : RetOwn k e mk [] w (.returned (mk (.slice none 0 0))) w1 := ⟨_, rfl, Own.nil _ _ _, g⟩

set_option maxRecDepth 100000 in
set_option maxHeartbeats 1000000 in
theorem cloneHoist_any (a : Option Addr) (n cap : Nat) (xs : List Int) (hn : n = xs.length) (h1 : 1 ≤ n) (hm : n ≤ 1048576) (w : World) (hs : SliceOf .i8 w a xs) :
    Calls Tryd.prog 119 #[.slice a n cap] w (RetOwn .i8 22 (fun v => v) xs w) := by
  obtain ⟨i0, hi, hz0, hz1, hz2⟩ := info_parts infoI8
  obtain ⟨b, off, rfl, _⟩ := hs 0 (by omega)
  have hnews : ∀ j u, (xs.map (Value.int .i8))[j]? = some u → (w.alloc (.cells #[] 22)).cell? ((⟨b, off, none⟩ : Addr).add j) = some u := by
    intro j u hu
    rw [List.getElem?_map] at hu
    cases hx : xs[j]? with
    | none => rw [hx] at hu; cases hu
    | some x =>
      rw [hx] at hu
      have hjl : j < xs.length := (List.getElem?_eq_some_iff.1 hx).1
      obtain ⟨b', off', e, hc⟩ := hs j hjl
      simp only [Option.some.injEq, Addr.mk.injEq] at e
      obtain ⟨rfl, rfl, _⟩ := e
      have hadd : (⟨b, off, none⟩ : Addr).add j = ⟨b, off + j, none⟩ := by unfold Addr.add; split <;> simp_all
      rw [hadd, ((Gr.refl w).alloc _).cell hc]
      simp only [Option.map_some, Option.some.injEq] at hu
      rw [← hu]
      simp [List.getD, hx]
  have NEWS := hid hnews
  have HN := hid hn
  have ROW := hid (Own.new (k := .i8) (e := 22) w [] (by simp)).row
  have hone : ∀ u ∈ xs.map (Value.int .i8), u.oneCell' = true := by
    intro u hu; simp only [List.mem_map] at hu; obtain ⟨x, _, rfl⟩ := hu; rfl
  have ONE := hid hone
  have HL := hid (show (xs.map (Value.int .i8)).length = n * 1 by rw [List.length_map, ← hn, Nat.mul_one])
  clear hs hn hnews hone
  have hnil := fun (w : World) => Lib.run_eql_slice_nil (P := Tryd.prog) w 28 22 (some ⟨b, off, none⟩) n cap 0 0 Tryd.underlying28
  go_enter Tryd.func119, Tryd.ntmps119
  go_wp2_with (at_builtin; refine wpList_append_own _ rfl _ _ 28 rfl w.heap.size 22 i0 (.int .i8 0) 1 1 Tryd.underlying28 hi hz0 hz1 hz2 rfl (by decide) _ _ _ rfl ROW.out ⟨b, off, none⟩ n cap (xs.map (Value.int .i8)) rfl HL.out NEWS.out ONE.out (by unfold maxLen; simp; omega) (by simp; omega) (by simp) ?_; intro v' w1 hown' hgrow _)
  have O := hid (Own.ofRow (k := .i8) (xs := xs) hown' rfl (by rw [← HN.out]; simp))
  have G := hid (((Gr.refl w).alloc (.cells #[] 22)).by_ hgrow (fun k e => by have e' : some w.heap.size = some k := e; simp only [Option.some.injEq] at e'; omega))
  clear hown' hgrow
  go_wp2_with fail
  go_ret
  exact ⟨_, rfl, O.out, G.out⟩
set_option maxRecDepth 100000 in
set_option maxHeartbeats 1000000 in
theorem cloneMeaning_any (a : Option Addr) (n cap : Nat) (xs : List Int) (hn : n = xs.length) (h1 : 1 ≤ n) (hm : n ≤ 1048576) (w : World) (hs : SliceOf .i8 w a xs) :
    Calls Tryd.prog 104 #[.slice a n cap] w (RetOwn .i8 22 (fun v => v) xs w) := by
  obtain ⟨i0, hi, hz0, hz1, hz2⟩ := info_parts infoI8
  obtain ⟨b, off, rfl, _⟩ := hs 0 (by omega)
  have hnews : ∀ j u, (xs.map (Value.int .i8))[j]? = some u → (w.alloc (.cells #[] 22)).cell? ((⟨b, off, none⟩ : Addr).add j) = some u := by
    intro j u hu
    rw [List.getElem?_map] at hu
    cases hx : xs[j]? with
    | none => rw [hx] at hu; cases hu
    | some x =>
      rw [hx] at hu
      have hjl : j < xs.length := (List.getElem?_eq_some_iff.1 hx).1
      obtain ⟨b', off', e, hc⟩ := hs j hjl
      simp only [Option.some.injEq, Addr.mk.injEq] at e
      obtain ⟨rfl, rfl, _⟩ := e
      have hadd : (⟨b, off, none⟩ : Addr).add j = ⟨b, off + j, none⟩ := by unfold Addr.add; split <;> simp_all
      rw [hadd, ((Gr.refl w).alloc _).cell hc]
      simp only [Option.map_some, Option.some.injEq] at hu
      rw [← hu]
      simp [List.getD, hx]
  have NEWS := hid hnews
  have HN := hid hn
  have ROW := hid (Own.new (k := .i8) (e := 22) w [] (by simp)).row
  have hone : ∀ u ∈ xs.map (Value.int .i8), u.oneCell' = true := by
    intro u hu; simp only [List.mem_map] at hu; obtain ⟨x, _, rfl⟩ := hu; rfl
  have ONE := hid hone
  have HL := hid (show (xs.map (Value.int .i8)).length = n * 1 by rw [List.length_map, ← hn, Nat.mul_one])
  clear hs hn hnews hone
  have hnil := fun (w : World) => Lib.run_eql_slice_nil (P := Tryd.prog) w 59 22 (some ⟨b, off, none⟩) n cap 0 0 Tryd.underlying59
  go_enter Tryd.func104, Tryd.ntmps104
  go_wp2_with (at_builtin; refine wpList_append_own _ rfl _ _ 59 rfl w.heap.size 22 i0 (.int .i8 0) 1 1 Tryd.underlying59 hi hz0 hz1 hz2 rfl (by decide) _ _ _ rfl ROW.out ⟨b, off, none⟩ n cap (xs.map (Value.int .i8)) rfl HL.out NEWS.out ONE.out (by unfold maxLen; simp; omega) (by simp; omega) (by simp) ?_; intro v' w1 hown' hgrow _)
  have O := hid (Own.ofRow (k := .i8) (xs := xs) hown' rfl (by rw [← HN.out]; simp))
  have G := hid (((Gr.refl w).alloc (.cells #[] 22)).by_ hgrow (fun k e => by have e' : some w.heap.size = some k := e; simp only [Option.some.injEq] at e'; omega))
  clear hown' hgrow
  go_wp2_with fail
  go_ret
  exact ⟨_, rfl, O.out, G.out⟩

end Go.Proofs.YtfaiehjomcgjgaaDoor

/- ValidMeaning: the functions. -/
namespace Go.Proofs.YtfaiehjomcgjgaaDoor
set_option linter.unusedVariables false
open Go.RowKit
/-- No substitute. -/
def ownAt (xs : List Int) (i : Nat) : Bool := !subI (xs.getD i 0)
def plainH (xs : List Int) : Bool := validH xs && allTo (ownAt xs) xs.length
/-- No number below 0 but breaks. -/
def upAt (xs : List Int) (i : Nat) : Bool := !(decide (xs.getD i 0 < 0) && (xs.getD i 0 != -10))
theorem plainH_up (xs : List Int) : plainH xs = (allTo (upAt xs) xs.length && validH xs) := by
  rw [Bool.eq_iff_iff]
  unfold plainH
  simp only [Bool.and_eq_true, allTo_iff]
  constructor
  · rintro ⟨hv, ho⟩
    refine ⟨fun i hi => ?_, hv⟩
    have h1 := ho i hi
    have h2 := validH_at hv hi
    unfold ownAt at h1
    simp only [Bool.not_eq_true'] at h1
    unfold upAt
    by_cases hb : xs.getD i 0 = -10
    · rw [hb]; rfl
    · have := okAt_kind h2 hb h1
      rw [decide_eq_false (show ¬ xs.getD i 0 < 0 by omega)]; rfl
  · rintro ⟨ho, hv⟩
    refine ⟨hv, fun i hi => ?_⟩
    have h1 := ho i hi
    unfold upAt at h1
    unfold ownAt
    cases hs : subI (xs.getD i 0)
    · rfl
    · have h3 := subI_iff.1 hs
      rw [decide_eq_true (show xs.getD i 0 < 0 by omega), show (xs.getD i 0 != -10) = true by rw [bne_iff_ne]; omega] at h1
      simp at h1
theorem plainH_valid {xs : List Int} (h : plainH xs = true) : validH xs = true := by unfold plainH at h; simp only [Bool.and_eq_true] at h; exact h.1

set_option maxRecDepth 100000 in
set_option maxHeartbeats 1000000 in
theorem l02Plain_any (a : Option Addr) (n cap : Nat) (xs : List Int) (hn : n = xs.length) (hm : n ≤ 1048576) (hf : Fits .i8 xs) (w : World) (hs : SliceOf .i8 w a xs) :
    Calls Tryd.prog 82 #[.slice a n cap] w fun e w' => e = .returned (.bool (plainH xs)) ∧ Gr w w' := by
  have h := hid (l02Ok_any a n cap xs hn hm hf w hs)
  have S := hid hs
  have HN := hid hn
  have HP := hid (plainH_up xs)
  have HF := hid hf
  clear hs hn hf
  go_enter Tryd.func82, Tryd.ntmps82
  go_wp2
  go_loop [3] (fun i => ∃ k : Nat, k ≤ n ∧ i = .int .i64 k ∧ Hid (allTo (upAt xs) k = true)) (fun i => n - (intOf i).toNat)
  case atStart => exact ⟨0, Nat.zero_le _, rfl, hid rfl⟩
  case round =>
    obtain ⟨k, hk, rfl, hok⟩ := hrel
    by_cases hlt : k < n
    · obtain ⟨b, off, rfl, hc⟩ := S.out k (by rw [← HN.out]; exact hlt)
      have HY := hid (fun (h : upAt xs k = true) => allTo_step hok.out h)
      have HZ := hid (fun (h : upAt xs k = false) => allTo_no (k := xs.length) (by rw [← HN.out]; exact hlt) h)
      have hg : upAt xs k = !(decide (xs.getD k 0 < 0) && (xs.getD k 0 != -10)) := rfl
      rw [hg] at HY HZ
      clear hg
      generalize xs.getD k 0 = x at *
      by_cases hx0 : x < 0
      · cases hb : (x != -10)
        · have HY' := hid (HY.out (by rw [hb, Bool.and_false]; rfl))
          have hx : (x == -10) = true := by simpa using hb
          clear HY HZ
          go_wp2
          go_round
          case rel => exact ⟨k + 1, by omega, by go_num, HY'⟩
          case measure => simp [intOf] <;> omega
        · have HZ' := hid (HZ.out (by rw [hb, decide_eq_true hx0]; rfl))
          have hx : (x == -10) = false := by simpa using hb
          clear HY HZ
          go_wp2
          go_ret
          exact ⟨ret_bool (by rw [HP.out, HZ'.out, Bool.false_and]), Gr.refl _⟩
      · have HY' := hid (HY.out (by rw [decide_eq_false hx0]; rfl))
        clear HY HZ
        go_wp2
        go_round
        case rel => exact ⟨k + 1, by omega, by go_num, HY'⟩
        case measure => simp [intOf] <;> omega
    · have hkn : k = n := by omega
      have hv : plainH xs = validH xs := by rw [HP.out, ← HN.out, ← hkn, hok.out, Bool.true_and]
      have HV := hid hv
      clear hv hkn
      go_wp2_with fail
      refine h.out.mono ?_
      rintro e w' ⟨rfl, g⟩
      have G := hid g
      clear g
      go_wp2_with fail
      go_ret
      exact ⟨ret_bool HV.out.symm, G.out⟩
/-- Whether a substitute is in the list. -/
def FoundIdx (b : Bool) (w : World) (e : Ending) (w' : World) : Prop := ∃ r : Int, e = .returned (.int .i64 r) ∧ decide (0 ≤ r) = b ∧ w = w'
set_option maxRecDepth 100000 in
set_option maxHeartbeats 1000000 in
theorem indexSub_any (a : Option Addr) (n cap : Nat) (xs : List Int) (hn : n = xs.length) (hm : n ≤ 1048576) (hf : Fits .i8 xs) (w : World) (hs : SliceOf .i8 w a xs) :
    Calls Tryd.prog 128 #[.slice a n cap, .func (.func 116) #[] #[]] w (FoundIdx (!allTo (ownAt xs) xs.length) w) := by
  have S := hid hs
  have HN := hid hn
  have HF := hid hf
  clear hs hn hf
  go_enter Tryd.func128, Tryd.ntmps128
  go_wp2
  go_loop [8] (fun i => ∃ k : Nat, k ≤ n ∧ i = .int .i64 k ∧ Hid (allTo (ownAt xs) k = true)) (fun i => n - (intOf i).toNat)
  case atStart => exact ⟨0, Nat.zero_le _, rfl, hid rfl⟩
  case round =>
    obtain ⟨k, hk, rfl, hok⟩ := hrel
    by_cases hlt : k < n
    · obtain ⟨b, off, rfl, hc⟩ := S.out k (by rw [← HN.out]; exact hlt)
      obtain ⟨h0, h1⟩ := HF.out.get8 k
      have HY := hid (fun (h : ownAt xs k = true) => allTo_step hok.out h)
      have HZ := hid (fun (h : ownAt xs k = false) => allTo_no (k := xs.length) (by rw [← HN.out]; exact hlt) h)
      have hg : ownAt xs k = !subI (xs.getD k 0) := rfl
      rw [hg] at HY HZ
      clear hg
      generalize xs.getD k 0 = x at *
      cases hsb : subI x
      · have HY' := hid (HY.out (by rw [hsb]; rfl))
        clear HY HZ
        go_wp2_with fail
        refine (isSub_any _ h0 h1 _).mono ?_
        rintro e w' ⟨rfl, rfl⟩
        go_wp2_with fail
        go_round
        case rel => exact ⟨k + 1, by omega, by go_num, HY'⟩
        case measure => simp [intOf] <;> omega
      · have HZ' := hid (HZ.out (by rw [hsb]; rfl))
        clear HY HZ
        go_wp2_with fail
        refine (isSub_any _ h0 h1 _).mono ?_
        rintro e w' ⟨rfl, rfl⟩
        go_wp2_with fail
        go_ret
        exact ⟨_, rfl, by rw [HZ'.out, decide_eq_true (by omega)]; rfl, rfl⟩
    · have hkn : k = n := by omega
      have hv : allTo (ownAt xs) xs.length = true := by rw [← HN.out, ← hkn]; exact hok.out
      have HV := hid hv
      clear hv hkn
      go_wp2_with fail
      go_ret
      exact ⟨_, rfl, by rw [HV.out]; rfl, rfl⟩
set_option maxRecDepth 100000 in
theorem containsSub_any (a : Option Addr) (n cap : Nat) (xs : List Int) (hn : n = xs.length) (hm : n ≤ 1048576) (hf : Fits .i8 xs) (w : World) (hs : SliceOf .i8 w a xs) :
    Calls Tryd.prog 115 #[.slice a n cap, .func (.func 116) #[] #[]] w fun e w' => e = .returned (.bool (!allTo (ownAt xs) xs.length)) ∧ w = w' := by
  have h := hid (indexSub_any a n cap xs hn hm hf w hs)
  clear hs hn hf
  generalize (!allTo (ownAt xs) xs.length) = b at *
  go_enter Tryd.func115, Tryd.ntmps115
  go_wp2_with fail
  refine h.out.mono ?_
  rintro e w' ⟨r, rfl, hr, rfl⟩
  have HR := hid hr
  clear hr
  go_wp2_with fail
  go_ret
  exact ⟨ret_bool HR.out, rfl⟩
set_option maxRecDepth 100000 in
set_option maxHeartbeats 1000000 in
theorem impl_ValidMeaning_cap (a : Option Addr) (n cap : Nat) (xs : List Int) (hn : n = xs.length) (hm : n ≤ 1048576) (hcap : n ≤ cap) (hf : Fits .i8 xs) (w : World) (hs : SliceOf .i8 w a xs) :
    Calls Tryd.prog 100 #[.slice a n cap] w fun e w' => e = .returned (.bool (plainH xs)) ∧ Gr w w' := by
  have h := hid (impl_ValidHoist_cap a n cap xs hn hm hcap hf w hs)
  have h2 := hid (fun (W : World) (g : Gr w W) => containsSub_any a n cap xs hn hm hf W (hs.gr g))
  have hp : plainH xs = (validH xs && !(!allTo (ownAt xs) xs.length)) := by unfold plainH; rw [Bool.not_not]
  have HP := hid hp
  clear hs hn hf hp
  generalize (!allTo (ownAt xs) xs.length) = b at *
  cases hv : validH xs
  · have HV := hid (show plainH xs = false by rw [HP.out, hv]; rfl)
    rw [hv] at h
    clear hv h2
    go_enter Tryd.func100, Tryd.ntmps100
    go_wp2_with fail
    refine h.out.mono ?_
    rintro e w' ⟨rfl, g⟩
    have G := hid g
    clear g
    go_wp2_with fail
    go_ret
    exact ⟨ret_bool HV.out.symm, G.out⟩
  · have HV := hid (show plainH xs = !b by rw [HP.out, hv]; rfl)
    rw [hv] at h
    clear hv
    go_enter Tryd.func100, Tryd.ntmps100
    go_wp2_with fail
    refine h.out.mono ?_
    rintro e w1 ⟨rfl, g⟩
    have G := hid g
    clear g
    go_wp2_with fail
    refine (h2.out _ G.out).mono ?_
    rintro e w2 ⟨rfl, rfl⟩
    go_wp2_with fail
    go_ret
    exact ⟨ret_bool HV.out.symm, G.out⟩
theorem impl_ValidMeaning_any (a : Option Addr) (xs : List Int) (hm : xs.length ≤ 1048576) (hf : Fits .i8 xs) (w : World) (hs : SliceOf .i8 w a xs) :
    Calls Tryd.prog 100 #[.slice a xs.length xs.length] w fun e w' => e = .returned (.bool (plainH xs)) ∧ Gr w w' := impl_ValidMeaning_cap a _ _ xs rfl hm (Nat.le_refl _) hf w hs
end Go.Proofs.YtfaiehjomcgjgaaDoor

/- FlagsIn, SubsIn: the functions. -/
namespace Go.Proofs.YtfaiehjomcgjgaaDoor
set_option linter.unusedVariables false
open Go.RowKit
set_option maxRecDepth 100000 in
set_option maxHeartbeats 1000000 in
theorem count_any (a : Option Addr) (n cap : Nat) (xs : List Int) (hn : n = xs.length) (hm : n ≤ 1048576) (c : Int) (w : World) (hs : SliceOf .i8 w a xs) :
    Calls Tryd.prog 120 #[.slice a n cap, .int .i8 c] w fun e w' => e = .returned (.int .i64 (occ xs c n)) ∧ w = w' := by
  have S := hid hs
  have HN := hid hn
  clear hs hn
  go_enter Tryd.func120, Tryd.ntmps120
  go_wp2
  go_loop [5, 10] (fun q i => ∃ k : Nat, k ≤ n ∧ i = .int .i64 k ∧ q = .int .i64 (occ xs c k)) (fun _ i => n - (intOf i).toNat)
  case atStart => exact ⟨0, Nat.zero_le _, rfl, rfl⟩
  case round =>
    obtain ⟨k, hk, rfl, rfl⟩ := hrel
    by_cases hlt : k < n
    · obtain ⟨b, off, rfl, hc⟩ := S.out k (by rw [← HN.out]; exact hlt)
      obtain ⟨b0, b1⟩ := occ_bd xs c k
      cases hx : (xs.getD k 0 == c)
      · have HO := hid (occ_no (h := xs) (c := c) (k := k) (by simpa using hx))
        generalize xs.getD k 0 = x at *
        generalize occ xs c k = q at *
        go_wp2
        go_round
        case rel => exact ⟨k + 1, by omega, by go_num, by rw [HO.out]⟩
        case measure => simp [intOf] <;> omega
      · have HO := hid (occ_yes (h := xs) (c := c) (k := k) (by simpa using hx))
        generalize xs.getD k 0 = x at *
        generalize occ xs c k = q at *
        go_wp2
        go_round
        case rel => exact ⟨k + 1, by omega, by go_num, by rw [HO.out]⟩
        case measure => simp [intOf] <;> omega
    · have hkn : k = n := by omega
      have HK := hid hkn
      clear hkn
      go_wp2
      go_ret
      exact ⟨ret_int (by rw [HK.out]), rfl⟩
/-- Which numbers a valid hoist has. -/
theorem validH_num {xs : List Int} (hv : validH xs = true) {k : Nat} (hk : k < xs.length) : xs.getD k 0 = -10 ∨ (-4 ≤ xs.getD k 0 ∧ xs.getD k 0 ≤ -1) ∨ (0 ≤ xs.getD k 0 ∧ xs.getD k 0 ≤ 39) := by
  have h := validH_at hv hk
  by_cases hb : xs.getD k 0 = -10
  · exact .inl hb
  · cases hs : subI (xs.getD k 0)
    · exact .inr (.inr (okAt_kind h hb hs))
    · exact .inr (.inl (subI_iff.1 hs))

theorem results_cells1 {P : Program} {fn : Func} {p : Tmp} {ty : TypeId} (h : fn.results = #[.cell p ty]) (tmps : Array Value) (w : World) (g : Nat) (cs : Array Value) (t e : TypeId) (n : Nat)
    (hp : tmps.getD p undef = .pointer (some ⟨g, 0, none⟩)) (hg : w.heap[g]? = some (.cells cs t (0, 0)))
    (hu : P.underlying ty = some (.array n e)) (hi : (P.info? ty).map (·.size) = some n) (hl : cs.size = n) :
    (results fn tmps).run P w = .ok (.agg cs) w :=
  results_cell_row h tmps w g t _ (0, 0) _ hp hg hu rfl (by rw [hl]; exact hi)

def zeros40 : List Int := List.replicate 40 0
theorem builtFlags : Tryd.prog.built 154 [] = some (kCells .i64 zeros40) := by kernel_rfl
def flagsF (xs : List Int) : List Int := if validH xs then colL 40 (fun c => (c : Int)) xs xs.length else zeros40
theorem flagsF_length (xs : List Int) : (flagsF xs).length = 40 := by
  unfold flagsF
  split
  · exact colL_length _ _ _ _
  · simp [zeros40]
theorem flagsF_yes {xs : List Int} (h : validH xs = true) : flagsF xs = colL 40 (fun c => (c : Int)) xs xs.length := by unfold flagsF; rw [if_pos h]
theorem flagsF_no {xs : List Int} (h : validH xs = false) : flagsF xs = zeros40 := by unfold flagsF; rw [if_neg (by rw [h]; simp)]
set_option maxRecDepth 100000 in
set_option maxHeartbeats 2000000 in
theorem l02Flags_any (a : Option Addr) (n cap : Nat) (xs : List Int) (hn : n = xs.length) (hv : validH xs = true) (w : World) (hs : SliceOf .i8 w a xs) :
    Calls Tryd.prog 111 #[.slice a n cap] w fun e w' => e = .returned (.agg (kCells .i64 (colL 40 (fun c => (c : Int)) xs n))) ∧ Gr w w' := by
  have S := hid hs
  have HN := hid hn
  have HV := hid hv
  have hm := (validH_len hv).2
  rw [← hn] at hm
  have HCL := hid (colL_length 40 (fun c => (c : Int)) xs n)
  have z1 := hid (heap_new (w := w.alloc (.cells (kCells .i64 zeros40) 154)) (o := (.cells (kCells .i64 zeros40) 154)) (n := w.heap.size + 1) (by simp))
  have b0 : Hid (((((w.alloc (.cells (kCells .i64 zeros40) 154)).alloc (.cells (kCells .i64 zeros40) 154)).setRow (w.heap.size + 1) (kCells .i64 zeros40))).heap[w.heap.size]? = some (.cells (kCells .i64 zeros40) 154 (0, 0))) := hid (heap_row_kept (by omega) (heap_kept (heap_new rfl)))
  have b1 : Hid (((((w.alloc (.cells (kCells .i64 zeros40) 154)).alloc (.cells (kCells .i64 zeros40) 154)).setRow (w.heap.size + 1) (kCells .i64 zeros40))).heap[w.heap.size + 1]? = some (.cells (kCells .i64 zeros40) 154 (0, 0))) := hid (heap_row_set z1.out)
  have gr : Hid (Gr w ((((w.alloc (.cells (kCells .i64 zeros40) 154)).alloc (.cells (kCells .i64 zeros40) 154)).setRow (w.heap.size + 1) (kCells .i64 zeros40)))) := hid ((((Gr.refl w).alloc _).alloc _).setRow (by omega) _)
  clear hs hn hv
  go_enter Tryd.func111, Tryd.ntmps111
  go_wp2_with (first | (refine wpList_build_to rfl 154 rfl builtFlags ?_) | (refine wpList_store_cells rfl 154 _ _ rfl _ (kCells .i64 (zeros40)) (kCells .i64 zeros40) rfl rfl _ 40 z1.out (by kernel_rfl) (by rw [kCells_size]; exact rfl) (by rw [kCells_size]; rfl) (kCells_one _ _) ?_))
  go_loopw [4] (fun i wr => ∃ k : Nat, k ≤ n ∧ i = .int .i64 k ∧ Hid (Gr w wr) ∧ Hid (wr.heap[w.heap.size]? = some (.cells (kCells .i64 zeros40) 154 (0, 0))) ∧ Hid (wr.heap[w.heap.size + 1]? = some (.cells (kCells .i64 (colL 40 (fun c => (c : Int)) xs k)) 154 (0, 0)))) (fun i _ => n - (intOf i).toNat)
  case atStart => exact ⟨0, Nat.zero_le _, rfl, gr, b0, hid (by rw [colL_zero]; exact b1.out)⟩
  case round =>
    clear gr b0 b1 z1
    obtain ⟨k, hk, rfl, gr, b0, b1⟩ := hrel
    by_cases hlt : k < n
    · have hlx : k < xs.length := by rw [← HN.out]; exact hlt
      obtain ⟨b, off, rfl, hc0⟩ := S.out k hlx
      have hc := gr.out.cell hc0
      have hnum := validH_num HV.out hlx
      clear hc0 hlx
      rcases hnum with hx | hx | hx
      · have HM := hid (colL_miss (n := 40) (f := (fun c => (c : Int))) (h := xs) (k := k) (fun c _ => by omega))
        rw [hx] at hc
        clear hx
        go_wp2_with fail
        go_roundw
        case rel => exact ⟨k + 1, by omega, by go_num, gr, b0, by rw [HM.out]; exact b1⟩
        case measure => simp [intOf] <;> omega
      · have HM := hid (colL_miss (n := 40) (f := (fun c => (c : Int))) (h := xs) (k := k) (fun c _ => by omega))
        obtain ⟨x0, x1⟩ := hx
        generalize xs.getD k 0 = x at *
        have hx0 : ¬ 0 ≤ x := by omega
        go_wp2_with fail
        go_roundw
        case rel => exact ⟨k + 1, by omega, by go_num, gr, b0, by rw [HM.out]; exact b1⟩
        case measure => simp [intOf] <;> omega
      · obtain ⟨v, hv⟩ : ∃ v : Nat, xs.getD k 0 = (v : Int) := ⟨(xs.getD k 0).toNat, by omega⟩
        have hv40 : v < 40 := by omega
        have HM := hid (colL_hit (n := 40) (f := (fun c => (c : Int))) (h := xs) (k := k) hv40 hv (fun _ _ e => by exact_mod_cast e))
        have hc1 := cell_ints b1.out (i := v) (by rw [colL_length]; exact hv40)
        have hf1 : wr.frozen? ⟨w.heap.size + 1, v, none⟩ = false := frozen_of_row _ _ _ _ _ b1.out
        obtain ⟨y0, y1⟩ := colL_bd 40 (fun c => (c : Int)) xs k v
        rw [hv] at hc
        clear hv hx
        generalize (colL 40 (fun c => (c : Int)) xs k).getD v 0 = y at *
        have hv0 : (0 : Int) ≤ v := by omega
        have hv1 : (v : Int) < 40 := by omega
        go_wp2_with fail
        go_roundw
        case rel => exact ⟨k + 1, by omega, by go_num, hid (gr.out.setCell (by dsimp only; omega) _), hid (heap_stored (by dsimp only; omega) b0.out), hid (by rw [← HM.out]; exact heap_int_set b1.out)⟩
        case measure => simp [intOf] <;> omega
    · have hkn : k = n := by omega
      have H1 : Hid (wr.heap[w.heap.size + 1]? = some (.cells (kCells .i64 (colL 40 (fun c => (c : Int)) xs n)) 154 (0, 0))) := by rw [hkn] at b1; exact b1
      clear b1 hkn
      go_wp2_with (first | (refine wpList_load_cells rfl 154 _ rfl _ rfl _ (kCells .i64 (colL 40 (fun c => (c : Int)) xs n)) _ 40 H1.out Tryd.underlying154 (by kernel_rfl) (by rw [kCells_size]; exact HCL.out) ?_) | (refine wpList_store_cells rfl 154 _ _ rfl _ (kCells .i64 (colL 40 (fun c => (c : Int)) xs n)) (kCells .i64 zeros40) rfl rfl _ 40 b0.out (by kernel_rfl) (by rw [kCells_size]; exact HCL.out) (by rw [kCells_size]; rfl) (kCells_one _ _) ?_))
      refine bodyPost_ret (results_cells1 (by rfl) _ _ _ _ _ _ _ rfl (heap_row_set b0.out) Tryd.underlying154 (by kernel_rfl) (by rw [kCells_size]; exact HCL.out)) rfl ⟨rfl, ?_⟩
      exact gr.out.setRow (by omega) _

def zeros4 : List Int := List.replicate 4 0
theorem builtSubs : Tryd.prog.built 156 [] = some (kCells .i64 zeros4) := by kernel_rfl
def subsF (xs : List Int) : List Int := if validH xs then colL 4 (fun c => -(c : Int) - 1) xs xs.length else zeros4
theorem subsF_length (xs : List Int) : (subsF xs).length = 4 := by
  unfold subsF
  split
  · exact colL_length _ _ _ _
  · simp [zeros4]
theorem subsF_yes {xs : List Int} (h : validH xs = true) : subsF xs = colL 4 (fun c => -(c : Int) - 1) xs xs.length := by unfold subsF; rw [if_pos h]
theorem subsF_no {xs : List Int} (h : validH xs = false) : subsF xs = zeros4 := by unfold subsF; rw [if_neg (by rw [h]; simp)]
set_option maxRecDepth 100000 in
set_option maxHeartbeats 2000000 in
theorem l02Subs_any (a : Option Addr) (n cap : Nat) (xs : List Int) (hn : n = xs.length) (hv : validH xs = true) (w : World) (hs : SliceOf .i8 w a xs) :
    Calls Tryd.prog 113 #[.slice a n cap] w fun e w' => e = .returned (.agg (kCells .i64 (colL 4 (fun c => -(c : Int) - 1) xs n))) ∧ Gr w w' := by
  have S := hid hs
  have HN := hid hn
  have HV := hid hv
  have hm := (validH_len hv).2
  rw [← hn] at hm
  have HCL := hid (colL_length 4 (fun c => -(c : Int) - 1) xs n)
  have z1 := hid (heap_new (w := w.alloc (.cells (kCells .i64 zeros4) 156)) (o := (.cells (kCells .i64 zeros4) 156)) (n := w.heap.size + 1) (by simp))
  have b0 : Hid (((((w.alloc (.cells (kCells .i64 zeros4) 156)).alloc (.cells (kCells .i64 zeros4) 156)).setRow (w.heap.size + 1) (kCells .i64 zeros4))).heap[w.heap.size]? = some (.cells (kCells .i64 zeros4) 156 (0, 0))) := hid (heap_row_kept (by omega) (heap_kept (heap_new rfl)))
  have b1 : Hid (((((w.alloc (.cells (kCells .i64 zeros4) 156)).alloc (.cells (kCells .i64 zeros4) 156)).setRow (w.heap.size + 1) (kCells .i64 zeros4))).heap[w.heap.size + 1]? = some (.cells (kCells .i64 zeros4) 156 (0, 0))) := hid (heap_row_set z1.out)
  have gr : Hid (Gr w ((((w.alloc (.cells (kCells .i64 zeros4) 156)).alloc (.cells (kCells .i64 zeros4) 156)).setRow (w.heap.size + 1) (kCells .i64 zeros4)))) := hid ((((Gr.refl w).alloc _).alloc _).setRow (by omega) _)
  clear hs hn hv
  go_enter Tryd.func113, Tryd.ntmps113
  go_wp2_with (first | (refine wpList_build_to rfl 156 rfl builtSubs ?_) | (refine wpList_store_cells rfl 156 _ _ rfl _ (kCells .i64 (zeros4)) (kCells .i64 zeros4) rfl rfl _ 4 z1.out (by kernel_rfl) (by rw [kCells_size]; exact rfl) (by rw [kCells_size]; rfl) (kCells_one _ _) ?_))
  go_loopw [4] (fun i wr => ∃ k : Nat, k ≤ n ∧ i = .int .i64 k ∧ Hid (Gr w wr) ∧ Hid (wr.heap[w.heap.size]? = some (.cells (kCells .i64 zeros4) 156 (0, 0))) ∧ Hid (wr.heap[w.heap.size + 1]? = some (.cells (kCells .i64 (colL 4 (fun c => -(c : Int) - 1) xs k)) 156 (0, 0)))) (fun i _ => n - (intOf i).toNat)
  case atStart => exact ⟨0, Nat.zero_le _, rfl, gr, b0, hid (by rw [colL_zero]; exact b1.out)⟩
  case round =>
    clear gr b0 b1 z1
    obtain ⟨k, hk, rfl, gr, b0, b1⟩ := hrel
    by_cases hlt : k < n
    · have hlx : k < xs.length := by rw [← HN.out]; exact hlt
      obtain ⟨b, off, rfl, hc0⟩ := S.out k hlx
      have hc := gr.out.cell hc0
      have hnum := validH_num HV.out hlx
      clear hc0 hlx
      rcases hnum with hx | hx | hx
      · have HM := hid (colL_miss (n := 4) (f := (fun c => -(c : Int) - 1)) (h := xs) (k := k) (fun c _ => by omega))
        rw [hx] at hc
        clear hx
        go_wp2_with fail
        go_roundw
        case rel => exact ⟨k + 1, by omega, by go_num, gr, b0, by rw [HM.out]; exact b1⟩
        case measure => simp [intOf] <;> omega
      · obtain ⟨v, hv⟩ : ∃ v : Nat, xs.getD k 0 = -(v : Int) - 1 := ⟨(-(xs.getD k 0)).toNat - 1, by omega⟩
        have hv4 : v < 4 := by omega
        have HM := hid (colL_hit (n := 4) (f := (fun c => -(c : Int) - 1)) (h := xs) (k := k) hv4 hv (fun _ _ e => by omega))
        have hc1 := cell_ints b1.out (i := v) (by rw [colL_length]; exact hv4)
        have hf1 : wr.frozen? ⟨w.heap.size + 1, v, none⟩ = false := frozen_of_row _ _ _ _ _ b1.out
        obtain ⟨y0, y1⟩ := colL_bd 4 (fun c => -(c : Int) - 1) xs k v
        rw [hv] at hc
        clear hv hx
        generalize (colL 4 (fun c => -(c : Int) - 1) xs k).getD v 0 = y at *
        have hv0 : (0 : Int) ≤ v := by omega
        have hv1 : (v : Int) < 4 := by omega
        have hb1 : (-(v : Int) - 1 == -10) = false := by rw [beq_eq_false_iff_ne]; omega
        have hb2 : (-(v : Int) - 1 != -10) = true := by rw [bne_iff_ne]; omega
        have hn0 : -(v : Int) - 1 < 0 := by omega
        have e1 : IntKind.i8.wrap (-(-(v : Int) - 1)) = (v : Int) + 1 := by rw [IntWalk.i8_in _ (by omega)]; omega
        have e2 : IntKind.i8.wrap ((v : Int) + 1 - 1) = (v : Int) := by rw [IntWalk.i8_in _ (by omega)]; omega
        have e3 : IntKind.i8.wrap (v : Int) = (v : Int) := IntWalk.i8_in _ (by omega)
        go_wp2_with fail
        clear e1 e2 e3
        go_roundw
        case rel => exact ⟨k + 1, by omega, by go_num, hid (gr.out.setCell (by dsimp only; omega) _), hid (heap_stored (by dsimp only; omega) b0.out), hid (by rw [← HM.out]; exact heap_int_set b1.out)⟩
        case measure => simp [intOf] <;> omega
      · have HM := hid (colL_miss (n := 4) (f := (fun c => -(c : Int) - 1)) (h := xs) (k := k) (fun c _ => by omega))
        obtain ⟨x0, x1⟩ := hx
        generalize xs.getD k 0 = x at *
        have hx0 : ¬ x < 0 := by omega
        go_wp2_with fail
        go_roundw
        case rel => exact ⟨k + 1, by omega, by go_num, gr, b0, by rw [HM.out]; exact b1⟩
        case measure => simp [intOf] <;> omega
    · have hkn : k = n := by omega
      have H1 : Hid (wr.heap[w.heap.size + 1]? = some (.cells (kCells .i64 (colL 4 (fun c => -(c : Int) - 1) xs n)) 156 (0, 0))) := by rw [hkn] at b1; exact b1
      clear b1 hkn
      go_wp2_with (first | (refine wpList_load_cells rfl 156 _ rfl _ rfl _ (kCells .i64 (colL 4 (fun c => -(c : Int) - 1) xs n)) _ 4 H1.out Tryd.underlying156 (by kernel_rfl) (by rw [kCells_size]; exact HCL.out) ?_) | (refine wpList_store_cells rfl 156 _ _ rfl _ (kCells .i64 (colL 4 (fun c => -(c : Int) - 1) xs n)) (kCells .i64 zeros4) rfl rfl _ 4 b0.out (by kernel_rfl) (by rw [kCells_size]; exact HCL.out) (by rw [kCells_size]; rfl) (kCells_one _ _) ?_))
      refine bodyPost_ret (results_cells1 (by rfl) _ _ _ _ _ _ _ rfl (heap_row_set b0.out) Tryd.underlying156 (by kernel_rfl) (by rw [kCells_size]; exact HCL.out)) rfl ⟨rfl, ?_⟩
      exact gr.out.setRow (by omega) _

end Go.Proofs.YtfaiehjomcgjgaaDoor

/- SetsFor: the functions. -/
namespace Go.Proofs.YtfaiehjomcgjgaaDoor
set_option linter.unusedVariables false
open Go.RowKit
/-- The greatest number of flags or substitutes of one kind, up to a place. -/
def setsTo (xs : List Int) (n : Nat) : Nat → Int
  | 0 => 0
  | k + 1 => if brkI (xs.getD k 0) then setsTo xs n k else if setsTo xs n k < occ xs (xs.getD k 0) n then occ xs (xs.getD k 0) n else setsTo xs n k
theorem setsTo_le {xs : List Int} {n k : Nat} {b : Int} : setsTo xs n k ≤ b ↔ 0 ≤ b ∧ ∀ i, i < k → ¬ xs.getD i 0 = -10 → occ xs (xs.getD i 0) n ≤ b := by
  induction k with
  | zero => simp [setsTo]
  | succ k ih =>
    simp only [setsTo]
    constructor
    · intro h
      cases hb : brkI (xs.getD k 0)
      · rw [hb] at h
        simp only [Bool.false_eq_true, if_false] at h
        have h1 : setsTo xs n k ≤ b ∧ occ xs (xs.getD k 0) n ≤ b := by split at h <;> omega
        obtain ⟨h2, h3⟩ := ih.1 h1.1
        refine ⟨h2, fun i hi hne => ?_⟩
        by_cases e : i = k
        · rw [e]; exact h1.2
        · exact h3 i (by omega) hne
      · rw [if_pos hb] at h
        obtain ⟨h2, h3⟩ := ih.1 h
        refine ⟨h2, fun i hi hne => ?_⟩
        by_cases e : i = k
        · rw [e] at hne; exact absurd (brkI_iff.1 hb) hne
        · exact h3 i (by omega) hne
    · rintro ⟨h1, h2⟩
      have h3 := ih.2 ⟨h1, fun i hi => h2 i (by omega)⟩
      cases hb : brkI (xs.getD k 0)
      · have h4 := h2 k (by omega) (brkI_no hb)
        simp only [Bool.false_eq_true, if_false]
        split <;> omega
      · rw [if_pos rfl]; exact h3
theorem setsTo_bd (xs : List Int) (n k : Nat) : 0 ≤ setsTo xs n k ∧ setsTo xs n k ≤ n := by
  refine ⟨(setsTo_le.1 (Int.le_refl _)).1, setsTo_le.2 ⟨by omega, fun i _ _ => (occ_bd xs _ n).2⟩⟩
def setsF (xs : List Int) : Int := if validH xs then setsTo xs xs.length xs.length else 0
theorem setsF_yes {xs : List Int} (h : validH xs = true) : setsF xs = setsTo xs xs.length xs.length := by unfold setsF; rw [if_pos h]
theorem setsF_no {xs : List Int} (h : validH xs = false) : setsF xs = 0 := by unfold setsF; rw [if_neg (by rw [h]; simp)]
def flgC (xs : List Int) (n c : Nat) : Int := occ xs (c : Int) n
def subC (xs : List Int) (n c : Nat) : Int := occ xs (-(c : Int) - 1) n
theorem sets_eq {xs : List Int} (hv : validH xs = true) : maxFrom (maxFrom 0 (flgC xs xs.length) 40) (subC xs xs.length) 4 = setsTo xs xs.length xs.length := by
  have hz : ∀ c : Int, ¬ c = -10 → occ xs c xs.length ≤ setsTo xs xs.length xs.length := by
    intro c hc
    by_cases hi : ∃ i, i < xs.length ∧ xs.getD i 0 = c
    · obtain ⟨i, hi, rfl⟩ := hi
      exact (setsTo_le.1 (Int.le_refl (setsTo xs xs.length xs.length))).2 i hi hc
    · rw [occ_zero (fun i hi' e => hi ⟨i, hi', e⟩)]
      exact (setsTo_bd xs xs.length xs.length).1
  apply Int.le_antisymm
  · refine maxFrom_le.2 ⟨maxFrom_le.2 ⟨(setsTo_bd xs xs.length xs.length).1, fun c _ => hz _ (by omega)⟩, fun c _ => hz _ (by omega)⟩
  · obtain ⟨h1, h2⟩ := (maxFrom_le (m := maxFrom 0 (flgC xs xs.length) 40) (f := subC xs xs.length) (k := 4)).1 (Int.le_refl _)
    obtain ⟨h3, h4⟩ := maxFrom_le.1 h1
    refine setsTo_le.2 ⟨h3, fun i hi hne => ?_⟩
    rcases validH_num hv hi with h | h | h
    · exact absurd h hne
    · have := h2 ((-(xs.getD i 0)).toNat - 1) (by omega)
      unfold subC at this
      rw [show -(((-(xs.getD i 0)).toNat - 1 : Nat) : Int) - 1 = xs.getD i 0 by omega] at this
      exact this
    · have := h4 (xs.getD i 0).toNat (by omega)
      unfold flgC at this
      rw [show (((xs.getD i 0).toNat : Nat) : Int) = xs.getD i 0 by omega] at this
      exact this
def maxI (a b : Int) : Int := if a < b then b else a
set_option maxRecDepth 100000 in
theorem l00Max_any (a b : Int) (w : World) :
    Calls Tryd.prog 112 #[.int .i64 a, .int .i64 b] w fun e w' => e = .returned (.int .i64 (maxI a b)) ∧ w = w' := by
  by_cases h1 : b < a
  · have HM := hid (show maxI a b = a by unfold maxI; rw [if_neg (by omega)])
    go_enter Tryd.func112, Tryd.ntmps112
    go_wp2
    go_ret
    exact ⟨ret_int HM.out.symm, rfl⟩
  · have HM := hid (show maxI a b = b by unfold maxI; split <;> omega)
    go_enter Tryd.func112, Tryd.ntmps112
    go_wp2
    go_ret
    exact ⟨ret_int HM.out.symm, rfl⟩
theorem maxFrom_step (m : Int) (f : Nat → Int) (k : Nat) : maxI (maxFrom m f k) (f k) = maxFrom m f (k + 1) := rfl
theorem maxFrom_b (m : Int) (f : Nat → Int) (k : Nat) (B : Int) (hm : 0 ≤ m ∧ m ≤ B) (hf : ∀ i, 0 ≤ f i ∧ f i ≤ B) : 0 ≤ maxFrom m f k ∧ maxFrom m f k ≤ B := maxFrom_bd hm (fun i _ => (hf i).2)
theorem colF_get {xs : List Int} {n k : Nat} (hk : k < 40) : (colL 40 (fun c => (c : Int)) xs n).getD k 0 = flgC xs n k := colL_get hk
theorem colS_get {xs : List Int} {n k : Nat} (hk : k < 4) : (colL 4 (fun c => -(c : Int) - 1) xs n).getD k 0 = subC xs n k := colL_get hk

set_option maxRecDepth 100000 in
set_option maxHeartbeats 2000000 in
theorem l02Sets_any (a : Option Addr) (n cap : Nat) (xs : List Int) (hn : n = xs.length) (hv : validH xs = true) (w : World) (hs : SliceOf .i8 w a xs) :
    Calls Tryd.prog 99 #[.slice a n cap] w fun e w' => e = .returned (.int .i64 (setsTo xs n n)) ∧ Gr w w' := by
  have h1 := hid (l02Flags_any a n cap xs hn hv w hs)
  have h2 := hid (fun (W : World) (g : Gr w W) => l02Subs_any a n cap xs hn hv W (hs.gr g))
  have HE := hid (show maxFrom (maxFrom 0 (flgC xs n) 40) (subC xs n) 4 = setsTo xs n n by rw [hn]; exact sets_eq hv)
  have hm := (validH_len hv).2
  rw [← hn] at hm
  have HF := hid (colL_length 40 (fun c => (c : Int)) xs n)
  have HS := hid (colL_length 4 (fun c => -(c : Int) - 1) xs n)
  have HB := hid (fun i => occ_bd xs i n)
  clear hs hn hv
  go_enter Tryd.func99, Tryd.ntmps99
  go_wp2_with fail
  refine h1.out.mono ?_
  rintro e w1 ⟨rfl, g⟩
  have z1 := hid (heap_new (w := w1) (o := (.cells (kCells .i64 zeros40) 154)) rfl)
  have b1 := hid (heap_row_set (cs := kCells .i64 (colL 40 (fun c => (c : Int)) xs n)) z1.out)
  have gl := ((Gr.refl w1).alloc (.cells (kCells .i64 zeros40) 154)).setRow (Nat.le_refl _) (kCells .i64 (colL 40 (fun c => (c : Int)) xs n))
  have gr := hid (g.trans gl)
  clear g gl h1
  go_wp2_with (refine wpList_store_cells rfl 154 _ _ rfl _ (kCells .i64 (colL 40 (fun c => (c : Int)) xs n)) (kCells .i64 zeros40) rfl rfl _ 40 z1.out (by kernel_rfl) (by rw [kCells_size]; exact HF.out) (by rw [kCells_size]; rfl) (kCells_one _ _) ?_)
  clear z1
  generalize hz : w1.heap.size = z1 at *
  clear hz
  go_loopw [3, 5] (fun q i wr => ∃ k : Nat, k ≤ 40 ∧ i = .int .i64 k ∧ q = .int .i64 (maxFrom 0 (flgC xs n) k) ∧ Hid (Gr w wr) ∧ Hid (wr.heap[z1]? = some (.cells (kCells .i64 (colL 40 (fun c => (c : Int)) xs n)) 154 (0, 0)))) (fun _ i _ => 40 - (intOf i).toNat)
  case atStart => exact ⟨0, Nat.zero_le _, rfl, rfl, gr, b1⟩
  case round =>
    clear gr b1
    obtain ⟨k, hk, rfl, rfl, gr, b1⟩ := hrel
    by_cases hlt : k < 40
    · have hc := cell_ints b1.out (i := k) (by rw [HF.out]; exact hlt)
      rw [colF_get hlt] at hc
      have HST := hid (maxFrom_step 0 (flgC xs n) k)
      generalize maxFrom 0 (flgC xs n) k = m at *
      generalize flgC xs n k = q at *
      go_wp2_with (go_at_call 112; refine (l00Max_any _ _ _).mono ?_; rintro e w' ⟨rfl, rfl⟩)
      go_roundw
      case rel => exact ⟨k + 1, by omega, by go_num, by rw [HST.out], gr, b1⟩
      case measure => simp [intOf] <;> omega
    · have hk40 : k = 40 := by omega
      have hmm : maxFrom 0 (flgC xs n) k = maxFrom 0 (flgC xs n) 40 := by rw [hk40]
      rw [hmm]
      clear hmm hk40
      go_wp2_with fail
      refine (h2.out _ gr.out).mono ?_
      rintro e w2 ⟨rfl, g⟩
      have z2 := hid (heap_new (w := w2) (o := (.cells (kCells .i64 zeros4) 156)) rfl)
      have b2 := hid (heap_row_set (cs := kCells .i64 (colL 4 (fun c => -(c : Int) - 1) xs n)) z2.out)
      have gl := ((Gr.refl w2).alloc (.cells (kCells .i64 zeros4) 156)).setRow (Nat.le_refl _) (kCells .i64 (colL 4 (fun c => -(c : Int) - 1) xs n))
      have gr2 := hid ((gr.out.trans g).trans gl)
      clear g gl h2 b1 gr hlt hk
      generalize hm40 : maxFrom 0 (flgC xs n) 40 = m40 at *
      clear hm40
      go_wp2_with (refine wpList_store_cells rfl 156 _ _ rfl _ (kCells .i64 (colL 4 (fun c => -(c : Int) - 1) xs n)) (kCells .i64 zeros4) rfl rfl _ 4 z2.out (by kernel_rfl) (by rw [kCells_size]; exact HS.out) (by rw [kCells_size]; rfl) (kCells_one _ _) ?_)
      clear z2
      generalize hz : w2.heap.size = z2 at *
      clear hz
      go_loopw [3, 7] (fun q i wr => ∃ k : Nat, k ≤ 4 ∧ i = .int .i64 k ∧ q = .int .i64 (maxFrom m40 (subC xs n) k) ∧ Hid (Gr w wr) ∧ Hid (wr.heap[z2]? = some (.cells (kCells .i64 (colL 4 (fun c => -(c : Int) - 1) xs n)) 156 (0, 0)))) (fun _ i _ => 4 - (intOf i).toNat)
      case atStart => exact ⟨0, Nat.zero_le _, rfl, rfl, gr2, b2⟩
      case round =>
        clear gr2 b2
        obtain ⟨j, hj, rfl, rfl, gr2, b2⟩ := hrel
        by_cases hlt : j < 4
        · have hc := cell_ints b2.out (i := j) (by rw [HS.out]; exact hlt)
          rw [colS_get hlt] at hc
          have HST := hid (maxFrom_step m40 (subC xs n) j)
          generalize maxFrom m40 (subC xs n) j = m at *
          generalize subC xs n j = q at *
          go_wp2_with (go_at_call 112; refine (l00Max_any _ _ _).mono ?_; rintro e w' ⟨rfl, rfl⟩)
          go_roundw
          case rel => exact ⟨j + 1, by omega, by go_num, by rw [HST.out], gr2, b2⟩
          case measure => simp [intOf] <;> omega
        · have hj4 : j = 4 := by omega
          have hmm : maxFrom m40 (subC xs n) j = setsTo xs n n := by rw [hj4]; exact HE.out
          rw [hmm]
          clear hmm hj4
          go_wp2_with fail
          go_ret
          exact ⟨rfl, gr2.out⟩
end Go.Proofs.YtfaiehjomcgjgaaDoor
