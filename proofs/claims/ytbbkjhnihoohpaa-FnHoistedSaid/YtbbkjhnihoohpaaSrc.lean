/- What is drawn from bytes. -/
import Derived.Test.YtbbkjhnihoohpaaLook
namespace Go.Proofs.Ytbbkjhnihoohpaa
open Go.RowKit
/-- The source lies in block b, and has been asked q times at most. -/
def Src (w : World) (b : Nat) (ca : Option Addr) (cn cc q : Nat) : Prop :=
  ∃ (i : Nat) (sd : Int), i ≤ q ∧ w.heap[b]? = some (.cells #[.slice ca cn cc, .int .i64 i, .int .u64 sd] 64 (0, 0))
set_option maxRecDepth 100000 in
set_option maxHeartbeats 1000000 in
theorem l00From_any (ca : Option Addr) (cn cc : Nat) (w : World) :
    Calls Try.prog 17 #[.slice ca cn cc] w fun e w' => e = .returned (.pointer (some ⟨w.heap.size, 0, none⟩)) ∧ Src w' w.heap.size ca cn cc 0 ∧ Gr w w' := by
  go_enter Try.func17, Try.ntmps17
  go_wp2_with fail
  go_ret
  exact ⟨rfl, ⟨0, 0, Nat.le_refl _, heap_new rfl⟩, (Gr.refl w).alloc _⟩
theorem fits_u8 {bytes : List Int} (h : Fits .u8 bytes) (i : Nat) : ∃ x : Nat, bytes.getD i 0 = (x : Int) ∧ x ≤ 255 := by
  by_cases hi : i < bytes.length
  · have h1 := h _ (List.getElem_mem hi)
    rw [List.getD_eq_getElem?_getD, List.getElem?_eq_getElem hi]
    simp only [Option.getD_some]
    generalize bytes[i] = y at *
    have h2 : 0 ≤ y ∧ y ≤ 255 := by
      simpa [Lit.wf, IntKind.min, IntKind.max, IntKind.signed, IntKind.bits] using h1
    exact ⟨y.toNat, by omega, by omega⟩
  · exact ⟨0, by rw [List.getD_eq_getElem?_getD, List.getElem?_eq_none (by omega)]; rfl, by omega⟩
theorem low_byte (s : Int) (h0 : 0 ≤ s) (h1 : s < 18446744073709551616) : ∃ y : Nat, wrap64 (bits .and .u64 (s / 1099511627776) 255) = (y : Int) ∧ y ≤ 255 := by
  have h2 : 0 ≤ s / 1099511627776 := by omega
  have h3 : s / 1099511627776 < 18446744073709551616 := by omega
  rw [u64_and _ _ h2 h3 (by omega) (by omega)]
  generalize (s / 1099511627776).toNat = n
  have h4 : n &&& (255 : Int).toNat ≤ 255 := Nat.and_le_right
  refine ⟨n &&& (255 : Int).toNat, ?_, h4⟩
  exact IntWalk.wrap64_in _ (by omega)
/-- The source behind one draw. -/
theorem src_set (w : World) (b : Nat) (v0 v1 v2 n1 : Value) (x : Int) (t : Nat) (h : w.heap[b]? = some (.cells #[v0, v1, v2] t (0, 0))) :
    ∃ sd', (0 ≤ sd' ∧ sd' < 18446744073709551616) ∧ ((w.setCell ⟨b, 1, none⟩ n1).setCell ⟨b, 2, none⟩ (.int .u64 (IntKind.u64.wrap x))).heap[b]? = some (.cells #[v0, n1, .int .u64 sd'] t (0, 0)) := by
  refine ⟨IntKind.u64.wrap x, ?_, ?_⟩
  · rw [IntKind.wrap_u64]
    omega
  · have h1 : (w.setCell ⟨b, 1, none⟩ n1).heap[b]? = some (.cells #[v0, n1, v2] t (0, 0)) := (heap_setCell_same w b 1 _ _ n1 h).trans rfl
    exact (heap_setCell_same _ b 2 _ _ (.int .u64 (IntKind.u64.wrap x)) h1).trans rfl
set_option maxRecDepth 100000 in
set_option maxHeartbeats 1000000 in
theorem next_any (b : Nat) (ca : Option Addr) (cn cc q : Nat) (bytes : List Int) (hn : cn = bytes.length) (hm : cn ≤ 1048576) (hf : Fits .u8 bytes) (hq : q ≤ 1000000) (w : World) (hs : SliceOf .u8 w ca bytes) (hb : 0 < cn → ∀ a, ca = some a → a.block ≠ b) (hS : Src w b ca cn cc q) :
    Calls Try.prog 46 #[.pointer (some ⟨b, 0, none⟩)] w fun e w' => (∃ x : Nat, x ≤ 255 ∧ e = .returned (.int .i64 x)) ∧ Src w' b ca cn cc (q + 1) ∧ Mt b w w' := by
  obtain ⟨i, sd, hi, hB⟩ := hS
  have c0 : w.cell? ⟨b, 0, none⟩ = some (.slice ca cn cc) := by rw [cell_of_row _ _ _ _ _ _ hB]; rfl
  have c1 : w.cell? ⟨b, 1, none⟩ = some (.int .i64 i) := by rw [cell_of_row _ _ _ _ _ _ hB]; rfl
  have c2 : w.cell? ⟨b, 2, none⟩ = some (.int .u64 sd) := by rw [cell_of_row _ _ _ _ _ _ hB]; rfl
  have f1 : w.frozen? ⟨b, 1, none⟩ = false := frozen_of_row _ _ _ _ _ hB
  have f2 : w.frozen? ⟨b, 2, none⟩ = false := frozen_of_row _ _ _ _ _ hB
  have HB := hid hB
  clear hB
  have e1 : IntKind.i64.wrap ((i : Int) + 1) = (i : Int) + 1 := IntWalk.i64_in _ (by omega)
  by_cases hlt : i < cn
  · obtain ⟨b1, o1, rfl, hc⟩ := hs i (by omega)
    have hbne := hb (by omega) _ rfl
    obtain ⟨x, hx, hx9⟩ := fits_u8 hf i
    rw [hx] at hc
    have hb0 : (0 : Int) ≤ (i : Int) := by omega
    have hb1 : (i : Int) < (cn : Int) := by omega
    have hb2 : (i : Int) + 1 ≤ (cn : Int) := by omega
    clear hs hb hf hx
    go_enter Try.func46, Try.ntmps46
    go_wp2_with fail
    go_quiet (fail)
    go_wp2_with fail
    go_quiet (fail)
    go_wp2_with fail
    generalize hW5 : World.setCell _ _ _ = W5
    have h5 : ∃ sd', (0 ≤ sd' ∧ sd' < 18446744073709551616) ∧ W5.heap[b]? = some (.cells #[.slice (some ⟨b1, o1, none⟩) cn cc, .int .i64 ((i : Int) + 1), .int .u64 sd'] 64 (0, 0)) := by
      rw [← hW5]
      exact src_set _ _ _ _ _ _ _ _ HB.out
    have MT : Hid (Mt b w W5) := hid (by rw [← hW5]; exact ((((Mt.refl b w).drewN _).set 1 _).set 2 _))
    obtain ⟨sd', hsd, h5⟩ := h5
    have H5 := hid h5
    have d0 : W5.cell? ⟨b, 0, none⟩ = some (.slice (some ⟨b1, o1, none⟩) cn cc) := by rw [cell_of_row _ _ _ _ _ _ h5]; rfl
    have d1 : W5.cell? ⟨b, 1, none⟩ = some (.int .i64 ((i : Int) + 1)) := by rw [cell_of_row _ _ _ _ _ _ h5]; rfl
    clear hW5 h5 c0 c1 c2 f1 f2 hc HB
    go_quiet (fail)
    go_wp2_with fail
    go_ret
    exact ⟨⟨x, hx9, rfl⟩, ⟨i + 1, sd', by omega, by rw [show ((i + 1 : Nat) : Int) = (i : Int) + 1 by omega]; exact H5.out⟩, MT.out.drewN _⟩
  · clear hs hb hf
    have hb1 : ¬ (i : Int) < (cn : Int) := by omega
    have hb2 : ¬ (i : Int) + 1 ≤ (cn : Int) := by omega
    go_enter Try.func46, Try.ntmps46
    go_wp2_with fail
    go_quiet (fail)
    go_wp2_with fail
    generalize hW5 : World.setCell _ _ _ = W5
    have h5 : ∃ sd', (0 ≤ sd' ∧ sd' < 18446744073709551616) ∧ W5.heap[b]? = some (.cells #[.slice ca cn cc, .int .i64 ((i : Int) + 1), .int .u64 sd'] 64 (0, 0)) := by
      rw [← hW5]
      exact src_set _ _ _ _ _ _ _ _ HB.out
    have MT : Hid (Mt b w W5) := hid (by rw [← hW5]; exact ((((Mt.refl b w).drewN _).set 1 _).set 2 _))
    obtain ⟨sd', hsd, h5⟩ := h5
    have H5 := hid h5
    have d0 : W5.cell? ⟨b, 0, none⟩ = some (.slice ca cn cc) := by rw [cell_of_row _ _ _ _ _ _ h5]; rfl
    have d1 : W5.cell? ⟨b, 1, none⟩ = some (.int .i64 ((i : Int) + 1)) := by rw [cell_of_row _ _ _ _ _ _ h5]; rfl
    have d2 : W5.cell? ⟨b, 2, none⟩ = some (.int .u64 sd') := by rw [cell_of_row _ _ _ _ _ _ h5]; rfl
    clear hW5 h5 c0 c1 c2 f1 f2 HB
    go_quiet (fail)
    go_wp2_with fail
    obtain ⟨y, hy, hy9⟩ : ∃ y : Nat, wrap64 (bits .and .u64 (sd' / 1099511627776) 255) = (y : Int) ∧ y ≤ 255 := low_byte sd' hsd.1 hsd.2
    rw [hy]
    go_ret
    exact ⟨⟨y, hy9, rfl⟩, ⟨i + 1, sd', by omega, by rw [show ((i + 1 : Nat) : Int) = (i : Int) + 1 by omega]; exact H5.out⟩, MT.out.drewN _⟩
set_option maxRecDepth 100000 in
set_option maxHeartbeats 1000000 in
theorem pick_any (b : Nat) (ca : Option Addr) (cn cc q : Nat) (bytes : List Int) (hn : cn = bytes.length) (hm : cn ≤ 1048576) (hf : Fits .u8 bytes) (hq : q ≤ 900000) (w : World) (hs : SliceOf .u8 w ca bytes) (hb : 0 < cn → ∀ a, ca = some a → a.block ≠ b) (hS : Src w b ca cn cc q) (n : Nat) (h0 : 0 < n) (h9 : n ≤ 200) :
    Calls Try.prog 28 #[.pointer (some ⟨b, 0, none⟩), .int .i64 n] w fun e w' => (∃ x : Nat, x < n ∧ e = .returned (.int .i64 x)) ∧ Src w' b ca cn cc (q + 1) ∧ Mt b w w' := by
  by_cases hn1 : n = 1
  · subst hn1
    go_enter Try.func28, Try.ntmps28
    go_wp2_with fail
    go_ret
    refine ⟨⟨0, by omega, rfl⟩, ?_, Mt.refl b w⟩
    obtain ⟨i, sd, hi, hB⟩ := hS
    exact ⟨i, sd, by omega, hB⟩
  · have N := next_any b ca cn cc q bytes hn hm hf (by omega) w hs hb hS
    have t1 : ¬ (n : Int) ≤ 1 := by omega
    have t2 : ¬ (n : Int) > 200 := by omega
    clear hs hb hf hS
    go_enter Try.func28, Try.ntmps28
    go_wp2_with fail
    refine N.mono ?_
    rintro e w1 ⟨⟨x, hx, rfl⟩, S1, M1⟩
    have HS1 := hid S1
    have HM1 := hid M1
    clear N S1 M1
    have hz : ¬ (n : Int) = 0 := by omega
    have hz' : ((n : Int) == 0) = false := by simpa using hz
    have hxm := Nat.mod_lt x h0
    go_wp2_with fail
    go_ret
    exact ⟨⟨x % n, hxm, ret_int (Int.natCast_emod x n).symm⟩, HS1.out, HM1.out⟩
set_option maxRecDepth 100000 in
theorem one_any (b : Nat) (ca : Option Addr) (cn cc q : Nat) (bytes : List Int) (hn : cn = bytes.length) (hm : cn ≤ 1048576) (hf : Fits .u8 bytes) (hq : q ≤ 900000) (w : World) (hs : SliceOf .u8 w ca bytes) (hb : 0 < cn → ∀ a, ca = some a → a.block ≠ b) (hS : Src w b ca cn cc q) (n : Nat) (h0 : 0 < n) (h9 : n ≤ 200) :
    Calls Try.prog 30 #[.pointer (some ⟨b, 0, none⟩), .int .i64 n] w fun e w' => (∃ v : Bool, e = .returned (.bool v)) ∧ Src w' b ca cn cc (q + 1) ∧ Mt b w w' := by
  have N := pick_any b ca cn cc q bytes hn hm hf hq w hs hb hS n h0 h9
  clear hs hb hf hS
  go_enter Try.func30, Try.ntmps30
  go_wp2_with fail
  refine N.mono ?_
  rintro e w1 ⟨⟨x, hx, rfl⟩, S1, M1⟩
  have HS1 := hid S1
  have HM1 := hid M1
  clear N S1 M1
  go_wp2_with fail
  go_ret
  exact ⟨⟨_, rfl⟩, HS1.out, HM1.out⟩
set_option maxRecDepth 100000 in
set_option maxHeartbeats 1000000 in
theorem among_any (b : Nat) (ca : Option Addr) (cn cc q : Nat) (bytes : List Int) (hn : cn = bytes.length) (hm : cn ≤ 1048576) (hf : Fits .u8 bytes) (hq : q ≤ 900000) (w : World) (hs : SliceOf .u8 w ca bytes) (hb : 0 < cn → ∀ a, ca = some a → a.block ≠ b) (hS : Src w b ca cn cc q) (xs : List Int) (la : Nat) (lo lc : Nat) (h0 : 0 < xs.length) (h9 : xs.length ≤ 200) (hL : SliceOf .i64 w (some ⟨la, lo, none⟩) xs) (hla : la ≠ b) (_hlw : la < w.heap.size) :
    Calls Try.prog 29 #[.pointer (some ⟨b, 0, none⟩), .slice (some ⟨la, lo, none⟩) xs.length lc] w fun e w' => (∃ k : Nat, k < xs.length ∧ e = .returned (.int .i64 (xs.getD k 0))) ∧ Src w' b ca cn cc (q + 1) ∧ Mt b w w' := by
  have N := pick_any b ca cn cc q bytes hn hm hf hq w hs hb hS xs.length h0 h9
  have HL := hid hL
  clear hs hb hf hS hL
  go_enter Try.func29, Try.ntmps29
  go_wp2_with fail
  refine N.mono ?_
  rintro e w1 ⟨⟨k, hk, rfl⟩, S1, M1⟩
  have HS1 := hid S1
  have HM1 := hid M1
  obtain ⟨b1, o1, eb, hc⟩ := HL.out k hk
  cases eb
  have hc1 := (M1.cell hc hla)
  have hb0 : (0 : Int) ≤ (k : Int) := by omega
  have hb1 : (k : Int) < (xs.length : Int) := by omega
  clear N S1 M1 hc
  go_wp2_with fail
  go_ret
  exact ⟨⟨k, hk, ret_int (by simp [List.getD_eq_getElem?_getD, hk])⟩, HS1.out, HM1.out⟩
end Go.Proofs.Ytbbkjhnihoohpaa
