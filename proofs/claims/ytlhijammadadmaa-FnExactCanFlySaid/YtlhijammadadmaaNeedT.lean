/- What hoists need: the model's functions over lists. -/
import Derived.Test.YtlhijammadadmaaNeedS
import Derived.Test.YtlhijammadadmaaLockI
namespace Go.Proofs.Ytlhijammadadmaa
set_option linter.unusedVariables false
open Go.RowKit
abbrev lkrZ : Obj := .cells (kCells .i16 zeros44) 28
theorem SlicesX.at_ {w : World} {a : Option Addr} {xss : List (List Int)} (h : SlicesX w a xss) {i : Nat} (hi : i < xss.length) : ∃ b off a', a = some ⟨b, off, none⟩ ∧ w.cell? ⟨b, off + i, none⟩ = some (.slice a' (xss.getD i []).length (xss.getD i []).length) ∧ SliceOf .i8 w a' (xss.getD i []) := h i hi
/-- A slice that can be read lies in old blocks. -/
theorem SliceOf.old {k : IntKind} {w : World} {a : Option Addr} {xs : List Int} (h : SliceOf k w a xs) (h0 : 0 < xs.length) {b : Nat} (hb : w.heap.size ≤ b) : ∀ x off s, a = some ⟨x, off, s⟩ → x ≠ b := by
  intro x off s e
  obtain ⟨b0, o0, e0, hc⟩ := h 0 h0
  rw [e] at e0
  simp only [Option.some.injEq, Addr.mk.injEq] at e0
  have := World.block_lt_of_cell? w _ hc
  dsimp only at this
  omega
set_option maxHeartbeats 4000000 in
set_option maxRecDepth 100000 in
theorem l04Need_any (a : Option Addr) (cap n : Nat) (hss : List (List Int)) (hl : n ≤ hss.length) (h6 : n ≤ 6) (hv : ∀ i, i < n → validH (hss.getD i []) = true) (w : World) (hs : SlicesX w a hss) :
    Calls Try.prog 19 #[.slice a n cap] w fun e w' => e = .returned (.agg (kCells .i16 (needTo hss n))) ∧ Gr w w' := by
  have HS := hid hs
  have HL := hid hl
  have HLN := hid (needTo_length hss)
  have HST := hid (fun i => show needTo hss (i + 1) = addTo (needTo hss i) (hss.getD i []) (hss.getD i []).length from rfl)
  have HAD := hid (fun i (hi : i < n) (a' : Option Addr) (b : Nat) (T : TypeId) (V : World) (hb : V.heap[b]? = some (.cells (kCells .i16 (needTo hss i)) T (0, 0))) (hr : SliceOf .i8 V a' (hss.getD i [])) (hne : ∀ x off s, a' = some ⟨x, off, s⟩ → x ≠ b) =>
    l04Add_any b T (needTo hss i) (hss.getD i []) (needTo_length hss i) (fun q => by have := needTo_bd hv i (by omega) q; omega) a' (hss.getD i []).length (hss.getD i []).length rfl (validH_len (hv i hi)).2 (fun j hj => valid_nums (hv i hi) j hj) V hb hr hne)
  have HPOS := hid (fun i (hi : i < n) => (validH_len (hv i hi)).1)
  have b0 : Hid (((w.alloc lkrZ).alloc lkrZ).heap[w.heap.size + 1]? = some lkrZ) := hid (heap_new (by simp))
  have n0 : Hid (((w.alloc lkrZ).alloc lkrZ).heap[w.heap.size]? = some lkrZ) := hid (heap_kept (heap_new rfl))
  have g0 : Hid (Gr w ((w.alloc lkrZ).alloc lkrZ)) := hid (((Gr.refl w).alloc _).alloc _)
  clear hs hl hv
  go_enter Try.func19, Try.ntmps19
  go_wp2_with (first | (refine wpList_build_to rfl 28 rfl built_locker ?_) | (refine wpList_store_cells rfl 28 _ _ rfl _ (kCells .i16 zeros44) (kCells .i16 zeros44) rfl rfl _ 44 b0.out (by kernel_rfl) (by rw [kCells_size]; rfl) rfl (kCells_one _ _) ?_; generalize hW : World.setRow _ _ (kCells .i16 zeros44) = W0))
  have B0 : Hid (W0.heap[w.heap.size]? = some lkrZ) := hid (by rw [← hW]; exact heap_row_kept (by omega) n0.out)
  have B1 : Hid (W0.heap[w.heap.size + 1]? = some (.cells (kCells .i16 (needTo hss 0)) 28 (0, 0))) := hid (by rw [← hW]; exact heap_row_set b0.out)
  have G0 : Hid (Gr w W0) := hid (by rw [← hW]; exact g0.out.setRow (by omega) _)
  clear hW b0 n0 g0
  go_loopw [4] (fun i wr => ∃ k : Nat, k ≤ n ∧ i = .int .i64 k ∧ Hid (wr.heap[w.heap.size]? = some lkrZ ∧ wr.heap[w.heap.size + 1]? = some (.cells (kCells .i16 (needTo hss k)) 28 (0, 0))) ∧ Hid (Gr w wr)) (fun i _ => n - (intOf i).toNat)
  case atStart => exact ⟨0, Nat.zero_le _, rfl, hid ⟨B0.out, B1.out⟩, G0⟩
  case round =>
    obtain ⟨k, hk, rfl, hb, gr⟩ := hrel
    by_cases hlt : k < n
    · obtain ⟨b, off, a', rfl, hc, -⟩ := (HS.out.gr gr.out).at_ (i := k) (by have := HL.out; omega)
      obtain ⟨b2, off2, a2, e2, hc2, hsl0⟩ := HS.out.at_ (i := k) (by have := HL.out; omega)
      simp only [Option.some.injEq, Addr.mk.injEq, and_true] at e2
      obtain ⟨rfl, rfl⟩ := e2
      have hcc := gr.out.cell hc2
      rw [hc] at hcc
      simp only [Option.some.injEq, Value.slice.injEq, and_true] at hcc
      subst hcc
      have HADD := hid (HAD.out k hlt a' (w.heap.size + 1) _ wr hb.out.2 (hsl0.gr gr.out) (hsl0.old (HPOS.out k hlt) (by omega)))
      have HSTK := hid (HST.out k)
      rw [← HSTK.out] at HADD
      have hlt1 : w.heap.size < wr.heap.size := lt_of_heap hb.out.1
      clear hsl0 hc2 HAD HST HPOS HSTK
      generalize (hss.getD k []).length = m at *
      go_wp2_with fail
      refine HADD.out.mono ?_
      rintro e w1 ⟨rfl, h1, g1⟩
      have H1 := hid h1
      have H0 := hid ((g1.block w.heap.size hlt1 (fun e => by have := Option.some.inj e; omega)).trans hb.out.1)
      have G1 := hid (gr.out.by_ g1 (fun k e => by cases e; omega))
      clear h1 g1
      go_wp2_with fail
      go_roundw
      case rel => exact ⟨k + 1, by omega, by go_num, hid ⟨H0.out, H1.out⟩, G1⟩
      case measure => simp [intOf] <;> omega
    · have hkn : k = n := by omega
      have HB0 := hid hb.out.1
      have HB1 := hid hb.out.2
      have HK := hid hkn
      have LK := hid (HLN.out k)
      clear hb hkn
      go_wp2_with (first | (refine wpList_load_struct rfl 28 _ rfl _ rfl _ (kCells .i16 (needTo hss k)) _ HB1.out Try.underlying28 rfl (by rw [kCells_size, LK.out]; kernel_rfl) ?_) | (refine wpList_store_cells rfl 28 _ _ rfl _ (kCells .i16 (needTo hss k)) (kCells .i16 zeros44) rfl rfl _ 44 HB0.out (by kernel_rfl) (by rw [kCells_size, LK.out]) rfl (kCells_one _ _) ?_))
      refine bodyPost_ret (results_cell_row (by rfl) _ _ _ _ _ _ _ rfl (heap_row_set HB0.out) Try.underlying28 rfl (by rw [kCells_size, LK.out]; kernel_rfl)) rfl ⟨?_, ?_⟩
      · rw [HK.out]
      · exact gr.out.setRow (Nat.le_refl _) _
set_option maxRecDepth 100000 in
set_option maxHeartbeats 1000000 in
theorem l04Hoists_any (a : Option Addr) (cap n : Nat) (hss : List (List Int)) (hl : n = hss.length) (hn : n ≤ 1048576) (hz : ∀ i, i < n → (hss.getD i []).length ≤ 1048576) (hf : ∀ i, Fits .i8 (hss.getD i [])) (w : World) (hs : SlicesX w a hss) :
    Calls Try.prog 18 #[.slice a n cap] w fun e w' => e = .returned (.int .i64 (hosC hss)) ∧ Gr w w' := by
  have HS := hid hs
  have HL := hid hl
  have HV1 := hid (fun V i (hi : i < n) a' (hr : SliceOf .i8 V a' (hss.getD i [])) => l02Ok_any a' (hss.getD i []).length (hss.getD i []).length (hss.getD i []) rfl (hz i hi) (hf i) V hr)
  have H1 := hid (fun i (hi : i < n) (h : hvAtN hss i = false) => hosC_at (show i < hss.length by omega) h)
  have H2 := hid (fun (h : allTo (hvAtN hss) n = true) (h2 : 6 < n) => hosC_long (hss := hss) (by rw [← hl]; exact h) (by rw [← hl]; exact h2))
  have H3 := hid (fun (h : allTo (hvAtN hss) n = true) (h2 : ¬ 6 < n) => hosC_ok (hss := hss) (by rw [← hl]; exact h) (by rw [← hl]; exact h2))
  have HE := hid (fun i => show hvAtN hss i = validH (hss.getD i []) from rfl)
  generalize hosC hss = c at *
  clear hs hl hz hf
  go_enter Try.func18, Try.ntmps18
  go_wp2_with fail
  go_loopw [3] (fun i wr => ∃ k : Nat, k ≤ n ∧ i = .int .i64 k ∧ Hid (allTo (hvAtN hss) k = true) ∧ Hid (Gr w wr)) (fun i _ => n - (intOf i).toNat)
  case atStart => exact ⟨0, Nat.zero_le _, rfl, hid rfl, hid (Gr.refl _)⟩
  case round =>
    obtain ⟨k, hk, rfl, hok, gr⟩ := hrel
    by_cases hlt : k < n
    · obtain ⟨b, off, a', rfl, hc, hsl⟩ := (HS.out.gr gr.out) k (by rw [← HL.out]; exact hlt)
      have HVK := hid (HV1.out wr k hlt a' hsl)
      have HEK := hid (HE.out k)
      have HST := hid (fun (h : hvAtN hss k = true) => allTo_step hok.out h)
      have H1K := hid (H1.out k hlt)
      rw [← HEK.out] at HVK
      clear hsl HV1 H1 H2 H3 HE HEK
      generalize (hss.getD k []).length = m at *
      cases hv : hvAtN hss k with
      | false =>
        rw [hv] at HVK
        have HC := hid (H1K.out hv)
        clear hv HST H1K
        go_wp2_with fail
        refine HVK.out.mono ?_
        rintro e w1 ⟨rfl, g1⟩
        have G1 := hid (gr.out.trans g1)
        clear g1
        go_wp2_with fail
        go_ret
        exact ⟨ret_int HC.out.symm, G1.out⟩
      | true =>
        rw [hv] at HVK
        have HY := hid (HST.out hv)
        clear hv HST H1K
        go_wp2_with fail
        refine HVK.out.mono ?_
        rintro e w1 ⟨rfl, g1⟩
        have G1 := hid (gr.out.trans g1)
        clear g1
        go_wp2_with fail
        go_roundw
        case rel => exact ⟨k + 1, by omega, by go_num, HY, G1⟩
        case measure => simp [intOf]; omega
    · have hall : allTo (hvAtN hss) n = true := by rw [show n = k by omega]; exact hok.out
      by_cases h6 : 6 < n
      · have HC := hid (H2.out hall h6)
        clear hall H1 H2 H3
        go_wp2_with fail
        go_ret
        exact ⟨ret_int HC.out.symm, gr.out⟩
      · have HC := hid (H3.out hall h6)
        clear hall H1 H2 H3
        go_wp2_with fail
        go_ret
        exact ⟨ret_int HC.out.symm, gr.out⟩
set_option maxRecDepth 100000 in
theorem l04Flown_any (b : Nat) (t : TypeId) (xs : List Int) (hx : xs.length = 44) (fx : Fits .i16 xs) (a : Option Addr) (cap n : Nat) (hss : List (List Int)) (hl : n = hss.length) (hn : n ≤ 1048576) (hz : ∀ i, i < n → (hss.getD i []).length ≤ 1048576) (hf : ∀ i, Fits .i8 (hss.getD i [])) (w : World) (hb : w.heap[b]? = some (.cells (kCells .i16 xs) t (0, 0))) (hs : SlicesX w a hss) :
    Calls Try.prog 29 #[.pointer (some ⟨b, 0, none⟩), .slice a n cap] w fun e w' => e = .returned (.int .i64 (flC xs hss)) ∧ Gr w w' := by
  have HK := hid (l04Ok_any b t xs hx fx w hb)
  have HH := hid (l04Hoists_any a cap n hss hl hn hz hf w hs)
  clear hx fx hl hz hf hb hs
  cases h : lockB xs with
  | false =>
    rw [fl_no h]
    rw [h] at HK
    go_enter Try.func29, Try.ntmps29
    go_wp2_with fail
    refine HK.out.mono ?_
    rintro e w1 ⟨rfl, rfl⟩
    go_wp2_with fail
    go_ret
    exact ⟨rfl, Gr.refl _⟩
  | true =>
    rw [fl_yes h]
    rw [h] at HK
    clear h
    generalize hosC hss = c at *
    go_enter Try.func29, Try.ntmps29
    go_wp2_with fail
    refine HK.out.mono ?_
    rintro e w1 ⟨rfl, rfl⟩
    go_wp2_with fail
    refine HH.out.mono ?_
    rintro e w2 ⟨rfl, g2⟩
    have G2 := hid g2
    clear g2
    go_wp2_with fail
    go_ret
    exact ⟨rfl, G2.out⟩
end Go.Proofs.Ytlhijammadadmaa
