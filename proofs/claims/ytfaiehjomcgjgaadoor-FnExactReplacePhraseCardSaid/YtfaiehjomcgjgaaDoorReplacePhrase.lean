/- ReplacePhrase: both functions. -/
import Derived.Test.YtfaiehjomcgjgaaDoorDropPhrase
namespace Go.Proofs.YtfaiehjomcgjgaaDoor
set_option linter.unusedVariables false
open Go.RowKit
def replC (k l s : Int) (ss : List ByteArray) (i : Int) (x : ByteArray) : Int := if thereC k l s ss i = 0 then newC k l s ss x else thereC k l s ss i
def replL (k l s : Int) (ss : List ByteArray) (i : Int) (x : ByteArray) : List ByteArray := if replC k l s ss i x = 0 then ss.set i.toNat x else []
theorem replL_no {k l s : Int} {ss : List ByteArray} {i : Int} {x : ByteArray} (h : ¬ replC k l s ss i x = 0) : replL k l s ss i x = [] := by unfold replL; rw [if_neg h]
theorem replL_at {k l s : Int} {ss : List ByteArray} {j : Nat} {x : ByteArray} (h : replC k l s ss (j : Int) x = 0) : replL k l s ss (j : Int) x = ss.set j x := by unfold replL; rw [if_pos h, Int.toNat_natCast]
theorem replC_no {k l s : Int} {ss : List ByteArray} {i : Int} {x : ByteArray} (h : ¬ thereC k l s ss i = 0) : replC k l s ss i x = thereC k l s ss i := by unfold replC; rw [if_neg h]
theorem replC_yes {k l s : Int} {ss : List ByteArray} {i : Int} {x : ByteArray} (h : thereC k l s ss i = 0) : replC k l s ss i x = newC k l s ss x := by unfold replC; rw [if_pos h]
theorem replL_len {k l s : Int} {ss : List ByteArray} {i : Int} {x : ByteArray} (hn : ss.length ≤ 1048576) : (replL k l s ss i x).length ≤ 1048576 := by
  unfold replL
  split
  · rw [List.length_set]; exact hn
  · simp
set_option maxRecDepth 100000 in
set_option maxHeartbeats 2000000 in
theorem spec_ReplacePhrase_any (k l s : Int) (hw : Wf3 k l s) (g n : Nat) (ss : List ByteArray) (hl : n = ss.length) (hn : n ≤ 1048576) (hz : SizesOk ss) (i : Int) (_hi : (Lit.int .i64 i).wf = true) (x : ByteArray) (hx : x.size ≤ 9223372036854775807) (w : World) (hb : w.heap[g]? = some (.cells (strCells ss) 9 (0, 0))) :
    Calls Tryd.prog 30 #[bookV k l s (.slice (some ⟨g, 0, none⟩) n n), .int .i64 i, .string x] w (RetBook (keepI (replC k l s ss i x) k) (keepI (replC k l s ss i x) l) (keepI (replC k l s ss i x) s) (replC k l s ss i x) (replL k l s ss i x) w) := by
  obtain ⟨W0, hW⟩ : ∃ W, W = (w.alloc (.cells (bookC k l s (.slice (some ⟨g, 0, none⟩) n n)) 31)).alloc (.cells (bookC 0 0 0 (.slice none 0 0)) 31) := ⟨_, rfl⟩
  have G0 : Hid (Gr w W0) := hid (by rw [hW]; exact ((Gr.refl w).alloc _).alloc _)
  have HBX : Hid (W0.heap[w.heap.size]? = some (.cells (bookC k l s (.slice (some ⟨g, 0, none⟩) n n)) 31 (0, 0))) := hid (by rw [hW]; exact heap_kept (heap_new rfl))
  have HZ : Hid (W0.heap[w.heap.size + 1]? = some (.cells (bookC 0 0 0 (.slice none 0 0)) 31 (0, 0))) := hid (by rw [hW]; exact heap_new (by simp))
  have SZ : Hid (w.heap.size + 2 = W0.heap.size) := hid (by rw [hW]; simp)
  have HD := hid (fun V (gv : Gr W0 V) => bk_cells (gv.heap HBX.out))
  have HW := hid hW
  clear hW
  have hbk := bookAt_block HBX.out hl ((strsOf_block hb).gr G0.out)
  have HB := hid (l03There_any w.heap.size k l s (some ⟨g, 0, none⟩) n n ss hw hn hz i W0 hbk)
  have HPH := hid (fun V => l03Phrase_any x hx V)
  have HFI := hid (fun (V : World) (gv : BookAt V w.heap.size k l s (some ⟨g, 0, none⟩) n n ss) => l03Find_any w.heap.size k l s (some ⟨g, 0, none⟩) n n ss hn x V gv)
  have BK := hid hbk
  clear hbk
  by_cases h : thereC k l s ss i = 0
  · rw [replC_yes h]
    obtain ⟨hv, j, rfl, hj⟩ := there_yes h
    cases h2 : phB x with
    | false =>
      rw [replL_no (by rw [replC_yes h, new_2 hv h2]; decide), new_2 hv h2]
      simp only [keepI_no (show ¬ (2 : Int) = 0 by decide)]
      rw [h] at HB
      rw [h2] at HPH
      clear h h2 hv hz hw hb hl
      go_enter Tryd.func30, Tryd.ntmps30
      go_wp2_with fail
      rw [← HW.out]
      go_wp2_with fail
      refine HB.out.mono ?_
      rintro e w2 ⟨rfl, g2⟩
      have GB2 := hid g2
      have G2 := hid (G0.out.trans g2)
      have BA := hid (BK.out.gr g2)
      clear g2
      go_wp2_with fail
      refine (HPH.out _).mono ?_
      rintro e w3 ⟨rfl, rfl⟩
      have HZ2 := hid (GB2.out.heap HZ.out)
      go_wp2_with (refine wpList_store_cells rfl 31 _ _ rfl _ (bookC 0 0 0 (.slice none 0 0)) (bookC 0 0 0 (.slice none 0 0)) rfl rfl _ 4 HZ2.out (by kernel_rfl) rfl rfl (by simp [Value.oneCell']) ?_)
      refine bodyPost_ret (v := .tuple #[bookV 0 0 0 (.slice none 0 0), .int .i64 2]) (results_row_tmp (by rfl) _ _ _ _ _ _ _ _ rfl rfl (heap_row_set HZ2.out) Tryd.underlying31 rfl (by kernel_rfl)) rfl ⟨_, rfl, OwnT.nil _ _ _, G2.out.setRow (by omega) _⟩
    | true =>
      cases h3 : foundB ss x with
      | true =>
        rw [replL_no (by rw [replC_yes h, new_4 hv h2 h3]; decide), new_4 hv h2 h3]
        simp only [keepI_no (show ¬ (4 : Int) = 0 by decide)]
        rw [h] at HB
        rw [h2] at HPH
        have hge : 0 ≤ firstV ss x := of_decide_eq_true h3
        clear h h2 h3 hv hz hw hb hl
        generalize firstV ss x = q at *
        go_enter Tryd.func30, Tryd.ntmps30
        go_wp2_with fail
        rw [← HW.out]
        go_wp2_with fail
        refine HB.out.mono ?_
        rintro e w2 ⟨rfl, g2⟩
        have GB2 := hid g2
        have G2 := hid (G0.out.trans g2)
        have BA := hid (BK.out.gr g2)
        clear g2
        go_wp2_with fail
        refine (HPH.out _).mono ?_
        rintro e w3 ⟨rfl, rfl⟩
        go_wp2_with fail
        refine (HFI.out _ BA.out).mono ?_
        rintro e w3 ⟨rfl, rfl⟩
        have HZ2 := hid (GB2.out.heap HZ.out)
        go_wp2_with (refine wpList_store_cells rfl 31 _ _ rfl _ (bookC 0 0 0 (.slice none 0 0)) (bookC 0 0 0 (.slice none 0 0)) rfl rfl _ 4 HZ2.out (by kernel_rfl) rfl rfl (by simp [Value.oneCell']) ?_)
        refine bodyPost_ret (v := .tuple #[bookV 0 0 0 (.slice none 0 0), .int .i64 4]) (results_row_tmp (by rfl) _ _ _ _ _ _ _ _ rfl rfl (heap_row_set HZ2.out) Tryd.underlying31 rfl (by kernel_rfl)) rfl ⟨_, rfl, OwnT.nil _ _ _, G2.out.setRow (by omega) _⟩
      | false =>
        rw [replL_at (by rw [replC_yes h, new_0 hv h2 h3]), new_0 hv h2 h3]
        simp only [keepI_yes]
        rw [h] at HB
        rw [h2] at HPH
        have hge : ¬ 0 ≤ firstV ss x := of_decide_eq_false h3
        have HW3 := hid (fun V (gv : BookAt V w.heap.size k l s (some ⟨g, 0, none⟩) n n ss) (hV : V.heap[g]? = some (.cells (strCells ss) 9 (0, 0))) => l03With_any w.heap.size k l s (some ⟨g, 0, none⟩) n n ss g n n ss hl hn V gv (news_all hV))
        have HG := hid hb
        have HL := hid hl
        rw [← hl] at hj
        clear h h2 h3 hv hz hw hb hl
        generalize firstV ss x = q at *
        go_enter Tryd.func30, Tryd.ntmps30
        go_wp2_with fail
        rw [← HW.out]
        go_wp2_with fail
        refine HB.out.mono ?_
        rintro e w2 ⟨rfl, g2⟩
        have GB2 := hid g2
        have G2 := hid (G0.out.trans g2)
        have BA := hid (BK.out.gr g2)
        obtain ⟨d0, d1, d2, d3⟩ := HD.out _ g2
        clear g2
        go_wp2_with fail
        refine (HPH.out _).mono ?_
        rintro e w3 ⟨rfl, rfl⟩
        go_wp2_with fail
        refine (HFI.out _ BA.out).mono ?_
        rintro e w3 ⟨rfl, rfl⟩
        go_wp2_with fail
        refine (HW3.out _ BA.out (G2.out.heap HG.out)).mono ?_
        rintro e w4 ⟨g4, c4, rfl, o4, gr4⟩
        have G4 := hid (G2.out.trans gr4)
        have GB4 := hid (GB2.out.trans gr4)
        have HZ4 := hid ((GB2.out.trans gr4).heap HZ.out)
        have S4 := hid gr4.size
        have O4 := hid o4
        clear o4 gr4 d0 d1 d2 d3
        have NX := hid (heap_new (w := w4) (o := .cells (bookC 0 0 0 (.slice none 0 0)) 31) rfl)
        have HB5 := hid (heap_row_set (cs := bookC k l s (.slice (some ⟨g4, 0, none⟩) n c4)) NX.out)
        have GL5 := hid (((Gr.refl w4).alloc (.cells (bookC 0 0 0 (.slice none 0 0)) 31)).setRow (Nat.le_refl _) (bookC k l s (.slice (some ⟨g4, 0, none⟩) n c4)))
        obtain ⟨gx, e0, hgb, hc5, hf5⟩ := (O4.out.gr GL5.out).at_ (i := j) (by rw [← HL.out]; exact hj)
        simp only [Option.some.injEq, Addr.mk.injEq, and_true] at e0
        subst e0
        generalize ss.getD j ByteArray.empty = y at *
        have e3 := (bk_cells HB5.out).2.2.2
        have HB6 := hid ((heap_setCell_other _ ⟨g4, j, none⟩ w4.heap.size (.string x) (by dsimp only; omega)).trans HB5.out)
        have HZ6 := hid ((heap_setCell_other _ ⟨g4, j, none⟩ (w.heap.size + 1) (.string x) (by dsimp only; have := SZ.out; have := GB4.out.size; have := S4.out; have := GB2.out.size; omega)).trans (GL5.out.heap HZ4.out))
        have O6 := hid ((O4.out.gr GL5.out).put j x)
        have G6 := hid (((G4.out.trans GL5.out).setCell (p := ⟨g4, j, none⟩) (by dsimp only; have := SZ.out; have := S4.out; have := GB2.out.size; omega) (.string x)))
        go_wp2_with (first | (refine wpList_store_cells rfl 31 _ _ rfl _ (bookC k l s (.slice (some ⟨g4, 0, none⟩) n c4)) (bookC 0 0 0 (.slice none 0 0)) rfl rfl _ 4 NX.out (by kernel_rfl) rfl rfl (by simp [Value.oneCell']) ?_) | (refine wpList_load_whole rfl 31 _ rfl _ rfl _ (bookC k l s (.slice (some ⟨g4, 0, none⟩) n c4)) _ HB6.out Tryd.underlying31 rfl (by kernel_rfl) ?_) | (refine wpList_store_cells rfl 31 _ _ rfl _ (bookC k l s (.slice (some ⟨g4, 0, none⟩) n c4)) (bookC 0 0 0 (.slice none 0 0)) rfl rfl _ 4 HZ6.out (by kernel_rfl) rfl rfl (by simp [Value.oneCell']) ?_))
        refine bodyPost_ret (v := .tuple #[bookV k l s (.slice (some ⟨g4, 0, none⟩) n c4), .int .i64 0]) (results_row_tmp (by rfl) _ _ _ _ _ _ _ _ rfl rfl (heap_row_set HZ6.out) Tryd.underlying31 rfl (by kernel_rfl)) rfl ⟨_, rfl, ?_, G6.out.setRow (by omega) _⟩
        refine (O6.out.1.setRow (q := w.heap.size + 1) (by have := SZ.out; have := S4.out; have := GB2.out.size; omega) _).widen (by have := SZ.out; have := S4.out; have := GB2.out.size; omega) ?_
        rw [size_setRow, World.size_setCell, size_setRow, World.size_alloc]
        omega
  · rw [replC_no h, replL_no (by rw [replC_no h]; exact h)]
    simp only [keepI_no h]
    have hcb : (thereC k l s ss i != 0) = true := by rw [bne_iff_ne]; exact h
    clear h hz hw hb hl
    generalize thereC k l s ss i = c at *
    go_enter Tryd.func30, Tryd.ntmps30
    go_wp2_with fail
    rw [← HW.out]
    go_wp2_with fail
    refine HB.out.mono ?_
    rintro e w2 ⟨rfl, g2⟩
    have GB2 := hid g2
    have G2 := hid (G0.out.trans g2)
    clear g2
    have HZ2 := hid (GB2.out.heap HZ.out)
    go_wp2_with (refine wpList_store_cells rfl 31 _ _ rfl _ (bookC 0 0 0 (.slice none 0 0)) (bookC 0 0 0 (.slice none 0 0)) rfl rfl _ 4 HZ2.out (by kernel_rfl) rfl rfl (by simp [Value.oneCell']) ?_)
    refine bodyPost_ret (v := .tuple #[bookV 0 0 0 (.slice none 0 0), .int .i64 c]) (results_row_tmp (by rfl) _ _ _ _ _ _ _ _ rfl rfl (heap_row_set HZ2.out) Tryd.underlying31 rfl (by kernel_rfl)) rfl ⟨_, rfl, OwnT.nil _ _ _, G2.out.setRow (by omega) _⟩
set_option maxRecDepth 100000 in
set_option maxHeartbeats 2000000 in
theorem impl_ReplacePhrase_any (k l s : Int) (hw : Wf3 k l s) (g n : Nat) (ss : List ByteArray) (hl : n = ss.length) (hn : n ≤ 1048576) (hz : SizesOk ss) (i : Int) (_hi : (Lit.int .i64 i).wf = true) (x : ByteArray) (hx : x.size ≤ 9223372036854775807) (b0 b1 b2 : Addr) (w : World) (hb : w.heap[g]? = some (.cells (strCells ss) 9 (0, 0))) (hS : SentAt w b0 b1 b2) :
    Calls Tryd.prog 31 #[bookV k l s (.slice (some ⟨g, 0, none⟩) n n), .int .i64 i, .string x] w (RetBook (keepI (replC k l s ss i x) k) (keepI (replC k l s ss i x) l) (keepI (replC k l s ss i x) s) (replC k l s ss i x) (replL k l s ss i x) w) := by
  obtain ⟨W0, hW⟩ : ∃ W, W = (w.alloc (.cells (bookC k l s (.slice (some ⟨g, 0, none⟩) n n)) 31)).alloc (.cells (bookC 0 0 0 (.slice none 0 0)) 31) := ⟨_, rfl⟩
  have G0 : Hid (Gr w W0) := hid (by rw [hW]; exact ((Gr.refl w).alloc _).alloc _)
  have HBX : Hid (W0.heap[w.heap.size]? = some (.cells (bookC k l s (.slice (some ⟨g, 0, none⟩) n n)) 31 (0, 0))) := hid (by rw [hW]; exact heap_kept (heap_new rfl))
  have HZ : Hid (W0.heap[w.heap.size + 1]? = some (.cells (bookC 0 0 0 (.slice none 0 0)) 31 (0, 0))) := hid (by rw [hW]; exact heap_new (by simp))
  have SZ : Hid (w.heap.size + 2 = W0.heap.size) := hid (by rw [hW]; simp)
  have HD := hid (fun V (gv : Gr W0 V) => bk_cells (gv.heap HBX.out))
  have HW := hid hW
  clear hW
  have HCI := hid (fun V (gv : Gr W0 V) => checkIndex_any k l s hw (some ⟨g, 0, none⟩) n n ss hl hn hz i b0 b1 b2 V ((strsOf_block hb).gr (G0.out.trans gv)) (hS.gr (G0.out.trans gv)))
  have HCN := hid (fun V (gv : Gr W0 V) => checkNew_any k l s hw g n ss hl hn hz x hx b0 b1 b2 V ((G0.out.trans gv).heap hb) (hS.gr (G0.out.trans gv)))
  have HSE := hid (fun V (gv : Gr W0 V) => hS.gr (G0.out.trans gv))
  clear hS
  by_cases h : thereC k l s ss i = 0
  · rw [replC_yes h]
    rw [h, errE_zero] at HCI
    by_cases h4 : newC k l s ss x = 0
    · obtain ⟨hv, j, rfl, hj⟩ := there_yes h
      rw [replL_at (by rw [replC_yes h]; exact h4), h4]
      rw [h4, errE_zero] at HCN
      simp only [keepI_yes]
      have HG := hid hb
      have HL := hid hl
      rw [← hl] at hj
      have HCL := hid (fun V (hV : V.heap[g]? = some (.cells (strCells ss) 9 (0, 0))) => cloneT_any g n ss hl hn V hV)
      clear h h4 hv hz hw hb hl HSE
      go_enter Tryd.func31, Tryd.ntmps31
      go_wp2_with fail
      rw [← HW.out]
      obtain ⟨d0, d1, d2, d3⟩ := HD.out _ (Gr.refl W0)
      go_wp2_with fail
      refine (HCI.out _ (Gr.refl W0)).mono ?_
      rintro e w2 ⟨rfl, g2⟩
      have GB2 := hid g2
      clear d0 d1 d2 d3
      obtain ⟨d0, d1, d2, d3⟩ := HD.out _ g2
      clear g2
      go_wp2_with fail
      refine (HCN.out _ GB2.out).mono ?_
      rintro e w3 ⟨rfl, g3⟩
      have GB3 := hid (GB2.out.trans g3)
      clear d0 d1 d2 d3 g3
      obtain ⟨d0, d1, d2, d3⟩ := HD.out _ GB3.out
      go_wp2_with fail
      refine (HCL.out _ ((G0.out.trans GB3.out).heap HG.out)).mono ?_
      rintro e w4 ⟨g4, c4, rfl, o4, gr4⟩
      have GB4 := hid (GB3.out.trans gr4)
      have G4 := hid (G0.out.trans GB4.out)
      have HB4 := hid (GB4.out.heap HBX.out)
      have HZ4 := hid (GB4.out.heap HZ.out)
      have S3 := hid GB3.out.size
      have O4 := hid o4
      clear o4 gr4 d0 d1 d2 d3
      have c34 := (bk_cells HB4.out).2.2.2
      have f34 : w4.frozen? ⟨w.heap.size, 3, none⟩ = false := frozen_of_row _ _ _ _ _ HB4.out
      have O5 := hid (O4.out.by_ (grown_cell (W := w4) (g := w.heap.size) (i := 3) (u := .slice (some ⟨g4, 0, none⟩) n c4)) (fun b e => by cases e; left; have := SZ.out; have := S3.out; omega))
      have HB5 := hid (heap_setCell_same w4 w.heap.size 3 _ _ (.slice (some ⟨g4, 0, none⟩) n c4) HB4.out)
      have G5 := hid (G4.out.setCell (p := ⟨w.heap.size, 3, none⟩) (Nat.le_refl _) (.slice (some ⟨g4, 0, none⟩) n c4))
      obtain ⟨gx, e0, hgb, hc5, hf5⟩ := O5.out.at_ (i := j) (by rw [← HL.out]; exact hj)
      simp only [Option.some.injEq, Addr.mk.injEq, and_true] at e0
      subst e0
      generalize ss.getD j ByteArray.empty = y at *
      have HB6 := hid ((heap_setCell_other _ ⟨g4, j, none⟩ w.heap.size (.string x) (by dsimp only; have := SZ.out; have := S3.out; omega)).trans HB5.out)
      have HZ6 := hid ((heap_setCell_other _ ⟨g4, j, none⟩ (w.heap.size + 1) (.string x) (by dsimp only; have := SZ.out; have := S3.out; omega)).trans ((heap_setCell_other w4 ⟨w.heap.size, 3, none⟩ (w.heap.size + 1) (.slice (some ⟨g4, 0, none⟩) n c4) (by simp)).trans HZ4.out))
      have O6 := hid (O5.out.put j x)
      have G6 := hid (G5.out.setCell (p := ⟨g4, j, none⟩) (by dsimp only; have := SZ.out; have := S3.out; omega) (.string x))
      go_wp2_with (first | (refine wpList_load_whole rfl 31 _ rfl _ rfl _ (bookC k l s (.slice (some ⟨g4, 0, none⟩) n c4)) _ HB6.out Tryd.underlying31 rfl (by kernel_rfl) ?_) | (refine wpList_store_cells rfl 31 _ _ rfl _ (bookC k l s (.slice (some ⟨g4, 0, none⟩) n c4)) (bookC 0 0 0 (.slice none 0 0)) rfl rfl _ 4 HZ6.out (by kernel_rfl) rfl rfl (by simp [Value.oneCell']) ?_))
      refine bodyPost_ret (v := .tuple #[bookV k l s (.slice (some ⟨g4, 0, none⟩) n c4), .int .i64 0]) (results_row_tmp (by rfl) _ _ _ _ _ _ _ _ rfl rfl (heap_row_set HZ6.out) Tryd.underlying31 rfl (by kernel_rfl)) rfl ⟨_, rfl, ?_, G6.out.setRow (by omega) _⟩
      refine (O6.out.1.setRow (q := w.heap.size + 1) (by have := SZ.out; have := S3.out; omega) _).widen (by have := SZ.out; have := S3.out; omega) ?_
      rw [size_setRow, World.size_setCell, World.size_setCell]
      exact Nat.le_refl _
    · rw [replL_no (by rw [replC_yes h]; exact h4)]
      simp only [keepI_no h4]
      have hc3 : newC k l s ss x = 1 ∨ newC k l s ss x = 2 ∨ newC k l s ss x = 4 := (new_cases k l s ss x).elim (fun e => absurd e h4) (fun e => e)
      rw [errE_ne h4] at HCN
      have HCO := hid (fun V (gv : Gr W0 V) => codeOf_any b0 b1 b2 _ hc3 V (HSE.out V gv))
      clear h h4 hz hw hb hl hc3 HSE
      generalize newC k l s ss x = c at *
      generalize errB b0 b1 b2 c = eb at *
      unfold sentV at HCN HCO
      go_enter Tryd.func31, Tryd.ntmps31
      go_wp2_with fail
      rw [← HW.out]
      obtain ⟨d0, d1, d2, d3⟩ := HD.out _ (Gr.refl W0)
      go_wp2_with fail
      refine (HCI.out _ (Gr.refl W0)).mono ?_
      rintro e w1 ⟨rfl, g1⟩
      have GB1 := hid g1
      clear d0 d1 d2 d3
      obtain ⟨d0, d1, d2, d3⟩ := HD.out _ g1
      clear g1
      go_wp2_with fail
      refine (HCN.out _ GB1.out).mono ?_
      rintro e w2 ⟨rfl, g2⟩
      have GB2 := hid (GB1.out.trans g2)
      have G2 := hid (G0.out.trans GB2.out)
      clear g2 d0 d1 d2 d3
      have HZ2 := hid (GB2.out.heap HZ.out)
      go_wp2_with fail
      refine (HCO.out _ GB2.out).mono ?_
      rintro e w3 ⟨rfl, rfl⟩
      go_wp2_with (refine wpList_store_cells rfl 31 _ _ rfl _ (bookC 0 0 0 (.slice none 0 0)) (bookC 0 0 0 (.slice none 0 0)) rfl rfl _ 4 HZ2.out (by kernel_rfl) rfl rfl (by simp [Value.oneCell']) ?_)
      refine bodyPost_ret (v := .tuple #[bookV 0 0 0 (.slice none 0 0), .int .i64 c]) (results_row_tmp (by rfl) _ _ _ _ _ _ _ _ rfl rfl (heap_row_set HZ2.out) Tryd.underlying31 rfl (by kernel_rfl)) rfl ⟨_, rfl, OwnT.nil _ _ _, G2.out.setRow (by omega) _⟩
  · rw [replC_no h, replL_no (by rw [replC_no h]; exact h)]
    simp only [keepI_no h]
    have hc3 : thereC k l s ss i = 1 ∨ thereC k l s ss i = 2 ∨ thereC k l s ss i = 4 := (there_cases k l s ss i).elim (fun e => absurd e h) (fun e => e.elim .inl (fun e => .inr (.inl e)))
    rw [errE_ne h] at HCI
    have HCO := hid (fun V (gv : Gr W0 V) => codeOf_any b0 b1 b2 _ hc3 V (HSE.out V gv))
    clear h hz hw hb hl hc3 HSE
    generalize thereC k l s ss i = c at *
    generalize errB b0 b1 b2 c = eb at *
    unfold sentV at HCI HCO
    go_enter Tryd.func31, Tryd.ntmps31
    go_wp2_with fail
    rw [← HW.out]
    obtain ⟨d0, d1, d2, d3⟩ := HD.out _ (Gr.refl W0)
    go_wp2_with fail
    refine (HCI.out _ (Gr.refl W0)).mono ?_
    rintro e w2 ⟨rfl, g2⟩
    have GB2 := hid g2
    have G2 := hid (G0.out.trans g2)
    clear g2 d0 d1 d2 d3
    have HZ2 := hid (GB2.out.heap HZ.out)
    go_wp2_with fail
    refine (HCO.out _ GB2.out).mono ?_
    rintro e w3 ⟨rfl, rfl⟩
    go_wp2_with (refine wpList_store_cells rfl 31 _ _ rfl _ (bookC 0 0 0 (.slice none 0 0)) (bookC 0 0 0 (.slice none 0 0)) rfl rfl _ 4 HZ2.out (by kernel_rfl) rfl rfl (by simp [Value.oneCell']) ?_)
    refine bodyPost_ret (v := .tuple #[bookV 0 0 0 (.slice none 0 0), .int .i64 c]) (results_row_tmp (by rfl) _ _ _ _ _ _ _ _ rfl rfl (heap_row_set HZ2.out) Tryd.underlying31 rfl (by kernel_rfl)) rfl ⟨_, rfl, OwnT.nil _ _ _, G2.out.setRow (by omega) _⟩
end Go.Proofs.YtfaiehjomcgjgaaDoor
