/- DropPhrase: both functions. -/
import Derived.Test.YtfaiehjomcgjgaaDoorBookW
namespace Go.Proofs.YtfaiehjomcgjgaaDoor
set_option linter.unusedVariables false
open Go.RowKit
theorem OwnT.news {w : World} {lo hi g n cap : Nat} {ss : List ByteArray} (h : OwnT w lo hi (.slice (some ⟨g, 0, none⟩) n cap) ss) : ∀ j u, (ss.map Value.string)[j]? = some u → w.cell? ((⟨g, 0, none⟩ : Addr).add j) = some u := by
  intro j u hu
  have hl := h.len
  subst hl
  have hj : j < ss.length := by have := (List.getElem?_eq_some_iff.1 hu).1; simpa using this
  rw [Addr.add_mid, Nat.zero_add, h.row.cellAt j (by omega)]
  exact hu
theorem OwnT.behind {w8 : World} {lo hi : Nat} {v : Value} {ss : List ByteArray} (h : OwnT w8 lo hi v ss) {p q : Nat} (hp : p < lo) (hq : q < lo) (u : Value) (i : Nat) (cs : Array Value) : OwnT ((w8.setCell ⟨p, i, none⟩ u).setRow q cs) lo hi v ss :=
  (h.by_ (grown_cell (W := w8) (g := p) (i := i) (u := u)) (fun b e => by cases e; exact .inl hp)).by_ (row := some q) ⟨rfl, rfl, rfl, by rw [size_setRow]; exact Nat.le_refl _, fun r _ hr => setRow_other _ q r _ (fun e => hr (by rw [e]))⟩ (fun b e => by cases e; exact .inl hq)
theorem OwnT.setRow {w8 : World} {lo hi : Nat} {v : Value} {ss : List ByteArray} (h : OwnT w8 lo hi v ss) {q : Nat} (hq : q < lo) (cs : Array Value) : OwnT (w8.setRow q cs) lo hi v ss :=
  h.by_ (row := some q) ⟨rfl, rfl, rfl, by rw [size_setRow]; exact Nat.le_refl _, fun r _ hr => setRow_other _ q r _ (fun e => hr (by rw [e]))⟩ (fun b e => by cases e; exact .inl hq)
def dropP (ss : List ByteArray) (j : Nat) : List ByteArray := ss.take j ++ ss.drop (j + 1)
theorem dropP_length {ss : List ByteArray} {j : Nat} (h : j < ss.length) : (dropP ss j).length = ss.length - 1 := by simp [dropP]; omega
def dropL (k l s : Int) (ss : List ByteArray) (i : Int) : List ByteArray := if thereC k l s ss i = 0 then dropP ss i.toNat else []
/-- A number of the book that is handed back: as it was, if nothing is wrong. -/
def keepI (c x : Int) : Int := if c = 0 then x else 0
theorem keepI_no {c x : Int} (h : ¬ c = 0) : keepI c x = 0 := by unfold keepI; rw [if_neg h]
theorem keepI_yes {x : Int} : keepI 0 x = x := rfl
theorem dropL_no {k l s : Int} {ss : List ByteArray} {i : Int} (h : ¬ thereC k l s ss i = 0) : dropL k l s ss i = [] := by unfold dropL; rw [if_neg h]
theorem dropL_at {k l s : Int} {ss : List ByteArray} {j : Nat} (h : thereC k l s ss (j : Int) = 0) : dropL k l s ss (j : Int) = dropP ss j := by unfold dropL; rw [if_pos h, Int.toNat_natCast]
theorem dropL_len {k l s : Int} {ss : List ByteArray} {i : Int} (hn : ss.length ≤ 1048576) : (dropL k l s ss i).length ≤ 1048576 := by
  by_cases h : thereC k l s ss i = 0
  · obtain ⟨hv, j, rfl, hj⟩ := there_yes h
    rw [dropL_at h, dropP_length hj]; omega
  · rw [dropL_no h]; simp
set_option maxRecDepth 100000 in
set_option maxHeartbeats 2000000 in
theorem spec_DropPhrase_any (k l s : Int) (hw : Wf3 k l s) (g n : Nat) (ss : List ByteArray) (hl : n = ss.length) (hn : n ≤ 1048576) (hz : SizesOk ss) (i : Int) (_hi : (Lit.int .i64 i).wf = true) (w : World) (hb : w.heap[g]? = some (.cells (strCells ss) 9 (0, 0))) :
    Calls Tryd.prog 25 #[bookV k l s (.slice (some ⟨g, 0, none⟩) n n), .int .i64 i] w (RetBook (keepI (thereC k l s ss i) k) (keepI (thereC k l s ss i) l) (keepI (thereC k l s ss i) s) (thereC k l s ss i) (dropL k l s ss i) w) := by
  obtain ⟨W0, hW⟩ : ∃ W, W = (w.alloc (.cells (bookC k l s (.slice (some ⟨g, 0, none⟩) n n)) 31)).alloc (.cells (bookC 0 0 0 (.slice none 0 0)) 31) := ⟨_, rfl⟩
  have G0 : Hid (Gr w W0) := hid (by rw [hW]; exact ((Gr.refl w).alloc _).alloc _)
  have HBX : Hid (W0.heap[w.heap.size]? = some (.cells (bookC k l s (.slice (some ⟨g, 0, none⟩) n n)) 31 (0, 0))) := hid (by rw [hW]; exact heap_kept (heap_new rfl))
  have HZ : Hid (W0.heap[w.heap.size + 1]? = some (.cells (bookC 0 0 0 (.slice none 0 0)) 31 (0, 0))) := hid (by rw [hW]; exact heap_new (by simp))
  have SZ : Hid (w.heap.size + 2 = W0.heap.size) := hid (by rw [hW]; simp)
  have HD := hid (fun V (gv : Gr W0 V) => bk_cells (gv.heap HBX.out))
  have HW := hid hW
  clear hW
  have hbk := bookAt_block HBX.out hl ((strsOf_block hb).gr G0.out)
  have HB := hid (l03There_any w.heap.size k l s (some ⟨g, 0, none⟩) n n ss hw hn hz i W0 hbk)
  by_cases h : thereC k l s ss i = 0
  · obtain ⟨hv, j, rfl, hj⟩ := there_yes h
    rw [dropL_at h, h]
    rw [h] at HB
    simp only [keepI_yes]
    obtain ⟨i0, hi, hz0, hz1, hz2⟩ := info_parts infoStr
    have HG := hid hb
    rw [← hl] at hj
    have LN1 := hid (show (((ss.drop 0).take j).map Value.string).length = j * 1 by rw [List.length_map, List.length_take, List.length_drop]; omega)
    have LN2 := hid (show (((ss.drop (j + 1)).take (n - (j + 1))).map Value.string).length = (n - (j + 1)) * 1 by rw [List.length_map, List.length_take, List.length_drop]; omega)
    have DR := hid (show (ss.drop 0).take j ++ (ss.drop (j + 1)).take (n - (j + 1)) = dropP ss j by unfold dropP; rw [List.drop_zero, List.take_of_length_le (l := ss.drop (j + 1)) (by rw [List.length_drop]; omega)])
    obtain ⟨off, hoff⟩ : ∃ off, (if n = j + 1 then some (⟨g, 0, none⟩ : Addr) else some ⟨g, j + 1, none⟩) = some ⟨g, off, none⟩ := by
      by_cases h9 : n = j + 1
      · exact ⟨0, by rw [if_pos h9]⟩
      · exact ⟨j + 1, by rw [if_neg h9]⟩
    have HOFF := hid hoff
    have NW2 := hid (fun (V : World) (hV : V.heap[g]? = some (.cells (strCells ss) 9 (0, 0))) => show ∀ q u, (((ss.drop (j + 1)).take (n - (j + 1))).map Value.string)[q]? = some u → V.cell? ((⟨g, off, none⟩ : Addr).add q) = some u by
      by_cases h9 : n = j + 1
      · intro q u hu
        rw [show n - (j + 1) = 0 by omega] at hu
        simp at hu
      · rw [if_neg h9] at hoff
        simp only [Option.some.injEq, Addr.mk.injEq, true_and, and_true] at hoff
        rw [← hoff]
        exact news_strs hV (j + 1) (n - (j + 1)))
    clear hoff
    obtain ⟨r, hr⟩ : ∃ r, r = j + (n - (j + 1)) := ⟨_, rfl⟩
    have DL := hid hr.symm
    have LP := hid (show r = (dropP ss j).length by rw [dropP_length (by omega)]; omega)
    have hr1 : r ≤ 1048576 := by omega
    have e1 : IntKind.i64.wrap ((j : Int) + 1) = (j : Int) + 1 := IntWalk.i64_in _ (by omega)
    have hj1 : (j : Int) + 1 ≤ (n : Int) := by omega
    have BK := hid hbk
    clear h hv hz hw hb hl hr hbk
    go_enter Tryd.func25, Tryd.ntmps25
    go_wp2_with fail
    rw [← HW.out]
    go_wp2_with fail
    refine HB.out.mono ?_
    rintro e w2 ⟨rfl, g2⟩
    have GB2 := hid g2
    have G2 := hid (G0.out.trans g2)
    clear g2
    have HZ2 := hid (GB2.out.heap HZ.out)
    have C32 := hid (HD.out _ GB2.out).2.2.2
    have BA := hid (BK.out.gr GB2.out)
    have O0 : Hid ((w2.drew.alloc (.cells #[] 9)).ownsRow w2.heap.size 9 1 (.slice (some ⟨w2.heap.size, 0, none⟩) 0 0) 0 []) := hid (emptyT w2.drew)
    go_wp2_with fail
    refine wp_region_held_drew (S := fun V => V.cell? ⟨w.heap.size, 3, none⟩ = some (.slice (some ⟨g, 0, none⟩) n n) ∧ Gr w V) (by kernel_rfl) ⟨C32.out, G2.out.drew⟩ (fun hH => ?_)
    have HH := hid hH
    clear hH
    refine wpAnyH_take (i := 1) (v := .pointer (some ⟨w.heap.size, 3, none⟩)) rfl (by kernel_rfl) (by kernel_rfl) (by kernel_rfl) (fun _ _ _ h => h) (Or.inl ⟨by rfl, fun _ _ => by first | rfl | (go_simp; done) | (go_simp; rfl) | (go_simp; intro h; exfalso; omega)⟩) HH.out ?_
    simp only [Act.put, List.getElem_toArray, List.getElem_cons_zero, List.getElem_cons_succ, List.setIfInBounds_toArray, List.set_cons_zero, List.set_cons_succ]
    refine wpAnyH_take (i := 2) (v := .slice (some ⟨g, 0, none⟩) n n) rfl (by kernel_rfl) (by kernel_rfl) (by kernel_rfl) (fun _ _ _ h => h) (Or.inl ⟨by rfl, fun V hV => by have hc := hV.1; first | (go_simp; done) | (go_simp; rfl)⟩) HH.out ?_
    simp only [Act.put, List.getElem_toArray, List.getElem_cons_zero, List.getElem_cons_succ, List.setIfInBounds_toArray, List.set_cons_zero, List.set_cons_succ]
    refine wpAnyH_take (i := 3) (v := .int .i64 (j : Int)) rfl (by kernel_rfl) (by kernel_rfl) (by kernel_rfl) (fun _ _ _ h => h) (Or.inl ⟨by rfl, fun _ _ => by first | rfl | (go_simp; done) | (go_simp; rfl) | (go_simp; intro h; exfalso; omega)⟩) HH.out ?_
    simp only [Act.put, List.getElem_toArray, List.getElem_cons_zero, List.getElem_cons_succ, List.setIfInBounds_toArray, List.set_cons_zero, List.set_cons_succ]
    refine wpAnyH_take (i := 4) (v := .slice (some ⟨g, 0, none⟩) j n) rfl (by kernel_rfl) (by kernel_rfl) (by kernel_rfl) (fun _ _ _ h => h) (Or.inl ⟨by rfl, fun _ _ => by first | rfl | (go_simp; done) | (go_simp; rfl) | (go_simp; intro h; exfalso; omega)⟩) HH.out ?_
    simp only [Act.put, List.getElem_toArray, List.getElem_cons_zero, List.getElem_cons_succ, List.setIfInBounds_toArray, List.set_cons_zero, List.set_cons_succ]
    refine wpAnyH_take (i := 6) (v := .pointer (some ⟨w.heap.size, 3, none⟩)) rfl (by kernel_rfl) (by kernel_rfl) (by kernel_rfl) (fun _ _ _ h => h) (Or.inl ⟨by rfl, fun _ _ => by first | rfl | (go_simp; done) | (go_simp; rfl) | (go_simp; intro h; exfalso; omega)⟩) HH.out ?_
    simp only [Act.put, List.getElem_toArray, List.getElem_cons_zero, List.getElem_cons_succ, List.setIfInBounds_toArray, List.set_cons_zero, List.set_cons_succ]
    refine wpAnyH_take (i := 7) (v := .slice (some ⟨g, 0, none⟩) n n) rfl (by kernel_rfl) (by kernel_rfl) (by kernel_rfl) (fun _ _ _ h => h) (Or.inl ⟨by rfl, fun V hV => by have hc := hV.1; first | (go_simp; done) | (go_simp; rfl)⟩) HH.out ?_
    simp only [Act.put, List.getElem_toArray, List.getElem_cons_zero, List.getElem_cons_succ, List.setIfInBounds_toArray, List.set_cons_zero, List.set_cons_succ]
    refine wpAnyH_take (i := 8) (v := .int .i64 (j : Int)) rfl (by kernel_rfl) (by kernel_rfl) (by kernel_rfl) (fun _ _ _ h => h) (Or.inl ⟨by rfl, fun _ _ => by first | rfl | (go_simp; done) | (go_simp; rfl) | (go_simp; intro h; exfalso; omega)⟩) HH.out ?_
    simp only [Act.put, List.getElem_toArray, List.getElem_cons_zero, List.getElem_cons_succ, List.setIfInBounds_toArray, List.set_cons_zero, List.set_cons_succ]
    refine wpAnyH_take (i := 9) (v := .int .i64 ((j : Int) + 1)) rfl (by kernel_rfl) (by kernel_rfl) (by kernel_rfl) (fun _ _ _ h => h) (Or.inl ⟨by rfl, fun _ _ => by first | rfl | (go_simp; done) | (go_simp; rfl) | (go_simp; intro h; exfalso; omega)⟩) HH.out ?_
    simp only [Act.put, List.getElem_toArray, List.getElem_cons_zero, List.getElem_cons_succ, List.setIfInBounds_toArray, List.set_cons_zero, List.set_cons_succ]
    refine wpAnyH_take (i := 10) (v := .slice (some ⟨g, off, none⟩) (n - (j + 1)) (n - (j + 1))) rfl (by kernel_rfl) (by kernel_rfl) (by kernel_rfl) (fun _ _ _ h => h) (Or.inl ⟨by rfl, fun V hV => by first | (go_simp; rw [HOFF.out]; done) | (go_simp; rw [if_pos (by omega), HOFF.out])⟩) HH.out ?_
    simp only [Act.put, List.getElem_toArray, List.getElem_cons_zero, List.getElem_cons_succ, List.setIfInBounds_toArray, List.set_cons_zero, List.set_cons_succ]
    refine wpAnyH_ready (rs := [0]) (by kernel_rfl) (by simp) (AllReadyH.cons rfl (fun KK hKK => ?_) AllReadyH.nil)
    rw [if_pos (by rfl)]
    go_simp
    have g9 := HH.out.2.alloc (.cells #[] 9)
    have c9 := ((Gr.refl w2.drew).alloc (.cells #[] 9)).cell HH.out.1
    refine hKK.out _ _ ⟨c9, g9⟩ (fun hH => ?_)
    clear HH hKK KK g9 c9
    have HH := hid hH
    clear hH
    refine wpAnyH_ready (rs := [5]) (by kernel_rfl) (by simp) (AllReadyH.cons rfl (fun KK hKK => ?_) AllReadyH.nil)
    rw [if_pos (by rfl)]
    refine wp_append_own _ _ _ 23 rfl w2.heap.size 9 i0 (.string ⟨#[]⟩) 1 16 Tryd.underlying23 hi hz0 hz1 hz2 rfl (by decide) _ _ _ rfl O0.out ⟨g, 0, none⟩ j n (((ss.drop 0).take j).map Value.string) rfl LN1.out (news_strs (HH.out.2.heap HG.out) 0 j) (one_strs _) (by unfold maxLen; omega) (by omega) (by simp) ?_
    intro v5 w5 hown5 hgrow5 hnil5
    have hv : ¬ v5 = .slice none 0 0 := fun e => by have h := (hnil5.1 e).1; injection h with h1; cases h1
    obtain ⟨g', c', rfl, h1, h2⟩ := row_some hown5 hv
    simp only [Nat.zero_add, List.nil_append] at hown5 ⊢
    have G6 := hid (HH.out.2.by_ hgrow5 (fun b e => by cases e; dsimp only; have := SZ.out; have := GB2.out.size; omega))
    have c6 := hgrow5.cell_far ⟨w.heap.size, 3, none⟩ (by simp; have := SZ.out; have := GB2.out.size; omega) (fun e => by have h2 := Option.some.inj (show some w.heap.size = some w2.heap.size from e); have := SZ.out; have := GB2.out.size; omega)
    have O5 := hid hown5
    have GQ := hid hgrow5
    refine hKK.out _ _ ⟨c6.trans HH.out.1, G6.out⟩ (fun hH => ?_)
    clear hKK KK hnil5 hv c6 HH hown5 hgrow5
    have HH := hid hH
    clear hH
    refine wpAnyH_ready (rs := [11]) (by kernel_rfl) (by simp) (AllReadyH.cons rfl (fun KK hKK => ?_) AllReadyH.nil)
    rw [if_pos (by rfl)]
    have GV5 := hid (((Gr.refl w2).drew.alloc (.cells #[] 9)).by_ GQ.out (fun b e => by cases e; exact Nat.le_refl _))
    refine wp_append_own _ _ _ 23 rfl w2.heap.size 9 i0 (.string ⟨#[]⟩) 1 16 Tryd.underlying23 hi hz0 hz1 hz2 rfl (by decide) _ _ _ rfl O5.out ⟨g, off, none⟩ (n - (j + 1)) (n - (j + 1)) (((ss.drop (j + 1)).take (n - (j + 1))).map Value.string) rfl LN2.out (NW2.out _ (HH.out.2.heap HG.out)) (one_strs _) (by unfold maxLen; omega) (by omega) GV5.out.size ?_
    intro v6 w6 hown6 hgrow6 hnil6
    have hv : ¬ v6 = .slice none 0 0 := fun e => by have h := (hnil6.1 e).1; injection h with h1; cases h1
    obtain ⟨g'', c'', rfl, h3, h4⟩ := row_some hown6 hv
    have GV6 := hid (GV5.out.by_ hgrow6 (fun b e => by cases e; exact h1))
    rw [DL.out, ← List.map_append, DR.out] at hown6
    rw [DL.out]
    have O6 := hid (OwnT.ofRow hown6 rfl LP.out)
    have c6 := GV6.out.cell C32.out
    have G6 := hid (G2.out.trans GV6.out)
    refine hKK.out _ _ ⟨c6, G6.out⟩ (fun hH => ?_)
    clear hKK KK hnil6 hv c6 HH hown6 hgrow6
    have HH := hid hH
    clear hH
    refine wpAnyH_ready (rs := [12]) (by kernel_rfl) (by simp) (AllReadyH.cons rfl (fun KK hKK => ?_) AllReadyH.nil)
    rw [if_pos (by rfl)]
    go_simp
    refine (l03With_any w.heap.size k l s _ n n ss g'' _ c'' _ LP.out (by omega) w6 (BA.out.gr GV6.out) O6.out.news).mono ?_
    rintro e w7 ⟨g7, c7, rfl, o7, gr7⟩
    dsimp only
    have GV := hid (GV6.out.trans gr7)
    have O7 := hid (o7.widen (GV6.out.size) (Nat.le_refl _))
    refine hKK.out _ _ ⟨GV.out.cell C32.out, G2.out.trans GV.out⟩ (fun hH => ?_)
    clear o7 gr7
    clear HH hKK KK
    have HH := hid hH
    clear hH
    refine wpAnyH_ready (rs := [13]) (by kernel_rfl) (by simp) (AllReadyH.cons rfl (fun KK hKK => ?_) AllReadyH.nil)
    rw [if_pos (by rfl)]
    have HZ7 := hid (GV.out.heap HZ2.out)
    refine wp_store_row 31 _ _ rfl (w.heap.size + 1) (bookC k l s (.slice (some ⟨g7, 0, none⟩) r c7)) rfl rfl 31 (bookC 0 0 0 (.slice none 0 0)) HZ7.out (by kernel_rfl) rfl (by simp [Value.oneCell']) ?_
    have HB8 := hid (heap_row_set (cs := bookC k l s (.slice (some ⟨g7, 0, none⟩) r c7)) HZ7.out)
    have c8 := (World.cell?_of_block (setRow_other w7 (w.heap.size + 1) w.heap.size (bookC k l s (.slice (some ⟨g7, 0, none⟩) r c7)) (by omega)) (a := ⟨w.heap.size, 3, none⟩)).trans HH.out.1
    have G8 := hid (HH.out.2.setRow (by omega) (bookC k l s (.slice (some ⟨g7, 0, none⟩) r c7)) : Gr w (w7.setRow (w.heap.size + 1) (bookC k l s (.slice (some ⟨g7, 0, none⟩) r c7))))
    have O8 := hid ((O7.out).by_ (show w7.grownBy (w7.setRow (w.heap.size + 1) (bookC k l s (.slice (some ⟨g7, 0, none⟩) r c7))) (some (w.heap.size + 1)) from ⟨rfl, rfl, rfl, by rw [size_setRow]; exact Nat.le_refl _, fun q _ hq => setRow_other _ (w.heap.size + 1) q _ (fun e => hq (by rw [e]))⟩) (fun b e => by cases e; left; have := SZ.out; have := GV.out.size; have := GB2.out.size; omega))
    refine hKK.out _ _ ⟨c8, G8.out⟩ (fun hH => ?_)
    clear HH hKK KK c8
    have HH := hid hH
    clear hH
    refine wpAnyH_take (i := 14) (v := .int .i64 0) rfl (by kernel_rfl) (by kernel_rfl) (by kernel_rfl) (fun _ _ _ h => h) (Or.inl ⟨by rfl, fun _ _ => by first | rfl | (go_simp; done) | (go_simp; rfl) | (go_simp; intro h; exfalso; omega)⟩) HH.out ?_
    simp only [Act.put, List.getElem_toArray, List.getElem_cons_zero, List.getElem_cons_succ, List.setIfInBounds_toArray, List.set_cons_zero, List.set_cons_succ]
    refine wpAnyH_done (by kernel_rfl) ?_ _
    go_wp2_with fail
    refine bodyPost_ret (v := .tuple #[bookV k l s (.slice (some ⟨g7, 0, none⟩) r c7), .int .i64 0]) (results_row_tmp (by rfl) _ _ _ _ _ _ _ _ rfl rfl HB8.out Tryd.underlying31 rfl (by kernel_rfl)) rfl ⟨_, rfl, O8.out.widen (by have := SZ.out; have := GB2.out.size; omega) (by rw [size_setRow]; exact Nat.le_refl _), G8.out⟩
  · rw [dropL_no h]
    simp only [keepI_no h]
    have hcb : (thereC k l s ss i != 0) = true := by rw [bne_iff_ne]; exact h
    clear h hz hw hb hl hbk
    generalize thereC k l s ss i = c at *
    go_enter Tryd.func25, Tryd.ntmps25
    go_wp2_with fail
    rw [← HW.out]
    go_wp2_with fail
    refine HB.out.mono ?_
    rintro e w2 ⟨rfl, g2⟩
    have GB2 := hid g2
    have G2 := hid (G0.out.trans g2)
    clear g2
    have HZ2 := hid (GB2.out.heap HZ.out)
    go_wp2_with (refine wpList_store_cells rfl 31 _ _ rfl _ (bookC 0 0 0 (.slice none 0 0)) (bookC 0 0 0 (.slice none 0 0)) rfl rfl _ 4 HZ2.out (by kernel_rfl) rfl rfl (by simp [Value.oneCell']) ?_)
    refine bodyPost_ret (v := .tuple #[bookV 0 0 0 (.slice none 0 0), .int .i64 c]) (results_row_tmp (by rfl) _ _ _ _ _ _ _ _ rfl rfl (heap_row_set HZ2.out) Tryd.underlying31 rfl (by kernel_rfl)) rfl ⟨_, rfl, OwnT.nil _ _ _, G2.out.setRow (by omega) _⟩
set_option maxRecDepth 100000 in
set_option maxHeartbeats 2000000 in
theorem impl_DropPhrase_any (k l s : Int) (hw : Wf3 k l s) (g n : Nat) (ss : List ByteArray) (hl : n = ss.length) (hn : n ≤ 1048576) (hz : SizesOk ss) (i : Int) (_hi : (Lit.int .i64 i).wf = true) (b0 b1 b2 : Addr) (w : World) (hb : w.heap[g]? = some (.cells (strCells ss) 9 (0, 0))) (hS : SentAt w b0 b1 b2) :
    Calls Tryd.prog 26 #[bookV k l s (.slice (some ⟨g, 0, none⟩) n n), .int .i64 i] w (RetBook (keepI (thereC k l s ss i) k) (keepI (thereC k l s ss i) l) (keepI (thereC k l s ss i) s) (thereC k l s ss i) (dropL k l s ss i) w) := by
  obtain ⟨W0, hW⟩ : ∃ W, W = (w.alloc (.cells (bookC k l s (.slice (some ⟨g, 0, none⟩) n n)) 31)).alloc (.cells (bookC 0 0 0 (.slice none 0 0)) 31) := ⟨_, rfl⟩
  have G0 : Hid (Gr w W0) := hid (by rw [hW]; exact ((Gr.refl w).alloc _).alloc _)
  have HBX : Hid (W0.heap[w.heap.size]? = some (.cells (bookC k l s (.slice (some ⟨g, 0, none⟩) n n)) 31 (0, 0))) := hid (by rw [hW]; exact heap_kept (heap_new rfl))
  have HZ : Hid (W0.heap[w.heap.size + 1]? = some (.cells (bookC 0 0 0 (.slice none 0 0)) 31 (0, 0))) := hid (by rw [hW]; exact heap_new (by simp))
  have SZ : Hid (w.heap.size + 2 = W0.heap.size) := hid (by rw [hW]; simp)
  have HD := hid (fun V (gv : Gr W0 V) => bk_cells (gv.heap HBX.out))
  have HW := hid hW
  clear hW
  have HCI := hid (fun V (gv : Gr W0 V) => checkIndex_any k l s hw (some ⟨g, 0, none⟩) n n ss hl hn hz i b0 b1 b2 V ((strsOf_block hb).gr (G0.out.trans gv)) (hS.gr (G0.out.trans gv)))
  have HSE := hid (fun V (gv : Gr W0 V) => hS.gr (G0.out.trans gv))
  clear hS
  by_cases h : thereC k l s ss i = 0
  · obtain ⟨hv, j, rfl, hj⟩ := there_yes h
    rw [dropL_at h, h]
    rw [h, errE_zero] at HCI
    simp only [keepI_yes]
    have HG := hid hb
    rw [← hl] at hj
    have LN1 := hid (show (((ss.drop 0).take j).map Value.string).length = j by rw [List.length_map, List.length_take, List.length_drop]; omega)
    have LN2 := hid (show (((ss.drop (j + 1)).take (n - (j + 1))).map Value.string).length = n - (j + 1) by rw [List.length_map, List.length_take, List.length_drop]; omega)
    have DR := hid (show (ss.drop 0).take j ++ (ss.drop (j + 1)).take (n - (j + 1)) = dropP ss j by unfold dropP; rw [List.drop_zero, List.take_of_length_le (l := ss.drop (j + 1)) (by rw [List.length_drop]; omega)])
    have LP := hid (show j + (n - (j + 1)) = (dropP ss j).length by rw [dropP_length (by omega)]; omega)
    have e1 : IntKind.i64.wrap ((j : Int) + 1) = (j : Int) + 1 := IntWalk.i64_in _ (by omega)
    have hj1 : (j : Int) + 1 ≤ (n : Int) := by omega
    have hj0 : (0 : Int) ≤ (j : Int) + 1 := by omega
    have hjn : j ≤ n := by omega
    have hjn1 : j + 1 ≤ n := by omega
    have NA := hid (fun (V : World) (hV : V.heap[g]? = some (.cells (strCells ss) 9 (0, 0))) => news_strs hV 0 j)
    clear h hv hz hw hb hl HSE
    by_cases h9 : n = j + 1
    · have hq : (n = j + 1) = True := eq_true h9
      have NB := hid (fun (V : World) => show ∀ q u, (((ss.drop (j + 1)).take (n - (j + 1))).map Value.string)[q]? = some u → V.cell? ((⟨g, 0, none⟩ : Addr).add q) = some u by
        intro q u hu
        rw [show n - (j + 1) = 0 by omega] at hu
        simp at hu)
      clear h9
      go_enter Tryd.func26, Tryd.ntmps26
      go_wp2_with fail
      rw [← HW.out]
      obtain ⟨d0, d1, d2, d3⟩ := HD.out _ (Gr.refl W0)
      go_wp2_with fail
      refine (HCI.out _ (Gr.refl W0)).mono ?_
      rintro e w2 ⟨rfl, g2⟩
      have GB2 := hid g2
      have G2 := hid (G0.out.trans g2)
      clear g2 d0 d1 d2 d3
      have c3 : w2.drew.cell? ⟨w.heap.size, 3, none⟩ = some (.slice (some ⟨g, 0, none⟩) n n) := (HD.out _ GB2.out).2.2.2
      obtain ⟨WA, hWA⟩ : ∃ WA, WA = (w2.alloc (.cells #[.slice (some ⟨g, 0, none⟩) j n, .slice (some ⟨g, 0, none⟩) (n - (j + 1)) (n - (j + 1))] 23)).drew := ⟨_, rfl⟩
      have GA : Hid (Gr w2 WA) := hid (by rw [hWA]; exact ((Gr.refl w2).alloc _).drew)
      have HWA := hid hWA
      have RA : WA.heap[w2.heap.size]? = some (.cells #[.slice (some ⟨g, 0, none⟩) j n, .slice (some ⟨g, 0, none⟩) (n - (j + 1)) (n - (j + 1))] 23 (0, 0)) := by rw [hWA]; exact heap_drawn (heap_new rfl)
      have HCON := hid (concatT_any w2.heap.size (some ⟨g, 0, none⟩) (some ⟨g, 0, none⟩) j (n - (j + 1)) n (n - (j + 1)) _ _ LN1.out LN2.out (by omega) (by omega) (fun e => by cases e) (fun e => by cases e) (one_strs _) (one_strs _) WA (fun ad e => by cases e; exact NA.out _ ((G2.out.trans GA.out).heap HG.out)) (fun ad e => by cases e; exact NB.out _) (by rw [cell_of_row _ _ _ _ _ _ RA]; rfl) (by rw [cell_of_row _ _ _ _ _ _ RA]; rfl))
      have HBA := hid ((GB2.out.trans GA.out).heap HBX.out)
      have HZA := hid ((GB2.out.trans GA.out).heap HZ.out)
      rw [hWA] at HCON
      clear hWA RA
      go_wp2_with fail
      go_region_with ((with_reducible refine HCON.out.mono ?_); rintro e w8 ⟨⟨v8, rfl, o8⟩, g8⟩; rw [← HWA.out] at o8 g8; have hb8 := g8.heap HBA.out; have hz8 := g8.heap HZA.out; have f8 : w8.frozen? ⟨w.heap.size, 3, none⟩ = false := frozen_of_row _ _ _ _ _ hb8; have c8 := (bk_cells hb8).2.2.2; rw [← List.map_append, DR.out] at o8; have O8 := OwnT.ofRow o8 rfl LP.out; obtain ⟨a8, cp8, rfl⟩ := O8.shape)
      all_goals
        have HB9 := hid (heap_setCell_same w8 w.heap.size 3 _ _ (.slice a8 (dropP ss j).length cp8) hb8)
        have HZ9 := hid ((heap_setCell_other w8 ⟨w.heap.size, 3, none⟩ (w.heap.size + 1) (.slice a8 (dropP ss j).length cp8) (by simp)).trans hz8)
        have G9 := hid ((G2.out.trans (GA.out.trans g8)).setCell (p := ⟨w.heap.size, 3, none⟩) (Nat.le_refl _) (.slice a8 (dropP ss j).length cp8))
        clear hb8 hz8 f8 c8
        go_wp2_with (first | (refine wpList_load_whole rfl 31 _ rfl _ rfl _ (bookC k l s (.slice a8 (dropP ss j).length cp8)) _ HB9.out Tryd.underlying31 rfl (by kernel_rfl) ?_) | (refine wpList_store_cells rfl 31 _ _ rfl _ (bookC k l s (.slice a8 (dropP ss j).length cp8)) (bookC 0 0 0 (.slice none 0 0)) rfl rfl _ 4 HZ9.out (by kernel_rfl) rfl rfl (by simp [Value.oneCell']) ?_))
        refine bodyPost_ret (v := .tuple #[bookV k l s (.slice a8 (dropP ss j).length cp8), .int .i64 0]) (results_row_tmp (by rfl) _ _ _ _ _ _ _ _ rfl rfl (heap_row_set HZ9.out) Tryd.underlying31 rfl (by kernel_rfl)) rfl ⟨_, rfl, ?_, G9.out.setRow (by omega) _⟩
        refine (O8.behind (p := w.heap.size) (q := w.heap.size + 1) (by have := SZ.out; have := GB2.out.size; have := GA.out.size; omega) (by have := SZ.out; have := GB2.out.size; have := GA.out.size; omega) _ 3 _).widen (by have := SZ.out; have := GB2.out.size; have := GA.out.size; omega) ?_
        rw [size_setRow, World.size_setCell]
        exact Nat.le_refl _
    · have hq : (n = j + 1) = False := eq_false h9
      have NB := hid (fun (V : World) (hV : V.heap[g]? = some (.cells (strCells ss) 9 (0, 0))) => news_strs hV (j + 1) (n - (j + 1)))
      clear h9
      go_enter Tryd.func26, Tryd.ntmps26
      go_wp2_with fail
      rw [← HW.out]
      obtain ⟨d0, d1, d2, d3⟩ := HD.out _ (Gr.refl W0)
      go_wp2_with fail
      refine (HCI.out _ (Gr.refl W0)).mono ?_
      rintro e w2 ⟨rfl, g2⟩
      have GB2 := hid g2
      have G2 := hid (G0.out.trans g2)
      clear g2 d0 d1 d2 d3
      have c3 : w2.drew.cell? ⟨w.heap.size, 3, none⟩ = some (.slice (some ⟨g, 0, none⟩) n n) := (HD.out _ GB2.out).2.2.2
      obtain ⟨WA, hWA⟩ : ∃ WA, WA = (w2.alloc (.cells #[.slice (some ⟨g, 0, none⟩) j n, .slice (some ⟨g, j + 1, none⟩) (n - (j + 1)) (n - (j + 1))] 23)).drew := ⟨_, rfl⟩
      have GA : Hid (Gr w2 WA) := hid (by rw [hWA]; exact ((Gr.refl w2).alloc _).drew)
      have HWA := hid hWA
      have RA : WA.heap[w2.heap.size]? = some (.cells #[.slice (some ⟨g, 0, none⟩) j n, .slice (some ⟨g, j + 1, none⟩) (n - (j + 1)) (n - (j + 1))] 23 (0, 0)) := by rw [hWA]; exact heap_drawn (heap_new rfl)
      have HCON := hid (concatT_any w2.heap.size (some ⟨g, 0, none⟩) (some ⟨g, j + 1, none⟩) j (n - (j + 1)) n (n - (j + 1)) _ _ LN1.out LN2.out (by omega) (by omega) (fun e => by cases e) (fun e => by cases e) (one_strs _) (one_strs _) WA (fun ad e => by cases e; exact NA.out _ ((G2.out.trans GA.out).heap HG.out)) (fun ad e => by cases e; exact NB.out _ ((G2.out.trans GA.out).heap HG.out)) (by rw [cell_of_row _ _ _ _ _ _ RA]; rfl) (by rw [cell_of_row _ _ _ _ _ _ RA]; rfl))
      have HBA := hid ((GB2.out.trans GA.out).heap HBX.out)
      have HZA := hid ((GB2.out.trans GA.out).heap HZ.out)
      rw [hWA] at HCON
      clear hWA RA
      go_wp2_with fail
      go_region_with ((with_reducible refine HCON.out.mono ?_); rintro e w8 ⟨⟨v8, rfl, o8⟩, g8⟩; rw [← HWA.out] at o8 g8; have hb8 := g8.heap HBA.out; have hz8 := g8.heap HZA.out; have f8 : w8.frozen? ⟨w.heap.size, 3, none⟩ = false := frozen_of_row _ _ _ _ _ hb8; have c8 := (bk_cells hb8).2.2.2; rw [← List.map_append, DR.out] at o8; have O8 := OwnT.ofRow o8 rfl LP.out; obtain ⟨a8, cp8, rfl⟩ := O8.shape)
      all_goals
        have HB9 := hid (heap_setCell_same w8 w.heap.size 3 _ _ (.slice a8 (dropP ss j).length cp8) hb8)
        have HZ9 := hid ((heap_setCell_other w8 ⟨w.heap.size, 3, none⟩ (w.heap.size + 1) (.slice a8 (dropP ss j).length cp8) (by simp)).trans hz8)
        have G9 := hid ((G2.out.trans (GA.out.trans g8)).setCell (p := ⟨w.heap.size, 3, none⟩) (Nat.le_refl _) (.slice a8 (dropP ss j).length cp8))
        clear hb8 hz8 f8 c8
        go_wp2_with (first | (refine wpList_load_whole rfl 31 _ rfl _ rfl _ (bookC k l s (.slice a8 (dropP ss j).length cp8)) _ HB9.out Tryd.underlying31 rfl (by kernel_rfl) ?_) | (refine wpList_store_cells rfl 31 _ _ rfl _ (bookC k l s (.slice a8 (dropP ss j).length cp8)) (bookC 0 0 0 (.slice none 0 0)) rfl rfl _ 4 HZ9.out (by kernel_rfl) rfl rfl (by simp [Value.oneCell']) ?_))
        refine bodyPost_ret (v := .tuple #[bookV k l s (.slice a8 (dropP ss j).length cp8), .int .i64 0]) (results_row_tmp (by rfl) _ _ _ _ _ _ _ _ rfl rfl (heap_row_set HZ9.out) Tryd.underlying31 rfl (by kernel_rfl)) rfl ⟨_, rfl, ?_, G9.out.setRow (by omega) _⟩
        refine (O8.behind (p := w.heap.size) (q := w.heap.size + 1) (by have := SZ.out; have := GB2.out.size; have := GA.out.size; omega) (by have := SZ.out; have := GB2.out.size; have := GA.out.size; omega) _ 3 _).widen (by have := SZ.out; have := GB2.out.size; have := GA.out.size; omega) ?_
        rw [size_setRow, World.size_setCell]
        exact Nat.le_refl _
  · rw [dropL_no h]
    simp only [keepI_no h]
    have hc3 : thereC k l s ss i = 1 ∨ thereC k l s ss i = 2 ∨ thereC k l s ss i = 4 := (there_cases k l s ss i).elim (fun e => absurd e h) (fun e => e.elim .inl (fun e => .inr (.inl e)))
    rw [errE_ne h] at HCI
    have HCO := hid (fun V (gv : Gr W0 V) => codeOf_any b0 b1 b2 _ hc3 V (HSE.out V gv))
    clear h hz hw hb hl hc3 HSE
    generalize thereC k l s ss i = c at *
    generalize errB b0 b1 b2 c = eb at *
    unfold sentV at HCI HCO
    go_enter Tryd.func26, Tryd.ntmps26
    go_wp2_with fail
    rw [← HW.out]
    obtain ⟨d0, d1, d2, d3⟩ := HD.out _ (Gr.refl W0)
    go_wp2_with fail
    refine (HCI.out _ (Gr.refl W0)).mono ?_
    rintro e w2 ⟨rfl, g2⟩
    have GB2 := hid g2
    have G2 := hid (G0.out.trans g2)
    clear g2 d0 d1 d2 d3
    have HZ2 := hid (GB2.out.heap HZ.out)
    go_wp2_with fail
    refine (HCO.out _ GB2.out).mono ?_
    rintro e w3 ⟨rfl, rfl⟩
    go_wp2_with (refine wpList_store_cells rfl 31 _ _ rfl _ (bookC 0 0 0 (.slice none 0 0)) (bookC 0 0 0 (.slice none 0 0)) rfl rfl _ 4 HZ2.out (by kernel_rfl) rfl rfl (by simp [Value.oneCell']) ?_)
    refine bodyPost_ret (v := .tuple #[bookV 0 0 0 (.slice none 0 0), .int .i64 c]) (results_row_tmp (by rfl) _ _ _ _ _ _ _ _ rfl rfl (heap_row_set HZ2.out) Tryd.underlying31 rfl (by kernel_rfl)) rfl ⟨_, rfl, OwnT.nil _ _ _, G2.out.setRow (by omega) _⟩
end Go.Proofs.YtfaiehjomcgjgaaDoor
