/- AddPhrase: both functions. -/
import Derived.Test.YtfaiehjomcgjgaaDoorDropPhrase
import Derived.Test.YtfaiehjomcgjgaaDoorCompletionsOf
namespace Go.Proofs.YtfaiehjomcgjgaaDoor
set_option linter.unusedVariables false
open Go.RowKit
def fullB (k l s : Int) (ss : List ByteArray) : Bool := decide (100 ≤ ss.length) || decide ((meansOf k l s).length ≤ ss.length)
def addC (k l s : Int) (ss : List ByteArray) (x : ByteArray) : Int := if newC k l s ss x = 0 then (if fullB k l s ss then 3 else 0) else newC k l s ss x
def addL (k l s : Int) (ss : List ByteArray) (x : ByteArray) : List ByteArray := if addC k l s ss x = 0 then ss ++ [x] else []
theorem addL_no {k l s : Int} {ss : List ByteArray} {x : ByteArray} (h : ¬ addC k l s ss x = 0) : addL k l s ss x = [] := by unfold addL; rw [if_neg h]
theorem addL_yes {k l s : Int} {ss : List ByteArray} {x : ByteArray} (h : addC k l s ss x = 0) : addL k l s ss x = ss ++ [x] := by unfold addL; rw [if_pos h]
theorem addC_no {k l s : Int} {ss : List ByteArray} {x : ByteArray} (h : ¬ newC k l s ss x = 0) : addC k l s ss x = newC k l s ss x := by unfold addC; rw [if_neg h]
theorem addC_full {k l s : Int} {ss : List ByteArray} {x : ByteArray} (h : newC k l s ss x = 0) (h2 : fullB k l s ss = true) : addC k l s ss x = 3 := by unfold addC; rw [if_pos h, h2]; rfl
theorem addC_ok {k l s : Int} {ss : List ByteArray} {x : ByteArray} (h : newC k l s ss x = 0) (h2 : fullB k l s ss = false) : addC k l s ss x = 0 := by unfold addC; rw [if_pos h, h2]; rfl
theorem addL_len {k l s : Int} {ss : List ByteArray} {x : ByteArray} (_hn : ss.length ≤ 1048576) : (addL k l s ss x).length ≤ 1048576 := by
  by_cases h : addC k l s ss x = 0
  · rw [addL_yes h, List.length_append]
    have h0 : newC k l s ss x = 0 := by
      by_cases h1 : newC k l s ss x = 0
      · exact h1
      · rw [addC_no h1] at h; exact h
    have := (validBk_lens (new_zero h0).1).1
    simp only [List.length_singleton]
    omega
  · rw [addL_no h]; simp
theorem strAt_lt {ss : List ByteArray} {x : ByteArray} {i : Nat} (h : i < ss.length) : strAt (ss ++ [x]) i = strAt ss i := by
  unfold strAt; rw [List.getD_eq_getElem?_getD, List.getElem?_append_left h, ← List.getD_eq_getElem?_getD]
theorem strAt_at (ss : List ByteArray) (x : ByteArray) : strAt (ss ++ [x]) ss.length = x := by
  unfold strAt; rw [List.getD_eq_getElem?_getD, List.getElem?_append_right (Nat.le_refl _)]; simp
theorem notFound {ss : List ByteArray} {x : ByteArray} (h : foundB ss x = false) : (lastTo ss ss.length x).isSome = false := by
  rw [← firstTo_isSome]
  unfold foundB firstV at h
  have h2 := of_decide_eq_false h
  cases hf : firstTo ss ss.length x with
  | none => rfl
  | some i => rw [hf] at h2; exact absurd (Int.natCast_nonneg i) h2
theorem lastTo_snoc {ss : List ByteArray} {x y : ByteArray} {k : Nat} (hk : k ≤ ss.length) : (lastTo (ss ++ [x]) k y).isSome = (lastTo ss k y).isSome := by
  rw [Bool.eq_iff_iff, lastTo_some, lastTo_some]
  constructor
  · rintro ⟨i, h1, h2⟩; exact ⟨i, h1, by rw [h2, strAt_lt (by omega)]⟩
  · rintro ⟨i, h1, h2⟩; exact ⟨i, h1, by rw [h2, strAt_lt (by omega)]⟩
theorem okPh_lt {ss : List ByteArray} {x : ByteArray} {i : Nat} (h : i < ss.length) : okPh (ss ++ [x]) i = okPh ss i := by
  unfold okPh freshB
  rw [strAt_lt h, lastTo_snoc (by omega)]
theorem allTo_atA {p : Nat → Bool} : ∀ {n : Nat}, allTo p n = true → ∀ i, i < n → p i = true
  | 0, _, i, hi => by omega
  | n + 1, h, i, hi => by
    cases hp : p i with
    | true => rfl
    | false => rw [allTo_no hi hp] at h; exact absurd h (by decide)
theorem allTo_all {p : Nat → Bool} : ∀ {n : Nat}, (∀ i, i < n → p i = true) → allTo p n = true
  | 0, _ => rfl
  | n + 1, h => allTo_step (allTo_all fun i hi => h i (by omega)) (h n (Nat.lt_succ_self n))
theorem allTo_congr {p q : Nat → Bool} : ∀ {n : Nat}, (∀ i, i < n → p i = q i) → allTo p n = allTo q n
  | 0, _ => rfl
  | n + 1, h => by
    cases hq : allTo q n with
    | true =>
      have hp : allTo p n = true := (allTo_congr (n := n) fun i hi => h i (by omega)).trans hq
      cases hb : q n with
      | true => rw [allTo_step hq hb, allTo_step hp (by rw [h n (by omega)]; exact hb)]
      | false => rw [allTo_no (Nat.lt_succ_self n) hb, allTo_no (Nat.lt_succ_self n) (by rw [h n (by omega)]; exact hb)]
    | false =>
      have key : ∀ r : Nat → Bool, allTo r n = false → allTo r (n + 1) = false := fun r hr => by
        cases hx : allTo r (n + 1) with
        | false => rfl
        | true =>
          have : ∀ i, i < n + 1 → r i = true := fun i hi => allTo_atA hx i hi
          have h2 : allTo r n = true := allTo_all fun i hi => this i (by omega)
          rw [h2] at hr; exact absurd hr (by decide)
      rw [key q hq, key p ((allTo_congr (n := n) fun i hi => h i (by omega)).trans hq)]
theorem validBk_snoc {k l s : Int} {ss : List ByteArray} {x : ByteArray} (h : newC k l s ss x = 0) : validBk k l s (ss ++ [x]) = !fullB k l s ss := by
  obtain ⟨hv, hp, hf⟩ := new_zero h
  have hs := validBk_sizedT hv
  have hl := validBk_lens hv
  have hall : allTo (okPh ss) ss.length = true := by
    unfold validBk at hv
    simp only [Bool.and_eq_true] at hv
    exact hv.2.2.1
  have h1 : allTo (okPh (ss ++ [x])) ss.length = true := (allTo_congr fun i hi => okPh_lt hi).trans hall
  have h2 : okPh (ss ++ [x]) ss.length = true := by
    unfold okPh freshB
    rw [strAt_at, hp, lastTo_snoc (Nat.le_refl _), notFound hf]; rfl
  unfold validBk fullB
  rw [hs, List.length_append, List.length_singleton, allTo_step h1 h2]
  by_cases h3 : 100 ≤ ss.length <;> by_cases h4 : (meansOf k l s).length ≤ ss.length <;> simp [h3, h4] <;> omega
theorem sizes_snoc {ss : List ByteArray} {x : ByteArray} (hz : SizesOk ss) (hx : x.size ≤ 9223372036854775807) : SizesOk (ss ++ [x]) := by
  intro i
  by_cases h : i < ss.length
  · rw [strAt_lt h]; exact hz i
  · by_cases h2 : i = ss.length
    · subst h2; rw [strAt_at]; exact hx
    · unfold strAt
      rw [List.getD_eq_getElem?_getD, List.getElem?_eq_none (by rw [List.length_append, List.length_singleton]; omega)]
      exact Nat.zero_le _
set_option maxRecDepth 100000 in
set_option maxHeartbeats 2000000 in
theorem spec_AddPhrase_any (k l s : Int) (hw : Wf3 k l s) (g n : Nat) (ss : List ByteArray) (hl : n = ss.length) (hn : n ≤ 1048576) (hz : SizesOk ss) (x : ByteArray) (hx : x.size ≤ 9223372036854775807) (w : World) (hb : w.heap[g]? = some (.cells (strCells ss) 9 (0, 0))) :
    Calls Tryd.prog 28 #[bookV k l s (.slice (some ⟨g, 0, none⟩) n n), .string x] w (RetBook (keepI (addC k l s ss x) k) (keepI (addC k l s ss x) l) (keepI (addC k l s ss x) s) (addC k l s ss x) (addL k l s ss x) w) := by
  obtain ⟨W0, hW⟩ : ∃ W, W = (w.alloc (.cells (bookC k l s (.slice (some ⟨g, 0, none⟩) n n)) 31)).alloc (.cells (bookC 0 0 0 (.slice none 0 0)) 31) := ⟨_, rfl⟩
  have G0 : Hid (Gr w W0) := hid (by rw [hW]; exact ((Gr.refl w).alloc _).alloc _)
  have HBX : Hid (W0.heap[w.heap.size]? = some (.cells (bookC k l s (.slice (some ⟨g, 0, none⟩) n n)) 31 (0, 0))) := hid (by rw [hW]; exact heap_kept (heap_new rfl))
  have HZ : Hid (W0.heap[w.heap.size + 1]? = some (.cells (bookC 0 0 0 (.slice none 0 0)) 31 (0, 0))) := hid (by rw [hW]; exact heap_new (by simp))
  have SZ : Hid (w.heap.size + 2 = W0.heap.size) := hid (by rw [hW]; simp)
  have HD := hid (fun V (gv : Gr W0 V) => bk_cells (gv.heap HBX.out))
  have HW := hid hW
  clear hW
  have hbk := bookAt_block HBX.out hl ((strsOf_block hb).gr G0.out)
  have HB := hid (l03Ok_any w.heap.size k l s (some ⟨g, 0, none⟩) n n ss hw hn hz W0 hbk)
  have HPH := hid (fun V => l03Phrase_any x hx V)
  have HFI := hid (fun (V : World) (gv : BookAt V w.heap.size k l s (some ⟨g, 0, none⟩) n n ss) => l03Find_any w.heap.size k l s (some ⟨g, 0, none⟩) n n ss hn x V gv)
  have BK := hid hbk
  cases hv : validBk k l s ss with
  | false =>
    rw [addL_no (by rw [addC_no (by rw [new_1 hv]; decide), new_1 hv]; decide), addC_no (by rw [new_1 hv]; decide), new_1 hv]
    simp only [keepI_no (show ¬ (1 : Int) = 0 by decide)]
    rw [hv] at HB
    clear hv hz hw hb hl hbk
    go_enter Tryd.func28, Tryd.ntmps28
    go_wp2_with fail
    rw [← HW.out]
    go_wp2_with fail
    refine HB.out.mono ?_
    rintro e w2 ⟨rfl, g2⟩
    have GB2 := hid g2
    have G2 := hid (G0.out.trans g2)
    have BA := hid (BK.out.gr g2)
    clear g2
    have HZ2 := hid (GB2.out.heap HZ.out)
    go_wp2_with (refine wpList_store_cells rfl 31 _ _ rfl _ (bookC 0 0 0 (.slice none 0 0)) (bookC 0 0 0 (.slice none 0 0)) rfl rfl _ 4 HZ2.out (by kernel_rfl) rfl rfl (by simp [Value.oneCell']) ?_)
    refine bodyPost_ret (v := .tuple #[bookV 0 0 0 (.slice none 0 0), .int .i64 1]) (results_row_tmp (by rfl) _ _ _ _ _ _ _ _ rfl rfl (heap_row_set HZ2.out) Tryd.underlying31 rfl (by kernel_rfl)) rfl ⟨_, rfl, OwnT.nil _ _ _, G2.out.setRow (by omega) _⟩
  | true =>
    rw [hv] at HB
    cases h2 : phB x with
    | false =>
      rw [addL_no (by rw [addC_no (by rw [new_2 hv h2]; decide), new_2 hv h2]; decide), addC_no (by rw [new_2 hv h2]; decide), new_2 hv h2]
      simp only [keepI_no (show ¬ (2 : Int) = 0 by decide)]
      rw [h2] at HPH
      clear hv h2 hz hw hb hl hbk
      go_enter Tryd.func28, Tryd.ntmps28
      go_wp2_with fail
      rw [← HW.out]
      go_wp2_with fail
      refine HB.out.mono ?_
      rintro e w2 ⟨rfl, g2⟩
      have GB2 := hid g2
      have G2 := hid (G0.out.trans g2)
      have BA := hid (BK.out.gr g2)
      clear g2
      go_wp2_with fail
      refine (HPH.out _).mono ?_
      rintro e w3 ⟨rfl, rfl⟩
      have HZ2 := hid (GB2.out.heap HZ.out)
      go_wp2_with (refine wpList_store_cells rfl 31 _ _ rfl _ (bookC 0 0 0 (.slice none 0 0)) (bookC 0 0 0 (.slice none 0 0)) rfl rfl _ 4 HZ2.out (by kernel_rfl) rfl rfl (by simp [Value.oneCell']) ?_)
      refine bodyPost_ret (v := .tuple #[bookV 0 0 0 (.slice none 0 0), .int .i64 2]) (results_row_tmp (by rfl) _ _ _ _ _ _ _ _ rfl rfl (heap_row_set HZ2.out) Tryd.underlying31 rfl (by kernel_rfl)) rfl ⟨_, rfl, OwnT.nil _ _ _, G2.out.setRow (by omega) _⟩
    | true =>
      rw [h2] at HPH
      cases h3 : foundB ss x with
      | true =>
        rw [addL_no (by rw [addC_no (by rw [new_4 hv h2 h3]; decide), new_4 hv h2 h3]; decide), addC_no (by rw [new_4 hv h2 h3]; decide), new_4 hv h2 h3]
        simp only [keepI_no (show ¬ (4 : Int) = 0 by decide)]
        have hge : 0 ≤ firstV ss x := of_decide_eq_true h3
        clear hv h2 h3 hz hw hb hl hbk
        generalize firstV ss x = q at *
        go_enter Tryd.func28, Tryd.ntmps28
        go_wp2_with fail
        rw [← HW.out]
        go_wp2_with fail
        refine HB.out.mono ?_
        rintro e w2 ⟨rfl, g2⟩
        have GB2 := hid g2
        have G2 := hid (G0.out.trans g2)
        have BA := hid (BK.out.gr g2)
        clear g2
        go_wp2_with fail
        refine (HPH.out _).mono ?_
        rintro e w3 ⟨rfl, rfl⟩
        go_wp2_with fail
        refine (HFI.out _ BA.out).mono ?_
        rintro e w3 ⟨rfl, rfl⟩
        have HZ2 := hid (GB2.out.heap HZ.out)
        go_wp2_with (refine wpList_store_cells rfl 31 _ _ rfl _ (bookC 0 0 0 (.slice none 0 0)) (bookC 0 0 0 (.slice none 0 0)) rfl rfl _ 4 HZ2.out (by kernel_rfl) rfl rfl (by simp [Value.oneCell']) ?_)
        refine bodyPost_ret (v := .tuple #[bookV 0 0 0 (.slice none 0 0), .int .i64 4]) (results_row_tmp (by rfl) _ _ _ _ _ _ _ _ rfl rfl (heap_row_set HZ2.out) Tryd.underlying31 rfl (by kernel_rfl)) rfl ⟨_, rfl, OwnT.nil _ _ _, G2.out.setRow (by omega) _⟩
      | false =>
        have h0 := new_0 hv h2 h3
        have hge : ¬ 0 ≤ firstV ss x := of_decide_eq_false h3
        have hln := validBk_lens hv
        obtain ⟨K, L, B, rfl, rfl, rfl, k1, k2, l1, l2, b2⟩ := sizedB_yes (validBk_sizedT hv)
        obtain ⟨-, -, e3⟩ := room_yes (validBk_sizedT hv)
        have hbd := book_bd (B := B) k2 l2
        have HM := hid (fun V (gv : Gr W0 V) => l03Meanings_any w.heap.size K L B (some ⟨g, 0, none⟩) n n ss k2 l2 b2 V (hbk.gr gv))
        by_cases h100 : 100 ≤ n
        · have hfu : fullB (K : Int) (L : Int) (B : Int) ss = true := by unfold fullB; rw [← hl, decide_eq_true h100, Bool.true_or]
          rw [addL_no (by rw [addC_full h0 hfu]; decide), addC_full h0 hfu]
          simp only [keepI_no (show ¬ (3 : Int) = 0 by decide)]
          have h100' : (100 : Int) ≤ (n : Int) := by omega
          clear hv h2 h3 hz hw hb hl hbk h0 hln e3 hbd HM hfu h100
          generalize firstV ss x = q at *
          go_enter Tryd.func28, Tryd.ntmps28
          go_wp2_with fail
          rw [← HW.out]
          go_wp2_with fail
          refine HB.out.mono ?_
          rintro e w2 ⟨rfl, g2⟩
          have GB2 := hid g2
          have G2 := hid (G0.out.trans g2)
          have BA := hid (BK.out.gr g2)
          clear g2
          go_wp2_with fail
          refine (HPH.out _).mono ?_
          rintro e w3 ⟨rfl, rfl⟩
          go_wp2_with fail
          refine (HFI.out _ BA.out).mono ?_
          rintro e w3 ⟨rfl, rfl⟩
          have C32 := hid (HD.out _ GB2.out).2.2.2
          go_wp2_with fail
          refine wp_region_held_drew (S := fun V => V.cell? ⟨w.heap.size, 3, none⟩ = some (.slice (some ⟨g, 0, none⟩) n n) ∧ Gr w2 V) (by kernel_rfl) ⟨C32.out, (Gr.refl w2).drew⟩ (fun hH => ?_)
          have HH := hid hH
          clear hH
          refine wpAnyH_take (i := 0) (v := .pointer (some ⟨w.heap.size, 3, none⟩)) rfl (by kernel_rfl) (by kernel_rfl) (by kernel_rfl) (fun _ _ _ h => h) (Or.inl ⟨by rfl, fun _ _ => by first | rfl | (go_simp; done) | (go_simp; rfl) | (go_simp; intro h; exfalso; omega)⟩) HH.out ?_
          simp only [Act.put, List.getElem_toArray, List.getElem_cons_zero, List.setIfInBounds_toArray, List.set_cons_zero, List.set_cons_succ]
          refine wpAnyH_take (i := 1) (v := .slice (some ⟨g, 0, none⟩) n n) rfl (by kernel_rfl) (by kernel_rfl) (by kernel_rfl) (fun _ _ _ h => h) (Or.inl ⟨by rfl, fun V hV => by have hc := hV.1; first | (go_simp; done) | (go_simp; rfl)⟩) HH.out ?_
          simp only [Act.put, List.getElem_toArray, List.getElem_cons_zero, List.getElem_cons_succ, List.setIfInBounds_toArray, List.set_cons_zero, List.set_cons_succ]
          refine wpAnyH_take (i := 2) (v := .int .i64 (n : Int)) rfl (by kernel_rfl) (by kernel_rfl) (by kernel_rfl) (fun _ _ _ h => h) (Or.inl ⟨by rfl, fun _ _ => by first | rfl | (go_simp; done) | (go_simp; rfl) | (go_simp; intro h; exfalso; omega)⟩) HH.out ?_
          simp only [Act.put, List.getElem_toArray, List.getElem_cons_zero, List.getElem_cons_succ, List.setIfInBounds_toArray, List.set_cons_zero, List.set_cons_succ]
          refine wpAnyH_take (i := 3) (v := .bool true) rfl (by kernel_rfl) (by kernel_rfl) (by kernel_rfl) (fun _ _ _ h => h) (Or.inl ⟨by rfl, fun _ _ => by first | rfl | (go_simp; done) | (go_simp; rfl) | (go_simp; intro h; exfalso; omega)⟩) HH.out ?_
          simp only [Act.put, List.getElem_toArray, List.getElem_cons_zero, List.getElem_cons_succ, List.setIfInBounds_toArray, List.set_cons_zero, List.set_cons_succ]
          refine wpAnyH_take (i := 4) (v := .bool true) rfl (by kernel_rfl) (by kernel_rfl) (by kernel_rfl) (fun _ _ _ h => h) (Or.inl ⟨by rfl, fun _ _ => by first | rfl | (go_simp; done) | (go_simp; rfl) | (go_simp; intro h; exfalso; omega)⟩) HH.out ?_
          simp only [Act.put, List.getElem_toArray, List.getElem_cons_zero, List.getElem_cons_succ, List.setIfInBounds_toArray, List.set_cons_zero, List.set_cons_succ]
          refine wpAnyH_take (i := 5) (v := undef) rfl (by kernel_rfl) (by kernel_rfl) (by kernel_rfl) (fun _ _ _ h => h) (Or.inr ⟨by kernel_rfl, rfl⟩) HH.out ?_
          simp only [Act.put, List.getElem_toArray, List.getElem_cons_zero, List.getElem_cons_succ, List.setIfInBounds_toArray, List.set_cons_zero, List.set_cons_succ]
          refine wpAnyH_take (i := 6) (v := undef) rfl (by kernel_rfl) (by kernel_rfl) (by kernel_rfl) (fun _ _ _ h => h) (Or.inr ⟨by kernel_rfl, rfl⟩) HH.out ?_
          simp only [Act.put, List.getElem_toArray, List.getElem_cons_zero, List.getElem_cons_succ, List.setIfInBounds_toArray, List.set_cons_zero, List.set_cons_succ]
          refine wpAnyH_take (i := 7) (v := undef) rfl (by kernel_rfl) (by kernel_rfl) (by kernel_rfl) (fun _ _ _ h => h) (Or.inr ⟨by kernel_rfl, rfl⟩) HH.out ?_
          simp only [Act.put, List.getElem_toArray, List.getElem_cons_zero, List.getElem_cons_succ, List.setIfInBounds_toArray, List.set_cons_zero, List.set_cons_succ]
          refine wpAnyH_take (i := 8) (v := undef) rfl (by kernel_rfl) (by kernel_rfl) (by kernel_rfl) (fun _ _ _ h => h) (Or.inr ⟨by kernel_rfl, rfl⟩) HH.out ?_
          simp only [Act.put, List.getElem_toArray, List.getElem_cons_zero, List.getElem_cons_succ, List.setIfInBounds_toArray, List.set_cons_zero, List.set_cons_succ]
          refine wpAnyH_take (i := 9) (v := undef) rfl (by kernel_rfl) (by kernel_rfl) (by kernel_rfl) (fun _ _ _ h => h) (Or.inr ⟨by kernel_rfl, rfl⟩) HH.out ?_
          simp only [Act.put, List.getElem_toArray, List.getElem_cons_zero, List.getElem_cons_succ, List.setIfInBounds_toArray, List.set_cons_zero, List.set_cons_succ]
          refine wpAnyH_take (i := 10) (v := undef) rfl (by kernel_rfl) (by kernel_rfl) (by kernel_rfl) (fun _ _ _ h => h) (Or.inr ⟨by kernel_rfl, rfl⟩) HH.out ?_
          simp only [Act.put, List.getElem_toArray, List.getElem_cons_zero, List.getElem_cons_succ, List.setIfInBounds_toArray, List.set_cons_zero, List.set_cons_succ]
          refine wpAnyH_take (i := 11) (v := .bool true) rfl (by kernel_rfl) (by kernel_rfl) (by kernel_rfl) (fun _ _ _ h => h) (Or.inl ⟨by rfl, fun _ _ => by first | rfl | (go_simp; done) | (go_simp; rfl) | (go_simp; intro h; exfalso; omega)⟩) HH.out ?_
          simp only [Act.put, List.getElem_toArray, List.getElem_cons_zero, List.getElem_cons_succ, List.setIfInBounds_toArray, List.set_cons_zero, List.set_cons_succ]
          refine wpAnyH_done (by kernel_rfl) ?_ _
          have G6 := hid (G2.out.trans HH.out.2)
          have HZ2 := hid ((GB2.out.trans HH.out.2).heap HZ.out)
          skip
          go_wp2_with (refine wpList_store_cells rfl 31 _ _ rfl _ (bookC 0 0 0 (.slice none 0 0)) (bookC 0 0 0 (.slice none 0 0)) rfl rfl _ 4 HZ2.out (by kernel_rfl) rfl rfl (by simp [Value.oneCell']) ?_)
          refine bodyPost_ret (v := .tuple #[bookV 0 0 0 (.slice none 0 0), .int .i64 3]) (results_row_tmp (by rfl) _ _ _ _ _ _ _ _ rfl rfl (heap_row_set HZ2.out) Tryd.underlying31 rfl (by kernel_rfl)) rfl ⟨_, rfl, OwnT.nil _ _ _, G6.out.setRow (by omega) _⟩
        · by_cases hrm : (bookL K B L).length ≤ n
          · have hfu : fullB (K : Int) (L : Int) (B : Int) ss = true := by unfold fullB; rw [← hl, e3, decide_eq_true hrm, Bool.or_true]
            rw [addL_no (by rw [addC_full h0 hfu]; decide), addC_full h0 hfu]
            simp only [keepI_no (show ¬ (3 : Int) = 0 by decide)]
            have h100' : (n : Int) < 100 := by omega
            have hdm : decide ((((bookL K B L).length : Nat) : Int) ≤ (n : Int)) = true := decide_eq_true (by omega)
            have hrm' : (((bookL K B L).length : Nat) : Int) ≤ (n : Int) := by omega
            clear hv h2 h3 hz hw hb hl hbk h0 hln e3 hfu h100 hrm
            generalize firstV ss x = q at *
            generalize bookL K B L = X at *
            go_enter Tryd.func28, Tryd.ntmps28
            go_wp2_with fail
            rw [← HW.out]
            go_wp2_with fail
            refine HB.out.mono ?_
            rintro e w2 ⟨rfl, g2⟩
            have GB2 := hid g2
            have G2 := hid (G0.out.trans g2)
            have BA := hid (BK.out.gr g2)
            clear g2
            go_wp2_with fail
            refine (HPH.out _).mono ?_
            rintro e w3 ⟨rfl, rfl⟩
            go_wp2_with fail
            refine (HFI.out _ BA.out).mono ?_
            rintro e w3 ⟨rfl, rfl⟩
            have C32 := hid (HD.out _ GB2.out).2.2.2
            go_wp2_with fail
            refine wp_region_held_drew (S := fun V => V.cell? ⟨w.heap.size, 3, none⟩ = some (.slice (some ⟨g, 0, none⟩) n n) ∧ Gr w2 V) (by kernel_rfl) ⟨C32.out, (Gr.refl w2).drew⟩ (fun hH => ?_)
            have HH := hid hH
            clear hH
            refine wpAnyH_take (i := 0) (v := .pointer (some ⟨w.heap.size, 3, none⟩)) rfl (by kernel_rfl) (by kernel_rfl) (by kernel_rfl) (fun _ _ _ h => h) (Or.inl ⟨by rfl, fun _ _ => by first | rfl | (go_simp; done) | (go_simp; rfl) | (go_simp; intro h; exfalso; omega)⟩) HH.out ?_
            simp only [Act.put, List.getElem_toArray, List.getElem_cons_zero, List.setIfInBounds_toArray, List.set_cons_zero, List.set_cons_succ]
            refine wpAnyH_take (i := 1) (v := .slice (some ⟨g, 0, none⟩) n n) rfl (by kernel_rfl) (by kernel_rfl) (by kernel_rfl) (fun _ _ _ h => h) (Or.inl ⟨by rfl, fun V hV => by have hc := hV.1; first | (go_simp; done) | (go_simp; rfl)⟩) HH.out ?_
            simp only [Act.put, List.getElem_toArray, List.getElem_cons_zero, List.getElem_cons_succ, List.setIfInBounds_toArray, List.set_cons_zero, List.set_cons_succ]
            refine wpAnyH_take (i := 2) (v := .int .i64 (n : Int)) rfl (by kernel_rfl) (by kernel_rfl) (by kernel_rfl) (fun _ _ _ h => h) (Or.inl ⟨by rfl, fun _ _ => by first | rfl | (go_simp; done) | (go_simp; rfl) | (go_simp; intro h; exfalso; omega)⟩) HH.out ?_
            simp only [Act.put, List.getElem_toArray, List.getElem_cons_zero, List.getElem_cons_succ, List.setIfInBounds_toArray, List.set_cons_zero, List.set_cons_succ]
            refine wpAnyH_take (i := 3) (v := .bool false) rfl (by kernel_rfl) (by kernel_rfl) (by kernel_rfl) (fun _ _ _ h => h) (Or.inl ⟨by rfl, fun _ _ => by first | rfl | (go_simp; done) | (go_simp; rfl) | (go_simp; intro h; exfalso; omega)⟩) HH.out ?_
            simp only [Act.put, List.getElem_toArray, List.getElem_cons_zero, List.getElem_cons_succ, List.setIfInBounds_toArray, List.set_cons_zero, List.set_cons_succ]
            refine wpAnyH_take (i := 4) (v := .bool false) rfl (by kernel_rfl) (by kernel_rfl) (by kernel_rfl) (fun _ _ _ h => h) (Or.inl ⟨by rfl, fun _ _ => by first | rfl | (go_simp; done) | (go_simp; rfl) | (go_simp; intro h; exfalso; omega)⟩) HH.out ?_
            simp only [Act.put, List.getElem_toArray, List.getElem_cons_zero, List.getElem_cons_succ, List.setIfInBounds_toArray, List.set_cons_zero, List.set_cons_succ]
            refine wpAnyH_take (i := 5) (v := .pointer (some ⟨w.heap.size, 3, none⟩)) rfl (by kernel_rfl) (by kernel_rfl) (by kernel_rfl) (fun _ _ _ h => h) (Or.inl ⟨by rfl, fun _ _ => by first | rfl | (go_simp; done) | (go_simp; rfl) | (go_simp; intro h; exfalso; omega)⟩) HH.out ?_
            simp only [Act.put, List.getElem_toArray, List.getElem_cons_zero, List.getElem_cons_succ, List.setIfInBounds_toArray, List.set_cons_zero, List.set_cons_succ]
            refine wpAnyH_take (i := 6) (v := .slice (some ⟨g, 0, none⟩) n n) rfl (by kernel_rfl) (by kernel_rfl) (by kernel_rfl) (fun _ _ _ h => h) (Or.inl ⟨by rfl, fun V hV => by have hc := hV.1; first | (go_simp; done) | (go_simp; rfl)⟩) HH.out ?_
            simp only [Act.put, List.getElem_toArray, List.getElem_cons_zero, List.getElem_cons_succ, List.setIfInBounds_toArray, List.set_cons_zero, List.set_cons_succ]
            refine wpAnyH_take (i := 7) (v := .int .i64 (n : Int)) rfl (by kernel_rfl) (by kernel_rfl) (by kernel_rfl) (fun _ _ _ h => h) (Or.inl ⟨by rfl, fun _ _ => by first | rfl | (go_simp; done) | (go_simp; rfl) | (go_simp; intro h; exfalso; omega)⟩) HH.out ?_
            simp only [Act.put, List.getElem_toArray, List.getElem_cons_zero, List.getElem_cons_succ, List.setIfInBounds_toArray, List.set_cons_zero, List.set_cons_succ]
            refine wpAnyH_ready (rs := [8]) (by kernel_rfl) (by simp) (AllReadyH.cons rfl (fun KK hKK => ?_) AllReadyH.nil)
            rw [if_pos (by rfl)]
            go_simp
            refine (HM.out _ (GB2.out.trans HH.out.2)).mono ?_
            rintro e w5 ⟨g5, c5, vs5, rfl, -, gr5⟩
            dsimp only
            refine hKK.out _ _ ⟨gr5.cell HH.out.1, HH.out.2.trans gr5⟩ (fun hH => ?_)
            clear gr5
            clear HH hKK KK
            have HH := hid hH
            clear hH
            refine wpAnyH_take (i := 9) (v := .int .i64 ((X.length : Nat) : Int)) rfl (by kernel_rfl) (by kernel_rfl) (by kernel_rfl) (fun _ _ _ h => h) (Or.inl ⟨by rfl, fun _ _ => by first | rfl | (go_simp; done) | (go_simp; rfl) | (go_simp; intro h; exfalso; omega)⟩) HH.out ?_
            simp only [Act.put, List.getElem_toArray, List.getElem_cons_zero, List.getElem_cons_succ, List.setIfInBounds_toArray, List.set_cons_zero, List.set_cons_succ]
            refine wpAnyH_take (i := 10) (v := .bool true) rfl (by kernel_rfl) (by kernel_rfl) (by kernel_rfl) (fun _ _ _ h => h) (Or.inl ⟨by rfl, fun _ _ => by first | rfl | (go_simp; done) | (go_simp; rfl) | (go_simp; intro h; exfalso; omega)⟩) HH.out ?_
            simp only [Act.put, List.getElem_toArray, List.getElem_cons_zero, List.getElem_cons_succ, List.setIfInBounds_toArray, List.set_cons_zero, List.set_cons_succ]
            refine wpAnyH_take (i := 11) (v := .bool true) rfl (by kernel_rfl) (by kernel_rfl) (by kernel_rfl) (fun _ _ _ h => h) (Or.inl ⟨by rfl, fun _ _ => by first | rfl | (go_simp; done) | (go_simp; rfl) | (go_simp; intro h; exfalso; omega)⟩) HH.out ?_
            simp only [Act.put, List.getElem_toArray, List.getElem_cons_zero, List.getElem_cons_succ, List.setIfInBounds_toArray, List.set_cons_zero, List.set_cons_succ]
            refine wpAnyH_done (by kernel_rfl) ?_ _
            have G6 := hid (G2.out.trans HH.out.2)
            have HZ2 := hid ((GB2.out.trans HH.out.2).heap HZ.out)
            skip
            go_wp2_with (refine wpList_store_cells rfl 31 _ _ rfl _ (bookC 0 0 0 (.slice none 0 0)) (bookC 0 0 0 (.slice none 0 0)) rfl rfl _ 4 HZ2.out (by kernel_rfl) rfl rfl (by simp [Value.oneCell']) ?_)
            refine bodyPost_ret (v := .tuple #[bookV 0 0 0 (.slice none 0 0), .int .i64 3]) (results_row_tmp (by rfl) _ _ _ _ _ _ _ _ rfl rfl (heap_row_set HZ2.out) Tryd.underlying31 rfl (by kernel_rfl)) rfl ⟨_, rfl, OwnT.nil _ _ _, G6.out.setRow (by omega) _⟩
          · have hfu : fullB (K : Int) (L : Int) (B : Int) ss = false := by unfold fullB; rw [← hl, e3, decide_eq_false h100, decide_eq_false hrm]; rfl
            rw [addL_yes (addC_ok h0 hfu), addC_ok h0 hfu]
            simp only [keepI_yes]
            have h100' : (n : Int) < 100 := by omega
            have hrm' : (n : Int) < (((bookL K B L).length : Nat) : Int) := by omega
            have hn99 : n < 100 := by omega
            have hrm2 : n < (bookL K B L).length := by omega
            have HG := hid hb
            have HL := hid hl
            obtain ⟨i0, hi, hz0, hz1, hz2⟩ := info_parts infoStr
            clear hv h2 h3 hz hw hb hl hbk h0 hln e3 hfu h100 hrm
            generalize firstV ss x = q at *
            generalize bookL K B L = X at *
            go_enter Tryd.func28, Tryd.ntmps28
            go_wp2_with fail
            rw [← HW.out]
            go_wp2_with fail
            refine HB.out.mono ?_
            rintro e w2 ⟨rfl, g2⟩
            have GB2 := hid g2
            have G2 := hid (G0.out.trans g2)
            have BA := hid (BK.out.gr g2)
            clear g2
            go_wp2_with fail
            refine (HPH.out _).mono ?_
            rintro e w3 ⟨rfl, rfl⟩
            go_wp2_with fail
            refine (HFI.out _ BA.out).mono ?_
            rintro e w3 ⟨rfl, rfl⟩
            have C32 := hid (HD.out _ GB2.out).2.2.2
            go_wp2_with fail
            refine wp_region_held_drew (S := fun V => V.cell? ⟨w.heap.size, 3, none⟩ = some (.slice (some ⟨g, 0, none⟩) n n) ∧ Gr w2 V) (by kernel_rfl) ⟨C32.out, (Gr.refl w2).drew⟩ (fun hH => ?_)
            have HH := hid hH
            clear hH
            refine wpAnyH_take (i := 0) (v := .pointer (some ⟨w.heap.size, 3, none⟩)) rfl (by kernel_rfl) (by kernel_rfl) (by kernel_rfl) (fun _ _ _ h => h) (Or.inl ⟨by rfl, fun _ _ => by first | rfl | (go_simp; done) | (go_simp; rfl) | (go_simp; intro h; exfalso; omega)⟩) HH.out ?_
            simp only [Act.put, List.getElem_toArray, List.getElem_cons_zero, List.setIfInBounds_toArray, List.set_cons_zero, List.set_cons_succ]
            refine wpAnyH_take (i := 1) (v := .slice (some ⟨g, 0, none⟩) n n) rfl (by kernel_rfl) (by kernel_rfl) (by kernel_rfl) (fun _ _ _ h => h) (Or.inl ⟨by rfl, fun V hV => by have hc := hV.1; first | (go_simp; done) | (go_simp; rfl)⟩) HH.out ?_
            simp only [Act.put, List.getElem_toArray, List.getElem_cons_zero, List.getElem_cons_succ, List.setIfInBounds_toArray, List.set_cons_zero, List.set_cons_succ]
            refine wpAnyH_take (i := 2) (v := .int .i64 (n : Int)) rfl (by kernel_rfl) (by kernel_rfl) (by kernel_rfl) (fun _ _ _ h => h) (Or.inl ⟨by rfl, fun _ _ => by first | rfl | (go_simp; done) | (go_simp; rfl) | (go_simp; intro h; exfalso; omega)⟩) HH.out ?_
            simp only [Act.put, List.getElem_toArray, List.getElem_cons_zero, List.getElem_cons_succ, List.setIfInBounds_toArray, List.set_cons_zero, List.set_cons_succ]
            refine wpAnyH_take (i := 3) (v := .bool false) rfl (by kernel_rfl) (by kernel_rfl) (by kernel_rfl) (fun _ _ _ h => h) (Or.inl ⟨by rfl, fun _ _ => by first | rfl | (go_simp; done) | (go_simp; rfl) | (go_simp; intro h; exfalso; omega)⟩) HH.out ?_
            simp only [Act.put, List.getElem_toArray, List.getElem_cons_zero, List.getElem_cons_succ, List.setIfInBounds_toArray, List.set_cons_zero, List.set_cons_succ]
            refine wpAnyH_take (i := 4) (v := .bool false) rfl (by kernel_rfl) (by kernel_rfl) (by kernel_rfl) (fun _ _ _ h => h) (Or.inl ⟨by rfl, fun _ _ => by first | rfl | (go_simp; done) | (go_simp; rfl) | (go_simp; intro h; exfalso; omega)⟩) HH.out ?_
            simp only [Act.put, List.getElem_toArray, List.getElem_cons_zero, List.getElem_cons_succ, List.setIfInBounds_toArray, List.set_cons_zero, List.set_cons_succ]
            refine wpAnyH_take (i := 5) (v := .pointer (some ⟨w.heap.size, 3, none⟩)) rfl (by kernel_rfl) (by kernel_rfl) (by kernel_rfl) (fun _ _ _ h => h) (Or.inl ⟨by rfl, fun _ _ => by first | rfl | (go_simp; done) | (go_simp; rfl) | (go_simp; intro h; exfalso; omega)⟩) HH.out ?_
            simp only [Act.put, List.getElem_toArray, List.getElem_cons_zero, List.getElem_cons_succ, List.setIfInBounds_toArray, List.set_cons_zero, List.set_cons_succ]
            refine wpAnyH_take (i := 6) (v := .slice (some ⟨g, 0, none⟩) n n) rfl (by kernel_rfl) (by kernel_rfl) (by kernel_rfl) (fun _ _ _ h => h) (Or.inl ⟨by rfl, fun V hV => by have hc := hV.1; first | (go_simp; done) | (go_simp; rfl)⟩) HH.out ?_
            simp only [Act.put, List.getElem_toArray, List.getElem_cons_zero, List.getElem_cons_succ, List.setIfInBounds_toArray, List.set_cons_zero, List.set_cons_succ]
            refine wpAnyH_take (i := 7) (v := .int .i64 (n : Int)) rfl (by kernel_rfl) (by kernel_rfl) (by kernel_rfl) (fun _ _ _ h => h) (Or.inl ⟨by rfl, fun _ _ => by first | rfl | (go_simp; done) | (go_simp; rfl) | (go_simp; intro h; exfalso; omega)⟩) HH.out ?_
            simp only [Act.put, List.getElem_toArray, List.getElem_cons_zero, List.getElem_cons_succ, List.setIfInBounds_toArray, List.set_cons_zero, List.set_cons_succ]
            refine wpAnyH_ready (rs := [8]) (by kernel_rfl) (by simp) (AllReadyH.cons rfl (fun KK hKK => ?_) AllReadyH.nil)
            rw [if_pos (by rfl)]
            go_simp
            refine (HM.out _ (GB2.out.trans HH.out.2)).mono ?_
            rintro e w5 ⟨g5, c5, vs5, rfl, -, gr5⟩
            dsimp only
            refine hKK.out _ _ ⟨gr5.cell HH.out.1, HH.out.2.trans gr5⟩ (fun hH => ?_)
            clear gr5
            clear HH hKK KK
            have HH := hid hH
            clear hH
            refine wpAnyH_take (i := 9) (v := .int .i64 ((X.length : Nat) : Int)) rfl (by kernel_rfl) (by kernel_rfl) (by kernel_rfl) (fun _ _ _ h => h) (Or.inl ⟨by rfl, fun _ _ => by first | rfl | (go_simp; done) | (go_simp; rfl) | (go_simp; intro h; exfalso; omega)⟩) HH.out ?_
            simp only [Act.put, List.getElem_toArray, List.getElem_cons_zero, List.getElem_cons_succ, List.setIfInBounds_toArray, List.set_cons_zero, List.set_cons_succ]
            refine wpAnyH_take (i := 10) (v := .bool false) rfl (by kernel_rfl) (by kernel_rfl) (by kernel_rfl) (fun _ _ _ h => h) (Or.inl ⟨by rfl, fun _ _ => by first | rfl | (go_simp; done) | (go_simp; rfl) | (go_simp; intro h; exfalso; omega)⟩) HH.out ?_
            simp only [Act.put, List.getElem_toArray, List.getElem_cons_zero, List.getElem_cons_succ, List.setIfInBounds_toArray, List.set_cons_zero, List.set_cons_succ]
            refine wpAnyH_take (i := 11) (v := .bool false) rfl (by kernel_rfl) (by kernel_rfl) (by kernel_rfl) (fun _ _ _ h => h) (Or.inl ⟨by rfl, fun _ _ => by first | rfl | (go_simp; done) | (go_simp; rfl) | (go_simp; intro h; exfalso; omega)⟩) HH.out ?_
            simp only [Act.put, List.getElem_toArray, List.getElem_cons_zero, List.getElem_cons_succ, List.setIfInBounds_toArray, List.set_cons_zero, List.set_cons_succ]
            refine wpAnyH_done (by kernel_rfl) ?_ _
            have G5 := hid (G2.out.trans HH.out.2)
            have GB5 := hid (GB2.out.trans HH.out.2)
            have c35 : w5.cell? ⟨w.heap.size, 3, none⟩ = some (.slice (some ⟨g, 0, none⟩) n n) := HH.out.1
            clear HH
            have O0 := hid (emptyT w5)
            have HG5 := hid (G5.out.heap HG.out)
            have S5 := hid GB5.out.size
            have NW := hid (news_all (heap_kept (o := .cells #[] 9) HG5.out))
            have LN := hid (show (ss.map Value.string).length = n * 1 by rw [List.length_map, ← HL.out, Nat.mul_one])
            have GA5 := hid ((Gr.refl w5).alloc (.cells #[] 9))
            have c36 : (w5.alloc (.cells #[] 9)).cell? ⟨w.heap.size, 3, none⟩ = some (.slice (some ⟨g, 0, none⟩) n n) := GA5.out.cell c35
            go_wp2_with (first | (at_builtin; refine wpList_append_own _ rfl _ _ 23 rfl w5.heap.size 9 i0 (.string ⟨#[]⟩) 1 16 Tryd.underlying23 hi hz0 hz1 hz2 rfl (by decide) _ _ _ rfl (hown7.alloc _) ⟨w7.heap.size, 0, none⟩ 1 1 [.string x] rfl rfl (cell_q1 _ _ _) (by simp [Value.oneCell']) (by unfold maxLen; omega) (by omega) (by have := GX7.out.size; simp; omega) ?_; intro v8 w8 hown8 hgrow8 hnil8; obtain ⟨g8, c8, rfl, h3, h4⟩ := row_some hown8 (fun e => by have h := (hnil8.1 e).1; injection h with h1; cases h1)) | (at_builtin; refine wpList_append_own _ rfl _ _ 23 rfl w5.heap.size 9 i0 (.string ⟨#[]⟩) 1 16 Tryd.underlying23 hi hz0 hz1 hz2 rfl (by decide) _ _ _ rfl O0.out ⟨g, 0, none⟩ n n (ss.map Value.string) rfl LN.out NW.out (one_strs ss) (by unfold maxLen; omega) (by omega) (by simp) ?_; intro v7 w7 hown7 hgrow7 hnil7; obtain ⟨g7, c7, rfl, h1, h2⟩ := row_some hown7 (fun e => by have h := (hnil7.1 e).1; injection h with h1; cases h1); simp only [Nat.zero_add, List.nil_append] at hown7 ⊢; have GX7 := hid (GA5.out.by_ hgrow7 (fun b e => by cases e; exact Nat.le_refl _))))
            have GX8 := hid ((GX7.out.alloc (.cells #[.string x] 9)).by_ hgrow8 (fun b e => by cases e; exact h1))
            have O8 := hid (OwnT.ofRow (ss := ss ++ [x]) hown8 (by rw [List.map_append]; rfl) (by rw [List.length_append, ← HL.out]; rfl))
            have BA8 := hid (BK.out.gr (GB5.out.trans GX8.out))
            refine (l03With_any w.heap.size (K : Int) (L : Int) (B : Int) _ n n ss g8 (n + 1) c8 (ss ++ [x]) (by rw [List.length_append, ← HL.out]; rfl) (by omega) w8 BA8.out O8.out.news).mono ?_
            rintro e w9 ⟨g9, c9, rfl, o9, gr9⟩
            have O9 := hid o9
            have G9 := hid (G5.out.trans (GX8.out.trans gr9))
            have HZ9 := hid ((GB5.out.trans (GX8.out.trans gr9)).heap HZ.out)
            have S8 := hid GX8.out.size
            clear o9 gr9 hown7 hgrow7 hnil7 hown8 hgrow8 hnil8
            go_wp2_with (refine wpList_store_cells rfl 31 _ _ rfl _ (bookC (K : Int) (L : Int) (B : Int) (.slice (some ⟨g9, 0, none⟩) (n + 1) c9)) (bookC 0 0 0 (.slice none 0 0)) rfl rfl _ 4 HZ9.out (by kernel_rfl) rfl rfl (by simp [Value.oneCell']) ?_)
            refine bodyPost_ret (v := .tuple #[bookV (K : Int) (L : Int) (B : Int) (.slice (some ⟨g9, 0, none⟩) (n + 1) c9), .int .i64 0]) (results_row_tmp (by rfl) _ _ _ _ _ _ _ _ rfl rfl (heap_row_set HZ9.out) Tryd.underlying31 rfl (by kernel_rfl)) rfl ⟨_, rfl, ?_, G9.out.setRow (by omega) _⟩
            refine (O9.out.setRow (q := w.heap.size + 1) (by have := SZ.out; have := S5.out; have := S8.out; omega) _).widen (by have := SZ.out; have := S5.out; have := S8.out; omega) ?_
            rw [size_setRow]
            exact Nat.le_refl _
set_option maxRecDepth 100000 in
set_option maxHeartbeats 2000000 in
theorem impl_AddPhrase_any (k l s : Int) (hw : Wf3 k l s) (g n : Nat) (ss : List ByteArray) (hl : n = ss.length) (hn : n ≤ 1048576) (hz : SizesOk ss) (x : ByteArray) (hx : x.size ≤ 9223372036854775807) (b0 b1 b2 : Addr) (w : World) (hb : w.heap[g]? = some (.cells (strCells ss) 9 (0, 0))) (hS : SentAt w b0 b1 b2) :
    Calls Tryd.prog 29 #[bookV k l s (.slice (some ⟨g, 0, none⟩) n n), .string x] w (RetBook (keepI (addC k l s ss x) k) (keepI (addC k l s ss x) l) (keepI (addC k l s ss x) s) (addC k l s ss x) (addL k l s ss x) w) := by
  obtain ⟨W0, hW⟩ : ∃ W, W = (w.alloc (.cells (bookC k l s (.slice (some ⟨g, 0, none⟩) n n)) 31)).alloc (.cells (bookC 0 0 0 (.slice none 0 0)) 31) := ⟨_, rfl⟩
  have G0 : Hid (Gr w W0) := hid (by rw [hW]; exact ((Gr.refl w).alloc _).alloc _)
  have HBX : Hid (W0.heap[w.heap.size]? = some (.cells (bookC k l s (.slice (some ⟨g, 0, none⟩) n n)) 31 (0, 0))) := hid (by rw [hW]; exact heap_kept (heap_new rfl))
  have HZ : Hid (W0.heap[w.heap.size + 1]? = some (.cells (bookC 0 0 0 (.slice none 0 0)) 31 (0, 0))) := hid (by rw [hW]; exact heap_new (by simp))
  have SZ : Hid (w.heap.size + 2 = W0.heap.size) := hid (by rw [hW]; simp)
  have HD := hid (fun V (gv : Gr W0 V) => bk_cells (gv.heap HBX.out))
  have HW := hid hW
  clear hW
  have HCI := hid (fun V (gv : Gr W0 V) => checkNew_any k l s hw g n ss hl hn hz x hx b0 b1 b2 V ((G0.out.trans gv).heap hb) (hS.gr (G0.out.trans gv)))
  have HSE := hid (fun V (gv : Gr W0 V) => hS.gr (G0.out.trans gv))
  clear hS
  by_cases h : newC k l s ss x = 0
  · rw [h, errE_zero] at HCI
    have hln := validBk_lens (new_zero h).1
    have HVB := hid (fun g' c' V (hV : StrsOf V (some ⟨g', 0, none⟩) (ss ++ [x])) => by
      have := impl_ValidBook_any k l s hw (some ⟨g', 0, none⟩) c' (n + 1) (ss ++ [x]) (by rw [List.length_append, ← hl]; rfl) (by omega) (sizes_snoc hz hx) V hV
      rwa [validBk_snoc h] at this)
    have HG := hid hb
    have HL := hid hl
    have HCL := hid (fun V (hV : V.heap[g]? = some (.cells (strCells ss) 9 (0, 0))) => cloneT_any g n ss hl hn V hV)
    obtain ⟨i0, hi, hz0, hz1, hz2⟩ := info_parts infoStr
    cases hfu : fullB k l s ss with
    | true =>
      rw [addL_no (by rw [addC_full h hfu]; decide), addC_full h hfu]
      simp only [keepI_no (show ¬ (3 : Int) = 0 by decide)]
      rw [hfu] at HVB
      clear h hfu hz hw hb hl hln HSE
      go_enter Tryd.func29, Tryd.ntmps29
      go_wp2_with fail
      rw [← HW.out]
      obtain ⟨d0, d1, d2, d3⟩ := HD.out _ (Gr.refl W0)
      go_wp2_with fail
      refine (HCI.out _ (Gr.refl W0)).mono ?_
      rintro e w2 ⟨rfl, g2⟩
      have GB2 := hid g2
      clear d0 d1 d2 d3
      obtain ⟨d0, d1, d2, d3⟩ := HD.out _ g2
      have S2 := hid g2.size
      clear g2
      go_wp2_with fail
      refine (HCL.out _ ((G0.out.trans GB2.out).heap HG.out)).mono ?_
      rintro e w4 ⟨g4, c4, rfl, o4, gr4⟩
      have GB4 := hid (GB2.out.trans gr4)
      have G4 := hid (G0.out.trans GB4.out)
      have HB4 := hid (GB4.out.heap HBX.out)
      have HZ4 := hid (GB4.out.heap HZ.out)
      have HG4 := hid (o4.row.lt g4 rfl).1
      have S4 := hid gr4.size
      have O4 := hid o4
      have LN4 := hid (show n = ss.length from HL.out)
      clear o4 gr4 d0 d1 d2 d3
      have R4 := hid (show w4.ownsRow w2.heap.size 9 1 (.slice (some ⟨g4, 0, none⟩) n c4) n (ss.map Value.string) from by have h := O4.out.row; rwa [← HL.out] at h)
      go_wp2_with (at_builtin; refine wpList_append_own _ rfl _ _ 23 rfl w2.heap.size 9 i0 (.string ⟨#[]⟩) 1 16 Tryd.underlying23 hi hz0 hz1 hz2 rfl (by decide) _ _ _ rfl (R4.out.alloc _) ⟨w4.heap.size, 0, none⟩ 1 1 [.string x] rfl rfl (cell_q1 _ _ _) (by simp [Value.oneCell']) (by unfold maxLen; omega) (by omega) (by have := S4.out; simp; omega) ?_; intro v8 w8 hown8 hgrow8 hnil8; obtain ⟨g8, c8, rfl, h3, h4⟩ := row_some hown8 (fun e => by have h := (hnil8.1 e).1; injection h with h1; cases h1); have hb8 := (hgrow8.block w.heap.size (by have := SZ.out; have := S2.out; have := S4.out; simp; omega) (fun e => by have h9 := Option.some.inj (show some w.heap.size = some g4 from e); have := HG4.out; have := SZ.out; have := S2.out; omega)).trans (heap_kept (o := .cells #[.string x] 9) HB4.out); have hz8 := (hgrow8.block (w.heap.size + 1) (by have := SZ.out; have := S2.out; have := S4.out; simp; omega) (fun e => by have h9 := Option.some.inj (show some (w.heap.size + 1) = some g4 from e); have := HG4.out; have := SZ.out; have := S2.out; omega)).trans (heap_kept (o := .cells #[.string x] 9) HZ4.out); have f8 : w8.frozen? ⟨w.heap.size, 3, none⟩ = false := frozen_of_row _ _ _ _ _ hb8; have c38 := (bk_cells hb8).2.2.2; have hb9 := heap_setCell_same w8 w.heap.size 3 _ _ (.slice (some ⟨g8, 0, none⟩) (n + 1) c8) hb8; obtain ⟨e0, e1, e2, e3⟩ := bk_cells (k := k) (l := l) (s := s) (v := .slice (some ⟨g8, 0, none⟩) (n + 1) c8) hb9)
      have O8 := hid (OwnT.ofRow (ss := ss ++ [x]) hown8 (by rw [List.map_append]; rfl) (by rw [List.length_append, ← HL.out]; rfl))
      have HB9 := hid hb9
      have HZ9 := hid ((heap_setCell_other w8 ⟨w.heap.size, 3, none⟩ (w.heap.size + 1) (.slice (some ⟨g8, 0, none⟩) (n + 1) c8) (by simp)).trans hz8)
      have G9 := hid (((G4.out.alloc (.cells #[.string x] 9)).by_ hgrow8 (fun b e => by cases e; dsimp only; have := HG4.out; have := SZ.out; have := S2.out; omega)).setCell (p := ⟨w.heap.size, 3, none⟩) (Nat.le_refl _) (.slice (some ⟨g8, 0, none⟩) (n + 1) c8))
      have O9 := hid (O8.out.by_ (grown_cell (W := w8) (g := w.heap.size) (i := 3) (u := .slice (some ⟨g8, 0, none⟩) (n + 1) c8)) (fun b e => by cases e; left; have := SZ.out; have := S2.out; omega))
      clear hown8 hgrow8 hnil8 hb8 hz8 f8 c38 hb9
      refine (HVB.out g8 c8 _ O9.out.reads).mono ?_
      rintro e w10 ⟨rfl, g10⟩
      have HZ2 := hid (g10.heap HZ9.out)
      have G10 := hid (G9.out.trans g10)
      clear e0 e1 e2 e3 g10
      go_wp2_with (refine wpList_store_cells rfl 31 _ _ rfl _ (bookC 0 0 0 (.slice none 0 0)) (bookC 0 0 0 (.slice none 0 0)) rfl rfl _ 4 HZ2.out (by kernel_rfl) rfl rfl (by simp [Value.oneCell']) ?_)
      refine bodyPost_ret (v := .tuple #[bookV 0 0 0 (.slice none 0 0), .int .i64 3]) (results_row_tmp (by rfl) _ _ _ _ _ _ _ _ rfl rfl (heap_row_set HZ2.out) Tryd.underlying31 rfl (by kernel_rfl)) rfl ⟨_, rfl, OwnT.nil _ _ _, G10.out.setRow (by omega) _⟩
    | false =>
      rw [addL_yes (addC_ok h hfu), addC_ok h hfu]
      simp only [keepI_yes]
      rw [hfu] at HVB
      clear h hfu hz hw hb hl hln HSE
      go_enter Tryd.func29, Tryd.ntmps29
      go_wp2_with fail
      rw [← HW.out]
      obtain ⟨d0, d1, d2, d3⟩ := HD.out _ (Gr.refl W0)
      go_wp2_with fail
      refine (HCI.out _ (Gr.refl W0)).mono ?_
      rintro e w2 ⟨rfl, g2⟩
      have GB2 := hid g2
      clear d0 d1 d2 d3
      obtain ⟨d0, d1, d2, d3⟩ := HD.out _ g2
      have S2 := hid g2.size
      clear g2
      go_wp2_with fail
      refine (HCL.out _ ((G0.out.trans GB2.out).heap HG.out)).mono ?_
      rintro e w4 ⟨g4, c4, rfl, o4, gr4⟩
      have GB4 := hid (GB2.out.trans gr4)
      have G4 := hid (G0.out.trans GB4.out)
      have HB4 := hid (GB4.out.heap HBX.out)
      have HZ4 := hid (GB4.out.heap HZ.out)
      have HG4 := hid (o4.row.lt g4 rfl).1
      have S4 := hid gr4.size
      have O4 := hid o4
      have LN4 := hid (show n = ss.length from HL.out)
      clear o4 gr4 d0 d1 d2 d3
      have R4 := hid (show w4.ownsRow w2.heap.size 9 1 (.slice (some ⟨g4, 0, none⟩) n c4) n (ss.map Value.string) from by have h := O4.out.row; rwa [← HL.out] at h)
      go_wp2_with (at_builtin; refine wpList_append_own _ rfl _ _ 23 rfl w2.heap.size 9 i0 (.string ⟨#[]⟩) 1 16 Tryd.underlying23 hi hz0 hz1 hz2 rfl (by decide) _ _ _ rfl (R4.out.alloc _) ⟨w4.heap.size, 0, none⟩ 1 1 [.string x] rfl rfl (cell_q1 _ _ _) (by simp [Value.oneCell']) (by unfold maxLen; omega) (by omega) (by have := S4.out; simp; omega) ?_; intro v8 w8 hown8 hgrow8 hnil8; obtain ⟨g8, c8, rfl, h3, h4⟩ := row_some hown8 (fun e => by have h := (hnil8.1 e).1; injection h with h1; cases h1); have hb8 := (hgrow8.block w.heap.size (by have := SZ.out; have := S2.out; have := S4.out; simp; omega) (fun e => by have h9 := Option.some.inj (show some w.heap.size = some g4 from e); have := HG4.out; have := SZ.out; have := S2.out; omega)).trans (heap_kept (o := .cells #[.string x] 9) HB4.out); have hz8 := (hgrow8.block (w.heap.size + 1) (by have := SZ.out; have := S2.out; have := S4.out; simp; omega) (fun e => by have h9 := Option.some.inj (show some (w.heap.size + 1) = some g4 from e); have := HG4.out; have := SZ.out; have := S2.out; omega)).trans (heap_kept (o := .cells #[.string x] 9) HZ4.out); have f8 : w8.frozen? ⟨w.heap.size, 3, none⟩ = false := frozen_of_row _ _ _ _ _ hb8; have c38 := (bk_cells hb8).2.2.2; have hb9 := heap_setCell_same w8 w.heap.size 3 _ _ (.slice (some ⟨g8, 0, none⟩) (n + 1) c8) hb8; obtain ⟨e0, e1, e2, e3⟩ := bk_cells (k := k) (l := l) (s := s) (v := .slice (some ⟨g8, 0, none⟩) (n + 1) c8) hb9)
      have O8 := hid (OwnT.ofRow (ss := ss ++ [x]) hown8 (by rw [List.map_append]; rfl) (by rw [List.length_append, ← HL.out]; rfl))
      have HB9 := hid hb9
      have HZ9 := hid ((heap_setCell_other w8 ⟨w.heap.size, 3, none⟩ (w.heap.size + 1) (.slice (some ⟨g8, 0, none⟩) (n + 1) c8) (by simp)).trans hz8)
      have G9 := hid (((G4.out.alloc (.cells #[.string x] 9)).by_ hgrow8 (fun b e => by cases e; dsimp only; have := HG4.out; have := SZ.out; have := S2.out; omega)).setCell (p := ⟨w.heap.size, 3, none⟩) (Nat.le_refl _) (.slice (some ⟨g8, 0, none⟩) (n + 1) c8))
      have O9 := hid (O8.out.by_ (grown_cell (W := w8) (g := w.heap.size) (i := 3) (u := .slice (some ⟨g8, 0, none⟩) (n + 1) c8)) (fun b e => by cases e; left; have := SZ.out; have := S2.out; omega))
      clear hown8 hgrow8 hnil8 hb8 hz8 f8 c38 hb9
      refine (HVB.out g8 c8 _ O9.out.reads).mono ?_
      rintro e w10 ⟨rfl, g10⟩
      have HZ2 := hid (g10.heap HZ9.out)
      have HB2 := hid (g10.heap HB9.out)
      have G10 := hid (G9.out.trans g10)
      have S10 := hid g10.size
      have O10 := hid (O9.out.gr g10)
      clear e0 e1 e2 e3 g10
      go_wp2_with (first | (refine wpList_load_whole rfl 31 _ rfl _ rfl _ (bookC k l s (.slice (some ⟨g8, 0, none⟩) (n + 1) c8)) _ HB2.out Tryd.underlying31 rfl (by kernel_rfl) ?_) | (refine wpList_store_cells rfl 31 _ _ rfl _ (bookC k l s (.slice (some ⟨g8, 0, none⟩) (n + 1) c8)) (bookC 0 0 0 (.slice none 0 0)) rfl rfl _ 4 HZ2.out (by kernel_rfl) rfl rfl (by simp [Value.oneCell']) ?_))
      refine bodyPost_ret (v := .tuple #[bookV k l s (.slice (some ⟨g8, 0, none⟩) (n + 1) c8), .int .i64 0]) (results_row_tmp (by rfl) _ _ _ _ _ _ _ _ rfl rfl (heap_row_set HZ2.out) Tryd.underlying31 rfl (by kernel_rfl)) rfl ⟨_, rfl, ?_, G10.out.setRow (by omega) _⟩
      refine (O10.out.setRow (q := w.heap.size + 1) (by have := SZ.out; have := S2.out; omega) _).widen (by have := SZ.out; have := S2.out; omega) ?_
      rw [size_setRow]
      rw [World.size_setCell] at S10
      exact S10.out
  · rw [addC_no h, addL_no (by rw [addC_no h]; exact h)]
    simp only [keepI_no h]
    have hc3 : newC k l s ss x = 1 ∨ newC k l s ss x = 2 ∨ newC k l s ss x = 4 := (new_cases k l s ss x).elim (fun e => absurd e h) (fun e => e)
    rw [errE_ne h] at HCI
    have HCO := hid (fun V (gv : Gr W0 V) => codeOf_any b0 b1 b2 _ hc3 V (HSE.out V gv))
    clear h hz hw hb hl hc3 HSE
    generalize newC k l s ss x = c at *
    generalize errB b0 b1 b2 c = eb at *
    unfold sentV at HCI HCO
    go_enter Tryd.func29, Tryd.ntmps29
    go_wp2_with fail
    rw [← HW.out]
    obtain ⟨d0, d1, d2, d3⟩ := HD.out _ (Gr.refl W0)
    go_wp2_with fail
    refine (HCI.out _ (Gr.refl W0)).mono ?_
    rintro e w2 ⟨rfl, g2⟩
    have GB2 := hid g2
    have G2 := hid (G0.out.trans g2)
    clear g2 d0 d1 d2 d3
    have HZ2 := hid (GB2.out.heap HZ.out)
    go_wp2_with fail
    refine (HCO.out _ GB2.out).mono ?_
    rintro e w3 ⟨rfl, rfl⟩
    go_wp2_with (refine wpList_store_cells rfl 31 _ _ rfl _ (bookC 0 0 0 (.slice none 0 0)) (bookC 0 0 0 (.slice none 0 0)) rfl rfl _ 4 HZ2.out (by kernel_rfl) rfl rfl (by simp [Value.oneCell']) ?_)
    refine bodyPost_ret (v := .tuple #[bookV 0 0 0 (.slice none 0 0), .int .i64 c]) (results_row_tmp (by rfl) _ _ _ _ _ _ _ _ rfl rfl (heap_row_set HZ2.out) Tryd.underlying31 rfl (by kernel_rfl)) rfl ⟨_, rfl, OwnT.nil _ _ _, G2.out.setRow (by omega) _⟩
end Go.Proofs.YtfaiehjomcgjgaaDoor
