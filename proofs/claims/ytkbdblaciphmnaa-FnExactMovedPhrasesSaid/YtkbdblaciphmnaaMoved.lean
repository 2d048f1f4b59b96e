/- MovedPhrases: the pure part; the model's function. -/
import Derived.Test.YtkbdblaciphmnaaCompletionsOf
import Derived.Test.YtkbdblaciphmnaaFindPhrase
namespace Go.Proofs.Ytkbdblaciphmnaa
set_option linter.unusedVariables false
open Go.RowKit
attribute [local go_sem] Oper.semAt_some
/-- The numbers below k of which something holds. -/
def selTo (p : Nat → Bool) : Nat → List Int
  | 0 => []
  | k + 1 => if p k then selTo p k ++ [(k : Int)] else selTo p k
theorem selTo_yes {p : Nat → Bool} {k : Nat} (h : p k = true) : selTo p (k + 1) = selTo p k ++ [(k : Int)] := by simp only [selTo]; rw [if_pos h]
theorem selTo_no {p : Nat → Bool} {k : Nat} (h : p k = false) : selTo p k = selTo p (k + 1) := by simp only [selTo]; rw [if_neg (by rw [h]; simp)]
theorem selTo_len (p : Nat → Bool) (k : Nat) : (selTo p k).length ≤ k := by
  induction k with
  | zero => simp [selTo]
  | succ k ih =>
    simp only [selTo]
    split
    · rw [List.length_append, List.length_singleton]; omega
    · omega
/-- A phrase of one book has another meaning in the other. -/
def movB (A B : List (List Int)) (ss tt : List ByteArray) (k : Nat) : Bool := decide (0 ≤ firstV tt (strAt ss k)) && !(eqLB (A.getD k []) (B.getD (firstV tt (strAt ss k)).toNat []))
def movL (k l s : Int) (ss : List ByteArray) (k' l' s' : Int) (tt : List ByteArray) : List Int := if validBk k l s ss && validBk k' l' s' tt then selTo (movB (meansOf k l s) (meansOf k' l' s') ss tt) ss.length else []
def movC (k l s : Int) (ss : List ByteArray) (k' l' s' : Int) (tt : List ByteArray) : Int := if validBk k l s ss && validBk k' l' s' tt then 0 else 1
section
variable {k l s k' l' s' : Int} {ss tt : List ByteArray}
theorem mov_no (h : (validBk k l s ss && validBk k' l' s' tt) = false) : movL k l s ss k' l' s' tt = [] ∧ movC k l s ss k' l' s' tt = 1 := by unfold movL movC; rw [h]; exact ⟨rfl, rfl⟩
theorem mov_yes (h : (validBk k l s ss && validBk k' l' s' tt) = true) : movL k l s ss k' l' s' tt = selTo (movB (meansOf k l s) (meansOf k' l' s') ss tt) ss.length ∧ movC k l s ss k' l' s' tt = 0 := by unfold movL movC; rw [h]; exact ⟨rfl, rfl⟩
end
theorem movL_len (k l s : Int) (ss : List ByteArray) (k' l' s' : Int) (tt : List ByteArray) : (movL k l s ss k' l' s' tt).length ≤ 1048576 := by
  cases h : (validBk k l s ss && validBk k' l' s' tt)
  · rw [(mov_no h).1]; simp
  · rw [(mov_yes h).1]
    rw [Bool.and_eq_true] at h
    have := selTo_len (movB (meansOf k l s) (meansOf k' l' s') ss tt) ss.length
    have := (validBk_lens h.1).1
    omega
theorem RowQ.at_take {w : World} {lo n cap m k : Nat} {a : Option Addr} {vs : List Value} {X : List (List Int)} (h : RowQ w lo (.slice a n cap) vs (X.take m)) (hk : k < m) (hm : m ≤ X.length) :
    ∃ g g' c, a = some ⟨g, 0, none⟩ ∧ w.cell? ⟨g, k, none⟩ = some (.slice (some ⟨g', 0, none⟩) (X.getD k []).length c) ∧ w.ownsRow lo 22 1 (.slice (some ⟨g', 0, none⟩) (X.getD k []).length c) (X.getD k []).length ((X.getD k []).map (Value.int .i8)) := by
  have h1 := h.at_ (i := k) (by rw [List.length_take]; omega)
  rwa [show (X.take m).getD k [] = X.getD k [] from by simp only [List.getD_eq_getElem?_getD]; rw [List.getElem?_take_of_lt hk]] at h1
theorem getD_lens {L : List (List Int)} {k : Nat} (hk : k < L.length) (hall : ∀ x ∈ L, x.length ≤ 1048576) : (L.getD k []).length ≤ 1048576 := by
  have : L.getD k [] = L[k] := by simp [List.getD, List.getElem?_eq_getElem hk]
  rw [this]; exact hall _ (List.getElem_mem hk)
theorem rowQ_lens {w : World} {lo : Nat} {v : Value} {vs : List Value} {L : List (List Int)} (_h : RowQ w lo v vs L) {k : Nat} (hk : k < L.length) (hall : ∀ x ∈ L, x.length ≤ 1048576) : (L.getD k []).length ≤ 1048576 := by
  have : L.getD k [] = L[k] := by simp [List.getD, List.getElem?_eq_getElem hk]
  rw [this]; exact hall _ (List.getElem_mem hk)
set_option maxRecDepth 100000 in
set_option maxHeartbeats 4000000 in
theorem spec_MovedPhrases_any (k l s : Int) (hw : Wf3 k l s) (a : Option Addr) (cap n : Nat) (ss : List ByteArray) (hl : n = ss.length) (hn : n ≤ 1048576) (hz : SizesOk ss) (k' l' s' : Int) (hw' : Wf3 k' l' s') (a' : Option Addr) (cap' n' : Nat) (tt : List ByteArray) (hl' : n' = tt.length) (hn' : n' ≤ 1048576) (hz' : SizesOk tt) (w : World) (hs : StrsOf w a ss) (hs' : StrsOf w a' tt) :
    Calls Try.prog 38 #[bookV k l s (.slice a n cap), bookV k' l' s' (.slice a' n' cap')] w (RetOwn .i64 2 (withCode (movC k l s ss k' l' s' tt)) (movL k l s ss k' l' s' tt) w) := by
  obtain ⟨W, hW⟩ : ∃ W, W = (w.alloc (.cells (bookC k l s (.slice a n cap)) 29)).alloc (.cells (bookC k' l' s' (.slice a' n' cap')) 29) := ⟨_, rfl⟩
  have G0 : Hid (Gr w W) := hid (by rw [hW]; exact ((Gr.refl w).alloc _).alloc _)
  have B0 : Hid (W.heap[w.heap.size]? = some (.cells (bookC k l s (.slice a n cap)) 29 (0, 0))) := hid (by rw [hW]; exact heap_kept (heap_new rfl))
  have B1 : Hid (W.heap[w.heap.size + 1]? = some (.cells (bookC k' l' s' (.slice a' n' cap')) 29 (0, 0))) := hid (by rw [hW]; exact heap_new (by simp))
  have HD := hid (fun V (g : Gr W V) => bk_cells (k := k) (l := l) (s := s) (v := .slice a n cap) (g.heap B0.out))
  have HE := hid (fun V (g : Gr W V) => bk_cells (k := k') (l := l') (s := s') (v := .slice a' n' cap') (g.heap B1.out))
  have hb := bookAt_block B0.out hl (hs.gr G0.out)
  have hb' := bookAt_block B1.out hl' (hs'.gr G0.out)
  have HVB := hid (fun V (g : Gr W V) => l03Ok_any w.heap.size k l s a n cap ss hw hn hz V (hb.gr g))
  have HVC := hid (fun V (g : Gr W V) => l03Ok_any (w.heap.size + 1) k' l' s' a' n' cap' tt hw' hn' hz' V (hb'.gr g))
  have HF := hid (fun x V (g : Gr W V) => l03Find_any (w.heap.size + 1) k' l' s' a' n' cap' tt hn' x V (hb'.gr g))
  have HW := hid hW
  have HSS := hid hs
  clear hW
  cases h : validBk k l s ss with
  | false =>
    obtain ⟨e1, e2⟩ := mov_no (k' := k') (l' := l') (s' := s') (tt := tt) (show (validBk k l s ss && validBk k' l' s' tt) = false by rw [h]; rfl)
    rw [e1, e2]
    rw [h] at HVB
    clear h e1 e2 hs hs' hl hl' hz hz' hw hw' hb hb' HVC HF
    go_enter Try.func38, Try.ntmps38
    go_wp2_with fail
    rw [← HW.out]
    refine (HVB.out _ (Gr.refl W)).mono ?_
    rintro e w2 ⟨rfl, g2⟩
    have G2 := hid g2
    clear g2
    go_wp2_with fail
    go_ret2
    exact ret_empty (G0.out.trans G2.out) _
  | true =>
    rw [h] at HVB
    cases h' : validBk k' l' s' tt with
    | false =>
      obtain ⟨e1, e2⟩ := mov_no (k := k) (l := l) (s := s) (ss := ss) (show (validBk k l s ss && validBk k' l' s' tt) = false by rw [h', Bool.and_false])
      rw [e1, e2]
      rw [h'] at HVC
      clear h e1 e2 hs hs' hl hl' hz hz' hw hw' hb hb' h' HF
      go_enter Try.func38, Try.ntmps38
      go_wp2_with fail
      rw [← HW.out]
      refine (HVB.out _ (Gr.refl W)).mono ?_
      rintro e w2 ⟨rfl, g2⟩
      have G2 := hid g2
      clear g2
      go_wp2_with fail
      refine (HVC.out _ G2.out).mono ?_
      rintro e w3 ⟨rfl, g3⟩
      have G3 := hid (G2.out.trans g3)
      clear g3
      go_wp2_with fail
      go_ret2
      exact ret_empty (G0.out.trans G3.out) _
    | true =>
      rw [h'] at HVC
      obtain ⟨e1, e2⟩ := mov_yes (show (validBk k l s ss && validBk k' l' s' tt) = true by rw [h, h']; rfl)
      rw [e1, e2]
      obtain ⟨K, L, B, rfl, rfl, rfl, k1, k2, l1, l2, b2⟩ := sizedB_yes (validBk_sizedT h)
      obtain ⟨-, -, e3⟩ := room_yes (validBk_sizedT h)
      have hnl := validBk_lens h
      obtain ⟨K', L', B', rfl, rfl, rfl, k1', k2', l1', l2', b2'⟩ := sizedB_yes (validBk_sizedT h')
      obtain ⟨-, -, e3'⟩ := room_yes (validBk_sizedT h')
      have hnl' := validBk_lens h'
      rw [e3, ← hl] at hnl
      rw [e3', ← hl'] at hnl'
      rw [e3, e3', ← hl]
      have hbd := book_bd (B := B) k2 l2
      have hbd' := book_bd (B := B') k2' l2'
      have HM := hid (fun V (g : Gr W V) => l03Meanings_any w.heap.size K L B a n cap ss k2 l2 b2 V (hb.gr g))
      have HM' := hid (fun V (g : Gr W V) => l03Meanings_any (w.heap.size + 1) K' L' B' a' n' cap' tt k2' l2' b2' V (hb'.gr g))
      have HFB := hid (fun x => show firstV tt x = -1 ∨ (0 ≤ firstV tt x ∧ firstV tt x < (n' : Int)) by have := firstV_bd tt x; rw [hl']; omega)
      have HALL := hid (book_lens (K := K) (B := B) l2)
      have HALL' := hid (book_lens (K := K') (B := B') l2')
      have HNL := hid hnl
      have HNL' := hid hnl'
      have HL := hid hl
      have hq1 : (bookL K B L).length ≤ 1048576 := by omega
      have hq2 : (bookL K' B' L').length ≤ 1048576 := by omega
      have hn100 : n ≤ 100 := by have := hnl.1; omega
      clear h h' e1 e2 e3 e3' hs hs' hl hl' hz hz' hw hw' hb hb' hnl hnl' hbd hbd'
      generalize bookL K B L = X at *
      generalize bookL K' B' L' = Y at *
      obtain ⟨i0, hi, hz0, hz1, hz2⟩ := info_parts infoC64
      go_enter Try.func38, Try.ntmps38
      go_wp2_with fail
      rw [← HW.out]
      refine (HVB.out _ (Gr.refl W)).mono ?_
      rintro e w2 ⟨rfl, g2⟩
      have G2 := hid g2
      clear g2
      go_wp2_with fail
      refine (HVC.out _ G2.out).mono ?_
      rintro e w3 ⟨rfl, g3⟩
      have G3 := hid (G2.out.trans g3)
      clear g3
      go_wp2_with fail
      refine (HM.out _ G3.out).mono ?_
      rintro e w4 ⟨gx, cx, vx, rfl, hrx, g4⟩
      have G4 := hid (G3.out.trans g4)
      have HRX := hid hrx
      clear g4 hrx HM
      go_wp2_with fail
      refine (HM'.out _ G4.out).mono ?_
      rintro e w5 ⟨gy, cy, vy, rfl, hry, g5⟩
      have G5 := hid (G4.out.trans g5)
      have HRY := hid hry
      replace HRX := hid (HRX.out.gr g5)
      clear g5 hry HM'
      go_wp2_with fail
      have OW0 := hid (show Own .i64 2 (w5.alloc (.cells #[] 2)) w5.heap.size (w5.alloc (.cells #[] 2)).heap.size (.slice (some ⟨w5.heap.size, 0, none⟩) 0 0) [] from by
        obtain ⟨v, h1, h2, h3⟩ := ret_empty (k := .i64) (e := 2) (Gr.refl w5) (fun v => v)
        simp only [Ending.returned.injEq] at h1
        rw [h1]; exact h2)
      obtain ⟨W6, hW6⟩ : ∃ V, V = w5.alloc (.cells #[] 2) := ⟨_, rfl⟩
      have G56 : Hid (Gr w5 W6) := hid (by rw [hW6]; exact (Gr.refl w5).alloc _)
      rw [← hW6] at OW0 ⊢
      clear hW6
      generalize hgx : X.length = qx at *
      generalize hgy : Y.length = qy at *
      have HGX := hid hgx
      have HGY := hid hgy
      clear hgx hgy
      go_loopw [8, 9] (fun o i wr => ∃ k : Nat, k ≤ n ∧ i = .int .i64 k ∧ Hid (Own .i64 2 wr w5.heap.size wr.heap.size o (selTo (movB X Y ss tt) k)) ∧ Hid (Gr w5 wr)) (fun _ i _ => n - (intOf i).toNat)
      case atStart => exact ⟨0, Nat.zero_le _, rfl, OW0, G56⟩
      case round =>
        obtain ⟨k, hk, rfl, how, gr⟩ := hrel
        obtain ⟨ao, co, rfl⟩ := how.out.shape
        have hcl := selTo_len (movB X Y ss tt) k
        have ROW := hid how.out.row
        obtain ⟨mo, hmo⟩ : ∃ j, j = (selTo (movB X Y ss tt) k).length := ⟨_, rfl⟩
        rw [← hmo] at ROW hcl ⊢
        have HML := hid hmo.symm
        clear hmo
        have GWr := hid (G5.out.trans gr.out)
        obtain ⟨-, -, -, d3⟩ := HD.out wr GWr.out
        by_cases hlt : k < n
        · obtain ⟨b0, o0, rfl, h0⟩ := HSS.out k (by rw [← HL.out]; exact hlt)
          have hc0 := (G0.out.trans GWr.out).cell h0
          have HFX := hid (HF.out (strAt ss k) wr GWr.out)
          have hfb := HFB.out (strAt ss k)
          have HMB : Hid (movB X Y ss tt k = (decide (0 ≤ firstV tt (strAt ss k)) && !(eqLB (X.getD k []) (Y.getD (firstV tt (strAt ss k)).toNat [])))) := hid rfl
          have HY := hid (selTo_yes (p := movB X Y ss tt) (k := k))
          have HNo := hid (selTo_no (p := movB X Y ss tt) (k := k))
          have hkx : k < X.length := by have := HNL.out.2; have := HGX.out; omega
          obtain ⟨g1, g', c', e0, hcx, ho⟩ := (HRX.out.gr gr.out).at_ hkx
          simp only [Option.some.injEq, Addr.mk.injEq, and_true] at e0
          subst e0
          have HSX := hid (row_reads ho rfl)
          have hlx := rowQ_lens HRX.out hkx HALL.out
          have hkq : k < qx := by rw [← HGX.out]; exact hkx
          unfold strAt at HFX hfb HMB
          clear h0 ho hkx
          generalize ss.getD k ByteArray.empty = sk at *
          generalize firstV tt sk = fv at *
          generalize X.getD k [] = x at *
          obtain ⟨p, hp⟩ : ∃ p, p = x.length := ⟨_, rfl⟩
          rw [← hp] at hcx hlx
          have HP := hid hp
          clear hp
          by_cases hf0 : fv < 0
          · have hd : decide (0 ≤ fv) = false := decide_eq_false (by omega)
            have HZ := hid (HNo.out (by rw [HMB.out, hd]; rfl))
            have OW := hid (show Own .i64 2 wr w5.heap.size wr.heap.size (.slice ao mo co) (selTo (movB X Y ss tt) (k + 1)) by
              rw [← HZ.out]
              have := how.out
              rw [HML.out] at this
              exact this)
            clear HMB HY HNo hfb hcx
            go_wp2_with fail
            refine HFX.out.mono ?_
            rintro e w1 ⟨rfl, rfl⟩
            go_wp2_with fail
            go_quiet (fail)
            go_wp2_with fail
            go_roundw
            case rel => exact ⟨k + 1, by omega, by go_num, hid (OW.out.gr ((Gr.refl _).drewN _)), hid (gr.out.drewN _)⟩
            case measure => simp [intOf] <;> omega
          · obtain ⟨j, rfl⟩ : ∃ j : Nat, fv = j := ⟨fv.toNat, by omega⟩
            have hjy : j < Y.length := by have := HNL'.out.2; have := HGY.out; omega
            have hjq : j < qy := by rw [← HGY.out]; exact hjy
            obtain ⟨g2, g2', c2', e0, hcy, ho⟩ := (HRY.out.gr gr.out).at_ hjy
            simp only [Option.some.injEq, Addr.mk.injEq, and_true] at e0
            subst e0
            have HSY := hid (row_reads ho rfl)
            have hly := rowQ_lens HRY.out hjy HALL'.out
            have hd : decide (0 ≤ (j : Int)) = true := decide_eq_true (by omega)
            rw [hd, Bool.true_and, Int.toNat_natCast] at HMB
            clear ho hjy hd
            generalize Y.getD j [] = y at *
            obtain ⟨r, hr⟩ : ∃ p, p = y.length := ⟨_, rfl⟩
            rw [← hr] at hcy hly
            have HR := hid hr
            clear hr
            have HEQ := hid (fun V (g : Gr wr V) => l03Same_any (some ⟨g', 0, none⟩) p c' x HP.out hlx (some ⟨g2', 0, none⟩) r c2' y HR.out hly V (HSX.out.gr g) (HSY.out.gr g))
            have HCX := hid (fun V (g : Gr wr V) => g.cell hcx)
            have HCY := hid (fun V (g : Gr wr V) => g.cell hcy)
            generalize eqLB x y = bq at *
            clear hfb hf0
            go_wp2_with fail
            refine HFX.out.mono ?_
            rintro e w1 ⟨rfl, rfl⟩
            go_wp2_with fail
            have gd : Gr wr wr.drew := (Gr.refl wr).drew
            have e1 := HCX.out _ gd
            have e2 := HCY.out _ gd
            go_region_held3 (fun V => V.cell? ⟨gx, k, none⟩ = some (.slice (some ⟨g', 0, none⟩) p c') ∧ V.cell? ⟨gy, j, none⟩ = some (.slice (some ⟨g2', 0, none⟩) r c2') ∧ Gr wr V)
              (first | exact ⟨e1, e2, gd⟩ | exact ⟨HCX.out _ gWx, HCY.out _ gWx, gWx⟩ | go_keep)
              ((first | ((with_reducible refine (HEQ.out _ (by assumption)).mono ?_); rintro e V9 ⟨rfl, gV⟩; have gWx : Gr wr V9 := Gr.trans (by assumption) gV)))
            have g9 : Gr wr V9 := gWx
            have G9 := hid (gr.out.trans g9)
            have ROW9 := hid (ownsRow_gr ROW.out g9)
            have OW9 := hid (by have := how.out.gr g9; rw [HML.out] at this; exact this.widen (Nat.le_refl _) g9.size)
            clear gd e1 e2 g9 HEQ HCX HCY
            cases bq with
            | false =>
              have HZ := hid (HY.out (by rw [HMB.out]; rfl))
              clear HMB HY HNo OW9
              go_wp2_with (at_builtin; refine wpList_append_own _ rfl _ _ 51 rfl w5.heap.size 2 i0 (.int .i64 0) 1 8 Try.underlying51 hi hz0 hz1 hz2 rfl (by decide) _ _ _ rfl (ROW9.out.alloc _) ⟨V9.heap.size, 0, none⟩ 1 1 [.int .i64 (k : Int)] rfl rfl (cell_q1 _ _ _) (by simp [Value.oneCell']) (by unfold maxLen; omega) (by omega) (by have := G9.out.size; simp; omega) ?_; intro v' w3 hown' hgrow _)
              have OW := hid (Own.appended hown' HZ.out HML.out)
              have GW := hid ((G9.out.alloc _).by_ hgrow (fun b e => by have := (ROW9.out.lt b e).1; exact this))
              clear hown' hgrow
              go_wp2_with fail
              go_roundw
              case rel => exact ⟨k + 1, by omega, by go_num, OW, GW⟩
              case measure => simp [intOf] <;> omega
            | true =>
              have HZ := hid (HNo.out (by rw [HMB.out]; rfl))
              rw [HZ.out] at OW9
              clear HMB HY HNo ROW9
              go_wp2_with fail
              go_roundw
              case rel => exact ⟨k + 1, by omega, by go_num, OW9, G9⟩
              case measure => simp [intOf] <;> omega
        · have hkn : k = n := by omega
          have HO := how.out
          rw [hkn] at HO
          rw [hkn] at HML
          rw [HML.out] at HO
          have HOW := hid HO
          have GE := hid (G0.out.trans GWr.out)
          clear ROW hkn HO how
          go_wp2_with fail
          go_ret2
          exact ⟨_, rfl, HOW.out.widen (G0.out.trans G5.out).size (Nat.le_refl _), GE.out⟩
end Go.Proofs.Ytkbdblaciphmnaa
