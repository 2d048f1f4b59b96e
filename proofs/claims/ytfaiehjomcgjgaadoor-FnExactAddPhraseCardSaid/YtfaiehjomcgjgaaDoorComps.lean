/- What begins so: both functions' loops. -/
import Derived.Test.YtfaiehjomcgjgaaDoorMeanIn
import Derived.Test.YtfaiehjomcgjgaaDoorRankS
namespace Go.Proofs.YtfaiehjomcgjgaaDoor
set_option linter.unusedVariables false
open Go.RowKit
attribute [local go_sem] Oper.semAt_some
def begB (x q : List Int) : Bool := decide (q.length ≤ x.length) && eqLB (x.take q.length) q
theorem infoC64 : (Tryd.prog.info? 2).map (fun i => (i.zero, i.size, i.bytes)) = some (some (.int .i64 0), 1, 8) := by kernel_rfl
theorem SliceOf.takeQ {k : IntKind} {w : World} {a : Option Addr} {xs : List Int} (h : SliceOf k w a xs) (n : Nat) : SliceOf k w a (xs.take n) := by
  intro i hi
  rw [List.length_take] at hi
  obtain ⟨b, off, e, hc⟩ := h i (by omega)
  refine ⟨b, off, e, ?_⟩
  have : (xs.take n).getD i 0 = xs.getD i 0 := by simp only [List.getD_eq_getElem?_getD]; rw [List.getElem?_take_of_lt (by omega)]
  rw [this]; exact hc
/-- The places whose lists begin so, below k. -/
def complTo (L : List (List Int)) (q : List Int) : Nat → List Int
  | 0 => []
  | k + 1 => if begB (L.getD k []) q then complTo L q k ++ [(k : Int)] else complTo L q k
theorem complTo_yes {L : List (List Int)} {q : List Int} {k : Nat} (h : begB (L.getD k []) q = true) : complTo L q (k + 1) = complTo L q k ++ [(k : Int)] := by simp only [complTo]; rw [if_pos h]
theorem complTo_no {L : List (List Int)} {q : List Int} {k : Nat} (h : begB (L.getD k []) q = false) : complTo L q k = complTo L q (k + 1) := by simp only [complTo]; rw [if_neg (by rw [h]; simp)]
theorem complTo_len (L : List (List Int)) (q : List Int) (k : Nat) : (complTo L q k).length ≤ k := by
  induction k with
  | zero => simp [complTo]
  | succ k ih =>
    simp only [complTo]
    split
    · rw [List.length_append, List.length_singleton]; omega
    · omega
theorem complTo_take (L : List (List Int)) (q : List Int) (n : Nat) : ∀ k, k ≤ n → complTo (L.take n) q k = complTo L q k := by
  intro k
  induction k with
  | zero => intro _; rfl
  | succ k ih =>
    intro h
    have e : (L.take n).getD k [] = L.getD k [] := by simp only [List.getD_eq_getElem?_getD]; rw [List.getElem?_take_of_lt (by omega)]
    simp only [complTo]
    rw [e, ih (by omega)]
set_option maxRecDepth 100000 in
set_option maxHeartbeats 1000000 in
theorem l03Begins_any (g p c : Nat) (x : List Int) (hp : p = x.length) (hcap : p ≤ c) (hm : p ≤ 1048576) (b : Option Addr) (q cb : Nat) (m : List Int) (hq : q = m.length) (hm2 : q ≤ 1048576) (w : World) (hs : SliceOf .i8 w (some ⟨g, 0, none⟩) x) (ht : SliceOf .i8 w b m) :
    Calls Tryd.prog 71 #[.slice (some ⟨g, 0, none⟩) p c, .slice b q cb] w fun e w' => e = .returned (.bool (begB x m)) ∧ Gr w w' := by
  by_cases h : q ≤ p
  · have HEQ := hid (l03Same_any (some ⟨g, 0, none⟩) q c (x.take q) (by rw [List.length_take]; omega) hm2 b q cb m hq hm2 w (hs.takeQ q) ht)
    have HB : Hid (begB x m = eqLB (x.take q) m) := hid (by unfold begB; rw [← hq, ← hp, decide_eq_true h, Bool.true_and])
    have h1 : q ≤ c := by omega
    rw [HB.out]
    clear hs ht hp hq HB
    generalize eqLB (x.take q) m = r at *
    go_enter Tryd.func71, Tryd.ntmps71
    go_wp2_with fail
    refine HEQ.out.mono ?_
    rintro e w1 ⟨rfl, g1⟩
    have G1 := hid g1
    clear g1 HEQ
    go_wp2_with fail
    go_ret
    exact ⟨rfl, G1.out⟩
  · have HB : Hid (begB x m = false) := hid (by unfold begB; rw [← hq, ← hp, decide_eq_false h, Bool.false_and])
    have hd : decide (q ≤ p) = false := decide_eq_false h
    rw [HB.out]
    clear hs ht hp hq HB
    go_enter Tryd.func71, Tryd.ntmps71
    go_wp2_with fail
    go_ret
    exact ⟨rfl, Gr.refl _⟩
theorem book_len {w : World} {bb : Nat} {k l s : Int} {a : Option Addr} {n cap : Nat} {ss : List ByteArray} (h : BookAt w bb k l s a n cap ss) : w.cell? ⟨bb, 3, none⟩ = some (.slice a n cap) := h.c3
set_option maxRecDepth 100000 in
set_option maxHeartbeats 2000000 in
theorem l03Completions_any (bb : Nat) (k l s : Int) (a : Option Addr) (n cap : Nat) (ss : List ByteArray) (g0 q0 c0 lo : Nat) (vs : List Value) (X : List (List Int)) (hq0 : q0 = X.length) (hn : n ≤ X.length) (hX : q0 ≤ 1048576) (hall : ∀ x ∈ X, x.length ≤ 1048576) (b : Option Addr) (q cb : Nat) (m : List Int) (hq : q = m.length) (hm : q ≤ 1048576) (w : World) (hb : BookAt w bb k l s a n cap ss) (hr : RowQ w lo (.slice (some ⟨g0, 0, none⟩) q0 c0) vs X) (hs : SliceOf .i8 w b m) :
    Calls Tryd.prog 49 #[.pointer (some ⟨bb, 0, none⟩), .slice (some ⟨g0, 0, none⟩) q0 c0, .slice b q cb] w (RetOwn .i64 2 (fun v => v) (complTo X m n) w) := by
  have HBK := hid hb
  have HQ0 := hid hq0
  have HR := hid hr
  have HS := hid hs
  have HQ := hid hq
  have HNX := hid hn
  have hnb : n ≤ 1048576 := by omega
  have HY := hid (fun k (h : begB (X.getD k []) m = true) => complTo_yes h)
  have HNo := hid (fun k (h : begB (X.getD k []) m = false) => complTo_no h)
  have HCL := hid (fun k => complTo_len X m k)
  have HLN := hid (fun k (hk : k < X.length) => show (X.getD k []).length ≤ 1048576 by
    have : X.getD k [] = X[k] := by simp [List.getD, List.getElem?_eq_getElem hk]
    rw [this]; exact hall _ (List.getElem_mem hk))
  obtain ⟨i0, hi, hz0, hz1, hz2⟩ := info_parts infoC64
  clear hr hs hq hn hall hb hq0
  go_enter Tryd.func49, Tryd.ntmps49
  go_wp2_with fail
  have OW0 := hid (show Own .i64 2 (w.alloc (.cells #[] 2)) w.heap.size (w.alloc (.cells #[] 2)).heap.size (.slice (some ⟨w.heap.size, 0, none⟩) 0 0) [] from by
    obtain ⟨v, h1, h2, h3⟩ := ret_empty (k := .i64) (e := 2) (Gr.refl w) (fun v => v)
    simp only [Ending.returned.injEq] at h1
    rw [h1]; exact h2)
  obtain ⟨W1, hW1⟩ : ∃ W, W = w.alloc (.cells #[] 2) := ⟨_, rfl⟩
  have G1 : Hid (Gr w W1) := hid (by rw [hW1]; exact (Gr.refl w).alloc _)
  rw [← hW1] at OW0 ⊢
  clear hW1
  go_loopw [7, 8] (fun o i wr => ∃ k : Nat, k ≤ n ∧ i = .int .i64 k ∧ Hid (Own .i64 2 wr w.heap.size wr.heap.size o (complTo X m k)) ∧ Hid (Gr w wr)) (fun _ i _ => n - (intOf i).toNat)
  case atStart => exact ⟨0, Nat.zero_le _, rfl, OW0, G1⟩
  case round =>
    obtain ⟨k, hk, rfl, how, gr⟩ := hrel
    obtain ⟨ao, co, rfl⟩ := how.out.shape
    have hcl := HCL.out k
    have ROW := hid how.out.row
    obtain ⟨mo, hmo⟩ : ∃ j, j = (complTo X m k).length := ⟨_, rfl⟩
    rw [← hmo] at ROW hcl ⊢
    have HML := hid hmo.symm
    clear hmo
    have d3 := book_len (HBK.out.gr gr.out)
    by_cases hlt : k < n
    · have hkL : k < X.length := by have := HNX.out; omega
      obtain ⟨g1, g', c', e0, hc, ho⟩ := (HR.out.gr gr.out).at_ hkL
      simp only [Option.some.injEq, Addr.mk.injEq, and_true] at e0
      subst e0
      have hlx := HLN.out k hkL
      have hkq : k < q0 := by rw [HQ0.out]; exact hkL
      have hcap := row_cap ho
      have HSX := hid (row_reads ho rfl)
      have HSM := hid (HS.out.gr gr.out)
      have HYY := hid (HY.out k)
      have HNN := hid (HNo.out k)
      clear ho hkL
      generalize X.getD k [] = x at *
      obtain ⟨p, hp⟩ : ∃ p, p = x.length := ⟨_, rfl⟩
      rw [← hp] at hc hlx hcap
      have HEQ := hid (l03Begins_any g' p c' x hp hcap hlx b q cb m HQ.out hm wr HSX.out HSM.out)
      clear hp hcap
      cases hbg : begB x m with
      | true =>
        have HZ := hid (HYY.out hbg)
        rw [hbg] at HEQ
        clear hbg HNN HYY
        go_wp2_with fail
        refine HEQ.out.mono ?_
        rintro e w1 ⟨rfl, g1⟩
        have G2 := hid (gr.out.trans g1)
        have ROW2 := hid (ownsRow_gr ROW.out g1)
        clear g1
        go_wp2_with (at_builtin; refine wpList_append_own _ rfl _ _ 38 rfl w.heap.size 2 i0 (.int .i64 0) 1 8 Tryd.underlying38 hi hz0 hz1 hz2 rfl (by decide) _ _ _ rfl (ROW2.out.alloc _) ⟨w1.heap.size, 0, none⟩ 1 1 [.int .i64 (k : Int)] rfl rfl (cell_q1 _ _ _) (by simp [Value.oneCell']) (by unfold maxLen; omega) (by omega) (by have := G2.out.size; simp; omega) ?_; intro v' w3 hown' hgrow _)
        have OW := hid (Own.appended hown' HZ.out HML.out)
        have GW := hid ((G2.out.alloc _).by_ hgrow (fun b e => by have := (ROW.out.lt b e).1; omega))
        clear hown' hgrow
        go_wp2_with fail
        go_roundw
        case rel => exact ⟨k + 1, by omega, by go_num, OW, GW⟩
        case measure => simp [intOf] <;> omega
      | false =>
        have HZ := hid (HNN.out hbg)
        rw [hbg] at HEQ
        clear hbg HNN HYY
        go_wp2_with fail
        refine HEQ.out.mono ?_
        rintro e w1 ⟨rfl, g1⟩
        have G2 := hid (gr.out.trans g1)
        have OW := hid (show Own .i64 2 w1 w.heap.size w1.heap.size (.slice ao mo co) (complTo X m (k + 1)) by
          rw [← HZ.out]
          have := how.out
          rw [HML.out] at this
          exact (this.gr g1).widen (Nat.le_refl _) g1.size)
        clear g1
        go_wp2_with fail
        go_roundw
        case rel => exact ⟨k + 1, by omega, by go_num, OW, G2⟩
        case measure => simp [intOf] <;> omega
    · have hkn : k = n := by omega
      have HO := how.out
      rw [hkn] at HO
      rw [hkn] at HML
      rw [HML.out] at HO
      have HOW := hid HO
      clear ROW hkn HO how
      go_wp2_with fail
      go_ret
      exact ⟨_, rfl, HOW.out, gr.out⟩
set_option maxRecDepth 100000 in
set_option maxHeartbeats 2000000 in
theorem completions_any (aa : Option Addr) (n c0 lo : Nat) (vs : List Value) (X : List (List Int)) (hn' : n = X.length) (hX : n ≤ 1048576) (hall : ∀ x ∈ X, x.length ≤ 1048576) (b : Option Addr) (q cb : Nat) (m : List Int) (hq : q = m.length) (hm : q ≤ 1048576) (w : World) (hr : RowQ w lo (.slice aa n c0) vs X) (hs : SliceOf .i8 w b m) :
    Calls Tryd.prog 50 #[.slice aa n c0, .slice b q cb] w (RetOwn .i64 2 (fun v => v) (complTo X m n) w) := by
  have hn : n ≤ X.length := Nat.le_of_eq hn'
  have HR := hid hr
  have HS := hid hs
  have HQ := hid hq
  have HNX := hid hn
  have hnb : n ≤ 1048576 := by omega
  have HY := hid (fun k (h : begB (X.getD k []) m = true) => complTo_yes h)
  have HNo := hid (fun k (h : begB (X.getD k []) m = false) => complTo_no h)
  have HCL := hid (fun k => complTo_len X m k)
  have HLN := hid (fun k (hk : k < X.length) => show (X.getD k []).length ≤ 1048576 by
    have : X.getD k [] = X[k] := by simp [List.getD, List.getElem?_eq_getElem hk]
    rw [this]; exact hall _ (List.getElem_mem hk))
  obtain ⟨i0, hi, hz0, hz1, hz2⟩ := info_parts infoC64
  clear hr hs hq hn hall hn'
  go_enter Tryd.func50, Tryd.ntmps50
  go_wp2_with fail
  go_loopw [5, 6, 7, 10] (fun o _ _ i wr => ∃ k : Nat, k ≤ n ∧ i = .int .i64 k ∧ Hid (Own .i64 2 wr w.heap.size wr.heap.size o (complTo X m k)) ∧ Hid (Gr w wr)) (fun _ _ _ i _ => n - (intOf i).toNat)
  case atStart => exact ⟨0, Nat.zero_le _, rfl, hid (Own.nil _ _ _), hid (Gr.refl _)⟩
  case round =>
    obtain ⟨k, hk, rfl, how, gr⟩ := hrel
    obtain ⟨ao, co, rfl⟩ := how.out.shape
    have hcl := HCL.out k
    have ROW := hid how.out.row
    obtain ⟨mo, hmo⟩ : ∃ j, j = (complTo X m k).length := ⟨_, rfl⟩
    rw [← hmo] at ROW hcl ⊢
    have HML := hid hmo.symm
    clear hmo
    by_cases hlt : k < n
    · have hkL : k < X.length := by have := HNX.out; omega
      obtain ⟨g1, g', c', e0, hc, ho⟩ := (HR.out.gr gr.out).at_ hkL
      skip
      subst e0
      have hlx := HLN.out k hkL
      skip
      have hcap := row_cap ho
      have HSX := hid (row_reads ho rfl)
      have HSM := hid (HS.out.gr gr.out)
      have HYY := hid (HY.out k)
      have HNN := hid (HNo.out k)
      clear ho hkL
      generalize X.getD k [] = x at *
      obtain ⟨p, hp⟩ : ∃ p, p = x.length := ⟨_, rfl⟩
      rw [← hp] at hc hlx hcap
      by_cases hqp : q ≤ p
      · have HEQ := hid (equalMeaning_any (some ⟨g', 0, none⟩) q c' (x.take q) (by rw [List.length_take]; omega) hm b q cb m HQ.out hm wr (HSX.out.takeQ q) HSM.out)
        have hbe : begB x m = eqLB (x.take q) m := by unfold begB; rw [← HQ.out, ← hp, decide_eq_true hqp, Bool.true_and]
        have hqc : q ≤ c' := by omega
        clear hp hcap
        cases hbg : begB x m with
        | true =>
          have HZ := hid (HYY.out hbg)
          rw [← hbe, hbg] at HEQ
          clear hbg HNN HYY hbe
          go_wp2_with fail
          refine HEQ.out.mono ?_
          rintro e w1 ⟨rfl, g1⟩
          have G2 := hid (gr.out.trans g1)
          have ROW2 := hid (ownsRow_gr ROW.out g1)
          clear g1
          go_wp2_with (at_builtin; refine wpList_append_own _ rfl _ _ 38 rfl w.heap.size 2 i0 (.int .i64 0) 1 8 Tryd.underlying38 hi hz0 hz1 hz2 rfl (by decide) _ _ _ rfl (ROW2.out.alloc _) ⟨w1.heap.size, 0, none⟩ 1 1 [.int .i64 (k : Int)] rfl rfl (cell_q1 _ _ _) (by simp [Value.oneCell']) (by unfold maxLen; omega) (by omega) (by have := G2.out.size; simp; omega) ?_; intro v' w3 hown' hgrow _)
          have OW := hid (Own.appended hown' HZ.out HML.out)
          have GW := hid ((G2.out.alloc _).by_ hgrow (fun b e => by have := (ROW.out.lt b e).1; omega))
          clear hown' hgrow
          go_wp2_with fail
          go_roundw
          case rel => exact ⟨k + 1, by omega, by go_num, OW, GW⟩
          case measure => simp [intOf] <;> omega
        | false =>
          have HZ := hid (HNN.out hbg)
          rw [← hbe, hbg] at HEQ
          clear hbg HNN HYY hbe
          go_wp2_with fail
          refine HEQ.out.mono ?_
          rintro e w1 ⟨rfl, g1⟩
          have G2 := hid (gr.out.trans g1)
          have OW := hid (show Own .i64 2 w1 w.heap.size w1.heap.size (.slice ao mo co) (complTo X m (k + 1)) by
            rw [← HZ.out]
            have := how.out
            rw [HML.out] at this
            exact (this.gr g1).widen (Nat.le_refl _) g1.size)
          clear g1
          go_wp2_with fail
          go_roundw
          case rel => exact ⟨k + 1, by omega, by go_num, OW, G2⟩
          case measure => simp [intOf] <;> omega
      · have hbg : begB x m = false := by unfold begB; rw [← HQ.out, ← hp, decide_eq_false hqp, Bool.false_and]
        have HZ := hid (HNN.out hbg)
        have hqd : decide (q ≤ p) = false := decide_eq_false hqp
        have OW := hid (show Own .i64 2 wr w.heap.size wr.heap.size (.slice ao mo co) (complTo X m (k + 1)) by
          rw [← HZ.out]
          have := how.out
          rw [HML.out] at this
          exact this)
        clear hp hcap hbg HNN HYY
        go_wp2_with fail
        go_roundw
        case rel => exact ⟨k + 1, by omega, by go_num, OW, gr⟩
        case measure => simp [intOf] <;> omega
    · have hkn : k = n := by omega
      have HO := how.out
      rw [hkn] at HO
      rw [hkn] at HML
      rw [HML.out] at HO
      have HOW := hid HO
      clear ROW hkn HO how
      go_wp2_with fail
      go_ret
      exact ⟨_, rfl, HOW.out, gr.out⟩
end Go.Proofs.YtfaiehjomcgjgaaDoor
