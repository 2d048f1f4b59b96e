/- SameBook: the functions. -/
import Derived.Test.YtoehcinpbnlbnaaBook
namespace Go.Proofs.Ytoehcinpbnlbnaa
open Go.RowKit
def sameBk (k l s k' l' s' : Int) (xs ys : List ByteArray) : Bool := decide (k = k') && (decide (l = l') && (decide (s = s') && decide (xs = ys)))
set_option maxRecDepth 100000 in
set_option maxHeartbeats 4000000 in
theorem spec_SameBook_any (k l s k' l' s' : Int) (a b : Option Addr) (ca cb n m : Nat) (xs ys : List ByteArray) (hx : n = xs.length) (hy : m = ys.length) (hn : n ≤ 1048576) (hm : m ≤ 1048576) (w : World) (ha : StrsOf w a xs) (hb : StrsOf w b ys) :
    Calls Try.prog 21 #[bookV k l s (.slice a n ca), bookV k' l' s' (.slice b m cb)] w fun e w' => e = .returned (.bool (sameBk k l s k' l' s' xs ys)) ∧ Gr w w' := by
  have HR : Hid (sameBk k l s k' l' s' xs ys = (decide (k = k') && (decide (l = l') && (decide (s = s') && decide (xs = ys))))) := hid rfl
  generalize sameBk k l s k' l' s' xs ys = r at *
  have HA := hid ha
  have HB := hid hb
  have HX := hid hx
  have HY := hid hy
  by_cases hk : k = k'
  · by_cases hl : l = l'
    · by_cases hs : s = s'
      · by_cases hnm : n = m
        · have HALL := hid (fun h => sameS_all (xs := xs) (ys := ys) (by omega) h)
          have HNE := hid (fun k (h : xs.getD k ByteArray.empty ≠ ys.getD k ByteArray.empty) => show decide (xs = ys) = false from decide_eq_false (fun e => h (by rw [e])))
          have HRT := hid (show r = decide (xs = ys) by rw [HR.out, decide_eq_true hk, decide_eq_true hl, decide_eq_true hs]; simp)
          subst hk hl hs hnm
          clear ha hb hx hy HR
          go_enter Try.func21, Try.ntmps21
          go_wp2_with fail
          have b0 := hid (heap_kept (o := .cells (bookC k l s (.slice b n cb)) 39) (heap_new (w := w) (o := .cells (bookC k l s (.slice a n ca)) 39) rfl))
          have b1 := hid (heap_new (w := w.alloc (.cells (bookC k l s (.slice a n ca)) 39)) (o := .cells (bookC k l s (.slice b n cb)) 39) (n := w.heap.size + 1) (by simp))
          have G := hid (((Gr.refl w).alloc (.cells (bookC k l s (.slice a n ca)) 39)).alloc (.cells (bookC k l s (.slice b n cb)) 39))
          obtain ⟨W, hW⟩ : ∃ W, W = ((w.alloc (.cells (bookC k l s (.slice a n ca)) 39)).alloc (.cells (bookC k l s (.slice b n cb)) 39)) := ⟨_, rfl⟩
          rw [← hW] at b0 b1 G ⊢
          clear hW
          go_loopw [5] (fun i wr => ∃ j : Nat, j ≤ n ∧ i = .int .i64 j ∧ Hid (sameS xs ys j) ∧ Hid (Gr W wr)) (fun i _ => n - (intOf i).toNat)
          case atStart => exact ⟨0, Nat.zero_le _, rfl, hid (fun i hi => absurd hi (Nat.not_lt_zero i)), hid (Gr.refl _)⟩
          case round =>
            obtain ⟨j, hj, rfl, hsm, hg⟩ := hrel
            have d0 := cell_of_row wr w.heap.size 3 _ _ _ (hg.out.heap b0.out)
            have d1 := cell_of_row wr (w.heap.size + 1) 3 _ _ _ (hg.out.heap b1.out)
            replace d0 : wr.cell? ⟨w.heap.size, 3, none⟩ = some (.slice a n ca) := d0
            replace d1 : wr.cell? ⟨w.heap.size + 1, 3, none⟩ = some (.slice b n cb) := d1
            by_cases hlt : j < n
            · obtain ⟨p0, o0, rfl, h0⟩ := HA.out j (by rw [← HX.out]; exact hlt)
              obtain ⟨p1, o1, rfl, h1⟩ := HB.out j (by rw [← HY.out]; exact hlt)
              have hc0 := hg.out.cell (G.out.cell h0)
              have hc1 := hg.out.cell (G.out.cell h1)
              have HSU := hid (fun h => sameS_succ hsm.out h)
              have HNK := hid (HNE.out j)
              clear h0 h1
              generalize xs.getD j ByteArray.empty = v at *
              generalize ys.getD j ByteArray.empty = u at *
              have hb0 : (0 : Int) ≤ j := by omega
              have hb1 : (j : Int) < n := by omega
              by_cases hvu : v = u
              · have HSV := hid (HSU.out hvu)
                subst hvu
                clear HSU HNK
                go_wp2_with fail
                go_quiet (fail)
                go_wp2_with fail
                go_roundw
                case rel => exact ⟨j + 1, by omega, by go_num, HSV, hid (hg.out.drewN _)⟩
                case measure => simp [intOf]; omega
              · have HF := hid (show r = false by rw [HRT.out]; exact HNK.out hvu)
                have t1 := toList_ne hvu
                have GW := hid (G.out.trans hg.out)
                clear HSU HNK hvu
                go_wp2_with fail
                go_quiet (fail)
                go_wp2_with fail
                go_ret
                exact ⟨ret_bool HF.out.symm, GW.out.drewN _⟩
            · have HT := hid (show r = true by rw [HRT.out]; exact decide_eq_true (HALL.out (by rw [← HX.out, show n = j by omega]; exact hsm.out)))
              have GW := hid (G.out.trans hg.out)
              go_wp2_with fail
              go_ret
              exact ⟨ret_bool HT.out.symm, GW.out⟩
        · have HF := hid (show r = false by rw [HR.out, decide_eq_false (show ¬ xs = ys from fun e => hnm (by rw [hx, hy, e]))]; simp)
          have t1 : ((n : Int) != (m : Int)) = true := by simp; omega
          have t2 : (n != m) = true := by simpa using hnm
          subst hk hl hs
          clear ha hb hx hy hnm HR
          go_enter Try.func21, Try.ntmps21
          go_wp2_with fail
          go_ret
          exact ⟨ret_bool HF.out.symm, ((Gr.refl _).alloc _).alloc _⟩
      · have HF := hid (show r = false by rw [HR.out, decide_eq_false hs]; simp)
        have t1 : (s == s') = false := by simpa using hs
        have t2 : (s != s') = true := by simpa using hs
        subst hk hl
        clear ha hb hx hy hs HR
        go_enter Try.func21, Try.ntmps21
        go_wp2_with fail
        go_ret
        exact ⟨ret_bool HF.out.symm, ((Gr.refl _).alloc _).alloc _⟩
    · have HF := hid (show r = false by rw [HR.out, decide_eq_false hl]; simp)
      have t1 : (l == l') = false := by simpa using hl
      have t2 : (l != l') = true := by simpa using hl
      subst hk
      clear ha hb hx hy hl HR
      go_enter Try.func21, Try.ntmps21
      go_wp2_with fail
      go_ret
      exact ⟨ret_bool HF.out.symm, ((Gr.refl _).alloc _).alloc _⟩
  · have HF := hid (show r = false by rw [HR.out, decide_eq_false hk]; simp)
    have t1 : (k == k') = false := by simpa using hk
    have t2 : (k != k') = true := by simpa using hk
    clear ha hb hx hy hk HR
    go_enter Try.func21, Try.ntmps21
    go_wp2_with fail
    go_ret
    exact ⟨ret_bool HF.out.symm, ((Gr.refl _).alloc _).alloc _⟩
theorem book_cells {w : World} {b : Nat} {k l s : Int} {v : Value} {t : TypeId} {fr : Nat × Nat} (h : w.heap[b]? = some (.cells (bookC k l s v) t fr)) :
    w.cell? ⟨b, 0, none⟩ = some (.int .i8 k) ∧ w.cell? ⟨b, 1, none⟩ = some (.int .i8 l) ∧ w.cell? ⟨b, 2, none⟩ = some (.int .i8 s) ∧ w.cell? ⟨b, 3, none⟩ = some v := by
  refine ⟨?_, ?_, ?_, ?_⟩
  all_goals (rw [cell_of_row w b _ _ _ _ h]; rfl)
theorem book_keep {A B C D E F G H I : Prop} (h : A ∧ B ∧ C ∧ D) (g : E ∧ F ∧ G ∧ H) (i : I) : A ∧ B ∧ C ∧ D ∧ E ∧ F ∧ G ∧ H ∧ I := ⟨h.1, h.2.1, h.2.2.1, h.2.2.2, g.1, g.2.1, g.2.2.1, g.2.2.2, i⟩
set_option maxRecDepth 100000 in
theorem schemeOf_any (k l s : Int) (v : Value) (w : World) :
    Calls Try.prog 52 #[bookV k l s v] w fun e w' => e = .returned (.agg #[.int .i8 k, .int .i8 l, .int .i8 s]) ∧ Gr w w' := by
  go_enter Try.func52, Try.ntmps52
  go_wp2_with fail
  exact bodyPost_ret (v := .agg #[.int .i8 k, .int .i8 l, .int .i8 s]) (by simp [results, Try.results52, go_sem]) rfl ⟨rfl, ((Gr.refl _).alloc _).alloc _⟩
set_option maxRecDepth 100000 in
set_option maxHeartbeats 4000000 in
theorem impl_SameBook_eq (k l s : Int) (a b : Option Addr) (ca cb n m : Nat) (xs ys : List ByteArray) (hx : n = xs.length) (hy : m = ys.length) (hn : n ≤ 1048576) (hm : m ≤ 1048576) (w : World) (ha : StrsOf w a xs) (hb : StrsOf w b ys) :
    Calls Try.prog 23 #[bookV k l s (.slice a n ca), bookV k l s (.slice b m cb)] w fun e w' => e = .returned (.bool (decide (xs = ys))) ∧ Gr w w' := by
  have HE := hid (fun (V : World) (g : Gr w V) => equalStrs_any a b ca cb n m xs ys hx hy hn hm V (ha.gr g) (hb.gr g))
  generalize decide (xs = ys) = r at *
  clear ha hb hx hy
  go_enter Try.func23, Try.ntmps23
  go_wp2_with fail
  have b0 := hid (heap_kept (o := .cells (bookC k l s (.slice b m cb)) 39) (heap_new (w := w) (o := .cells (bookC k l s (.slice a n ca)) 39) rfl))
  have b1 := hid (heap_new (w := w.alloc (.cells (bookC k l s (.slice a n ca)) 39)) (o := .cells (bookC k l s (.slice b m cb)) 39) (n := w.heap.size + 1) (by simp))
  have G := hid (((Gr.refl w).alloc (.cells (bookC k l s (.slice a n ca)) 39)).alloc (.cells (bookC k l s (.slice b m cb)) 39))
  obtain ⟨W, hW⟩ : ∃ W, W = ((w.alloc (.cells (bookC k l s (.slice a n ca)) 39)).alloc (.cells (bookC k l s (.slice b m cb)) 39)) := ⟨_, rfl⟩
  rw [← hW] at b0 b1 G ⊢
  clear hW
  have HD0 := hid (fun V (g : Gr W V) => book_cells (g.heap b0.out))
  have HD1 := hid (fun V (g : Gr W V) => book_cells (g.heap b1.out))
  have gd : Gr W W.drew := (Gr.refl W).drew
  obtain ⟨p0, p1, p2, p3⟩ := HD0.out _ gd
  obtain ⟨q0, q1, q2, q3⟩ := HD1.out _ gd
  go_region_held3 (fun V => V.cell? ⟨w.heap.size, 0, none⟩ = some (.int .i8 k) ∧ V.cell? ⟨w.heap.size, 1, none⟩ = some (.int .i8 l) ∧ V.cell? ⟨w.heap.size, 2, none⟩ = some (.int .i8 s) ∧ V.cell? ⟨w.heap.size, 3, none⟩ = some (.slice a n ca) ∧ V.cell? ⟨w.heap.size + 1, 0, none⟩ = some (.int .i8 k) ∧ V.cell? ⟨w.heap.size + 1, 1, none⟩ = some (.int .i8 l) ∧ V.cell? ⟨w.heap.size + 1, 2, none⟩ = some (.int .i8 s) ∧ V.cell? ⟨w.heap.size + 1, 3, none⟩ = some (.slice b m cb) ∧ Gr W V)
    (first | exact ⟨p0, p1, p2, p3, q0, q1, q2, q3, gd⟩ | exact book_keep (HD0.out _ gW) (HD1.out _ gW) gW | go_keep)
    ((first | ((with_reducible refine (schemeOf_any _ _ _ _ _).mono ?_); rintro e V ⟨rfl, gV⟩; have gW : Gr W V := Gr.trans (by assumption) gV) | ((with_reducible refine (HE.out _ (G.out.trans (by assumption))).mono ?_); rintro e V ⟨rfl, gV⟩; have gW : Gr W V := Gr.trans (by assumption) gV)))
  all_goals
    go_wp2_with fail
    go_ret
    exact ⟨rfl, G.out.trans (by first | assumption | exact Gr.drew (by assumption))⟩
set_option maxRecDepth 100000 in
set_option maxHeartbeats 4000000 in
theorem impl_SameBook_ne (k l s k' l' s' : Int) (hne : (k == k') = false ∨ ((k == k') = true ∧ (l == l') = false) ∨ ((k == k') = true ∧ (l == l') = true ∧ (s == s') = false)) (a b : Option Addr) (ca cb n m : Nat) (xs ys : List ByteArray) (hx : n = xs.length) (hy : m = ys.length) (hn : n ≤ 1048576) (hm : m ≤ 1048576) (w : World) (ha : StrsOf w a xs) (hb : StrsOf w b ys) :
    Calls Try.prog 23 #[bookV k l s (.slice a n ca), bookV k' l' s' (.slice b m cb)] w fun e w' => e = .returned (.bool false) ∧ Gr w w' := by
  clear ha hb hx hy
  rcases hne with h0 | ⟨h0, h1⟩ | ⟨h0, h1, h2⟩
  all_goals
    go_enter Try.func23, Try.ntmps23
    go_wp2_with fail
    have b0 := hid (heap_kept (o := .cells (bookC k' l' s' (.slice b m cb)) 39) (heap_new (w := w) (o := .cells (bookC k l s (.slice a n ca)) 39) rfl))
    have b1 := hid (heap_new (w := w.alloc (.cells (bookC k l s (.slice a n ca)) 39)) (o := .cells (bookC k' l' s' (.slice b m cb)) 39) (n := w.heap.size + 1) (by simp))
    have G := hid (((Gr.refl w).alloc (.cells (bookC k l s (.slice a n ca)) 39)).alloc (.cells (bookC k' l' s' (.slice b m cb)) 39))
    obtain ⟨W, hW⟩ : ∃ W, W = ((w.alloc (.cells (bookC k l s (.slice a n ca)) 39)).alloc (.cells (bookC k' l' s' (.slice b m cb)) 39)) := ⟨_, rfl⟩
    rw [← hW] at b0 b1 G ⊢
    clear hW
    have HD0 := hid (fun V (g : Gr W V) => book_cells (g.heap b0.out))
    have HD1 := hid (fun V (g : Gr W V) => book_cells (g.heap b1.out))
    have gd : Gr W W.drew := (Gr.refl W).drew
    obtain ⟨p0, p1, p2, p3⟩ := HD0.out _ gd
    obtain ⟨q0, q1, q2, q3⟩ := HD1.out _ gd
    first
      | (go_region_with ((with_reducible refine (schemeOf_any _ _ _ _ _).mono ?_); rintro e V ⟨rfl, gV⟩; have gW : Gr W V := Gr.trans (by assumption) gV; obtain ⟨p0', p1', p2', p3'⟩ := HD0.out _ gW; obtain ⟨q0', q1', q2', q3'⟩ := HD1.out _ gW))
      | fail "region"
    all_goals
      go_wp2_with fail
      go_ret
      exact ⟨rfl, G.out.trans (by first | assumption | exact Gr.drew (by assumption))⟩
theorem impl_SameBook_any (k l s k' l' s' : Int) (a b : Option Addr) (ca cb n m : Nat) (xs ys : List ByteArray) (hx : n = xs.length) (hy : m = ys.length) (hn : n ≤ 1048576) (hm : m ≤ 1048576) (w : World) (ha : StrsOf w a xs) (hb : StrsOf w b ys) :
    Calls Try.prog 23 #[bookV k l s (.slice a n ca), bookV k' l' s' (.slice b m cb)] w fun e w' => e = .returned (.bool (sameBk k l s k' l' s' xs ys)) ∧ Gr w w' := by
  unfold sameBk
  by_cases hk : k = k'
  · by_cases hl : l = l'
    · by_cases hs : s = s'
      · subst hk hl hs
        have h := impl_SameBook_eq k l s a b ca cb n m xs ys hx hy hn hm w ha hb
        rw [decide_eq_true rfl, decide_eq_true rfl, decide_eq_true rfl, Bool.true_and, Bool.true_and, Bool.true_and]
        exact h
      · have h := impl_SameBook_ne k l s k' l' s' (.inr (.inr ⟨by simpa using hk, by simpa using hl, by simpa using hs⟩)) a b ca cb n m xs ys hx hy hn hm w ha hb
        rw [decide_eq_false hs, Bool.false_and, Bool.and_false, Bool.and_false]
        exact h
    · have h := impl_SameBook_ne k l s k' l' s' (.inr (.inl ⟨by simpa using hk, by simpa using hl⟩)) a b ca cb n m xs ys hx hy hn hm w ha hb
      rw [decide_eq_false hl, Bool.false_and, Bool.and_false]
      exact h
  · have h := impl_SameBook_ne k l s k' l' s' (.inl (by simpa using hk)) a b ca cb n m xs ys hx hy hn hm w ha hb
    rw [decide_eq_false hk, Bool.false_and]
    exact h
end Go.Proofs.Ytoehcinpbnlbnaa
