/- GroupsOf: what the model's function does. -/
import Derived.Test.YtoehcinpbnlbnaaGroups
import Derived.Test.YtoehcinpbnlbnaaOwnR
import Derived.Deep.AppendLies
import Derived.Deep.RegionLaw
namespace Go.Proofs.Ytoehcinpbnlbnaa
open Go.RowKit
theorem cell_g1 (w : World) (v : Value) (t : TypeId) : ∀ j u, [v][j]? = some u → (w.alloc (.cells #[v] t)).cell? ((⟨w.heap.size, 0, none⟩ : Addr).add j) = some u := by
  intro j u hj
  match j, hj with
  | 0, hj => simp at hj; subst hj; simp [Addr.add]
/-- The groups up to a place; the last one goes on. -/
def grpTo (xs : List Int) (k : Nat) : List (List Int) := gTo xs k ++ [partL xs (startOf xs k) k]
theorem grpTo_length (xs : List Int) (k : Nat) : (grpTo xs k).length = (gTo xs k).length + 1 := by simp [grpTo]
theorem grpTo_last (xs : List Int) (k : Nat) : (grpTo xs k).getD (gTo xs k).length [] = partL xs (startOf xs k) k := by
  simp [grpTo, List.getD, List.getElem?_append_right]
theorem partL_self (xs : List Int) (k : Nat) : partL xs k k = [] := by simp [partL]
theorem partL_snoc {xs : List Int} {s k : Nat} (hs : s ≤ k) (hk : k < xs.length) : partL xs s (k + 1) = partL xs s k ++ [xs.getD k 0] := by
  unfold partL
  rw [List.take_succ_eq_append_getElem hk, List.drop_append_of_le_length (by rw [List.length_take]; omega)]
  simp [List.getD, List.getElem?_eq_getElem hk]
theorem grpTo_brk {xs : List Int} {k : Nat} (h : xs.getD k 0 = -10) : grpTo xs (k + 1) = grpTo xs k ++ [[]] := by
  unfold grpTo
  rw [gTo_brk h, startOf_brk h, partL_self]
theorem grpTo_no {xs : List Int} {k : Nat} (hk : k < xs.length) (h : ¬ xs.getD k 0 = -10) : grpTo xs (k + 1) = (grpTo xs k).set (gTo xs k).length (partL xs (startOf xs k) k ++ [xs.getD k 0]) := by
  unfold grpTo
  rw [gTo_no h, startOf_no h, partL_snoc (startOf_le xs k) hk, List.set_append_right _ _ (Nat.le_refl _), Nat.sub_self]
  rfl
theorem grpTo_all (xs : List Int) : grpTo xs xs.length = groupsV xs := rfl
/-- One slice of nothing. -/
theorem OwnS.one (w : World) : OwnS ((w.alloc (.cells #[] 33)).alloc (.cells #[.slice (some ⟨w.heap.size, 0, none⟩) 0 0] 26)) w.heap.size (w.heap.size + 2) (.slice (some ⟨w.heap.size + 1, 0, none⟩) 1 1) [.slice (some ⟨w.heap.size, 0, none⟩) 0 0] [[]] := by
  have h1 : Own .i8 33 (w.alloc (.cells #[] 33)) w.heap.size (w.heap.size + 1) (.slice (some ⟨w.heap.size, 0, none⟩) 0 0) [] := Own.new (k := .i8) (e := 33) w [] (by simp)
  have h2 := (h1.gr ((Gr.refl _).alloc (.cells #[.slice (some ⟨w.heap.size, 0, none⟩) 0 0] 26))).widen (Nat.le_refl _) (show w.heap.size + 1 ≤ w.heap.size + 2 by omega)
  have h3 := World.ownsRow_lit (base := w.heap.size) (e := 26) (size := 1) (w.alloc (.cells #[] 33)) #[.slice (some ⟨w.heap.size, 0, none⟩) 0 0] 1 (by simp) (by unfold maxLen; omega) (by simp)
  simp only [World.size_alloc] at h3
  refine ⟨?_, fun b hb => ?_, fun i hi0 => ?_, fun i u hu b hb => ?_, fun i j u u' hij hu hu' => ?_⟩
  · exact h3
  · simp [Value.ownBlock] at hb; omega
  · simp at hi0
    subst hi0
    exact ⟨_, rfl, h2⟩
  · match i, hu with
    | 0, hu => simp at hu; subst hu; simp [Value.ownBlock] at hb ⊢; omega
  · match i, hu, j, hu' with
    | 0, _, 0, _ => exact absurd rfl hij
theorem OwnS.lower {w : World} {lo lo' hi : Nat} {v : Value} {vs : List Value} {xss : List (List Int)} (h : OwnS w lo hi v vs xss) (hl : lo' ≤ lo) : OwnS w lo' hi v vs xss := by
  refine ⟨⟨h.row.1, ?_⟩, h.top, fun i hi0 => ?_, h.apart, h.dist⟩
  · rcases h.row.2 with h1 | ⟨g', cap, cur, h1, h2, r⟩
    · exact .inl h1
    · exact .inr ⟨g', cap, cur, h1, Nat.le_trans hl h2, r⟩
  · obtain ⟨u, hu, ho⟩ := h.each i hi0
    exact ⟨u, hu, ho.widen hl (Nat.le_refl _)⟩
theorem OwnS.empty {w : World} {lo : Nat} (hl : lo ≤ w.heap.size) : OwnS (w.alloc (.cells #[] 26)) lo (w.alloc (.cells #[] 26)).heap.size (.slice (some ⟨w.heap.size, 0, none⟩) 0 0) [] [] := by
  refine ⟨World.ownsRow_lit (base := lo) (e := 26) (size := 1) w #[] 0 hl (by unfold maxLen; omega) (by simp), fun b hb => ?_, fun i hi0 => by simp at hi0, fun i u hu => by simp at hu, fun i j u u' _ hu => by simp at hu⟩
  simp [Value.ownBlock] at hb
  simp; omega
set_option maxHeartbeats 4000000 in
set_option maxRecDepth 100000 in
theorem spec_GroupsOf_yes (a : Option Addr) (xs : List Int) (hm : xs.length ≤ 1048576) (hf : Fits .i8 xs) (hv : plainH xs = true) (w : World) (hs : SliceOf .i8 w a xs) :
    Calls Try.prog 12 #[.slice a xs.length xs.length] w (RetOwnS 0 (groupsV xs) w) := by
  have HP := hid (l02Plain_any a xs.length xs.length xs rfl hm hf w hs)
  have h8 := (validH_len (plainH_valid hv)).2
  rw [hv] at HP
  have S := hid hs
  clear hf hv hs
  obtain ⟨n, hn⟩ : ∃ n, n = xs.length := ⟨_, rfl⟩
  rw [← hn] at h8 hm HP ⊢
  have HN := hid hn
  clear hn
  obtain ⟨i0, hi, hz0, hz1, hz2⟩ := info_parts infoM
  obtain ⟨j0, ji, jz0, jz1, jz2⟩ := info_parts infoI8
  go_enter Try.func12, Try.ntmps12
  go_wp2_with fail
  refine HP.out.mono ?_
  rintro e w1 ⟨rfl, g1⟩
  have G1 := hid g1
  clear g1
  go_wp2_with fail
  go_loopw [4, 5, 6] (fun v i _ wr => ∃ k : Nat, ∃ vs, k ≤ n ∧ i = .int .i64 k ∧ Hid (OwnS wr w1.heap.size wr.heap.size v vs (grpTo xs k)) ∧ Hid (Gr w1 wr)) (fun _ i _ _ => n - (intOf i).toNat)
  case atStart => exact ⟨0, _, Nat.zero_le _, rfl, hid (by have := (OwnS.one w1).widen (show w1.heap.size + 2 ≤ ((w1.alloc (.cells #[] 33)).alloc (.cells #[.slice (some ⟨w1.heap.size, 0, none⟩) 0 0] 26)).heap.size by simp); exact this), hid (((Gr.refl _).alloc _).alloc _)⟩
  case round =>
    obtain ⟨k, vs, hk, rfl, ow, GR⟩ := hrel
    have hgl := gTo_length xs k
    have HGL := hid (grpTo_length xs k)
    have LST := hid (grpTo_last xs k)
    obtain ⟨m, hmm⟩ : ∃ m, m = (gTo xs k).length := ⟨_, rfl⟩
    rw [← hmm] at hgl HGL LST
    obtain ⟨g, cap, rfl, hgb, hgs⟩ := ow.out.row.form (by rw [HGL.out]; omega)
    have HMM := hid hmm
    clear hmm
    rw [HGL.out] at ow ⊢
    by_cases hlt : k < n
    · have hlt' : k < xs.length := by rw [← HN.out]; exact hlt
      obtain ⟨b0, o0, rfl, c0⟩ := S.out k hlt'
      have hc0 := GR.out.cell (G1.out.cell c0)
      have hb0w := World.block_lt_of_cell? _ _ c0
      dsimp only at hb0w
      have hG1 := G1.out.size
      have hG2 := GR.out.size
      clear c0
      have em : IntKind.i64.wrap ((m : Int) + 1 - 1) = (m : Int) := by rw [IntWalk.i64_in _ (by omega)]; omega
      by_cases hb : xs.getD k 0 = -10
      · have HE := hid (grpTo_brk hb)
        rw [hb] at hc0
        clear hlt' hb
        have OW2 := hid (ow.out.gr (((Gr.refl _).alloc (.cells #[] 33)).alloc (.cells #[.slice (some ⟨wr.heap.size, 0, none⟩) 0 0] 26)))
        have ROW2 := hid OW2.out.row
        rw [HGL.out] at ROW2
        have ON := hid ((Own.new (k := .i8) (e := 33) wr [] (by simp)).gr ((Gr.refl _).alloc (.cells #[.slice (some ⟨wr.heap.size, 0, none⟩) 0 0] 26)))
        have HNEWS := hid (cell_g1 (wr.alloc (.cells #[] 33)) (.slice (some ⟨wr.heap.size, 0, none⟩) 0 0) 26)
        rw [World.size_alloc] at HNEWS
        go_wp2_with (at_builtin; refine wpList_append_own _ rfl _ _ 23 rfl w1.heap.size 26 i0 (.slice none 0 0) 1 24 Try.underlying23 hi hz0 hz1 hz2 rfl (by decide) _ _ _ rfl ROW2.out ⟨wr.heap.size + 1, 0, none⟩ 1 1 [.slice (some ⟨wr.heap.size, 0, none⟩) 0 0] rfl rfl HNEWS.out (by simp [Value.oneCell']) (by unfold maxLen; omega) (by omega) (by have := GR.out.size; simp; omega) ?_)
        intro v3 w3 hown3 hgrow3 _
        rw [← HGL.out] at hown3
        have OW3 := hid (OwnS.snoc OW2.out GR.out.size ON.out hown3 hgrow3)
        have GW3 := hid (((GR.out.alloc _).alloc _).by_ hgrow3 (fun b e => (OW2.out.row.lt b e).1))
        clear hown3 hgrow3
        go_wp2_with fail
        go_roundw
        case rel => exact ⟨k + 1, _, by omega, by go_num, hid (by rw [HE.out]; exact OW3.out), GW3⟩
        case measure => simp [intOf] <;> omega
      · have HE := hid (grpTo_no hlt' hb)
        rw [← HMM.out] at HE
        have hbx : (xs.getD k 0 == -10) = false := by simpa using hb
        obtain ⟨g', a', c', e', hc1, hvs, oin⟩ := ow.out.at_ (i := m) (by rw [HGL.out]; omega)
        simp only [Option.some.injEq, Addr.mk.injEq, and_true] at e'
        subst e'
        rw [LST.out] at hc1 hvs oin
        have hpl := partL_length (xs := xs) (i := startOf xs k) (j := k) (startOf_le xs k) (by omega)
        have hsk := startOf_le xs k
        generalize hys : partL xs (startOf xs k) k = ys at *
        obtain ⟨p, hp⟩ : ∃ p, p = ys.length := ⟨_, rfl⟩
        rw [← hp] at hc1 hvs oin hpl
        have hp8 : p ≤ 8 := by omega
        have HP := hid hp
        have HYS := hid hys
        clear hp hys hb hlt' hpl hsk
        generalize xs.getD k 0 = x at *
        have hf1 : wr.frozen? ⟨g, m, none⟩ = false := by
          have h := ow.out.row
          rw [HGL.out] at h
          exact h.frozenAt m
        have ROW := hid oin.row
        rw [← HP.out] at ROW
        have NE1 := hid (show some g ≠ (Value.slice a' p c').ownBlock from fun e => ow.out.apart m _ hvs g e.symm rfl)
        have NE2 := hid (show some b0 ≠ (Value.slice a' p c').ownBlock from fun e => by have := (ROW.out.lt b0 e.symm).1; omega)
        have HVS := hid hvs
        clear hvs oin
        have hk0 : (0 : Int) ≤ (k : Int) := by omega
        have hk1 : (k : Int) < (n : Int) := by omega
        have hm0 : (0 : Int) ≤ (m : Int) := by omega
        have hm1 : (m : Int) < ((m + 1 : Nat) : Int) := by omega
        have hm2 : (m : Int) < (m : Int) + 1 := by omega
        have GA : Gr wr (wr.alloc (.cells #[.int .i8 x] 33)).drew := ((Gr.refl wr).alloc _).drew
        have FA : (wr.alloc (.cells #[.int .i8 x] 33)).drew.frozen? ⟨g, m, none⟩ = false := (Below.frozen GA (p := ⟨g, m, none⟩) hgs).trans hf1
        have HS3 := hid (show (wr.alloc (.cells #[.int .i8 x] 33)).drew.cell? ⟨g, m, none⟩ = some (.slice a' p c') ∧ (wr.alloc (.cells #[.int .i8 x] 33)).drew.cell? ⟨b0, o0 + k, none⟩ = some (.int .i8 x) ∧ (wr.alloc (.cells #[.int .i8 x] 33)).drew.frozen? ⟨g, m, none⟩ = false from ⟨GA.cell hc1, GA.cell hc0, FA⟩)
        have HGAD := hid GA
        clear GA FA
        go_wp2_with fail
        go_region_law ((refine step_append_lies _ (by rfl) _ _ _ (by rfl) w1.heap.size 33 j0 _ 1 1 Try.underlying26 ji jz0 jz1 jz2 rfl (by omega) _ _ _ (by rfl) ((ROW.out.alloc _).drew) ⟨wr.heap.size, 0, none⟩ 1 1 [.int .i8 x] (by rfl) (by rfl) (World.news_of_block (cs := #[.int .i8 x]) (t := 33) (fr := (0, 0)) (heap_alloc_new wr _)) (by simp [Value.oneCell']) (by omega) (by unfold maxLen; omega) (by omega) (by have := GR.out.size; simp; omega) (wr.heap.size + 1) (by simp) ?_; intro gg cap2 w2 hown hgrow hat hlt2; have hcw : w2.cell? ⟨g, m, none⟩ = some (.slice a' p c') := (hgrow.cell_far _ (by simp; omega) NE1.out).trans HS3.out.1; have hfw : w2.frozen? ⟨g, m, none⟩ = false := (hgrow.frozen_far _ (by simp; omega) NE1.out).trans HS3.out.2.2))
        all_goals
          have OX := hid (OwnS.renew (w := (wr.alloc (.cells #[.int .i8 x] 33)).drew) (w1 := w2) (lo := w1.heap.size) (hi := wr.heap.size) (i := m) (u := .slice a' p c') (u' := .slice (some ⟨gg, 0, none⟩) (p + 1) cap2) (ys := ys ++ [x]) (ow.out.gr HGAD.out) (by simp) (by rw [HGL.out]; omega) HVS.out (by rw [List.length_append, ← HP.out, List.map_append]; exact hown) hgrow (hat.elim (fun h => .inl h.symm) (fun h => .inr ⟨gg, rfl, by simp; omega⟩))).1
          have GX := hid (((GR.out.trans HGAD.out).by_ hgrow (fun b e => (ROW.out.lt b e).1)).setCell (p := ⟨g, m, none⟩) hgb (.slice (some ⟨gg, 0, none⟩) (p + 1) cap2))
          clear hown hgrow hat hcw hfw hlt2
          go_wp2_with fail
          go_roundw
          case rel => exact ⟨k + 1, _, by omega, by go_num, hid (by rw [HE.out]; exact OX.out.widen (by simp)), GX⟩
          case measure => simp [intOf] <;> omega
    · have HK := hid (show grpTo xs k = groupsV xs by rw [show k = xs.length by rw [← HN.out]; omega]; rfl)
      have GW := hid (G1.out.trans GR.out)
      go_wp2_with fail
      go_ret2
      exact ⟨_, vs, rfl, by rw [← HK.out]; exact (ow.out.lower G1.out.size), GW.out⟩
set_option maxRecDepth 100000 in
theorem spec_GroupsOf_no (a : Option Addr) (xs : List Int) (hm : xs.length ≤ 1048576) (hf : Fits .i8 xs) (hv : plainH xs = false) (w : World) (hs : SliceOf .i8 w a xs) :
    Calls Try.prog 12 #[.slice a xs.length xs.length] w (RetOwnS 1 [] w) := by
  have HP := hid (l02Plain_any a xs.length xs.length xs rfl hm hf w hs)
  rw [hv] at HP
  clear hf hv hs
  go_enter Try.func12, Try.ntmps12
  go_wp2_with fail
  refine HP.out.mono ?_
  rintro e w1 ⟨rfl, g1⟩
  have G1 := hid g1
  clear g1
  go_wp2_with fail
  go_ret2
  exact ⟨_, [], rfl, OwnS.empty G1.out.size, G1.out.alloc _⟩
theorem spec_GroupsOf_any (a : Option Addr) (xs : List Int) (hm : xs.length ≤ 1048576) (hf : Fits .i8 xs) (w : World) (hs : SliceOf .i8 w a xs) :
    Calls Try.prog 12 #[.slice a xs.length xs.length] w (RetOwnS (groupsC xs) (groupsL xs) w) := by
  unfold groupsC groupsL
  cases hv : plainH xs with
  | true => exact spec_GroupsOf_yes a xs hm hf hv w hs
  | false => exact spec_GroupsOf_no a xs hm hf hv w hs
theorem gTo_sum (xs : List Int) (k : Nat) (hk : k ≤ xs.length) : (lens (gTo xs k)).sum + (k - startOf xs k) ≤ k := by
  induction k with
  | zero => simp [gTo, lens]
  | succ k ih =>
    have h := ih (by omega)
    have hs := startOf_le xs k
    by_cases hb : xs.getD k 0 = -10
    · rw [gTo_brk hb, startOf_brk hb]
      have := partL_length (xs := xs) (i := startOf xs k) (j := k) hs (by omega)
      simp only [lens, List.map_append, List.map_cons, List.map_nil, List.sum_append, List.sum_cons, List.sum_nil] at h ⊢
      omega
    · rw [gTo_no hb, startOf_no hb]
      omega
theorem groupsL_sum (xs : List Int) : (lens (groupsL xs)).sum ≤ 8 := by
  unfold groupsL
  split
  · rename_i hv
    have h8 := (validH_len (plainH_valid hv)).2
    have h := gTo_sum xs xs.length (Nat.le_refl _)
    have hs := startOf_le xs xs.length
    have := partL_length (xs := xs) (i := startOf xs xs.length) (j := xs.length) hs (Nat.le_refl _)
    unfold groupsV
    simp only [lens, List.map_append, List.map_cons, List.map_nil, List.sum_append, List.sum_cons, List.sum_nil] at h ⊢
    omega
  · simp [lens]
theorem groupsL_length (xs : List Int) : (groupsL xs).length ≤ 9 := by
  unfold groupsL
  split
  · rename_i hv
    have h8 := (validH_len (plainH_valid hv)).2
    have := gTo_length xs xs.length
    unfold groupsV
    rw [List.length_append, List.length_singleton]
    omega
  · simp
theorem groupsL_each (xs : List Int) (i : Nat) : ((groupsL xs).getD i []).length ≤ 8 := by
  have h := groupsL_sum xs
  by_cases hi : i < (groupsL xs).length
  · have := sumTo_get (ls := lens (groupsL xs)) (i := i) (by rw [lens_length]; exact hi)
    rw [lens_get] at this
    omega
  · simp [List.getD, List.getElem?_eq_none (show (groupsL xs).length ≤ i by omega)]
theorem OwnS.by_ {w w' : World} {lo hi : Nat} {v : Value} {vs : List Value} {xss : List (List Int)} {row : Option Nat} (h : OwnS w lo hi v vs xss) (hg : w.grownBy w' row) (hne : ∀ b, row = some b → b < lo ∨ hi ≤ b) : OwnS w' lo hi v vs xss := by
  refine ⟨h.row.kept hg ?_, h.top, fun i hi0 => ?_, h.apart, h.dist⟩
  · cases hv : v.ownBlock with
    | none => exact .inl rfl
    | some b =>
      right
      intro hr
      have h1 := (h.row.lt b hv).1
      have h2 := h.top b hv
      have h3 := hne b hr.symm
      omega
  · obtain ⟨u, hu, ho⟩ := h.each i hi0
    exact ⟨u, hu, ho.by_ hg hne⟩
theorem row_below {w w' : World} {l B : Nat} {e : TypeId} {s n : Nat} {v : Value} {ys : List Value} (h : w.ownsRow l e s v n ys) (hb : Below B w w') (ht : ∀ b, v.ownBlock = some b → b < B) : w'.ownsRow l e s v n ys := by
  refine ⟨h.1, ?_⟩
  rcases h.2 with h1 | ⟨g', cap, cur, rfl, h2, h3, r⟩
  · exact .inl h1
  · exact .inr ⟨g', cap, cur, rfl, h2, by rw [Below.block hb g' (ht g' rfl)]; exact h3, r⟩
theorem OwnS.below {w w' : World} {lo hi B : Nat} {v : Value} {vs : List Value} {xss : List (List Int)} (h : OwnS w lo hi v vs xss) (hb : Below B w w') (hB : hi ≤ B) : OwnS w' lo hi v vs xss := by
  refine ⟨row_below h.row hb (fun b e => Nat.lt_of_lt_of_le (h.top b e) hB), h.top, fun i hi0 => ?_, h.apart, h.dist⟩
  obtain ⟨u, hu, ho⟩ := h.each i hi0
  exact ⟨u, hu, row_below ho.row hb (fun b e => Nat.lt_of_lt_of_le (ho.top b e) hB), ho.top⟩
theorem OwnS.shape {w : World} {lo hi : Nat} {v : Value} {vs : List Value} {xss : List (List Int)} (h : OwnS w lo hi v vs xss) : ∃ a cap, v = .slice a xss.length cap := by
  rcases h.row.2 with ⟨h1, h2⟩ | ⟨g', cap, cur, h1, _⟩
  · exact ⟨none, 0, by rw [h1, h2]⟩
  · exact ⟨_, _, h1⟩
theorem impl_GroupsOf_any (a : Option Addr) (xs : List Int) (hm : xs.length ≤ 1048576) (hf : Fits .i8 xs) (w : World) (hs : SliceOf .i8 w a xs) :
    Calls Try.prog 14 #[.slice a xs.length xs.length] w (RetOwnS (groupsC xs) (groupsL xs) w) := impl_GroupsOf_cap a _ _ xs rfl hm (Nat.le_refl _) hf w hs
end Go.Proofs.Ytoehcinpbnlbnaa
