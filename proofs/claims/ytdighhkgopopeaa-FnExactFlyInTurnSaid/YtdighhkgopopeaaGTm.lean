/- Meanings flown in turn out of a locker: as data. -/
import Derived.Test.YtdighhkgopopeaaLkM
import Derived.Test.YtdighhkgopopeaaLockH
import Derived.Test.YtdighhkgopopeaaHoistsA
import Derived.Test.YtdighhkgopopeaaHoistS
import Derived.Test.YtdighhkgopopeaaLockA
import Derived.Laws.ResultCell
import Derived.Laws.Rows
import Derived.Deep.RegionHeld3
namespace Go.Proofs.Ytdighhkgopopeaa
set_option linter.unusedVariables false
open Go.RowKit
/-- What is left when a part of a hoist has been taken out of a locker. -/
def dropTo (xs h : List Int) : Nat → List Int
  | 0 => xs
  | j + 1 => if h.getD j 0 = -10 then dropTo xs h j else less (dropTo xs h j) (pIdx (h.getD j 0))
theorem dropTo_brk {xs h : List Int} {j : Nat} (e : h.getD j 0 = -10) : dropTo xs h (j + 1) = dropTo xs h j := by rw [dropTo, if_pos e]
theorem dropTo_on {xs h : List Int} {j : Nat} (e : ¬ h.getD j 0 = -10) : dropTo xs h (j + 1) = less (dropTo xs h j) (pIdx (h.getD j 0)) := by rw [dropTo, if_neg e]
theorem dropTo_length (xs h : List Int) : ∀ j, (dropTo xs h j).length = xs.length
  | 0 => rfl
  | j + 1 => by
    by_cases e : h.getD j 0 = -10
    · rw [dropTo_brk e]; exact dropTo_length xs h j
    · rw [dropTo_on e, less_length]; exact dropTo_length xs h j
theorem dropTo_bd {xs h : List Int} (hl : xs.length = 44) (hn : ∀ i, i < h.length → h.getD i 0 = -10 ∨ (-4 ≤ h.getD i 0 ∧ h.getD i 0 ≤ 39)) : ∀ j, j ≤ h.length → ∀ q, xs.getD q 0 - j ≤ (dropTo xs h j).getD q 0 ∧ (dropTo xs h j).getD q 0 ≤ xs.getD q 0
  | 0, _, q => ⟨by simp [dropTo], Int.le_refl _⟩
  | j + 1, hj, q => by
    obtain ⟨h1, h2⟩ := dropTo_bd hl hn j (by omega) q
    by_cases e : h.getD j 0 = -10
    · rw [dropTo_brk e]; push_cast; omega
    · rw [dropTo_on e, less_get (by rw [dropTo_length, hl]; exact pIdx_lt ((hn j (by omega)).resolve_left e))]
      split
      · rename_i hq; subst hq; push_cast; omega
      · push_cast; omega
theorem dropTo_at {xs h : List Int} (hl : xs.length = 44) (hn : ∀ i, i < h.length → h.getD i 0 = -10 ∨ (-4 ≤ h.getD i 0 ∧ h.getD i 0 ≤ 39)) {x : Int} (hx : -4 ≤ x ∧ x ≤ 39) : ∀ j, j ≤ h.length → (dropTo xs h j).getD (pIdx x) 0 = xs.getD (pIdx x) 0 - occ h x j
  | 0, _ => by simp [dropTo, occ]
  | j + 1, hj => by
    have ih := dropTo_at hl hn hx j (by omega)
    by_cases e : h.getD j 0 = -10
    · rw [dropTo_brk e, occ_no (by omega), ih]
    · have hr := (hn j (by omega)).resolve_left e
      rw [dropTo_on e, less_get (by rw [dropTo_length, hl]; exact pIdx_lt hr)]
      by_cases e2 : h.getD j 0 = x
      · rw [if_pos (by rw [e2]), occ_yes e2, e2, ih]; omega
      · rw [if_neg (fun e3 => e2 (pIdx_inj hr hx e3.symm)), occ_no e2, ih]
/-- What the search finds uses no more than there is. -/
theorem lkF_mem {xs m : List Int} (hm8 : m.length ≤ 8) (hm : ∀ i, i < m.length → m.getD i 0 = -10 ∨ (0 ≤ m.getD i 0 ∧ m.getD i 0 ≤ 39)) : ∀ (f : Nat) (left h : List Int), h.length + f = m.length → NumN h → Lf xs left h → ∀ g, g ∈ lkF m f left h → (∃ l, Lf xs l g) ∧ NumN g ∧ g.length = m.length
  | 0, left, h, hl, hN, hL, g, hg => by
    rw [lkF, List.mem_singleton] at hg
    subst hg
    exact ⟨⟨left, hL⟩, hN, by omega⟩
  | f + 1, left, h, hl, hN, hL, g, hg => by
    have hl1 : ∀ x : Int, (h ++ [x]).length + f = m.length := fun x => by rw [List.length_append, List.length_singleton]; omega
    by_cases hb : m.getD h.length 0 = -10
    · rw [lkF_brk hb] at hg
      exact lkF_mem hm8 hm f left _ (hl1 _) (hN.snoc (by omega) (.inl rfl)) hL.brk g hg
    · rw [lkF_kind hb] at hg
      have hk := (hm _ (by omega)).resolve_left hb
      have H : ∀ q, q ≤ 4 → ∀ g, g ∈ lkN (lkF m f) m h left q → (∃ l, Lf xs l g) ∧ NumN g ∧ g.length = m.length := by
        intro q
        induction q with
        | zero =>
          intro _ g hg
          by_cases h0 : 0 < left.getD (pIdx (m.getD h.length 0)) 0
          · rw [lkN, if_pos h0] at hg
            exact lkF_mem hm8 hm f _ _ (hl1 _) (hN.snoc (by omega) (.inr (.inr hk))) (hL.less ⟨by omega, hk.2⟩ h0) g hg
          · rw [lkN, if_neg h0] at hg; exact absurd hg (List.not_mem_nil)
        | succ q ih =>
          intro hq g hg
          rw [lkN, List.mem_append] at hg
          rcases hg with hg | hg
          · split at hg
            · rename_i hr
              have hx : -4 ≤ -((q + 1 : Nat) : Int) ∧ -((q + 1 : Nat) : Int) ≤ 39 := by omega
              have h1 := hL.at_ _ hx
              rw [pIdx_sub] at h1
              have h0 : 0 < left.getD (40 + q) 0 := by
                have h2 : (left.getD (40 + q) 0 == 0) = false := by
                  cases h3 : (left.getD (40 + q) 0 == 0)
                  · rfl
                  · rw [h3] at hr; simp at hr
                have := beq_eq_false_iff_ne.1 h2
                omega
              have hL2 := hL.less hx (by rw [pIdx_sub]; exact h0)
              rw [pIdx_sub] at hL2
              exact lkF_mem hm8 hm f _ _ (hl1 _) (hN.snoc (by omega) (.inr (.inl ⟨by omega, by omega⟩))) hL2 g hg
            · exact absurd hg (List.not_mem_nil)
          · exact ih (by omega) g hg
      exact H 4 (Nat.le_refl _) g hg
/-- What is flown is taken out. -/
def takeX (xs m : List Int) : List Int := match fromL xs m with | [] => xs | h :: _ => dropTo xs h h.length
def flyX (xs : List Int) (mss : List (List Int)) : Nat → List Int
  | 0 => xs
  | i + 1 => takeX (flyX xs mss i) (mss.getD i [])
def flyO (xs : List Int) (mss : List (List Int)) : Nat → List Int
  | 0 => []
  | i + 1 => match fromL (flyX xs mss i) (mss.getD i []) with | [] => flyO xs mss i | _ :: _ => flyO xs mss i ++ [(i : Int)]
theorem fromL_mem {xs m : List Int} (lx : xs.length = 44) (hv : lockB xs = true) (hp : plainH m = true) {g : List Int} (hg : g ∈ fromL xs m) :
    g.length = m.length ∧ m.length ≤ 8 ∧ (∀ i, i < g.length → g.getD i 0 = -10 ∨ (-4 ≤ g.getD i 0 ∧ g.getD i 0 ≤ 39)) ∧ lockB (dropTo xs g g.length) = true := by
  have h8 := (validH_len (plainH_valid hp)).2
  obtain ⟨⟨l, hL⟩, hN, hl⟩ := lkF_mem h8 (plain_nums hp) m.length xs [] (by simp) NumN.nil (Lf.nil lx hv) g hg
  have hn : ∀ i, i < g.length → g.getD i 0 = -10 ∨ (-4 ≤ g.getD i 0 ∧ g.getD i 0 ≤ 39) := fun i hi => by
    rcases hN.num i hi with h | h | h
    · exact .inl h
    · exact .inr ⟨by omega, by omega⟩
    · exact .inr ⟨by omega, by omega⟩
  refine ⟨hl, h8, hn, ?_⟩
  unfold lockB
  rw [List.all_eq_true]
  intro y hy
  obtain ⟨q, hq, rfl⟩ := List.mem_iff_getElem.1 hy
  rw [dropTo_length, lx] at hq
  have hx : -4 ≤ pNum q ∧ pNum q ≤ 39 := by unfold pNum; split <;> omega
  have hpq : pIdx (pNum q) = q := by unfold pIdx pNum; split <;> split <;> omega
  have h1 := dropTo_at lx hn hx g.length (Nat.le_refl _)
  have h2 := hL.at_ _ hx
  rw [hpq] at h1 h2
  have e : (dropTo xs g g.length)[q]'(by rw [dropTo_length, lx]; exact hq) = (dropTo xs g g.length).getD q 0 := by
    rw [List.getD_eq_getElem?_getD, List.getElem?_eq_getElem (by rw [dropTo_length, lx]; exact hq), Option.getD_some]
  rw [e, lkB_iff]
  omega
theorem takeX_ok {xs m : List Int} (lx : xs.length = 44) (hv : lockB xs = true) (hp : plainH m = true) : (takeX xs m).length = 44 ∧ lockB (takeX xs m) = true := by
  unfold takeX
  cases h : fromL xs m with
  | nil => exact ⟨lx, hv⟩
  | cons g R =>
    obtain ⟨_, _, _, h1⟩ := fromL_mem lx hv hp (g := g) (by rw [h]; exact List.mem_cons_self)
    exact ⟨(dropTo_length _ _ _).trans lx, h1⟩
def plAtN (mss : List (List Int)) (i : Nat) : Bool := plainH (mss.getD i [])
theorem flyX_ok {xs : List Int} {mss : List (List Int)} {n : Nat} (lx : xs.length = 44) (hv : lockB xs = true) (hp : allTo (plAtN mss) n = true) : ∀ i, i ≤ n → (flyX xs mss i).length = 44 ∧ lockB (flyX xs mss i) = true
  | 0, _ => ⟨lx, hv⟩
  | i + 1, hi => by
    obtain ⟨h1, h2⟩ := flyX_ok lx hv hp i (by omega)
    exact takeX_ok h1 h2 (allTo_iff.1 hp i (by omega))
theorem fly_nil {xs : List Int} {mss : List (List Int)} {i : Nat} (h : fromL (flyX xs mss i) (mss.getD i []) = []) : flyX xs mss (i + 1) = flyX xs mss i ∧ flyO xs mss (i + 1) = flyO xs mss i := by
  constructor
  · rw [flyX, takeX, h]
  · rw [flyO, h]
theorem fly_cons {xs : List Int} {mss : List (List Int)} {i : Nat} {g : List Int} {R : List (List Int)} (h : fromL (flyX xs mss i) (mss.getD i []) = g :: R) : flyX xs mss (i + 1) = dropTo (flyX xs mss i) g g.length ∧ flyO xs mss (i + 1) = flyO xs mss i ++ [(i : Int)] := by
  constructor
  · rw [flyX, takeX, h]
  · rw [flyO, h]
theorem lock_mid {xs : List Int} (h : lockB xs = true) (q : Nat) : -1000 ≤ xs.getD q 0 ∧ xs.getD q 0 ≤ 1000 := by have := lockB_get h q; omega
theorem flyO_length (xs : List Int) (mss : List (List Int)) : ∀ i, (flyO xs mss i).length ≤ i
  | 0 => by simp [flyO]
  | i + 1 => by
    have := flyO_length xs mss i
    rw [flyO]
    split
    · omega
    · rw [List.length_append, List.length_singleton]; omega
/-- The code of a locker and meanings. -/
def mtC (xs : List Int) (mss : List (List Int)) : Int := twoC (lockB xs) (allTo (plAtN mss) mss.length) (mss.length : Int)
def fitC (xs : List Int) (mss : List (List Int)) : List Int := if mtC xs mss = 0 then flyO xs mss mss.length else []
theorem mtC_zero {xs : List Int} {mss : List (List Int)} (h : mtC xs mss = 0) : lockB xs = true ∧ allTo (plAtN mss) mss.length = true ∧ mss.length ≤ 6 := by
  unfold mtC twoC at h
  cases h1 : lockB xs <;> cases h2 : allTo (plAtN mss) mss.length <;> rw [h1, h2] at h
  · simp at h
  · simp at h
  · simp at h
  · refine ⟨rfl, rfl, ?_⟩
    by_cases h3 : (6 : Int) < mss.length
    · rw [if_pos h3] at h; simp at h
    · omega
theorem mtC_bad {xs : List Int} {mss : List (List Int)} (h : lockB xs = false) : mtC xs mss = 1 := by unfold mtC twoC; rw [h]; rfl
theorem mtC_at {xs : List Int} {mss : List (List Int)} {i : Nat} (hi : i < mss.length) (h : plAtN mss i = false) : mtC xs mss = 1 := by unfold mtC twoC; rw [allTo_no hi h, Bool.and_false]; rfl
theorem mtC_long {xs : List Int} {mss : List (List Int)} (h0 : lockB xs = true) (h : allTo (plAtN mss) mss.length = true) (h2 : 6 < mss.length) : mtC xs mss = 3 := by unfold mtC twoC; rw [h0, h, Bool.and_self, if_pos rfl, if_pos (by omega)]
theorem mtC_ok {xs : List Int} {mss : List (List Int)} (h0 : lockB xs = true) (h : allTo (plAtN mss) mss.length = true) (h2 : ¬ 6 < mss.length) : mtC xs mss = 0 := by unfold mtC twoC; rw [h0, h, Bool.and_self, if_pos rfl, if_neg (by omega)]
end Go.Proofs.Ytdighhkgopopeaa

/- Meanings in turn: a hoist taken out of a locker. -/
namespace Go.Proofs.Ytdighhkgopopeaa
set_option linter.unusedVariables false
open Go.RowKit
theorem grownN_cell {W : World} {g i : Nat} {u : Value} : W.grownBy (W.setCell ⟨g, i, none⟩ u) (some g) :=
  ⟨rfl, rfl, rfl, by rw [World.size_setCell]; exact Nat.le_refl _, fun k _ hk => heap_setCell_other W ⟨g, i, none⟩ k u (fun e => hk (by rw [e]))⟩
theorem SliceOf.byN {k : IntKind} {w w' : World} {a : Option Addr} {xs : List Int} {b : Nat} (h : SliceOf k w a xs) (g : w.grownBy w' (some b)) (hne : ∀ x off s, a = some ⟨x, off, s⟩ → x ≠ b) : SliceOf k w' a xs := by
  intro i hi
  obtain ⟨b0, o0, e, hc⟩ := h i hi
  exact ⟨b0, o0, e, (World.cell?_of_block (w := w) (a := ⟨b0, o0 + i, none⟩) (g.block b0 (World.block_lt_of_cell? w _ hc) (fun e' => hne b0 o0 none e (Option.some.inj e')))).trans hc⟩
set_option maxHeartbeats 4000000 in
set_option maxRecDepth 100000 in
theorem l04Sub_any (b : Nat) (T : TypeId) (ys h : List Int) (hy : ys.length = 44) (hyb : ∀ q, -1000 ≤ ys.getD q 0 ∧ ys.getD q 0 ≤ 1000) (a : Option Addr) (n cap : Nat) (hn : n = h.length) (h8 : n ≤ 8) (hnum : ∀ i, i < n → h.getD i 0 = -10 ∨ (-4 ≤ h.getD i 0 ∧ h.getD i 0 ≤ 39)) (w : World)
    (hb : w.heap[b]? = some (.cells (kCells .i16 ys) T (0, 0))) (hs : SliceOf .i8 w a h) (hne : ∀ x off s, a = some ⟨x, off, s⟩ → x ≠ b) :
    Calls Try.prog 34 #[.pointer (some ⟨b, 0, none⟩), .slice a n cap, .int .i16 (-1)] w fun e w' => e = .returned (.tuple #[]) ∧ w'.heap[b]? = some (.cells (kCells .i16 (dropTo ys h n)) T (0, 0)) ∧ w.grownBy w' (some b) := by
  have HS := hid hs
  have HN := hid hn
  have HY := hid hy
  have HYB := hid hyb
  have HX := hid hnum
  have HNEA := hid hne
  have HB0 := hid hb
  have HBD := hid (fun j (hj : j ≤ n) q => dropTo_bd hy (fun i hi => hnum i (by omega)) j (by omega) q)
  have HJB := hid (fun j (e : h.getD j 0 = -10) => dropTo_brk (xs := ys) e)
  have HJO := hid (fun j (e : ¬ h.getD j 0 = -10) => show dropTo ys h (j + 1) = (dropTo ys h j).set (pIdx (h.getD j 0)) ((dropTo ys h j).getD (pIdx (h.getD j 0)) 0 + -1) from dropTo_on e)
  clear hs hn hy hyb hnum hne hb
  go_enter Try.func34, Try.ntmps34
  go_wp2_with fail
  go_loopw [6] (fun i wr => ∃ j : Nat, j ≤ n ∧ i = .int .i64 j ∧ Hid (wr.heap[b]? = some (.cells (kCells .i16 (dropTo ys h j)) T (0, 0))) ∧ Hid (w.grownBy wr (some b))) (fun i _ => n - (intOf i).toNat)
  case atStart => exact ⟨0, Nat.zero_le _, rfl, HB0, hid ⟨rfl, rfl, rfl, Nat.le_refl _, fun _ _ _ => rfl⟩⟩
  case round =>
    obtain ⟨j, hj, rfl, hb, gr⟩ := hrel
    by_cases hlt : j < n
    · obtain ⟨b0, o0, rfl, hcj⟩ := (HS.out.byN gr.out HNEA.out) j (by rw [← HN.out]; exact hlt)
      have HNE := hid (HNEA.out b0 o0 none rfl)
      have hxj := HX.out j hlt
      have HJBj := hid (HJB.out j)
      have HJ0 := hid (HJO.out j)
      clear HJB HJO
      generalize h.getD j 0 = v at *
      by_cases hbr : v = -10
      · have HE := hid (HJBj.out hbr)
        subst hbr
        clear HJBj HJ0 hxj
        go_wp2_with fail
        go_roundw
        case rel => exact ⟨j + 1, by omega, by go_num, hid (by rw [HE.out]; exact hb.out), gr⟩
        case measure => simp [intOf] <;> omega
      · have HJ := hid (HJ0.out hbr)
        have hv4 := hxj.resolve_left hbr
        have hbr' : (v == -10) = false := by simpa using hbr
        clear HJBj HJ0 hxj
        by_cases hs0 : v < 0
        · obtain ⟨q, hq, hv⟩ : ∃ q : Nat, q < 4 ∧ v = -((q : Int) + 1) := ⟨(-v - 1).toNat, by omega, by omega⟩
          have hpi : pIdx v = 40 + q := by unfold pIdx; split <;> omega
          rw [hpi] at HJ
          have hc2 := cell_ints hb.out (i := 40 + q) (by rw [dropTo_length, HY.out]; omega)
          have hf2 : wr.frozen? ⟨b, 40 + q, none⟩ = false := frozen_of_row _ _ _ _ _ hb.out
          have hbd := HBD.out j (by omega) (40 + q)
          have hbY := HYB.out (40 + q)
          have HJ2 : Hid (dropTo ys h (j + 1) = (dropTo ys h j).set (40 + q) ((dropTo ys h j).getD (40 + q) 0 + -1)) := hid HJ.out
          generalize (dropTo ys h j).getD (40 + q) 0 = y at *
          have e5 : IntKind.i16.wrap (y + -1) = y + -1 := IntWalk.i16_in _ (by omega)
          have e3 : IntKind.i8.wrap (-v) = (q : Int) + 1 := (IntWalk.i8_in _ (by omega)).trans (by omega)
          have e4 : IntKind.i8.wrap ((q : Int) + 1 - 1) = (q : Int) := (IntWalk.i8_in _ (by omega)).trans (by omega)
          have e3b : IntKind.i8.wrap ((q : Int) + 1) = (q : Int) + 1 := IntWalk.i8_in _ (by omega)
          have e4b : IntKind.i8.wrap (q : Int) = (q : Int) := IntWalk.i8_in _ (by omega)
          have hneg : v < 0 := by omega
          have hq0 : (0 : Int) ≤ (q : Int) := by omega
          have hq1 : (q : Int) < 4 := by omega
          have hc0 : wr.drew.cell? ⟨b0, o0 + j, none⟩ = some (.int .i8 v) := hcj
          have hc2' : wr.drew.cell? ⟨b, 40 + q, none⟩ = some (.int .i16 y) := hc2
          have hf2' : wr.drew.frozen? ⟨b, 40 + q, none⟩ = false := hf2
          clear hpi hbd hbY HJ hc2 hf2
          go_wp2_with fail
          refine wp_region_held_drew (S := fun V => V.cell? ⟨b0, o0 + j, none⟩ = some (.int .i8 v)) (by kernel_rfl) hc0 (fun hH => ?_)
          have HH := hid hH
          clear hH
          refine wpAnyH_take (i := 0) (v := .pointer (some ⟨b, 0, none⟩)) rfl (by kernel_rfl) (by kernel_rfl) (by kernel_rfl) (fun _ _ _ h => h) (Or.inl ⟨by rfl, fun _ _ => by first | rfl | (go_simp; done) | (go_simp; rfl) | (go_simp; intro h; exfalso; omega)⟩) HH.out ?_
          simp only [Act.put, List.getElem_toArray, List.getElem_cons_zero, List.setIfInBounds_toArray, List.set_cons_zero, List.set_cons_succ]
          refine wpAnyH_take (i := 1) (v := .slice (some ⟨b0, o0, none⟩) n cap) rfl (by kernel_rfl) (by kernel_rfl) (by kernel_rfl) (fun _ _ _ h => h) (Or.inl ⟨by rfl, fun _ _ => by first | rfl | (go_simp; done) | (go_simp; rfl) | (go_simp; intro h; exfalso; omega)⟩) HH.out ?_
          simp only [Act.put, List.getElem_toArray, List.getElem_cons_zero, List.getElem_cons_succ, List.setIfInBounds_toArray, List.set_cons_zero, List.set_cons_succ]
          refine wpAnyH_take (i := 2) (v := .int .i64 (j : Int)) rfl (by kernel_rfl) (by kernel_rfl) (by kernel_rfl) (fun _ _ _ h => h) (Or.inl ⟨by rfl, fun _ _ => by first | rfl | (go_simp; done) | (go_simp; rfl) | (go_simp; intro h; exfalso; omega)⟩) HH.out ?_
          simp only [Act.put, List.getElem_toArray, List.getElem_cons_zero, List.getElem_cons_succ, List.setIfInBounds_toArray, List.set_cons_zero, List.set_cons_succ]
          refine wpAnyH_take (i := 3) (v := .pointer (some ⟨b0, o0 + j, none⟩)) rfl (by kernel_rfl) (by kernel_rfl) (by kernel_rfl) (fun _ _ _ h => h) (Or.inl ⟨by rfl, fun _ _ => by first | rfl | (go_simp; done) | (go_simp; rfl) | (go_simp; intro h; exfalso; omega)⟩) HH.out ?_
          simp only [Act.put, List.getElem_toArray, List.getElem_cons_zero, List.getElem_cons_succ, List.setIfInBounds_toArray, List.set_cons_zero, List.set_cons_succ]
          refine wpAnyH_take (i := 4) (v := .int .i8 v) rfl (by kernel_rfl) (by kernel_rfl) (by kernel_rfl) (fun _ _ _ h => h) (Or.inl ⟨by rfl, fun V hV => by have hc := hV; first | (go_simp; done) | (go_simp; rfl)⟩) HH.out ?_
          simp only [Act.put, List.getElem_toArray, List.getElem_cons_zero, List.getElem_cons_succ, List.setIfInBounds_toArray, List.set_cons_zero, List.set_cons_succ]
          refine wpAnyH_take (i := 5) (v := .int .i8 ((q : Int) + 1)) rfl (by kernel_rfl) (by kernel_rfl) (by kernel_rfl) (fun _ _ _ h => h) (Or.inl ⟨by rfl, fun _ _ => by first | rfl | (go_simp; done) | (go_simp; rfl) | (go_simp; intro h; exfalso; omega)⟩) HH.out ?_
          simp only [Act.put, List.getElem_toArray, List.getElem_cons_zero, List.getElem_cons_succ, List.setIfInBounds_toArray, List.set_cons_zero, List.set_cons_succ]
          refine wpAnyH_take (i := 6) (v := .int .i8 (q : Int)) rfl (by kernel_rfl) (by kernel_rfl) (by kernel_rfl) (fun _ _ _ h => h) (Or.inl ⟨by rfl, fun _ _ => by first | rfl | (go_simp; done) | (go_simp; rfl) | (go_simp; intro h; exfalso; omega)⟩) HH.out ?_
          simp only [Act.put, List.getElem_toArray, List.getElem_cons_zero, List.getElem_cons_succ, List.setIfInBounds_toArray, List.set_cons_zero, List.set_cons_succ]
          refine wpAnyH_take (i := 7) (v := .pointer (some ⟨b, 0, none⟩)) rfl (by kernel_rfl) (by kernel_rfl) (by kernel_rfl) (fun _ _ _ h => h) (Or.inl ⟨by rfl, fun _ _ => by first | rfl | (go_simp; done) | (go_simp; rfl) | (go_simp; intro h; exfalso; omega)⟩) HH.out ?_
          simp only [Act.put, List.getElem_toArray, List.getElem_cons_zero, List.getElem_cons_succ, List.setIfInBounds_toArray, List.set_cons_zero, List.set_cons_succ]
          refine wpAnyH_take (i := 8) (v := .pointer (some ⟨b, 40, none⟩)) rfl (by kernel_rfl) (by kernel_rfl) (by kernel_rfl) (fun _ _ _ h => h) (Or.inl ⟨by rfl, fun _ _ => by first | rfl | (go_simp; done) | (go_simp; rfl) | (go_simp; intro h; exfalso; omega)⟩) HH.out ?_
          simp only [Act.put, List.getElem_toArray, List.getElem_cons_zero, List.getElem_cons_succ, List.setIfInBounds_toArray, List.set_cons_zero, List.set_cons_succ]
          refine wpAnyH_take (i := 9) (v := .pointer (some ⟨b, 40 + q, none⟩)) rfl (by kernel_rfl) (by kernel_rfl) (by kernel_rfl) (fun _ _ _ h => h) (Or.inl ⟨by rfl, fun _ _ => by first | rfl | (go_simp; done) | (go_simp; rfl) | (go_simp; intro h; exfalso; omega)⟩) HH.out ?_
          simp only [Act.put, List.getElem_toArray, List.getElem_cons_zero, List.getElem_cons_succ, List.setIfInBounds_toArray, List.set_cons_zero, List.set_cons_succ]
          refine wpAnyH_take (i := 13) (v := .pointer (some ⟨b, 0, none⟩)) rfl (by kernel_rfl) (by kernel_rfl) (by kernel_rfl) (fun _ _ _ h => h) (Or.inl ⟨by rfl, fun _ _ => by first | rfl | (go_simp; done) | (go_simp; rfl) | (go_simp; intro h; exfalso; omega)⟩) HH.out ?_
          simp only [Act.put, List.getElem_toArray, List.getElem_cons_zero, List.getElem_cons_succ, List.setIfInBounds_toArray, List.set_cons_zero, List.set_cons_succ]
          refine wpAnyH_take (i := 14) (v := .pointer (some ⟨b, 40, none⟩)) rfl (by kernel_rfl) (by kernel_rfl) (by kernel_rfl) (fun _ _ _ h => h) (Or.inl ⟨by rfl, fun _ _ => by first | rfl | (go_simp; done) | (go_simp; rfl) | (go_simp; intro h; exfalso; omega)⟩) HH.out ?_
          simp only [Act.put, List.getElem_toArray, List.getElem_cons_zero, List.getElem_cons_succ, List.setIfInBounds_toArray, List.set_cons_zero, List.set_cons_succ]
          refine wpAnyH_take (i := 11) (v := .int .i16 (-1)) rfl (by kernel_rfl) (by kernel_rfl) (by kernel_rfl) (fun _ _ _ h => h) (Or.inl ⟨by rfl, fun _ _ => by first | rfl | (go_simp; done) | (go_simp; rfl) | (go_simp; intro h; exfalso; omega)⟩) HH.out ?_
          simp only [Act.put, List.getElem_toArray, List.getElem_cons_zero, List.getElem_cons_succ, List.setIfInBounds_toArray, List.set_cons_zero, List.set_cons_succ]
          refine wpAnyH_ready (rs := [10]) (by kernel_rfl) (by simp) (AllReadyH.cons rfl (fun KK hKK => ?_) AllReadyH.nil)
          rw [if_pos (by rfl)]
          go_simp
          refine hKK.out _ _ HH.out (fun hH => ?_)
          clear HH hKK KK
          have HH := hid hH
          clear hH
          refine wpAnyH_take (i := 12) (v := .int .i16 (y + -1)) rfl (by kernel_rfl) (by kernel_rfl) (by kernel_rfl) (fun _ _ _ h => h) (Or.inl ⟨by rfl, fun _ _ => by first | rfl | (go_simp; done) | (go_simp; rfl) | (go_simp; intro h; exfalso; omega)⟩) HH.out ?_
          simp only [Act.put, List.getElem_toArray, List.getElem_cons_zero, List.getElem_cons_succ, List.setIfInBounds_toArray, List.set_cons_zero, List.set_cons_succ]
          refine wpAnyH_take (i := 15) (v := .pointer (some ⟨b, 40 + q, none⟩)) rfl (by kernel_rfl) (by kernel_rfl) (by kernel_rfl) (fun _ _ _ h => h) (Or.inl ⟨by rfl, fun _ _ => by first | rfl | (go_simp; done) | (go_simp; rfl) | (go_simp; intro h; exfalso; omega)⟩) HH.out ?_
          simp only [Act.put, List.getElem_toArray, List.getElem_cons_zero, List.getElem_cons_succ, List.setIfInBounds_toArray, List.set_cons_zero, List.set_cons_succ]
          refine wpAnyH_ready (rs := [16]) (by kernel_rfl) (by simp) (AllReadyH.cons rfl (fun KK hKK => ?_) AllReadyH.nil)
          rw [if_pos (by rfl)]
          go_simp
          refine hKK.out _ _ ((World.cell?_of_block (heap_setCell_other wr.drew ⟨b, 40 + q, none⟩ b0 (.int .i16 (y + -1)) HNE.out) (a := ⟨b0, o0 + j, none⟩)).trans HH.out) (fun hH => ?_)
          clear HH hKK KK hH
          refine wpAnyH_done (by kernel_rfl) ?_ _
          have HB9 := hid (heap_int_set (i := 40 + q) (x := y + -1) (show wr.drew.heap[b]? = some (.cells (kCells .i16 (dropTo ys h j)) T (0, 0)) from hb.out))
          rw [← HJ2.out] at HB9
          have HG9 := hid ((gr.out.trans (row := some b) ⟨rfl, rfl, rfl, Nat.le_refl _, fun _ _ _ => rfl⟩ : w.grownBy wr.drew (some b)).trans (grownN_cell (W := wr.drew) (g := b) (i := 40 + q) (u := .int .i16 (y + -1))))
          go_wp2_with fail
          go_roundw
          case rel => exact ⟨j + 1, by omega, by go_num, HB9, HG9⟩
          case measure => simp [intOf] <;> omega
        · obtain ⟨q, hq, hv⟩ : ∃ q : Nat, q < 40 ∧ v = (q : Int) := ⟨v.toNat, by omega, by omega⟩
          have hpi : pIdx v = q := by unfold pIdx; split <;> omega
          rw [hpi] at HJ
          have hc2 := cell_ints hb.out (i := q) (by rw [dropTo_length, HY.out]; omega)
          have hf2 : wr.frozen? ⟨b, q, none⟩ = false := frozen_of_row _ _ _ _ _ hb.out
          have hbd := HBD.out j (by omega) (q)
          have hbY := HYB.out (q)
          have HJ2 : Hid (dropTo ys h (j + 1) = (dropTo ys h j).set (q) ((dropTo ys h j).getD (q) 0 + -1)) := hid HJ.out
          generalize (dropTo ys h j).getD (q) 0 = y at *
          have e5 : IntKind.i16.wrap (y + -1) = y + -1 := IntWalk.i16_in _ (by omega)
          have hneg : ¬ v < 0 := by omega
          have hq0 : (0 : Int) ≤ (q : Int) := by omega
          have hq1 : (q : Int) < 40 := by omega
          have hc0 : wr.drew.cell? ⟨b0, o0 + j, none⟩ = some (.int .i8 v) := hcj
          have hc2' : wr.drew.cell? ⟨b, q, none⟩ = some (.int .i16 y) := hc2
          have hf2' : wr.drew.frozen? ⟨b, q, none⟩ = false := hf2
          clear hpi hbd hbY HJ hc2 hf2
          go_wp2_with fail
          refine wp_region_held_drew (S := fun V => V.cell? ⟨b0, o0 + j, none⟩ = some (.int .i8 v)) (by kernel_rfl) hc0 (fun hH => ?_)
          have HH := hid hH
          clear hH
          refine wpAnyH_take (i := 0) (v := .pointer (some ⟨b, 0, none⟩)) rfl (by kernel_rfl) (by kernel_rfl) (by kernel_rfl) (fun _ _ _ h => h) (Or.inl ⟨by rfl, fun _ _ => by first | rfl | (go_simp; done) | (go_simp; rfl) | (go_simp; intro h; exfalso; omega)⟩) HH.out ?_
          simp only [Act.put, List.getElem_toArray, List.getElem_cons_zero, List.setIfInBounds_toArray, List.set_cons_zero, List.set_cons_succ]
          refine wpAnyH_take (i := 1) (v := .slice (some ⟨b0, o0, none⟩) n cap) rfl (by kernel_rfl) (by kernel_rfl) (by kernel_rfl) (fun _ _ _ h => h) (Or.inl ⟨by rfl, fun _ _ => by first | rfl | (go_simp; done) | (go_simp; rfl) | (go_simp; intro h; exfalso; omega)⟩) HH.out ?_
          simp only [Act.put, List.getElem_toArray, List.getElem_cons_zero, List.getElem_cons_succ, List.setIfInBounds_toArray, List.set_cons_zero, List.set_cons_succ]
          refine wpAnyH_take (i := 2) (v := .int .i64 (j : Int)) rfl (by kernel_rfl) (by kernel_rfl) (by kernel_rfl) (fun _ _ _ h => h) (Or.inl ⟨by rfl, fun _ _ => by first | rfl | (go_simp; done) | (go_simp; rfl) | (go_simp; intro h; exfalso; omega)⟩) HH.out ?_
          simp only [Act.put, List.getElem_toArray, List.getElem_cons_zero, List.getElem_cons_succ, List.setIfInBounds_toArray, List.set_cons_zero, List.set_cons_succ]
          refine wpAnyH_take (i := 3) (v := .pointer (some ⟨b0, o0 + j, none⟩)) rfl (by kernel_rfl) (by kernel_rfl) (by kernel_rfl) (fun _ _ _ h => h) (Or.inl ⟨by rfl, fun _ _ => by first | rfl | (go_simp; done) | (go_simp; rfl) | (go_simp; intro h; exfalso; omega)⟩) HH.out ?_
          simp only [Act.put, List.getElem_toArray, List.getElem_cons_zero, List.getElem_cons_succ, List.setIfInBounds_toArray, List.set_cons_zero, List.set_cons_succ]
          refine wpAnyH_take (i := 4) (v := .int .i8 v) rfl (by kernel_rfl) (by kernel_rfl) (by kernel_rfl) (fun _ _ _ h => h) (Or.inl ⟨by rfl, fun V hV => by have hc := hV; first | (go_simp; done) | (go_simp; rfl)⟩) HH.out ?_
          simp only [Act.put, List.getElem_toArray, List.getElem_cons_zero, List.getElem_cons_succ, List.setIfInBounds_toArray, List.set_cons_zero, List.set_cons_succ]
          refine wpAnyH_take (i := 5) (v := .pointer (some ⟨b, 0, none⟩)) rfl (by kernel_rfl) (by kernel_rfl) (by kernel_rfl) (fun _ _ _ h => h) (Or.inl ⟨by rfl, fun _ _ => by first | rfl | (go_simp; done) | (go_simp; rfl) | (go_simp; intro h; exfalso; omega)⟩) HH.out ?_
          simp only [Act.put, List.getElem_toArray, List.getElem_cons_zero, List.getElem_cons_succ, List.setIfInBounds_toArray, List.set_cons_zero, List.set_cons_succ]
          refine wpAnyH_take (i := 6) (v := .pointer (some ⟨b, 0, none⟩)) rfl (by kernel_rfl) (by kernel_rfl) (by kernel_rfl) (fun _ _ _ h => h) (Or.inl ⟨by rfl, fun _ _ => by first | rfl | (go_simp; done) | (go_simp; rfl) | (go_simp; intro h; exfalso; omega)⟩) HH.out ?_
          simp only [Act.put, List.getElem_toArray, List.getElem_cons_zero, List.getElem_cons_succ, List.setIfInBounds_toArray, List.set_cons_zero, List.set_cons_succ]
          refine wpAnyH_take (i := 7) (v := .pointer (some ⟨b, q, none⟩)) rfl (by kernel_rfl) (by kernel_rfl) (by kernel_rfl) (fun _ _ _ h => h) (Or.inl ⟨by rfl, fun _ _ => by first | rfl | (go_simp; done) | (go_simp; rfl) | (go_simp; intro h; exfalso; omega)⟩) HH.out ?_
          simp only [Act.put, List.getElem_toArray, List.getElem_cons_zero, List.getElem_cons_succ, List.setIfInBounds_toArray, List.set_cons_zero, List.set_cons_succ]
          refine wpAnyH_take (i := 11) (v := .pointer (some ⟨b, 0, none⟩)) rfl (by kernel_rfl) (by kernel_rfl) (by kernel_rfl) (fun _ _ _ h => h) (Or.inl ⟨by rfl, fun _ _ => by first | rfl | (go_simp; done) | (go_simp; rfl) | (go_simp; intro h; exfalso; omega)⟩) HH.out ?_
          simp only [Act.put, List.getElem_toArray, List.getElem_cons_zero, List.getElem_cons_succ, List.setIfInBounds_toArray, List.set_cons_zero, List.set_cons_succ]
          refine wpAnyH_take (i := 12) (v := .pointer (some ⟨b, 0, none⟩)) rfl (by kernel_rfl) (by kernel_rfl) (by kernel_rfl) (fun _ _ _ h => h) (Or.inl ⟨by rfl, fun _ _ => by first | rfl | (go_simp; done) | (go_simp; rfl) | (go_simp; intro h; exfalso; omega)⟩) HH.out ?_
          simp only [Act.put, List.getElem_toArray, List.getElem_cons_zero, List.getElem_cons_succ, List.setIfInBounds_toArray, List.set_cons_zero, List.set_cons_succ]
          refine wpAnyH_take (i := 9) (v := .int .i16 (-1)) rfl (by kernel_rfl) (by kernel_rfl) (by kernel_rfl) (fun _ _ _ h => h) (Or.inl ⟨by rfl, fun _ _ => by first | rfl | (go_simp; done) | (go_simp; rfl) | (go_simp; intro h; exfalso; omega)⟩) HH.out ?_
          simp only [Act.put, List.getElem_toArray, List.getElem_cons_zero, List.getElem_cons_succ, List.setIfInBounds_toArray, List.set_cons_zero, List.set_cons_succ]
          refine wpAnyH_ready (rs := [8]) (by kernel_rfl) (by simp) (AllReadyH.cons rfl (fun KK hKK => ?_) AllReadyH.nil)
          rw [if_pos (by rfl)]
          go_simp
          refine hKK.out _ _ HH.out (fun hH => ?_)
          clear HH hKK KK
          have HH := hid hH
          clear hH
          refine wpAnyH_take (i := 10) (v := .int .i16 (y + -1)) rfl (by kernel_rfl) (by kernel_rfl) (by kernel_rfl) (fun _ _ _ h => h) (Or.inl ⟨by rfl, fun _ _ => by first | rfl | (go_simp; done) | (go_simp; rfl) | (go_simp; intro h; exfalso; omega)⟩) HH.out ?_
          simp only [Act.put, List.getElem_toArray, List.getElem_cons_zero, List.getElem_cons_succ, List.setIfInBounds_toArray, List.set_cons_zero, List.set_cons_succ]
          refine wpAnyH_take (i := 13) (v := .pointer (some ⟨b, q, none⟩)) rfl (by kernel_rfl) (by kernel_rfl) (by kernel_rfl) (fun _ _ _ h => h) (Or.inl ⟨by rfl, fun _ _ => by first | rfl | (go_simp; done) | (go_simp; rfl) | (go_simp; intro h; exfalso; omega)⟩) HH.out ?_
          simp only [Act.put, List.getElem_toArray, List.getElem_cons_zero, List.getElem_cons_succ, List.setIfInBounds_toArray, List.set_cons_zero, List.set_cons_succ]
          refine wpAnyH_ready (rs := [14]) (by kernel_rfl) (by simp) (AllReadyH.cons rfl (fun KK hKK => ?_) AllReadyH.nil)
          rw [if_pos (by rfl)]
          go_simp
          refine hKK.out _ _ ((World.cell?_of_block (heap_setCell_other wr.drew ⟨b, q, none⟩ b0 (.int .i16 (y + -1)) HNE.out) (a := ⟨b0, o0 + j, none⟩)).trans HH.out) (fun hH => ?_)
          clear HH hKK KK hH
          refine wpAnyH_done (by kernel_rfl) ?_ _
          have HB9 := hid (heap_int_set (i := q) (x := y + -1) (show wr.drew.heap[b]? = some (.cells (kCells .i16 (dropTo ys h j)) T (0, 0)) from hb.out))
          rw [← HJ2.out] at HB9
          have HG9 := hid ((gr.out.trans (row := some b) ⟨rfl, rfl, rfl, Nat.le_refl _, fun _ _ _ => rfl⟩ : w.grownBy wr.drew (some b)).trans (grownN_cell (W := wr.drew) (g := b) (i := q) (u := .int .i16 (y + -1))))
          go_wp2_with fail
          go_roundw
          case rel => exact ⟨j + 1, by omega, by go_num, HB9, HG9⟩
          case measure => simp [intOf] <;> omega
    · have hjn : j = n := by omega
      have HK := hid hjn
      clear hjn
      go_wp2_with fail
      have hb2 := hb.out
      rw [HK.out] at hb2
      refine bodyPost_end (results_none (by rfl) _ _ _) rfl ?_
      exact ⟨rfl, hb2, gr.out⟩
end Go.Proofs.Ytdighhkgopopeaa

/- Lists of meanings: sizes, copies, comparisons, marks. -/
namespace Go.Proofs.Ytdighhkgopopeaa
set_option linter.unusedVariables false
open Go.RowKit
def SzH (left n : Nat) (xss : List (List Int)) (w : World) (e : Ending) (w' : World) : Prop :=
  ∃ r : Int, e = .returned (.int .i64 r) ∧ (r = -1 ∨ (0 ≤ r ∧ r ≤ left ∧ n ≤ left ∧ ∀ i, i < n → (xss.getD i []).length ≤ left)) ∧ w = w'
set_option maxRecDepth 100000 in
theorem szMeaning_mn (a : Option Addr) (cap n left : Nat) (hm : n ≤ 9223372036854775807) (hle : left ≤ 1048576) (w : World) :
    Calls Try.prog 32 #[.slice a n cap, .int .i64 left] w fun e w' => (∃ r : Int, e = .returned (.int .i64 r) ∧ (r = -1 ∨ (0 ≤ r ∧ r ≤ left ∧ n ≤ left))) ∧ w = w' := by
  have e1 : IntKind.i64.wrap ((left : Int) - (n : Int)) = (left : Int) - (n : Int) := IntWalk.i64_in _ (by omega)
  by_cases hlt : left < n
  · have t1 : (left : Int) - (n : Int) < 0 := by omega
    go_enter Try.func32, Try.ntmps32
    go_wp2_with fail
    go_ret
    exact ⟨⟨-1, rfl, .inl rfl⟩, rfl⟩
  · have t1 : ¬ (left : Int) - (n : Int) < 0 := by omega
    go_enter Try.func32, Try.ntmps32
    go_wp2_with fail
    go_ret
    exact ⟨⟨_, rfl, .inr ⟨by omega, by omega, by omega⟩⟩, rfl⟩
set_option maxRecDepth 100000 in
theorem szMeaningS_mn (a : Option Addr) (cap n left : Nat) (xss : List (List Int)) (hl : n = xss.length) (hm : n ≤ 9223372036854775807) (hle : left ≤ 1048576) (hsz : ∀ i, (xss.getD i []).length ≤ 9223372036854775807) (w : World) (hs : SlicesOf .i8 w a xss) :
    Calls Try.prog 14 #[.slice a n cap, .int .i64 left] w (SzH left n xss w) := by
  have HS := hid hs
  have HL := hid hl
  have HZ := hid hsz
  clear hs hl hsz
  by_cases hlt : left < n
  · have e1 : IntKind.i64.wrap ((left : Int) - (n : Int)) = (left : Int) - (n : Int) := IntWalk.i64_in _ (by omega)
    have t1 : (left : Int) - (n : Int) < 0 := by omega
    go_enter Try.func14, Try.ntmps14
    go_wp2_with fail
    go_ret
    exact ⟨-1, rfl, .inl rfl, rfl⟩
  · obtain ⟨r0, hr0⟩ : ∃ r0 : Nat, (left : Int) - (n : Int) = (r0 : Int) := ⟨left - n, by omega⟩
    have hr1 : r0 ≤ left := by omega
    have hnl : n ≤ left := by omega
    have e1 : IntKind.i64.wrap ((left : Int) - (n : Int)) = (r0 : Int) := by rw [IntWalk.i64_in _ (by omega)]; exact hr0
    clear hr0
    go_enter Try.func14, Try.ntmps14
    go_wp2_with fail
    go_loop [1, 5] (fun l i => ∃ (k r : Nat), k ≤ n ∧ r ≤ left ∧ i = .int .i64 k ∧ l = .int .i64 r ∧ Hid (∀ i, i < k → (xss.getD i []).length ≤ left)) (fun _ i => n - (intOf i).toNat)
    case atStart => exact ⟨0, r0, Nat.zero_le _, hr1, rfl, rfl, hid (fun i hi => absurd hi (Nat.not_lt_zero i))⟩
    case round =>
      obtain ⟨k, r, hk, hr, rfl, rfl, HB⟩ := hrel
      by_cases hkn : k < n
      · obtain ⟨b0, o0, a', c', rfl, h0, -⟩ := HS.out k (by rw [← HL.out]; exact hkn)
        have hz := HZ.out k
        have HST := hid (fun (h : (xss.getD k []).length ≤ left) i (hi : i < k + 1) => show (xss.getD i []).length ≤ left by
          by_cases e : i = k
          · rw [e]; exact h
          · exact HB.out i (by omega))
        generalize (xss.getD k []).length = v at *
        have HC := hid (szMeaning_mn a' c' v r hz (by omega) w)
        go_wp2_with fail
        refine HC.out.mono ?_
        rintro e w' ⟨⟨q, rfl, hq⟩, rfl⟩
        rcases hq with rfl | ⟨q0, q1, q2⟩
        · go_wp2_with fail
          go_ret
          exact ⟨-1, rfl, .inl rfl, rfl⟩
        · obtain ⟨r', rfl⟩ : ∃ r' : Nat, q = (r' : Int) := ⟨q.toNat, by omega⟩
          have hn0 : ¬ (r' : Int) < 0 := by omega
          go_wp2_with fail
          go_round
          case rel => exact ⟨k + 1, r', by omega, by omega, by go_num, rfl, hid (HST.out (by omega))⟩
          case measure => simp [intOf]; omega
      · go_wp2_with fail
        go_ret
        exact ⟨r, rfl, .inr ⟨by omega, by omega, hnl, fun i hi => HB.out i (by omega)⟩, rfl⟩
/-- The rows of a list of meanings that has been made: each in a block of its own between g and hi. -/
def RowB (g hi : Nat) (w : World) (vs : List Value) (xss : List (List Int)) (k : Nat) : Prop :=
  ∀ i, i < k → ∃ b, vs[i]? = some (.slice (some ⟨b, 0, none⟩) (xss.getD i []).length (xss.getD i []).length) ∧ w.heap[b]? = some (.cells (kCells .i8 (xss.getD i [])) 59 (0, 0)) ∧ g < b ∧ b < hi
theorem RowB.gr {g hi : Nat} {W w : World} {vs : List Value} {xss : List (List Int)} {k : Nat} (h : RowB g hi W vs xss k) (hg : Gr W w) : RowB g hi w vs xss k := fun i hi' => by
  obtain ⟨b, e, hb, h1, h2⟩ := h i hi'
  exact ⟨b, e, hg.heap hb, h1, h2⟩
theorem RowB.widen {g hi hi2 : Nat} {w : World} {vs : List Value} {xss : List (List Int)} {k : Nat} (h : RowB g hi w vs xss k) (hh : hi ≤ hi2) : RowB g hi2 w vs xss k := fun i hi' => by
  obtain ⟨b, e, hb, h1, h2⟩ := h i hi'
  exact ⟨b, e, hb, h1, Nat.lt_of_lt_of_le h2 hh⟩
theorem RowB.step {g hi : Nat} {w : World} {vs : List Value} {xss : List (List Int)} {k b : Nat} (h : RowB g hi w vs xss k) (hk : k < vs.length) (hb : w.heap[b]? = some (.cells (kCells .i8 (xss.getD k [])) 59 (0, 0))) (h1 : g < b) (h2 : b < hi) :
    RowB g hi (w.setCell ⟨g, k, none⟩ (.slice (some ⟨b, 0, none⟩) (xss.getD k []).length (xss.getD k []).length)) (vs.set k (.slice (some ⟨b, 0, none⟩) (xss.getD k []).length (xss.getD k []).length)) xss (k + 1) := fun i hi' => by
  have keep : ∀ (b' : Nat) (o : Obj), g < b' → w.heap[b']? = some o → (w.setCell ⟨g, k, none⟩ (.slice (some ⟨b, 0, none⟩) (xss.getD k []).length (xss.getD k []).length)).heap[b']? = some o := fun b' o hgb ho => by
    rw [heap_setCell_other w ⟨g, k, none⟩ b' _ (by dsimp only; omega)]; exact ho
  by_cases e : i = k
  · subst e
    exact ⟨b, by simp [hk], keep b _ h1 hb, h1, h2⟩
  · obtain ⟨b', e', hb', h1', h2'⟩ := h i (by omega)
    exact ⟨b', by rw [List.getElem?_set_ne (fun x => e x.symm)]; exact e', keep b' _ h1' hb', h1', h2'⟩
/-- A list of meanings that has been made. -/
def MnAt (w : World) (g hi : Nat) (xss : List (List Int)) : Prop :=
  ∃ vs : List Value, vs.length = xss.length ∧ w.heap[g]? = some (.cells vs.toArray 33 (0, 0)) ∧ RowB g hi w vs xss xss.length
theorem MnAt.gr {g hi : Nat} {W w : World} {xss : List (List Int)} (h : MnAt W g hi xss) (hg : Gr W w) : MnAt w g hi xss := by
  obtain ⟨vs, h1, h2, h3⟩ := h
  exact ⟨vs, h1, hg.heap h2, h3.gr hg⟩
theorem MnAt.reads {g hi : Nat} {w : World} {xss : List (List Int)} (h : MnAt w g hi xss) : SlicesX w (some ⟨g, 0, none⟩) xss := by
  obtain ⟨vs, h1, h2, h3⟩ := h
  intro i hi'
  obtain ⟨b, e, hb, _, _⟩ := h3 i hi'
  refine ⟨g, 0, some ⟨b, 0, none⟩, rfl, ?_, sliceOf_block hb⟩
  rw [Nat.zero_add, cell_of_row w g i _ _ _ h2]
  simpa using e
/-- Nothing has been touched but what lies between two blocks. -/
structure Bet (lo hi : Nat) (w w' : World) : Prop where
  os : w'.os = w.os
  tape : w'.tape = w.tape
  output : w'.output = w.output
  size : w.heap.size ≤ w'.heap.size
  block : ∀ k, k < w.heap.size → (k < lo ∨ hi ≤ k) → w'.heap[k]? = w.heap[k]?
theorem Bet.refl (lo hi : Nat) (w : World) : Bet lo hi w w := ⟨rfl, rfl, rfl, Nat.le_refl _, fun _ _ _ => rfl⟩
theorem Bet.by_ {lo hi b : Nat} {w w1 w2 : World} (h : Bet lo hi w w1) (g : w1.grownBy w2 (some b)) (h1 : lo ≤ b) (h2 : b < hi) : Bet lo hi w w2 :=
  ⟨g.os.trans h.os, g.tape.trans h.tape, g.output.trans h.output, Nat.le_trans h.size g.size, fun k hk hd => (g.block k (Nat.lt_of_lt_of_le hk h.size) (fun e => by have := Option.some.inj e; omega)).trans (h.block k hk hd)⟩
theorem Bet.heap {lo hi k : Nat} {w w' : World} {o : Obj} (h : Bet lo hi w w') (ho : w.heap[k]? = some o) (hd : k < lo ∨ hi ≤ k) : w'.heap[k]? = some o := (h.block k (lt_of_heap ho) hd).trans ho
theorem Bet.gr {lo hi : Nat} {w0 w w' : World} (h : Bet lo hi w w') (g : Gr w0 w) (hl : w0.heap.size ≤ lo) : Gr w0 w' :=
  ⟨h.os.trans g.1, h.tape.trans g.2, h.output.trans g.3, Nat.le_trans g.4 h.size, fun k hk => (h.block k (Nat.lt_of_lt_of_le hk g.4) (.inl (Nat.lt_of_lt_of_le hk hl))).trans (g.5 k hk)⟩
theorem Own.bet {k : IntKind} {e : TypeId} {lo hi a b : Nat} {w w' : World} {v : Value} {xs : List Int} (h : Own k e w lo hi v xs) (g : Bet a b w w') (hd : hi ≤ a ∨ b ≤ lo) : Own k e w' lo hi v xs := by
  refine ⟨⟨h.row.1, ?_⟩, h.top⟩
  rcases h.row.2 with h1 | ⟨g', cap, cur, h1, h2, h3, r⟩
  · exact .inl h1
  · exact .inr ⟨g', cap, cur, h1, h2, g.heap h3 (by have := h.top g' (by rw [h1]; rfl); omega), r⟩
set_option maxRecDepth 100000 in
set_option maxHeartbeats 1000000 in
theorem toMeaningS_at (a0 : Option Addr) (cap n : Nat) (xss : List (List Int)) (hl : n = xss.length) (hn : n ≤ 1048576) (hz : ∀ i, i < n → (xss.getD i []).length ≤ 1048576) (w : World) (hs : SlicesOf .i8 w a0 xss) :
    Calls Try.prog 16 #[.slice a0 n cap] w fun e w' => e = .returned (.slice (some ⟨w.heap.size, 0, none⟩) n n) ∧ MnAt w' w.heap.size w'.heap.size xss ∧ Gr w w' := by
  have hmk := run_make_nilsH (P := Try.prog) (t := 45) (e := 33) (bytes := 24) Try.underlying45 (by kernel_rfl) n (by omega) (by omega)
  have HS := hid hs
  have HL := hid hl
  have HZ := hid hz
  clear hs hl hz
  go_enter Try.func16, Try.ntmps16
  go_wp2_with fail
  clear hmk
  go_loopw [4] (fun i wr => ∃ k : Nat, k ≤ n ∧ i = .int .i64 k ∧ Hid (Gr w wr) ∧ Hid (∃ vs : List Value, vs.length = n ∧ wr.heap[w.heap.size]? = some (.cells vs.toArray 33 (0, 0)) ∧ RowB w.heap.size wr.heap.size wr vs xss k)) (fun i _ => n - (intOf i).toNat)
  case atStart => exact ⟨0, Nat.zero_le _, rfl, hid ((Gr.refl _).alloc _), hid ⟨List.replicate n (Value.slice none 0 0), by simp, heap_new rfl, fun i hi => absurd hi (Nat.not_lt_zero i)⟩⟩
  case round =>
    obtain ⟨k, hk, rfl, hg, ⟨vs, hvl, hb, hrow⟩⟩ := hrel
    by_cases hlt : k < n
    · obtain ⟨b, off, a', cap', rfl, hc, hsl⟩ := HS.out.gr hg.out k (by rw [← HL.out]; exact hlt)
      have HTO := hid (toMeaning_own a' cap' (xss.getD k []) (HZ.out k hlt) wr hsl)
      have HB := hid hb
      have HV := hid hvl
      have HR := hid hrow
      have hgs := hid hg.out.size
      have HLT := hid (lt_of_heap hb)
      clear hsl hb hvl hrow
      obtain ⟨m, hm⟩ : ∃ m, m = (xss.getD k []).length := ⟨_, rfl⟩
      rw [← hm] at hc HTO
      have HM := hid hm
      clear hm
      have hk0 : (0 : Int) ≤ k := by omega
      have hk1 : (k : Int) < n := by omega
      go_wp2_with fail
      refine HTO.out.mono ?_
      rintro e W2 ⟨rfl, h2, g2⟩
      have B2 := hid (g2.heap HB.out)
      have SN := hid h2
      have R2 := hid ((HR.out.gr g2).widen g2.size)
      have G2 := hid (hg.out.trans g2)
      clear h2 g2
      have hfz : W2.frozen? ⟨w.heap.size, k, none⟩ = false := frozen_of_row _ _ _ _ _ B2.out
      obtain ⟨v0, hv0⟩ : ∃ v0, W2.cell? ⟨w.heap.size, k, none⟩ = some v0 := by
        rw [cell_of_row _ _ _ _ _ _ B2.out]
        exact ⟨_, by simp [HV.out, hlt]; rfl⟩
      go_wp2_with fail
      have ST := hid (R2.out.step (g := w.heap.size) (by rw [HV.out]; exact hlt) SN.out (by have := HLT.out; omega) (lt_of_heap SN.out))
      rw [← HM.out] at ST
      have SZ := hid (show (W2.setCell ⟨w.heap.size, k, none⟩ (.slice (some ⟨wr.heap.size, 0, none⟩) m m)).heap.size = W2.heap.size from World.size_setCell _ _ _)
      go_roundw
      case rel => exact ⟨k + 1, by omega, by go_num, hid (G2.out.setCell (by dsimp only; omega) _), hid ⟨_, by rw [List.length_set]; exact HV.out, heap_val_setH B2.out, by rw [SZ.out]; exact ST.out⟩⟩
      case measure => simp [intOf]; omega
    · have HK := hid (show k = n by omega)
      have SR := hid (show MnAt wr w.heap.size wr.heap.size xss from ⟨vs, by rw [hvl]; exact HL.out, hb, by rw [← HL.out, ← HK.out]; exact hrow⟩)
      clear hvl hb hrow
      go_wp2_with fail
      go_ret
      exact ⟨rfl, SR.out, hg.out⟩
set_option maxRecDepth 100000 in
set_option maxHeartbeats 1000000 in
theorem eqMeaningS_mn (a b : Option Addr) (ca cb n : Nat) (xss : List (List Int)) (hl : n = xss.length) (hn : n ≤ 1048576) (hm : ∀ i, i < n → (xss.getD i []).length ≤ 1048576) (w : World) (ha : SlicesOf .i8 w a xss) (hb : SlicesOf .i8 w b xss) :
    Calls Try.prog 19 #[.slice a n ca, .slice b n cb] w fun e w' => e = .returned (.bool true) ∧ Gr w w' := by
  have HA := hid ha
  have HB := hid hb
  have HM := hid hm
  have HN := hid hl
  clear ha hb hm hl
  go_enter Try.func19, Try.ntmps19
  go_wp2_with fail
  go_loopw [5] (fun i wr => ∃ k : Nat, k ≤ n ∧ i = .int .i64 k ∧ Hid (Gr w wr)) (fun i _ => n - (intOf i).toNat)
  case atStart => exact ⟨0, Nat.zero_le _, rfl, hid (Gr.refl _)⟩
  case round =>
    obtain ⟨k, hk, rfl, hg⟩ := hrel
    by_cases hlt : k < n
    · obtain ⟨b0, o0, p0, c0, rfl, h0, s0⟩ := (HA.out.gr hg.out) k (by rw [← HN.out]; exact hlt)
      obtain ⟨b1, o1, p1, c1, rfl, h1, s1⟩ := (HB.out.gr hg.out) k (by rw [← HN.out]; exact hlt)
      have HQ := hid (HM.out k hlt)
      have S0 := hid s0
      have S1 := hid s1
      clear s0 s1
      generalize xss.getD k [] = xs at *
      have HCE := hid (fun (V : World) (g : Gr wr V) => eqMeaning_own p0 p1 c0 c1 xs HQ.out V (S0.out.gr g) (S1.out.gr g))
      generalize hl : xs.length = m at *
      clear hl
      have hb0 : (0 : Int) ≤ k := by omega
      have hb1 : (k : Int) < n := by omega
      go_wp2_with fail
      go_region_with (refine (HCE.out _ (by first | exact Gr.refl _ | exact (Gr.refl _).drew | exact (Gr.refl _).drewN _ | exact ((Gr.refl _).drew).drew)).mono ?_; rintro e V ⟨rfl, gV⟩; have GV : Gr w V := Gr.trans hg.out (by first | exact gV | exact Gr.trans ((Gr.refl _).drew) gV | exact Gr.trans ((Gr.refl _).drewN _) gV))
      all_goals
        go_wp2_with fail
        go_roundw
        case rel => exact ⟨k + 1, by omega, by go_num, hid (by first | assumption | exact Gr.drew (by assumption) | exact Gr.drewN (by assumption) _)⟩
        case measure => simp [intOf]; omega
    · go_wp2_with fail
      go_ret
      exact ⟨rfl, hg.out⟩
set_option maxRecDepth 100000 in
theorem markMeaning_far (a : Option Addr) (n cap lo hi k0 : Nat) (xs : List Int) (hn : xs.length ≤ 1048576) (hk0 : k0 ≤ 2305843009213693952) (w : World) (ho : Own .i8 59 w lo hi (.slice a n cap) xs) :
    Calls Try.prog 11 #[.slice a n cap, .int .i64 k0] w fun e w' => e = .returned (.int .i64 (k0 + n : Nat)) ∧ Own .i8 59 w' lo hi (.slice a n cap) (markL .i8 k0 n) ∧ w.grownBy w' (Value.slice a n cap).ownBlock := by
  have hl := ho.len
  rw [← hl] at hn
  have HO := hid ho
  have HL := hid hl
  clear ho hl
  go_enter Try.func11, Try.ntmps11
  go_wp2_with fail
  go_loopw [1, 5] (fun q i wr => ∃ k : Nat, k ≤ n ∧ i = .int .i64 k ∧ q = .int .i64 (k0 + k : Nat) ∧ Hid (Own .i8 59 wr lo hi (.slice a n cap) (markTo .i8 k0 xs k)) ∧ Hid (w.grownBy wr (Value.slice a n cap).ownBlock)) (fun _ i _ => n - (intOf i).toNat)
  case atStart => exact ⟨0, Nat.zero_le _, rfl, rfl, hid (by rw [markTo_zero]; exact HO.out), hid ⟨rfl, rfl, rfl, Nat.le_refl _, fun _ _ _ => rfl⟩⟩
  case round =>
    obtain ⟨k, hk, rfl, rfl, hw, hg⟩ := hrel
    by_cases hlt : k < n
    · have hlx : k < xs.length := by rw [← HL.out]; exact hlt
      have hlm : k < (markTo .i8 k0 xs k).length := by rw [markTo_length (by omega)]; exact hlx
      obtain ⟨g, rfl, hgb, hc, hf⟩ := hw.out.at_ hlm
      have hp := hw.out.put k (IntKind.wrap .i8 ((k0 + k : Nat) : Int))
      rw [markTo_set hlx] at hp
      have HP := hid hp
      clear hp hlx hlm hgb
      generalize (markTo .i8 k0 xs k).getD k 0 = y at *
      generalize hv : IntKind.wrap .i8 ((k0 + k : Nat) : Int) = v at *
      have hv' := hv
      push_cast at hv hv'
      go_wp2_with fail
      go_roundw
      case rel => exact ⟨k + 1, by omega, by go_num, by go_num, hid HP.out.1, hid (hg.out.trans HP.out.2)⟩
      case measure => simp [intOf]; omega
    · have hkn : k = n := by omega
      have H0 : Hid (Own .i8 59 wr lo hi (.slice a n cap) (markL .i8 k0 n)) := by
        rw [hkn, HL.out, markTo_all, ← HL.out] at hw; exact hw
      have HK := hid hkn
      clear hw hkn
      go_wp2_with fail
      go_ret
      exact ⟨ret_int (by rw [HK.out]), H0.out, hg.out⟩
set_option maxRecDepth 100000 in
set_option maxHeartbeats 1000000 in
/-- The mark of a list of meanings: nothing but its rows is touched. -/
theorem markMeaningS_bet (g hi n : Nat) (xss : List (List Int)) (hl : n = xss.length) (hn : n ≤ 1048576) (hz : ∀ i, i < n → (xss.getD i []).length ≤ 1048576) (w : World) (ho : MnAt w g hi xss) :
    Calls Try.prog 20 #[.slice (some ⟨g, 0, none⟩) n n, .int .i64 1] w fun e w' => (∃ r : Nat, e = .returned (.int .i64 r)) ∧ Bet g hi w w' := by
  obtain ⟨vs, hvl, hg, hrow⟩ := ho
  have HN := hid hl
  have HG := hid hg
  have HZ := hid hz
  have HROW := hid hrow
  have HVL := hid hvl
  clear hl hg hz hrow hvl
  go_enter Try.func20, Try.ntmps20
  go_wp2_with fail
  go_loopw [1, 5] (fun q i wr => ∃ (k r : Nat), k ≤ n ∧ i = .int .i64 k ∧ q = .int .i64 r ∧ r ≤ 1 + k * 1048576 ∧ Hid (Bet g hi w wr) ∧ Hid (∀ j, j < n → ∃ b ys, vs[j]? = some (.slice (some ⟨b, 0, none⟩) (xss.getD j []).length (xss.getD j []).length) ∧ wr.heap[b]? = some (.cells (kCells .i8 ys) 59 (0, 0)) ∧ ys.length = (xss.getD j []).length ∧ g < b ∧ b < hi) ∧ Hid (wr.heap[g]? = some (.cells vs.toArray 33 (0, 0)))) (fun _ i _ => n - (intOf i).toNat)
  case atStart => exact ⟨0, 1, Nat.zero_le _, rfl, rfl, by omega, hid (Bet.refl _ _ _), hid (fun j hj => by obtain ⟨b, e, hb, h1, h2⟩ := HROW.out j (by rw [← HN.out]; exact hj); exact ⟨b, _, e, hb, rfl, h1, h2⟩), HG⟩
  case round =>
    obtain ⟨k, r, hk, rfl, rfl, hr, hbt, hrw, hgw⟩ := hrel
    by_cases hlt : k < n
    · obtain ⟨b, ys, e, hb, hyl, hgb, hbh⟩ := hrw.out k hlt
      have hc : wr.cell? ⟨g, k, none⟩ = some (.slice (some ⟨b, 0, none⟩) (xss.getD k []).length (xss.getD k []).length) := by
        rw [cell_of_row _ _ _ _ _ _ hgw.out]; simpa using e
      have hz := HZ.out k hlt
      have HYL := hid hyl
      have HB := hid hb
      have HGB := hid hgb
      have HBH := hid hbh
      generalize (xss.getD k []).length = m at *
      have OY := hid (Own.ofBlock hb (by unfold maxLen; omega))
      rw [HYL.out] at OY
      have HMK := hid (markMeaning_far (some ⟨b, 0, none⟩) m m b (b + 1) r ys (by omega) (by have : k * 1048576 ≤ 1048576 * 1048576 := Nat.mul_le_mul_right _ (by omega); omega) wr OY.out)
      clear e hyl hb hgb hbh OY
      go_wp2_with fail
      refine HMK.out.mono ?_
      rintro e w1 ⟨rfl, o1, g1⟩
      have G1 := hid (show wr.grownBy w1 (some b) from g1)
      have O1 := hid o1
      clear g1 o1
      have HR2 := hid (show ∀ j, j < n → ∃ b ys, vs[j]? = some (.slice (some ⟨b, 0, none⟩) (xss.getD j []).length (xss.getD j []).length) ∧ w1.heap[b]? = some (.cells (kCells .i8 ys) 59 (0, 0)) ∧ ys.length = (xss.getD j []).length ∧ g < b ∧ b < hi from fun j hj => by
        obtain ⟨b2, ys2, e2, hb2, hl2, h1, h2⟩ := hrw.out j hj
        by_cases eb : b2 = b
        · subst eb
          have h3 : ys2.length = m := by
            have h4 := hb2.symm.trans HB.out
            simp only [Option.some.injEq, Obj.cells.injEq, and_true] at h4
            have h5 := congrArg Array.size h4
            rw [kCells_size, kCells_size] at h5
            rw [h5]; exact HYL.out
          rcases O1.out.row.2 with ⟨h4, _⟩ | ⟨g', cap', cur, h4, _, h5, _, _, h6, h7⟩
          · simp at h4
          · simp only [Value.slice.injEq, Option.some.injEq, Addr.mk.injEq] at h4
            obtain ⟨⟨rfl, _⟩, _, rfl⟩ := h4
            have e9 : cur = kCells .i8 (markL .i8 r m) := by
              rw [List.take_of_length_le (by rw [Array.length_toList, h6, markL_length]; exact Nat.le_refl _)] at h7
              apply Array.ext'
              rw [h7]
              rfl
            exact ⟨b2, markL .i8 r m, e2, by rw [h5, e9], (markL_length _ _ _).trans (h3.symm.trans hl2), h1, h2⟩
        · exact ⟨b2, ys2, e2, (G1.out.block b2 (lt_of_heap hb2) (fun e => eb (Option.some.inj e))).trans hb2, hl2, h1, h2⟩)
      have HGW := hid ((G1.out.block g (lt_of_heap hgw.out) (fun e => by have := Option.some.inj e; have := HGB.out; omega)).trans hgw.out)
      have HBT := hid (hbt.out.by_ G1.out (Nat.le_of_lt HGB.out) HBH.out)
      go_wp2_with fail
      go_roundw
      case rel => exact ⟨k + 1, r + m, by omega, by go_num, by go_num, by rw [Nat.succ_mul]; omega, HBT, HR2, HGW⟩
      case measure => simp [intOf]; omega
    · have HBT := hbt
      go_wp2_with fail
      go_ret
      exact ⟨⟨r, rfl⟩, HBT.out⟩
end Go.Proofs.Ytdighhkgopopeaa
