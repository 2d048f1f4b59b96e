/- The hoists for a meaning out of a locker: plain lists. -/
import Derived.Test.YtdighhkgopopeaaSeqM
import Derived.Test.YtdighhkgopopeaaPIdx
import Derived.Test.YtdighhkgopopeaaLook3
namespace Go.Proofs.Ytdighhkgopopeaa
set_option linter.unusedVariables false
open Go.RowKit
/-- One piece less. -/
def less (l : List Int) (p : Nat) : List Int := l.set p (l.getD p 0 - 1)
theorem less_length (l : List Int) (p : Nat) : (less l p).length = l.length := by simp [less]
theorem less_get {l : List Int} {p q : Nat} (hp : p < l.length) : (less l p).getD q 0 = if q = p then l.getD p 0 - 1 else l.getD q 0 := by
  unfold less
  simp only [List.getD, List.getElem?_set]
  by_cases e : q = p
  · subst e; simp [hp]
  · rw [if_neg (fun h => e h.symm), if_neg e]
theorem pIdx_inj {x y : Int} (hx : -4 ≤ x ∧ x ≤ 39) (hy : -4 ≤ y ∧ y ≤ 39) (h : pIdx x = pIdx y) : x = y := by
  rw [← pNum_pIdx hx, ← pNum_pIdx hy, h]
theorem pIdx_sub (q : Nat) : pIdx (-((q + 1 : Nat) : Int)) = 40 + q := by unfold pIdx; rw [if_neg (by omega)]; omega
theorem pIdx_kind {c : Int} (h : 0 ≤ c) : pIdx c = c.toNat := by unfold pIdx; rw [if_pos h]
/-- So many there are in a locker. -/
def avL (xs : List Int) (x : Int) : Int := xs.getD (pIdx x) 0
def lkN (next : List Int → List Int → List (List Int)) (m h left : List Int) : Nat → List (List Int)
  | 0 => if 0 < left.getD (pIdx (m.getD h.length 0)) 0 then next (less left (pIdx (m.getD h.length 0))) (h ++ [m.getD h.length 0]) else []
  | q + 1 => (if repB m h.length (q + 1) && !(left.getD (40 + q) 0 == 0) then next (less left (40 + q)) (h ++ [-((q + 1 : Nat) : Int)]) else []) ++ lkN next m h left q
/-- All that go on from h, with f numbers more. -/
def lkF (m : List Int) : Nat → List Int → List Int → List (List Int)
  | 0, _, h => [h]
  | f + 1, left, h => if m.getD h.length 0 = -10 then lkF m f left (h ++ [-10]) else lkN (lkF m f) m h left 4
theorem lkF_brk {m : List Int} {f : Nat} {left h : List Int} (e : m.getD h.length 0 = -10) : lkF m (f + 1) left h = lkF m f left (h ++ [-10]) := by rw [lkF, if_pos e]
theorem lkF_kind {m : List Int} {f : Nat} {left h : List Int} (e : ¬ m.getD h.length 0 = -10) : lkF m (f + 1) left h = lkN (lkF m f) m h left 4 := by rw [lkF, if_neg e]
/-- What is left of a locker behind a part of a hoist. -/
structure Lf (xs left h : List Int) : Prop where
  len : left.length = 44
  at_ : ∀ x : Int, -4 ≤ x ∧ x ≤ 39 → left.getD (pIdx x) 0 = xs.getD (pIdx x) 0 - occ h x h.length ∧ 0 ≤ left.getD (pIdx x) 0 ∧ left.getD (pIdx x) 0 ≤ 20
theorem Lf.nil {xs : List Int} (hl : xs.length = 44) (hv : lockB xs = true) : Lf xs xs [] :=
  ⟨hl, fun x _ => ⟨by simp [occ], lockB_get hv _⟩⟩
theorem occ_snoc' {h : List Int} {x c : Int} : occ (h ++ [x]) c (h ++ [x]).length = if x = c then occ h c h.length + 1 else occ h c h.length := by
  rw [List.length_append, List.length_singleton]; exact occ_snoc
theorem Lf.brk {xs left h : List Int} (hL : Lf xs left h) : Lf xs left (h ++ [-10]) :=
  ⟨hL.len, fun x hx => by rw [occ_snoc', if_neg (by omega)]; exact hL.at_ x hx⟩
theorem Lf.less {xs left h : List Int} (hL : Lf xs left h) {x : Int} (hx : -4 ≤ x ∧ x ≤ 39) (h0 : 0 < left.getD (pIdx x) 0) : Lf xs (less left (pIdx x)) (h ++ [x]) := by
  refine ⟨(less_length _ _).trans hL.len, fun y hy => ?_⟩
  have h1 := hL.at_ y hy
  rw [occ_snoc', less_get (by rw [hL.len]; exact pIdx_lt hx)]
  by_cases e : x = y
  · subst e
    rw [if_pos rfl, if_pos rfl]
    omega
  · rw [if_neg (fun e2 => e (pIdx_inj hy hx e2).symm), if_neg e]
    exact h1
theorem okV_left {xs left h : List Int} (hL : Lf xs left h) {x : Int} (hx : -4 ≤ x ∧ x ≤ 39) : okV (avL xs) h x = decide (0 < left.getD (pIdx x) 0) := by
  have h1 := (hL.at_ x hx).1
  unfold okV avL
  rw [decide_eq_false (by omega : ¬ x = -10), Bool.false_or]
  by_cases h2 : occ h x h.length < xs.getD (pIdx x) 0
  · rw [decide_eq_true h2, decide_eq_true (by omega)]
  · rw [decide_eq_false h2, decide_eq_false (by omega)]
theorem goP_lk {nx : List Int → List (List Int)} {nl : List Int → List Int → List (List Int)} {xs left m h : List Int} (hL : Lf xs left h) (hc : 0 ≤ m.getD h.length 0 ∧ m.getD h.length 0 ≤ 39)
    (hne : ∀ x : Int, -4 ≤ x ∧ x ≤ 39 → 0 < left.getD (pIdx x) 0 → nx (h ++ [x]) = nl (less left (pIdx x)) (h ++ [x])) :
    ∀ n, n ≤ 4 → goP nx (avL xs) h (repsL m h.length n ++ [m.getD h.length 0]) = lkN nl m h left n
  | 0, _ => by
    rw [repsL, List.nil_append, goP_cons, goP, List.append_nil, okV_left hL (x := m.getD h.length 0) ⟨by omega, by omega⟩, lkN]
    by_cases h0 : 0 < left.getD (pIdx (m.getD h.length 0)) 0
    · rw [decide_eq_true h0, if_pos rfl, if_pos h0]; exact hne _ ⟨by omega, by omega⟩ h0
    · rw [decide_eq_false h0, if_neg (by simp), if_neg h0]
  | n + 1, hn => by
    have ih := goP_lk hL hc hne n (by omega)
    rw [lkN]
    cases hr : repB m h.length (n + 1)
    · rw [repsL_no hr, ih, Bool.false_and, if_neg (by simp), List.nil_append]
    · rw [repsL_yes hr, List.cons_append, goP_cons, ih, okV_left hL (x := -((n + 1 : Nat) : Int)) ⟨by omega, by omega⟩, pIdx_sub, Bool.true_and]
      have hx : -4 ≤ -((n + 1 : Nat) : Int) ∧ -((n + 1 : Nat) : Int) ≤ 39 := by omega
      have h1 := hL.at_ _ hx
      have h2 := hne _ hx
      rw [pIdx_sub] at h1 h2
      by_cases h0 : 0 < left.getD (40 + n) 0
      · have h3 : (left.getD (40 + n) 0 == 0) = false := beq_eq_false_iff_ne.2 (by omega)
        rw [decide_eq_true h0, h3, Bool.not_false, if_pos rfl, if_pos rfl, h2 h0]
      · have h3 : (left.getD (40 + n) 0 == 0) = true := beq_iff_eq.2 (by omega)
        rw [decide_eq_false h0, h3, Bool.not_true, if_neg (by simp), if_neg (by simp)]
theorem goP_brk {nx : List Int → List (List Int)} {av : Int → Int} {m h : List Int} (hb : m.getD h.length 0 = -10) : ∀ n, goP nx av h (repsL m h.length n ++ [m.getD h.length 0]) = nx (h ++ [-10])
  | 0 => by rw [repsL, List.nil_append, goP_cons, goP, List.append_nil, hb, if_pos (by unfold okV; simp)]
  | n + 1 => by rw [repsL_no (repB_brk hb (by omega))]; exact goP_brk hb n
theorem lk_goC {xs m : List Int} (hm : ∀ i, i < m.length → m.getD i 0 = -10 ∨ (0 ≤ m.getD i 0 ∧ m.getD i 0 ≤ 39)) : ∀ (f : Nat) (left h : List Int), h.length + f = m.length → Lf xs left h → goC (choT m m.length m.length) (avL xs) f h = lkF m f left h
  | 0, _, _, _, _ => rfl
  | f + 1, left, h, hl, hL => by
    rw [goC, choT_get (by omega), if_pos (by omega), candsL]
    have hl1 : ∀ x : Int, (h ++ [x]).length + f = m.length := fun x => by rw [List.length_append, List.length_singleton]; omega
    by_cases hb : m.getD h.length 0 = -10
    · rw [goP_brk hb, lkF_brk hb]
      exact lk_goC hm f left (h ++ [-10]) (hl1 _) hL.brk
    · rw [lkF_kind hb]
      exact goP_lk hL ((hm _ (by omega)).resolve_left hb) (fun x hx h0 => lk_goC hm f _ _ (hl1 x) (hL.less hx h0)) 4 (Nat.le_refl _)
theorem lkN_length {next : List Int → List Int → List (List Int)} {m h left : List Int} {P : Nat} (hp : ∀ l g, (next l g).length ≤ P) (n : Nat) : (lkN next m h left n).length ≤ (n + 1) * P := by
  induction n with
  | zero =>
    rw [lkN]
    split
    · have := hp (less left (pIdx (m.getD h.length 0))) (h ++ [m.getD h.length 0]); omega
    · simp
  | succ n ih =>
    rw [lkN, List.length_append, Nat.succ_mul]
    split
    · have := hp (less left (40 + n)) (h ++ [-((n + 1 : Nat) : Int)]); omega
    · simp only [List.length_nil]; omega
theorem lkF_length (m : List Int) (f : Nat) : ∀ left h, (lkF m f left h).length ≤ 5 ^ f := by
  induction f with
  | zero => intro left h; simp [lkF]
  | succ f ih =>
    intro left h
    rw [Nat.pow_succ]
    by_cases hb : m.getD h.length 0 = -10
    · rw [lkF_brk hb]; have := ih left (h ++ [-10]); omega
    · rw [lkF_kind hb]; have := lkN_length (m := m) (h := h) (left := left) ih 4; omega
/-- The hoists for a meaning out of a locker, in ascending order. -/
def fromL (xs m : List Int) : List (List Int) := lkF m m.length xs []
def hfC (xs m : List Int) : Int := if lockB xs && plainH m then headC (fromL xs m) else 1
def hfL (xs m : List Int) : List Int := if lockB xs && plainH m then headL (fromL xs m) else []
theorem hf_no {xs m : List Int} (h : (lockB xs && plainH m) = false) : hfC xs m = 1 ∧ hfL xs m = [] := by unfold hfC hfL; rw [h]; exact ⟨rfl, rfl⟩
theorem hf_yes {xs m : List Int} (h : (lockB xs && plainH m) = true) : hfC xs m = headC (fromL xs m) ∧ hfL xs m = headL (fromL xs m) := by unfold hfC hfL; rw [if_pos h, if_pos h]; exact ⟨rfl, rfl⟩
end Go.Proofs.Ytdighhkgopopeaa
