/- What the search for hoists has still to hand out: plain lists. -/
import Derived.Test.YtdighhkgopopeaaChoicesM
namespace Go.Proofs.Ytdighhkgopopeaa
set_option linter.unusedVariables false
open Go.RowKit
theorem getD_in {l : List Int} {p : Nat} (h : p < l.length) : l[p] = l.getD p 0 := by rw [List.getD_eq_getElem?_getD, List.getElem?_eq_getElem h]; rfl
/-- There is one more of a number. -/
def okV (av : Int → Int) (h : List Int) (x : Int) : Bool := decide (x = -10) || decide (occ h x h.length < av x)
def goP (next : List Int → List (List Int)) (av : Int → Int) (h : List Int) : List Int → List (List Int)
  | [] => []
  | c :: l => (if okV av h c then next (h ++ [c]) else []) ++ goP next av h l
/-- All that go on from h, with f places more. -/
def goC (cs : List (List Int)) (av : Int → Int) : Nat → List Int → List (List Int)
  | 0, h => [h]
  | f + 1, h => goP (goC cs av f) av h (cs.getD h.length [])
/-- What the search hands out from place k - 1 on: h holds what has been chosen, tr how many choices of each place have been tried. -/
def remA (cs : List (List Int)) (av : Int → Int) (n : Nat) (h : List Int) (tr : List Int) : Nat → List (List Int)
  | 0 => []
  | k + 1 => (if k = n then [h] else goP (goC cs av (n - k - 1)) av (h.take k) ((cs.getD k []).drop (tr.getD k 0).toNat)) ++ remA cs av n h tr k
/-- How much is left to do. -/
def muA (cs : List (List Int)) (n : Nat) (tr : List Int) : Nat → Nat
  | 0 => 0
  | k + 1 => (if k = n then 1 else 1 + ((cs.getD k []).length - (tr.getD k 0).toNat) * 7 ^ (n - k)) + muA cs n tr k
theorem remA_same {cs : List (List Int)} {av : Int → Int} {n : Nat} {h h' : List Int} {tr tr' : List Int} : ∀ {k : Nat}, k ≤ n → (∀ j, j < k → h'.take j = h.take j ∧ tr'.getD j 0 = tr.getD j 0) → remA cs av n h' tr' k = remA cs av n h tr k := by
  intro k
  induction k with
  | zero => intro _ _; rfl
  | succ k ih =>
    intro hk he
    rw [remA, remA, ih (by omega) (fun j hj => he j (by omega)), if_neg (by omega), if_neg (by omega), (he k (by omega)).1, (he k (by omega)).2]
theorem muA_same {cs : List (List Int)} {n : Nat} {tr tr' : List Int} : ∀ {k : Nat}, k ≤ n → (∀ j, j < k → tr'.getD j 0 = tr.getD j 0) → muA cs n tr' k = muA cs n tr k := by
  intro k
  induction k with
  | zero => intro _ _; rfl
  | succ k ih =>
    intro hk he
    rw [muA, muA, ih (by omega) (fun j hj => he j (by omega)), if_neg (by omega), if_neg (by omega), he k (by omega)]
theorem getD_set_eq {xs : List Int} {i : Nat} {x : Int} (hi : i < xs.length) : (xs.set i x).getD i 0 = x := by
  simp [List.getD, hi]
theorem getD_set_ne {xs : List Int} {i j : Nat} {x : Int} (hi : i ≠ j) : (xs.set i x).getD j 0 = xs.getD j 0 := by
  simp [List.getD, hi]
theorem take_set_le {xs : List Int} {i j : Nat} {x : Int} (h : j ≤ i) : (xs.set i x).take j = xs.take j := by
  rw [List.take_set, List.set_eq_of_length_le (by rw [List.length_take]; omega)]
theorem take_set_succ {xs : List Int} {i : Nat} {x : Int} (h : i < xs.length) : (xs.set i x).take (i + 1) = xs.take i ++ [x] := by
  rw [List.take_add_one, take_set_le (Nat.le_refl _)]
  simp [h]
theorem remA_start {cs : List (List Int)} {av : Int → Int} {n : Nat} {h : List Int} {tr : List Int} (hn : 1 ≤ n) (ht : tr.getD 0 0 = 0) : remA cs av n h tr 1 = goC cs av n [] := by
  obtain ⟨p, rfl⟩ : ∃ p, n = p + 1 := ⟨n - 1, by omega⟩
  rw [remA, if_neg (by omega), ht, remA, List.append_nil, goC]
  rfl
theorem remA_top {cs : List (List Int)} {av : Int → Int} {n : Nat} {h : List Int} {tr : List Int} : remA cs av n h tr (n + 1) = h :: remA cs av n h tr n := by
  rw [remA, if_pos rfl]
  rfl
/-- No choice is left at a place. -/
theorem remA_none {cs : List (List Int)} {av : Int → Int} {n k : Nat} {h : List Int} {tr : List Int} (hk : k < n) (hp : (cs.getD k []).length ≤ (tr.getD k 0).toNat) (x : Int) :
    remA cs av n h tr (k + 1) = remA cs av n h (tr.set k x) k := by
  rw [remA, if_neg (by omega), List.drop_eq_nil_of_le hp, goP, List.nil_append]
  exact (remA_same (by omega) (fun j hj => ⟨rfl, getD_set_ne (by omega)⟩)).symm
theorem goP_cons {next : List Int → List (List Int)} {av : Int → Int} {h : List Int} {c : Int} {l : List Int} : goP next av h (c :: l) = (if okV av h c then next (h ++ [c]) else []) ++ goP next av h l := rfl
/-- A choice that can't be taken. -/
theorem remA_skip {cs : List (List Int)} {av : Int → Int} {n k p : Nat} {h : List Int} {tr : List Int} (hk : k < n) (htr : k < tr.length) (hp : tr.getD k 0 = (p : Int)) (hl : p < (cs.getD k []).length)
    (hno : okV av (h.take k) ((cs.getD k []).getD p 0) = false) : remA cs av n h tr (k + 1) = remA cs av n h (tr.set k ((p : Int) + 1)) (k + 1) := by
  rw [remA, remA, if_neg (by omega), if_neg (by omega), hp, getD_set_eq htr, show ((p : Int) + 1).toNat = p + 1 by omega, Int.toNat_natCast, List.drop_eq_getElem_cons hl, goP_cons]
  have e : (cs.getD k [])[p] = (cs.getD k []).getD p 0 := getD_in hl
  rw [e, hno, if_neg (by simp), List.nil_append, remA_same (h' := h) (h := h) (tr' := tr.set k ((p : Int) + 1)) (tr := tr) (Nat.le_of_lt hk) (fun j hj => ⟨rfl, getD_set_ne (by omega)⟩)]
/-- A choice that is taken. -/
theorem remA_take {cs : List (List Int)} {av : Int → Int} {n k p : Nat} {h : List Int} {tr : List Int} (hk : k < n) (hh : h.length = n) (htr : tr.length = n) (hp : tr.getD k 0 = (p : Int)) (hl : p < (cs.getD k []).length)
    (hz : ∀ j, k < j → j < n → tr.getD j 0 = 0) (hyes : okV av (h.take k) ((cs.getD k []).getD p 0) = true) :
    remA cs av n h tr (k + 1) = remA cs av n (h.set k ((cs.getD k []).getD p 0)) (tr.set k ((p : Int) + 1)) (k + 2) := by
  have e : (cs.getD k [])[p] = (cs.getD k []).getD p 0 := getD_in hl
  have e1 : remA cs av n h tr (k + 1) = goC cs av (n - k - 1) (h.take k ++ [(cs.getD k []).getD p 0]) ++ (goP (goC cs av (n - k - 1)) av (h.take k) ((cs.getD k []).drop (p + 1)) ++ remA cs av n h tr k) := by
    rw [remA, if_neg (by omega), hp, Int.toNat_natCast, List.drop_eq_getElem_cons hl, goP_cons, e, hyes, if_pos rfl, List.append_assoc]
  have e2 : remA cs av n (h.set k ((cs.getD k []).getD p 0)) (tr.set k ((p : Int) + 1)) (k + 1) = goP (goC cs av (n - k - 1)) av (h.take k) ((cs.getD k []).drop (p + 1)) ++ remA cs av n h tr k := by
    rw [remA, if_neg (by omega), getD_set_eq (by omega), show ((p : Int) + 1).toNat = p + 1 by omega, take_set_le (Nat.le_refl _), remA_same (h' := h.set k ((cs.getD k []).getD p 0)) (h := h) (tr' := tr.set k ((p : Int) + 1)) (tr := tr) (Nat.le_of_lt hk) (fun j hj => ⟨take_set_le (by omega), getD_set_ne (by omega)⟩)]
  rw [e1, show k + 2 = (k + 1) + 1 from rfl, remA, e2]
  congr 1
  by_cases hkn : k + 1 = n
  · rw [if_pos hkn, show n - k - 1 = 0 by omega, goC]
    congr 1
    have := take_set_succ (xs := h) (i := k) (x := (cs.getD k []).getD p 0) (by omega)
    rw [← this, List.take_of_length_le (by rw [List.length_set]; omega)]
  · rw [if_neg hkn, getD_set_ne (by omega), hz (k + 1) (by omega) (by omega), take_set_succ (by omega), show n - k - 1 = (n - (k + 1) - 1) + 1 by omega, goC]
    have : (h.take k ++ [(cs.getD k []).getD p 0]).length = k + 1 := by rw [List.length_append, List.length_take, List.length_singleton]; omega
    rw [this]
    rfl
theorem muA_none {cs : List (List Int)} {n k : Nat} {tr : List Int} (hk : k < n) (x : Int) : muA cs n (tr.set k x) k < muA cs n tr (k + 1) := by
  rw [muA, muA_same (tr' := tr.set k x) (tr := tr) (by omega) (fun j hj => getD_set_ne (by omega)), if_neg (by omega)]
  omega
theorem muA_top {cs : List (List Int)} {n : Nat} {tr : List Int} : muA cs n tr n < muA cs n tr (n + 1) := by
  rw [muA, if_pos rfl]
  omega
theorem muA_skip {cs : List (List Int)} {n k p : Nat} {tr : List Int} (hk : k < n) (htr : k < tr.length) (hp : tr.getD k 0 = (p : Int)) (hl : p < (cs.getD k []).length) : muA cs n (tr.set k ((p : Int) + 1)) (k + 1) < muA cs n tr (k + 1) := by
  rw [muA, muA, muA_same (tr' := tr.set k ((p : Int) + 1)) (tr := tr) (by omega) (fun j hj => getD_set_ne (by omega)), if_neg (by omega), if_neg (by omega), hp, getD_set_eq htr, show ((p : Int) + 1).toNat = p + 1 by omega, Int.toNat_natCast]
  have h7 : 0 < 7 ^ (n - k) := Nat.pow_pos (by omega)
  have : ((cs.getD k []).length - (p + 1)) * 7 ^ (n - k) < ((cs.getD k []).length - p) * 7 ^ (n - k) := Nat.mul_lt_mul_of_pos_right (by omega) h7
  omega
theorem muA_take {cs : List (List Int)} {n k p : Nat} {tr : List Int} (hk : k < n) (htr : tr.length = n) (hp : tr.getD k 0 = (p : Int)) (hl : p < (cs.getD k []).length) (h5 : ∀ j, j < n → (cs.getD j []).length ≤ 5) :
    muA cs n (tr.set k ((p : Int) + 1)) (k + 2) < muA cs n tr (k + 1) := by
  have e1 : muA cs n (tr.set k ((p : Int) + 1)) (k + 1) = 1 + ((cs.getD k []).length - (p + 1)) * 7 ^ (n - k) + muA cs n tr k := by
    rw [muA, muA_same (tr' := tr.set k ((p : Int) + 1)) (tr := tr) (by omega) (fun j hj => getD_set_ne (by omega)), if_neg (by omega), getD_set_eq (by omega), show ((p : Int) + 1).toNat = p + 1 by omega]
  have e2 : muA cs n tr (k + 1) = 1 + ((cs.getD k []).length - p) * 7 ^ (n - k) + muA cs n tr k := by
    rw [muA, if_neg (by omega), hp, Int.toNat_natCast]
  have h7 : 0 < 7 ^ (n - k - 1) := Nat.pow_pos (by omega)
  have h8 : 7 ^ (n - k) = 7 ^ (n - k - 1) * 7 := by rw [← Nat.pow_succ]; congr 1; omega
  have e3 : ((cs.getD k []).length - p) * 7 ^ (n - k) = ((cs.getD k []).length - (p + 1)) * 7 ^ (n - k) + 7 ^ (n - k) := by
    rw [← Nat.succ_mul]
    congr 1
    omega
  rw [show k + 2 = (k + 1) + 1 from rfl, muA, e1, e2, e3, h8]
  by_cases hkn : k + 1 = n
  · rw [if_pos hkn]; omega
  · rw [if_neg hkn, show n - (k + 1) = n - k - 1 by omega]
    have h9 : ((cs.getD (k + 1) []).length - ((tr.set k ((p : Int) + 1)).getD (k + 1) 0).toNat) * 7 ^ (n - k - 1) ≤ 5 * 7 ^ (n - k - 1) := Nat.mul_le_mul_right _ (by have := h5 (k + 1) (by omega); omega)
    omega
/-- So many there are in so many sets. -/
def avS (S : Int) (B : Nat) (x : Int) : Int := if x < -(B : Int) then 0 else S
theorem okV_far {S : Int} {B : Nat} {h : List Int} {c : Nat} (hB : B < c) (hc : c ≤ 4) : okV (avS S B) h (-(c : Int)) = false := by
  unfold okV avS
  have := (occ_bd h (-(c : Int)) h.length).1
  simp only [Bool.or_eq_false_iff, decide_eq_false_iff_not]
  rw [if_pos (by omega)]
  omega
theorem okV_near {S : Int} {B : Nat} {h : List Int} {x : Int} (hx : x = -10 ∨ -(B : Int) ≤ x) : okV (avS S B) h x = okX S h x := by
  unfold okV okX avS
  rcases hx with hx | hx
  · simp [hx]
  · rw [if_neg (by omega)]
theorem goP_append {next : List Int → List (List Int)} {av : Int → Int} {h : List Int} {l1 l2 : List Int} : goP next av h (l1 ++ l2) = goP next av h l1 ++ goP next av h l2 := by
  induction l1 with
  | nil => rfl
  | cons c l ih => rw [List.cons_append, goP_cons, goP_cons, ih, List.append_assoc]
theorem goP_reps {next : List Int → List (List Int)} {m h : List Int} {S : Int} {B n : Nat} (hB : B ≤ 4) (hn : n ≤ 4) (hx : m.getD h.length 0 = -10 ∨ 0 ≤ m.getD h.length 0) :
    goP next (avS S B) h (repsL m h.length n ++ [m.getD h.length 0]) = goN next m S h (min n B) := by
  induction n with
  | zero =>
    rw [repsL, List.nil_append, Nat.zero_min, goN, goP_cons, goP, List.append_nil, okV_near (by rcases hx with h1 | h1 <;> first | exact .inl h1 | exact .inr (by omega))]
  | succ n ih =>
    have ih := ih (by omega)
    by_cases hb : n + 1 ≤ B
    · rw [Nat.min_eq_left hb, goN]
      rw [Nat.min_eq_left (by omega)] at ih
      cases hr : repB m h.length (n + 1)
      · rw [repsL_no hr, ih, Bool.false_and, if_neg (by simp), List.nil_append]
      · rw [repsL_yes hr, List.cons_append, goP_cons, ih, Bool.true_and, okV_near (.inr (by omega))]
    · rw [Nat.min_eq_right (by omega)]
      rw [Nat.min_eq_right (by omega)] at ih
      cases hr : repB m h.length (n + 1)
      · rw [repsL_no hr, ih]
      · rw [repsL_yes hr, List.cons_append, goP_cons, ih, okV_far (by omega) hn, if_neg (by simp), List.nil_append]
theorem goC_goF {m : List Int} {S : Int} {B : Nat} (hB : B ≤ 4) (hx : ∀ i, i < m.length → m.getD i 0 = -10 ∨ 0 ≤ m.getD i 0) : ∀ (f : Nat) (h : List Int), h.length + f = m.length → goC (choT m m.length m.length) (avS S B) f h = goF m S B f h := by
  have hn : ∀ (next next' : List Int → List (List Int)) (h : List Int) (k : Nat), (∀ c, next (h ++ [c]) = next' (h ++ [c])) → goN next m S h k = goN next' m S h k := by
    intro next next' h k he
    induction k with
    | zero => rw [goN, goN, he]
    | succ k ih => rw [goN, goN, he, ih]
  intro f
  induction f with
  | zero => intro h _; rfl
  | succ f ih =>
    intro h hl
    rw [goC, goF_succ, choT_get (by omega), if_pos (by omega), candsL, goP_reps hB (Nat.le_refl _) (hx _ (by omega)), Nat.min_eq_right hB]
    exact hn _ _ _ _ (fun c => ih _ (by rw [List.length_append, List.length_singleton]; omega))
end Go.Proofs.Ytdighhkgopopeaa
