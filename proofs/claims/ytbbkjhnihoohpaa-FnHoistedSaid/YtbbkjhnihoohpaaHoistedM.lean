/- What the hoists of a meaning are: plain lists. -/
import Derived.Test.YtbbkjhnihoohpaaLeastS
namespace Go.Proofs.Ytbbkjhnihoohpaa
open Go.RowKit
/-- What may stand at a place of a hoist with a meaning. -/
def Ch (m : List Int) (B i : Nat) (c : Int) : Prop := c = m.getD i 0 ∨ ∃ q : Nat, 1 ≤ q ∧ q ≤ B ∧ c = -(q : Int) ∧ repB m i q = true
theorem goN_iff {next : List Int → List (List Int)} {m : List Int} {S : Int} {h x : List Int} : ∀ {B : Nat}, x ∈ goN next m S h B ↔ ∃ c, okX S h c = true ∧ Ch m B h.length c ∧ x ∈ next (h ++ [c]) := by
  intro B
  induction B with
  | zero =>
    rw [goN]
    constructor
    · intro hx
      split at hx
      · rename_i ho
        exact ⟨_, ho, .inl rfl, hx⟩
      · simp at hx
    · rintro ⟨c, ho, hc | ⟨q, h1, h2, _⟩, hx⟩
      · subst hc
        rw [if_pos ho]
        exact hx
      · omega
  | succ B ih =>
    rw [goN, List.mem_append, ih]
    constructor
    · rintro (hx | ⟨c, ho, hc, hx⟩)
      · split at hx
        · rename_i ho
          rw [Bool.and_eq_true] at ho
          exact ⟨_, ho.2, .inr ⟨B + 1, by omega, Nat.le_refl _, rfl, ho.1⟩, hx⟩
        · simp at hx
      · refine ⟨c, ho, ?_, hx⟩
        rcases hc with hc | ⟨q, h1, h2, h3, h4⟩
        · exact .inl hc
        · exact .inr ⟨q, h1, by omega, h3, h4⟩
    · rintro ⟨c, ho, hc, hx⟩
      rcases hc with hc | ⟨q, h1, h2, h3, h4⟩
      · exact .inr ⟨c, ho, .inl hc, hx⟩
      · by_cases e : q = B + 1
        · subst e
          subst h3
          left
          rw [if_pos (by rw [h4, ho]; rfl)]
          exact hx
        · exact .inr ⟨c, ho, .inr ⟨q, h1, by omega, h3, h4⟩, hx⟩
theorem take_next' {x : List Int} {k : Nat} (hk : k < x.length) : x.take (k + 1) = x.take k ++ [x.getD k 0] := by
  rw [List.take_succ_eq_append_getElem hk, List.getD_eq_getElem?_getD, List.getElem?_eq_getElem hk]
  rfl
theorem goF_iff {m : List Int} {S : Int} {B : Nat} : ∀ (f : Nat) (h x : List Int), x ∈ goF m S B f h ↔ x.length = h.length + f ∧ x.take h.length = h ∧ ∀ i, h.length ≤ i → i < h.length + f → Ch m B i (x.getD i 0) ∧ okX S (x.take i) (x.getD i 0) = true := by
  intro f
  induction f with
  | zero =>
    intro h x
    rw [goF_zero, List.mem_singleton]
    constructor
    · rintro rfl
      exact ⟨rfl, List.take_length, fun i h1 h2 => by omega⟩
    · rintro ⟨h1, h2, _⟩
      rwa [List.take_of_length_le (by omega)] at h2
  | succ f ih =>
    intro h x
    rw [goF_succ, goN_iff]
    constructor
    · rintro ⟨c, ho, hc, hx⟩
      obtain ⟨h1, h2, h3⟩ := (ih _ _).1 hx
      rw [List.length_append, List.length_singleton] at h1 h2 h3
      have hl : h.length < x.length := by omega
      rw [take_next' hl] at h2
      have h4 := List.append_inj h2 (by rw [List.length_take]; omega)
      have h5 : x.getD h.length 0 = c := by simpa using h4.2
      refine ⟨by omega, h4.1, fun i hi1 hi2 => ?_⟩
      by_cases e : i = h.length
      · subst e
        rw [h5, h4.1]
        exact ⟨hc, ho⟩
      · exact h3 i (by omega) (by omega)
    · rintro ⟨h1, h2, h3⟩
      have hl : h.length < x.length := by omega
      obtain ⟨g1, g2⟩ := h3 h.length (Nat.le_refl _) (by omega)
      rw [h2] at g2
      refine ⟨_, g2, g1, (ih _ _).2 ⟨by rw [List.length_append, List.length_singleton]; omega, ?_, fun i hi1 hi2 => ?_⟩⟩
      · rw [List.length_append, List.length_singleton, take_next' hl, h2]
      · rw [List.length_append, List.length_singleton] at hi1 hi2
        exact h3 i (by omega) (by omega)
theorem occ_take {x : List Int} {c : Int} {i : Nat} : ∀ {k : Nat}, k ≤ i → occ (x.take i) c k = occ x c k := by
  intro k
  induction k with
  | zero => intro _; rfl
  | succ k ih =>
    intro hk
    simp only [occ]
    rw [ih (by omega)]
    have : (x.take i).getD k 0 = x.getD k 0 := by simp only [List.getD_eq_getElem?_getD, List.getElem?_take]; rw [if_pos (by omega)]
    rw [this]
theorem occ_mono {x : List Int} {c : Int} {k n : Nat} (h : k ≤ n) : occ x c k ≤ occ x c n := by
  induction n with
  | zero => rw [show k = 0 by omega]; exact Int.le_refl _
  | succ n ih =>
    by_cases e : k = n + 1
    · rw [e]; exact Int.le_refl _
    · refine Int.le_trans (ih (by omega)) ?_
      simp only [occ]
      split <;> omega
theorem Fine.take {S : Int} {x : List Int} (h : Fine S x) {i : Nat} (hi : i ≤ x.length) : Fine S (x.take i) := by
  unfold Fine at *
  obtain ⟨h0, h1⟩ := setsTo_le.1 h
  have hl : (x.take i).length = i := by rw [List.length_take]; omega
  rw [hl]
  refine setsTo_le.2 ⟨h0, fun j hj hne => ?_⟩
  have e : (x.take i).getD j 0 = x.getD j 0 := by simp only [List.getD_eq_getElem?_getD, List.getElem?_take]; rw [if_pos hj]
  rw [e] at hne ⊢
  rw [occ_take (Nat.le_refl _)]
  exact Int.le_trans (occ_mono hi) (h1 j (by omega) hne)
theorem fine_iff {S : Int} (hS : 0 ≤ S) {x : List Int} : (∀ i, i < x.length → okX S (x.take i) (x.getD i 0) = true) ↔ Fine S x := by
  constructor
  · intro h
    have key : ∀ i, i ≤ x.length → Fine S (x.take i) := by
      intro i
      induction i with
      | zero => intro _; exact Fine.nil hS
      | succ i ih =>
        intro hi
        rw [take_next' (by omega)]
        exact (ih (by omega)).snoc.2 (h i (by omega))
    have := key x.length (Nat.le_refl _)
    rwa [List.take_length] at this
  · intro h i hi
    have h1 := h.take (i := i + 1) (by omega)
    rw [take_next' hi] at h1
    exact (h.take (Nat.le_of_lt hi)).snoc.1 h1
/-- THE HOISTS OF A MEANING. -/
theorem mem_hoists {m x : List Int} {S : Int} (hS : 0 ≤ S) {B : Nat} : x ∈ hoistsL m S B ↔ x.length = m.length ∧ (∀ i, i < m.length → Ch m B i (x.getD i 0)) ∧ Fine S x := by
  unfold hoistsL
  rw [goF_iff, List.length_nil, Nat.zero_add]
  constructor
  · rintro ⟨h1, _, h3⟩
    refine ⟨h1, fun i hi => (h3 i (Nat.zero_le _) hi).1, (fine_iff hS).1 fun i hi => (h3 i (Nat.zero_le _) (by omega)).2⟩
  · rintro ⟨h1, h2, h3⟩
    exact ⟨h1, rfl, fun i _ hi => ⟨h2 i hi, (fine_iff hS).2 h3 i (by omega)⟩⟩
theorem Fine.more {S T : Int} {x : List Int} (h : Fine S x) (hT : S ≤ T) : Fine T x := Int.le_trans h hT
theorem hoists_more {m x : List Int} {S T : Int} (hS : 0 ≤ S) (hT : S ≤ T) {B : Nat} (h : x ∈ hoistsL m S B) : x ∈ hoistsL m T B := by
  obtain ⟨h1, h2, h3⟩ := (mem_hoists hS).1 h
  exact (mem_hoists (by omega)).2 ⟨h1, h2, h3.more hT⟩
/-- As many sets as it needs are enough. -/
theorem hoists_own {m x : List Int} {S : Int} (hS : 0 ≤ S) {B : Nat} (h : x ∈ hoistsL m S B) : 0 ≤ setsTo x x.length x.length ∧ setsTo x x.length x.length ≤ S ∧ x ∈ hoistsL m (setsTo x x.length x.length) B := by
  obtain ⟨h1, h2, h3⟩ := (mem_hoists hS).1 h
  have h0 := (setsTo_le.1 (Int.le_refl (setsTo x x.length x.length))).1
  exact ⟨h0, h3, (mem_hoists h0).2 ⟨h1, h2, Int.le_refl _⟩⟩
/-- A hoist is valid, and means what it should. -/
theorem hoists_mean {m x : List Int} {S : Int} (hS : 0 ≤ S) {B : Nat} (hB : B ≤ 4) (hm : plainH m = true) (h : x ∈ hoistsL m S B) : validH x = true ∧ meanL x = m := by
  obtain ⟨h1, h2, _⟩ := (mem_hoists hS).1 h
  have hv := plainH_valid hm
  have hnum := plain_nums hm
  have key : ∀ i, i < m.length → (x.getD i 0 = -10 ↔ m.getD i 0 = -10) := fun i hi => by
    rcases h2 i hi with hc | ⟨q, q1, q2, q3, q4⟩
    · rw [hc]
    · unfold repB at q4
      simp only [Bool.and_eq_true, decide_eq_true_eq, beq_iff_eq] at q4
      have := startOf_in (h := m) (i := i) (j := startOf m i + q - 1) (by omega) (by omega)
      rw [q4.2] at this
      constructor
      · intro e; omega
      · intro e; exact absurd e this
  have hst : ∀ i, i ≤ m.length → startOf x i = startOf m i := fun i hi => startOf_congr fun j hj => key j (by omega)
  have hcase : ∀ i, i < m.length → (subI (x.getD i 0) = false ∧ x.getD i 0 = m.getD i 0) ∨ (subI (x.getD i 0) = true ∧ brkI (x.getD i 0) = false ∧ startOf m i + (-(x.getD i 0)).toNat ≤ i ∧ m.getD (startOf m i + (-(x.getD i 0)).toNat - 1) 0 = m.getD i 0) := fun i hi => by
    rcases h2 i hi with hc | ⟨q, q1, q2, q3, q4⟩
    · left
      refine ⟨?_, hc⟩
      rw [hc]
      cases hs : subI (m.getD i 0)
      · rfl
      · have := subI_iff.1 hs
        have := hnum i hi
        omega
    · right
      unfold repB at q4
      simp only [Bool.and_eq_true, decide_eq_true_eq, beq_iff_eq] at q4
      have e : (-(x.getD i 0)).toNat = q := by rw [q3]; omega
      rw [e]
      refine ⟨subI_iff.2 (by rw [q3]; omega), ?_, q4.1, q4.2⟩
      rw [q3]
      simp only [brkI, decide_eq_false_iff_not]
      omega
  have hvalid : validH x = true := by
    unfold validH at hv ⊢
    rw [Bool.and_eq_true, allTo_iff] at hv ⊢
    refine ⟨?_, fun i hi => ?_⟩
    · have := hv.1
      unfold lenB at this ⊢
      rw [h1]
      exact this
    · have hi' : i < m.length := by omega
      have ho := hv.2 i hi'
      rcases hcase i hi' with ⟨c1, c2⟩ | ⟨c1, c2, c3, _⟩
      · unfold okAt at ho ⊢
        rw [c2, hst i (by omega), h1]
        exact ho
      · unfold okAt
        rw [if_neg (by rw [c2]; simp), if_pos c1, hst i (by omega)]
        exact decide_eq_true c3
  refine ⟨hvalid, ?_⟩
  have hmean : ∀ k, k ≤ m.length → meanTo x k = m.take k := by
    intro k
    induction k with
    | zero => intro _; rfl
    | succ k ih =>
      intro hk
      have hk' : k < m.length := by omega
      rcases hcase k hk' with ⟨c1, c2⟩ | ⟨c1, _, c3, c4⟩
      · rw [meanTo_own c1, ih (by omega), c2, take_next' hk']
      · have hsub := subI_iff.1 c1
        rw [meanTo_sub c1, ih (by omega), hst k (by omega), take_next' hk']
        congr 2
        have hlt : startOf m k + (-(x.getD k 0)).toNat - 1 < k := by omega
        generalize startOf m k + (-(x.getD k 0)).toNat - 1 = j at *
        rw [← c4]
        simp only [List.getD_eq_getElem?_getD, List.getElem?_take]
        rw [if_pos hlt]
  unfold meanL
  rw [h1, hmean _ (Nat.le_refl _), List.take_length]
theorem goN_sub {next next' : List Int → List (List Int)} {m : List Int} {S T : Int} {h : List Int} (hT : S ≤ T) (hn : ∀ g, (next g).Sublist (next' g)) (B : Nat) : (goN next m S h B).Sublist (goN next' m T h B) := by
  have hok : ∀ c, okX S h c = true → okX T h c = true := fun c hc => by
    unfold okX at hc ⊢
    simp only [Bool.or_eq_true, decide_eq_true_eq] at hc ⊢
    omega
  induction B with
  | zero =>
    rw [goN, goN]
    split
    · rename_i ho
      rw [if_pos (hok _ ho)]
      exact hn _
    · exact List.nil_sublist _
  | succ B ih =>
    rw [goN, goN]
    refine List.Sublist.append ?_ ih
    split
    · rename_i ho
      rw [Bool.and_eq_true] at ho
      rw [if_pos (by rw [ho.1, hok _ ho.2]; rfl)]
      exact hn _
    · exact List.nil_sublist _
theorem goF_sub {m : List Int} {S T : Int} (hT : S ≤ T) (B : Nat) : ∀ (f : Nat) (h : List Int), (goF m S B f h).Sublist (goF m T B f h) := by
  intro f
  induction f with
  | zero => intro h; exact List.Sublist.refl _
  | succ f ih => intro h; rw [goF_succ, goF_succ]; exact goN_sub hT ih B
/-- With more sets there are as many hoists, or more. -/
theorem hoists_count {m : List Int} {S T : Int} (hT : S ≤ T) (B : Nat) : (hoistsL m S B).length ≤ (hoistsL m T B).length := (goF_sub hT B _ _).length_le
theorem okX_many {S : Int} (hS : 8 ≤ S) {h : List Int} (hl : h.length < 8) (c : Int) : okX S h c = true := by
  unfold okX
  have := (occ_bd h c h.length).2
  simp only [Bool.or_eq_true, decide_eq_true_eq]
  right
  omega
/-- Without substitutes there is one. -/
theorem hoists_one {m : List Int} {S : Int} (hS : 8 ≤ S) (hl : m.length ≤ 8) : (hoistsL m S 0).length = 1 := by
  have key : ∀ (f : Nat) (h : List Int), h.length + f ≤ 8 → (goF m S 0 f h).length = 1 := by
    intro f
    induction f with
    | zero => intro h _; rfl
    | succ f ih =>
      intro h hh
      rw [goF_succ, goN, if_pos (okX_many hS (by omega) _)]
      exact ih _ (by rw [List.length_append, List.length_singleton]; omega)
  exact key _ _ (by rw [List.length_nil]; omega)
/-- No other substitutes than there are. -/
theorem hoists_subs {m x : List Int} {S : Int} (hS : 0 ≤ S) {B : Nat} (hm : plainH m = true) (h : x ∈ hoistsL m S B) {c : Nat} (hc : B ≤ c) (h3 : c < 4) : occ x (-(c : Int) - 1) x.length = 0 := by
  obtain ⟨h1, h2, _⟩ := (mem_hoists hS).1 h
  refine occ_zero fun i hi e => ?_
  have hi' : i < m.length := by omega
  rcases h2 i hi' with hq | ⟨q, q1, q2, q3, _⟩
  · have := plain_nums hm i hi'
    omega
  · omega
/-- The least sets are the least ones. -/
theorem leastN_le {m : List Int} {B : Nat} : ∀ (f s t : Nat), s ≤ t → t ≤ s + f → hoistsL m (t : Nat) B ≠ [] → leastN m B f s ≤ t := by
  intro f
  induction f with
  | zero => intro s t h1 h2 _; rw [leastN]; omega
  | succ f ih =>
    intro s t h1 h2 h3
    rw [leastN]
    split
    · rename_i h4
      by_cases e : s = t
      · subst e; exact absurd h4 h3
      · exact ih (s + 1) t (by omega) (by omega) h3
    · exact h1
theorem leastN_ok {m : List Int} {B : Nat} (hl : m.length ≤ 8) : ∀ (f s : Nat), s + f = 8 → hoistsL m (leastN m B f s : Nat) B ≠ [] := by
  intro f
  induction f with
  | zero =>
    intro s h
    obtain rfl : s = 8 := by omega
    exact hoistsL_some hl B
  | succ f ih =>
    intro s h
    rw [leastN]
    split
    · exact ih (s + 1) (by omega)
    · rename_i h4; exact h4
/-- There is a hoist where there are as many sets as the least ones, and nowhere else. -/
theorem least_iff {m : List Int} {B s : Nat} (hl : m.length ≤ 8) (h1 : 1 ≤ s) (h8 : s ≤ 8) : hoistsL m (s : Nat) B ≠ [] ↔ leastN m B 7 1 ≤ s := by
  constructor
  · exact fun h => leastN_le 7 1 s h1 (by omega) h
  · intro h
    have h2 := leastN_ok (m := m) (B := B) hl 7 1 rfl
    intro e
    cases hR : hoistsL m (leastN m B 7 1 : Nat) B with
    | nil => exact h2 hR
    | cons x R =>
      have := hoists_more (S := (leastN m B 7 1 : Nat)) (T := (s : Nat)) (by omega) (by omega) (by rw [hR]; exact List.mem_cons_self)
      rw [e] at this
      simp at this
end Go.Proofs.Ytbbkjhnihoohpaa
