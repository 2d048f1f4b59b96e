/- A slower ship makes all close up no earlier. -/
import Derived.Test.YtflbjjcpkhldkaaDoorLaterS
namespace Go.Proofs.YtflbjjcpkhldkaaDoor
set_option linter.unusedVariables false
open Go.RowKit
/-- The same are reached, none of them closes up or flies earlier. -/
def Later (ts us : List Tm) : Prop := ts.length = us.length ∧ ∀ i, i < ts.length → (0 ≤ (tmAt ts i).l ↔ 0 ≤ (tmAt us i).l) ∧ (tmAt ts i).l ≤ (tmAt us i).l ∧ (tmAt ts i).c ≤ (tmAt us i).c
theorem better_iff (ts : List Tm) (b : Int) (k : Nat) : betterB ts b k = true ↔ 0 ≤ (tmAt ts k).l ∧ (b < 0 ∨ (tmAt ts k).l < (tmAt ts b.toNat).l) := by
  simp [betterB]
theorem bestTo_yes' {ts : List Tm} {lo j : Nat} (h : betterB ts (bestTo ts lo j) (lo + j) = true) : bestTo ts lo (j + 1) = ((lo + j : Nat) : Int) := bestTo_yes h
/-- The found one flies no later than any other one. -/
theorem bestTo_least (ts : List Tm) (lo : Nat) : ∀ j, (bestTo ts lo j < 0 → ∀ k, lo ≤ k → k < lo + j → (tmAt ts k).l < 0) ∧ (0 ≤ bestTo ts lo j → ∀ k, lo ≤ k → k < lo + j → 0 ≤ (tmAt ts k).l → (tmAt ts (bestTo ts lo j).toNat).l ≤ (tmAt ts k).l)
  | 0 => ⟨fun _ k h1 h2 => by omega, fun h => by simp [bestTo] at h⟩
  | j + 1 => by
    have ih := bestTo_least ts lo j
    cases h : betterB ts (bestTo ts lo j) (lo + j)
    · rw [bestTo_no h]
      have hn : ¬ (0 ≤ (tmAt ts (lo + j)).l ∧ (bestTo ts lo j < 0 ∨ (tmAt ts (lo + j)).l < (tmAt ts (bestTo ts lo j).toNat).l)) := by
        intro hh; rw [(better_iff _ _ _).2 hh] at h; cases h
      refine ⟨fun hb k h1 h2 => ?_, fun hb k h1 h2 h3 => ?_⟩
      · by_cases hk : k < lo + j
        · exact ih.1 hb k h1 hk
        · obtain rfl : k = lo + j := by omega
          omega
      · by_cases hk : k < lo + j
        · exact ih.2 hb k h1 hk h3
        · obtain rfl : k = lo + j := by omega
          omega
    · rw [bestTo_yes h]
      have hy := (better_iff _ _ _).1 h
      refine ⟨fun hb => by omega, fun _ k h1 h2 h3 => ?_⟩
      rw [Int.toNat_natCast]
      by_cases hk : k < lo + j
      · by_cases hb : bestTo ts lo j < 0
        · have := ih.1 hb k h1 hk; omega
        · have := ih.2 (by omega) k h1 hk h3
          omega
      · obtain rfl : k = lo + j := by omega
        omega
theorem bestTo_in (ts : List Tm) (lo j : Nat) (h : 0 ≤ bestTo ts lo j) : lo ≤ (bestTo ts lo j).toNat ∧ (bestTo ts lo j).toNat < lo + j ∧ 0 ≤ (tmAt ts (bestTo ts lo j).toNat).l := by
  rcases bestTo_range ts lo j with h1 | ⟨h1, h2, h3⟩
  · omega
  · exact ⟨by omega, by omega, h3⟩
theorem later_step {ts us : List Tm} (h : Later ts us) {s r r' b : Int} (hr : r ≤ r') (hb : 0 ≤ b) (hr0 : 0 ≤ r) :
    (0 ≤ (dueT ts s r b).l ↔ 0 ≤ (dueT us s r' b).l) ∧ (dueT ts s r b).l ≤ (dueT us s r' b).l ∧ (dueT ts s r b).c ≤ (dueT us s r' b).c := by
  obtain ⟨hl, hh⟩ := h
  have e : bestOf us s = bestTo us (ts.length - s.toNat) (ts.length - (ts.length - s.toNat)) := by unfold bestOf; rw [← hl]
  unfold dueT
  rw [e, show bestOf ts s = bestTo ts (ts.length - s.toNat) (ts.length - (ts.length - s.toNat)) from rfl]
  generalize hlo : ts.length - s.toNat = lo at *
  generalize hj : ts.length - lo = j at *
  have hlj : lo + j = ts.length := by omega
  have L1 := bestTo_least ts lo j
  have L2 := bestTo_least us lo j
  have I1 := bestTo_in ts lo j
  have I2 := bestTo_in us lo j
  unfold fromT
  by_cases h1 : bestTo ts lo j < 0
  · have h2 : bestTo us lo j < 0 := by
      by_cases h2 : bestTo us lo j < 0
      · exact h2
      · obtain ⟨i1, i2, i3⟩ := I2 (by omega)
        have := L1.1 h1 _ i1 i2
        have := (hh _ (by omega : (bestTo us lo j).toNat < ts.length)).1
        omega
    rw [if_pos h1, if_pos h2]
    exact ⟨Iff.rfl, Int.le_refl _, Int.le_refl _⟩
  · obtain ⟨i1, i2, i3⟩ := I1 (by omega)
    have h2 : ¬ bestTo us lo j < 0 := by
      intro h2
      have := L2.1 h2 _ i1 i2
      have := (hh _ (by omega : (bestTo ts lo j).toNat < ts.length)).1
      omega
    obtain ⟨k1, k2, k3⟩ := I2 (by omega)
    rw [if_neg h1, if_neg h2]
    have g1 := (hh _ (by omega : (bestTo us lo j).toNat < ts.length))
    have g2 := L1.2 (by omega) _ k1 k2 (g1.1.2 k3)
    refine ⟨⟨fun _ => ?_, fun _ => ?_⟩, ?_, ?_⟩
    · show 0 ≤ _ + r' + b; omega
    · show 0 ≤ _ + r + b; omega
    · show _ + r + b ≤ _ + r' + b; omega
    · show _ + r ≤ _ + r'; omega
theorem later_times {S R R' B : Nat → Int} : ∀ n, (∀ i, i < n → 0 ≤ R i ∧ R i ≤ R' i ∧ 0 ≤ B i) → Later (timesTo S R B n) (timesTo S R' B n)
  | 0, _ => ⟨rfl, fun i hi => by simp [timesTo] at hi⟩
  | n + 1, h => by
    have ih := later_times (S := S) n (fun i hi => h i (by omega))
    have l1 := timesTo_length S R B n
    have l2 := timesTo_length S R' B n
    refine ⟨by rw [timesTo_length, timesTo_length], fun i hi => ?_⟩
    rw [timesTo_length] at hi
    rw [timesTo, timesTo]
    by_cases hin : i < n
    · rw [tmAt_append_left (by omega), tmAt_append_left (by omega)]
      exact ih.2 i (by omega)
    · obtain rfl : i = n := by omega
      have e1 := tmAt_append_last (timesTo S R B i) (if i = 0 then ⟨-1, 0, 0, B 0⟩ else dueT (timesTo S R B i) (S i) (R i) (B i))
      have e2 := tmAt_append_last (timesTo S R' B i) (if i = 0 then ⟨-1, 0, 0, B 0⟩ else dueT (timesTo S R' B i) (S i) (R' i) (B i))
      rw [l1] at e1
      rw [l2] at e2
      rw [e1, e2]
      by_cases h0 : i = 0
      · rw [if_pos h0, if_pos h0]
        exact ⟨Iff.rfl, Int.le_refl _, Int.le_refl _⟩
      · rw [if_neg h0, if_neg h0]
        obtain ⟨g1, g2, g3⟩ := h i (by omega)
        exact later_step ih g2 g3 g1
theorem lastC_mono {ts us : List Tm} (h : Later ts us) (h0 : 0 < ts.length) : lastC ts ≤ lastC us := by
  have h1 := lastTo_lt ts ts.length h0
  have h2 := (h.2 _ h1).2.2
  have h3 := lastTo_max us us.length (lastTo ts ts.length) (by rw [← h.1]; exact h1)
  unfold lastC
  omega
/-- By how much later all have closed up. -/
def latD (n : Nat) (xs : List Int) (s : Nat) (m : Int) : Int := lastC (timesM n xs s m) - lastC (timesL n xs)
theorem latD_mono {n : Nat} {xs : List Int} (hv : lineB n xs = true) (s : Nat) {m m' : Int} (hm : 0 ≤ m) (hmm : m ≤ m') : latD n xs s m ≤ latD n xs s m' := by
  obtain ⟨⟨h0, h20⟩, hh⟩ := lineOk_of hv
  have : lastC (timesM n xs s m) ≤ lastC (timesM n xs s m') := by
    refine lastC_mono (later_times n (fun i hi => ?_)) (by unfold timesM; rw [timesTo_length]; omega)
    obtain ⟨_, g1, g2⟩ := hh i hi
    unfold moreR
    split <;> omega
  unfold latD
  omega
theorem latD_zero {n : Nat} {xs : List Int} (hv : lineB n xs = true) (s : Nat) : latD n xs s 0 = 0 := by
  have : timesM n xs s 0 = timesL n xs := by
    unfold timesM timesL
    apply timesTo_congr
    · intro i _; rfl
    · intro i _; unfold moreR; split <;> simp
    · intro i _; rfl
  unfold latD
  rw [this]
  omega
theorem latD_nonneg {n : Nat} {xs : List Int} (hv : lineB n xs = true) (s : Nat) {m : Int} (hm : 0 ≤ m) : 0 ≤ latD n xs s m := by
  have := latD_mono hv s (Int.le_refl 0) hm
  rw [latD_zero hv] at this
  exact this
/-- The first one from k on, of so many, that is so. -/
def slackFrom (f : Nat → Bool) : Nat → Nat → Nat
  | 0, k => k
  | q + 1, k => if f k = true then k else slackFrom f q (k + 1)
theorem slackFrom_eq (f : Nat → Bool) : ∀ q k i, k ≤ i → i ≤ k + q → (∀ t, k ≤ t → t < i → f t = false) → (i = k + q ∨ f i = true) → slackFrom f q k = i
  | 0, k, i, h1, h2, _, _ => by rw [slackFrom]; omega
  | q + 1, k, i, h1, h2, h3, h4 => by
    rw [slackFrom]
    by_cases hk : i = k
    · rcases h4 with h4 | h4
      · omega
      · rw [hk] at h4; rw [if_pos h4, hk]
    · rw [if_neg (by rw [h3 k (Nat.le_refl _) (by omega)]; simp)]
      exact slackFrom_eq f q (k + 1) i (by omega) (by omega) (fun t g1 g2 => h3 t (by omega) g2) (h4.imp (by omega) id)
theorem slackFrom_le (f : Nat → Bool) : ∀ q k, slackFrom f q k ≤ k + q
  | 0, k => Nat.le_refl _
  | q + 1, k => by
    rw [slackFrom]
    split
    · omega
    · have := slackFrom_le f q (k + 1); omega
def slackB (n : Nat) (xs : List Int) (s : Nat) (t : Nat) : Bool := decide (0 < latD n xs s ((t : Int) + 1))
theorem slackB_mono {n : Nat} {xs : List Int} (hv : lineB n xs = true) (s : Nat) {t t' : Nat} (h : t ≤ t') (ht : slackB n xs s t = true) : slackB n xs s t' = true := by
  unfold slackB at ht ⊢
  have h1 := of_decide_eq_true ht
  have h2 := latD_mono hv s (m := (t : Int) + 1) (m' := (t' : Int) + 1) (by omega) (by omega)
  exact decide_eq_true (by omega)
def slackV (n : Nat) (xs : List Int) (s : Int) : Int := if lineB n xs = true then (if rgV s 0 ((n : Int) - 1) = true then (slackFrom (slackB n xs s.toNat) 60 0 : Int) else 0) else 0
set_option maxRecDepth 100000 in
set_option maxHeartbeats 1000000 in
theorem search_any (f : Nat → Bool) (hmono : ∀ t t', t ≤ t' → f t = true → f t' = true) (K : FuncId) (caps : Array Value) (w : World)
    (hK : ∀ (args : Array Value) (w : World), (callFunc K args).run Tryd.prog w = .ok (.enter K args) w)
    (hp : ∀ V k, Gr w V → k < 60 → Calls Tryd.prog K (#[.int .i64 k] ++ caps) V fun e w' => e = .returned (.bool (f k)) ∧ Gr V w') :
    Calls Tryd.prog 92 #[.int .i64 60, .func (.func K) #[] caps] w fun e w' => e = .returned (.int .i64 (slackFrom f 60 0)) ∧ Gr w w' := by
  have HP := hid hp
  have HM := hid hmono
  clear hp hmono
  go_enter Tryd.func92, Tryd.ntmps92
  go_wp2_with fail
  go_loopw [5, 6] (fun x y wr => ∃ i j : Nat, i ≤ j ∧ j ≤ 60 ∧ x = .int .i64 i ∧ y = .int .i64 j ∧ Hid (∀ t, t < i → f t = false) ∧ Hid (∀ t, j ≤ t → t < 60 → f t = true) ∧ Hid (Gr w wr)) (fun x y _ => (intOf y).toNat - (intOf x).toNat)
  case atStart => exact ⟨0, 60, by omega, Nat.le_refl _, rfl, rfl, hid (fun t h => by omega), hid (fun t h1 h2 => by omega), hid (Gr.refl _)⟩
  case round =>
    obtain ⟨i, j, hij, hj, rfl, rfl, I, J, G⟩ := hrel
    by_cases hlt : i < j
    · obtain ⟨h, hh⟩ : ∃ h : Nat, h = (i + j) / 2 := ⟨_, rfl⟩
      have hi1 : i ≤ h := by omega
      have hi2 : h < j := by omega
      have HC := hid (HP.out wr h G.out (by omega))
      have e1 : IntKind.u64.wrap ((i : Int) + j) = ((i + j : Nat) : Int) := by rw [IntWalk.u64_in _ (by omega)]; omega
      have e2 : IntKind.i64.wrap ((i : Int) + j) = ((i + j : Nat) : Int) := by rw [IntWalk.i64_in _ (by omega)]; omega
      have HH := hid (show ((i : Int) + (j : Int)) / 2 = (h : Int) by omega)
      clear hh
      go_wp2_with fail
      rw [HH.out]
      refine HC.out.mono ?_
      rintro e w1 ⟨rfl, g1⟩
      have G1 := hid (G.out.trans g1)
      clear g1
      cases hq : f h
      · go_wp2_with fail
        go_roundw
        case rel => exact ⟨h + 1, j, by omega, hj, by go_num, rfl, hid (fun t ht => by
          cases hft : f t
          · rfl
          · rw [← hq]; exact (HM.out t h (by omega) hft).symm), J, G1⟩
        case measure => simp [intOf] <;> omega
      · go_wp2_with fail
        go_roundw
        case rel => exact ⟨i, h, hi1, by omega, rfl, rfl, I, hid (fun t h1 h2 => HM.out h t h1 hq), G1⟩
        case measure => simp [intOf] <;> omega
    · obtain rfl : i = j := by omega
      have HE := hid (slackFrom_eq f 60 0 i (by omega) (by omega) (fun t _ ht => I.out t ht) (by
        by_cases h60 : i = 60
        · left; omega
        · right; exact J.out i (Nat.le_refl _) (by omega)))
      go_wp2_with fail
      go_ret
      exact ⟨by rw [HE.out]; rfl, G.out⟩
set_option maxRecDepth 100000 in
theorem search_pan (pv : Value) (E : TypeId) (K : FuncId) (caps : Array Value) (w : World)
    (hK : ∀ (args : Array Value) (w : World), (callFunc K args).run Tryd.prog w = .ok (.enter K args) w)
    (hp : Calls Tryd.prog K (#[.int .i64 30] ++ caps) w fun e w' => e = .panicked [{ v := .iface E pv, recovered := false }] ∧ Gr w w') :
    Calls Tryd.prog 92 #[.int .i64 60, .func (.func K) #[] caps] w fun e w' => e = .panicked [{ v := .iface E pv, recovered := false }] ∧ Gr w w' := by
  have HP := hid hp
  clear hp
  go_enter Tryd.func92, Tryd.ntmps92
  go_wp2_with fail
  go_loopw [5, 6] (fun x y wr => x = .int .i64 0 ∧ y = .int .i64 60 ∧ wr = w) (fun _ _ _ => 0)
  case atStart => exact ⟨rfl, rfl, rfl⟩
  case round =>
    obtain ⟨rfl, rfl, rfl⟩ := hrel
    go_wp2_with fail
    refine HP.out.mono ?_
    rintro e w1 ⟨rfl, g1⟩
    have G1 := hid g1
    clear g1
    go_wp2_with fail
    exact ⟨rfl, rfl, G1.out⟩
end Go.Proofs.YtflbjjcpkhldkaaDoor
