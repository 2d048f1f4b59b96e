/- SphereBound: the functions. -/
import Derived.Test.YtojdbeebgllhhaaWord7
namespace Go.Proofs.Ytojdbeebgllhhaa
open Go.RowKit
/-- How many kinds are left to choose. -/
def restP (x : Int) : Int := if x < 0 then 0 else x
/-- In how many ways so many kinds can be chosen, one behind the other. -/
def fallW (l : Int) : Nat → Int
  | 0 => 1
  | c + 1 => fallW l c * restP (l - c)
theorem restP_bd {l : Int} {c : Nat} (h0 : 0 ≤ l) (h8 : l ≤ 8) : 0 ≤ restP (l - c) ∧ restP (l - c) ≤ 8 := by unfold restP; split <;> omega
theorem fallW_bd {l : Int} (h0 : 0 ≤ l) (h8 : l ≤ 8) : ∀ c, c ≤ 4 → 0 ≤ fallW l c ∧ fallW l c ≤ 8 ^ c := by
  intro c hc
  induction c with
  | zero => simp [fallW]
  | succ c ih =>
    obtain ⟨a, b⟩ := ih (by omega)
    obtain ⟨p, q⟩ := restP_bd (c := c) h0 h8
    rw [fallW, Int.pow_succ]
    exact ⟨Int.mul_nonneg a p, Int.mul_le_mul b q p (by omega)⟩
theorem fallW_big {l : Int} (h0 : 0 ≤ l) (h8 : l ≤ 8) {c : Nat} (hc : c ≤ 4) : 0 ≤ fallW l c ∧ fallW l c ≤ 4096 := by
  have h := fallW_bd h0 h8 c hc
  have : (8 : Int) ^ c ≤ 4096 := by
    rcases (show c = 0 ∨ c = 1 ∨ c = 2 ∨ c = 3 ∨ c = 4 by omega) with rfl | rfl | rfl | rfl | rfl <;> decide
  omega
theorem fall_choose {l : Int} (h1 : 1 ≤ l) (h8 : l ≤ 8) {j : Nat} (hj : j ≤ 3) : fallW l j / fallW j j = chooseN l j ∧ 1 ≤ fallW j j ∧ (0 ≤ chooseN l j ∧ chooseN l j ≤ 70) := by
  refine ⟨?_, ?_, ?_⟩
  all_goals
    rcases (show l = 1 ∨ l = 2 ∨ l = 3 ∨ l = 4 ∨ l = 5 ∨ l = 6 ∨ l = 7 ∨ l = 8 by omega) with rfl | rfl | rfl | rfl | rfl | rfl | rfl | rfl <;>
    rcases (show j = 0 ∨ j = 1 ∨ j = 2 ∨ j = 3 by omega) with rfl | rfl | rfl | rfl <;> decide +kernel
theorem pow_bd3 {b : Int} (h0 : 0 ≤ b) (h1 : b ≤ 36) {j : Nat} (hj : j ≤ 3) : 0 ≤ b ^ j ∧ b ^ j ≤ 50653 := by
  obtain ⟨a, c⟩ := pow_bd h0 (by omega : b ≤ 37) j
  have : (37 : Int) ^ j ≤ 50653 := by
    rcases (show j = 0 ∨ j = 1 ∨ j = 2 ∨ j = 3 by omega) with rfl | rfl | rfl | rfl <;> decide
  omega
/-- What a step needs. -/
theorem sphere_step {n l : Int} (n2 : 2 ≤ n) (n37 : n ≤ 37) (l1 : 1 ≤ l) (l8 : l ≤ 8) {j : Nat} (hj : j ≤ 3) :
    0 ≤ chooseN l j * (n - 1) ^ j ∧ chooseN l j * (n - 1) ^ j ≤ 3545710 := by
  obtain ⟨-, -, ⟨c0, c1⟩⟩ := fall_choose l1 l8 hj
  obtain ⟨p0, p1⟩ := pow_bd3 (b := n - 1) (by omega) (by omega) hj
  refine ⟨Int.mul_nonneg c0 p0, ?_⟩
  have := Int.mul_le_mul c1 p1 p0 (by omega)
  omega
theorem sphere_bd {n l : Int} (n2 : 2 ≤ n) (n37 : n ≤ 37) (l1 : 1 ≤ l) (l8 : l ≤ 8) {j : Nat} (hj : j ≤ 4) : 0 ≤ sphereTo n l j ∧ sphereTo n l j ≤ 3545710 * j ∧ (1 ≤ j → 1 ≤ sphereTo n l j) := by
  induction j with
  | zero => simp [sphereTo]
  | succ j ih =>
    obtain ⟨a, b, c⟩ := ih (by omega)
    obtain ⟨s0, s1⟩ := sphere_step n2 n37 l1 l8 (show j ≤ 3 by omega)
    rw [sphereTo]
    refine ⟨by omega, by omega, fun _ => ?_⟩
    by_cases e : j = 0
    · subst e; simp [sphereTo, chooseN]
    · have := c (by omega); omega
theorem choose_step {l : Int} (l1 : 1 ≤ l) (l8 : l ≤ 8) {j : Nat} (hj : j ≤ 3) (hl : (j : Int) < l) :
    IntKind.i64.wrap (l - j) = l - j ∧ IntKind.i64.wrap (chooseN l j * (l - j)) = chooseN l j * (l - j) ∧ 0 ≤ chooseN l j * (l - j) ∧ (chooseN l j * (l - j)).tdiv ((j : Int) + 1) = chooseN l j * (l - j) / ((j : Int) + 1) ∧ IntKind.i64.wrap (chooseN l j * (l - j) / ((j : Int) + 1)) = chooseN l j * (l - j) / ((j : Int) + 1) := by
  obtain ⟨-, -, ⟨c0, c1⟩⟩ := fall_choose l1 l8 hj
  have m1 : chooseN l j * (l - j) ≤ 70 * 8 := Int.mul_le_mul c1 (by omega) (by omega) (by omega)
  have m0 : 0 ≤ chooseN l j * (l - j) := Int.mul_nonneg c0 (by omega)
  generalize chooseN l j * (l - j) = z at *
  have d1 := Int.ediv_le_self ((j : Int) + 1) m0
  have d0 := Int.ediv_nonneg m0 (show 0 ≤ (j : Int) + 1 by omega)
  exact ⟨IntWalk.i64_in _ (by omega), IntWalk.i64_in _ (by omega), m0, Int.tdiv_eq_ediv_of_nonneg m0, IntWalk.i64_in _ (by omega)⟩
set_option maxRecDepth 100000 in
theorem waysW_any (c : Nat) (h4 : c ≤ 3) (l : Int) (h0 : 0 ≤ l) (h8 : l ≤ 8) (w : World) :
    Calls Try.prog 64 #[.int .i64 c, .int .i64 l] w fun e w' => e = .returned (.int .i64 (fallW l c)) ∧ w = w' := by
  have HB := hid (fun i (h : i ≤ 4) => fallW_big h0 h8 h)
  have HP := hid (fun i : Nat => restP_bd (c := i) h0 h8)
  have HS := hid (fun i => show fallW l (i + 1) = fallW l i * restP (l - i) from rfl)
  have HZ := hid (show fallW l 0 = 1 from rfl)
  generalize fallW l = f at *
  go_enter Try.func64, Try.ntmps64
  go_wp2_with fail
  go_loop [5, 8] (fun v i => ∃ k : Nat, k ≤ c ∧ i = .int .i64 k ∧ v = .int .i64 (f k)) (fun _ i => c - (intOf i).toNat)
  case atStart => exact ⟨0, Nat.zero_le _, rfl, by rw [HZ.out]⟩
  case round =>
    obtain ⟨k, hk, rfl, rfl⟩ := hrel
    by_cases hlt : k < c
    · have HSK := hid (HS.out k)
      obtain ⟨p0, p1⟩ := HP.out k
      obtain ⟨q0, q1⟩ := HB.out k (by omega)
      have e1 : IntKind.i64.wrap (l - (k : Int)) = l - (k : Int) := IntWalk.i64_in _ (by omega)
      have hm : f k * restP (l - k) ≤ 4096 * 8 := Int.mul_le_mul q1 p1 p0 (by omega)
      have hm0 : 0 ≤ f k * restP (l - k) := Int.mul_nonneg q0 p0
      have e2 : IntKind.i64.wrap (f k * restP (l - k)) = f k * restP (l - k) := IntWalk.i64_in _ (by omega)
      unfold restP at e2 HSK
      clear hm hm0 p0 p1
      generalize f k = y at *
      go_wp2_with fail
      exact ⟨⟨k + 1, by omega, by rw [show ((k + 1 : Nat) : Int) = (k : Int) + 1 by omega], by rw [HSK.out]⟩, by simp [intOf]; omega⟩
    · obtain rfl : k = c := by omega
      go_wp2_with fail
      go_ret
      exact ⟨rfl, rfl⟩
/-- What both functions need of their numbers. -/
theorem sphere_args {p l a : Int} (h : sphereB p l a = true) : (2 ≤ p ∧ p ≤ 37) ∧ (1 ≤ l ∧ l ≤ 8) ∧ 1 ≤ a ∧ a ≤ l := by
  unfold sphereB askedB at h
  simp only [Bool.and_eq_true, betW] at h
  omega
theorem quo_last {x y : Int} (x0 : 0 ≤ x) (x1 : x ≤ 3512479453921) (y1 : 1 ≤ y) : x.tdiv y = x / y ∧ IntKind.i64.wrap (x / y) = x / y := by
  have d1 := Int.ediv_le_self y x0
  have d0 := Int.ediv_nonneg x0 (show 0 ≤ y by omega)
  exact ⟨Int.tdiv_eq_ediv_of_nonneg x0, IntWalk.i64_in _ (by omega)⟩

set_option maxRecDepth 100000 in
set_option maxHeartbeats 800000 in
theorem spec_SphereBound_any (p : Int) (hp : (Lit.int .i64 p).wf = true) (l : Int) (hl : (Lit.int .i64 l).wf = true) (c : Int) (hc : (Lit.int .i64 c).wf = true) (w : World) :
    Calls Try.prog 25 #[.int .i64 p, .int .i64 l, .int .i64 c] w fun e w' => e = .returned (.tuple #[.int .i64 (sphereV p l c), .int .i64 (sphereC p l c)]) ∧ Gr w w' := by
  have HQ := hid (show sphereB p l c = (askedB p l && betB c 1 l) from rfl)
  have HNO := hid (sphere_no (n := p) (l := l) (a := c))
  have HOK := hid (sphere_ok (n := p) (l := l) (a := c))
  have HAS := hid (fun V => l05Asked_any p l V)
  clear hp hl hc
  cases hs : sphereB p l c
  · obtain ⟨e1, e2⟩ := HNO.out hs
    rw [e1, e2]
    rw [hs] at HQ
    clear e1 e2 HNO HOK hs
    cases ha : askedB p l
    · rw [ha] at HAS
      clear HQ ha
      go_enter Try.func25, Try.ntmps25
      go_wp2_with fail
      refine (HAS.out _).mono ?_
      rintro e w' ⟨rfl, rfl⟩
      go_wp2_with fail
      go_ret2
      exact ⟨rfl, Gr.refl _⟩
    · rw [ha] at HAS HQ
      have HBV := hid (show betB c 1 l = false from HQ.out.symm)
      clear HQ ha
      go_enter Try.func25, Try.ntmps25
      go_wp2_with fail
      refine (HAS.out _).mono ?_
      rintro e w' ⟨rfl, rfl⟩
      go_wp2_with (go_at_call 49; refine (l00In_b _ _ _ _).mono ?_; rintro e w' ⟨rfl, rfl⟩; rw [HBV.out])
      go_ret2
      exact ⟨rfl, Gr.refl _⟩
  · obtain ⟨e1, e2⟩ := HOK.out hs
    obtain ⟨⟨p2, p37⟩, ⟨l1, l8⟩, c1, cl⟩ := sphere_args hs
    rw [hs] at HQ
    rw [e1]
    have HV := hid e2
    have ha : askedB p l = true ∧ betB c 1 l = true := by have := HQ.out; simpa using this.symm
    have HBV := hid ha.2
    rw [ha.1] at HAS
    clear e1 e2 HNO HOK hs HQ ha
    obtain ⟨n, rfl⟩ : ∃ n : Nat, l = n := ⟨l.toNat, by omega⟩
    obtain ⟨m, hm⟩ : ∃ m : Nat, (c - 1) / 2 = (m : Int) := ⟨((c - 1) / 2).toNat, by omega⟩
    have hm3 : m ≤ 3 := by omega
    have hml : 2 * (m : Int) + 1 ≤ n := by omega
    rw [hm, Int.toNat_natCast, show ((m : Int) + 1).toNat = m + 1 by omega] at HV
    have HP := hid (fun k (hk : k ≤ 3) V => l05Power_any (p - 1) (by omega) (by omega) k (by omega) V)
    have HPL := hid (fun V => l05Power_any p (by omega) p37 n (by omega) V)
    obtain ⟨w0, w9⟩ := pow_bd8 (b := p) (by omega) p37 (show n ≤ 8 by omega)
    have HSB := hid (fun k (hk : k ≤ 4) => sphere_bd p2 p37 l1 l8 hk)
    have HST := hid (fun k (hk : k ≤ 3) => sphere_step p2 p37 l1 l8 hk)
    have HPB := hid (fun k (hk : k ≤ 3) => pow_bd3 (b := p - 1) (by omega) (by omega) hk)
    have HFC := hid (fun k (hk : k ≤ 3) => fall_choose l1 l8 hk)
    have HCS := hid (fun k (hk : k ≤ 3) hl => choose_step l1 l8 hk hl)
    have HWY := hid (fun k (hk : k ≤ 3) V => waysW_any k hk (n : Int) (by omega) l8 V)
    have HWK := hid (fun k (hk : k ≤ 3) V => waysW_any k hk (k : Int) (by omega) (by omega) V)
    have HFB := hid (fun k (hk : k ≤ 3) => fallW_big (l := (n : Int)) (c := k) (by omega) l8 (by omega))
    generalize hpn : p ^ n = pn at *
    have HM := hid hm
    clear hpn hm
    go_enter Try.func25, Try.ntmps25
    go_wp2_with fail
    refine (HAS.out _).mono ?_
    rintro e w' ⟨rfl, rfl⟩
    go_wp2_with (go_at_call 49; refine (l00In_b _ _ _ _).mono ?_; rintro e w' ⟨rfl, rfl⟩; rw [HBV.out])
    go_loop [8, 9, 10] (fun s v i => ∃ k : Nat, k ≤ m + 1 ∧ i = .int .i64 k ∧ s = .int .i64 (sphereTo p n k) ∧ v = .int .i64 (chooseN n k)) (fun _ _ i => m + 1 - (intOf i).toNat)
    case atStart => exact ⟨0, Nat.zero_le _, rfl, rfl, rfl⟩
    case round =>
      obtain ⟨k, hk, rfl, rfl, rfl⟩ := hrel
      obtain ⟨b0, b1, b2⟩ := HSB.out k (by omega)
      by_cases hlt : k ≤ m
      · have hlt' : (k : Int) ≤ (c - 1) / 2 := by have := HM.out; omega
        obtain ⟨s0, s1⟩ := HST.out k (by omega)
        obtain ⟨-, -, ⟨c0, c9⟩⟩ := HFC.out k (by omega)
        obtain ⟨d1, d2, d3, d4, d5⟩ := HCS.out k (by omega) (by omega)
        have HPK := hid (HP.out k (by omega))
        have HN1 := hid (show sphereTo p n (k + 1) = sphereTo p n k + chooseN n k * (p - 1) ^ k from rfl)
        have HN2 := hid (show chooseN n (k + 1) = chooseN n k * ((n : Int) - k) / ((k : Int) + 1) from rfl)
        have e1 : IntKind.i64.wrap (chooseN n k * (p - 1) ^ k) = chooseN n k * (p - 1) ^ k := IntWalk.i64_in _ (by omega)
        have e2 : IntKind.i64.wrap (sphereTo p n k + chooseN n k * (p - 1) ^ k) = sphereTo p n k + chooseN n k * (p - 1) ^ k := IntWalk.i64_in _ (by omega)
        clear s0 s1 b2
        generalize (p - 1) ^ k = pw at *
        generalize sphereTo p n k = s at *
        generalize chooseN n k = v at *
        go_wp2_with (refine (HPK.out _).mono ?_; rintro e w' ⟨rfl, rfl⟩)
        go_round
        case rel => exact ⟨k + 1, by omega, by go_num, by rw [HN1.out], by rw [HN2.out]⟩
        case measure => simp [intOf] <;> omega
      · obtain rfl : k = m + 1 := by omega
        have hlt' : ¬ ((m + 1 : Nat) : Int) ≤ (c - 1) / 2 := by have := HM.out; omega
        have b3 := b2 (by omega)
        obtain ⟨q1, q2⟩ := quo_last w0 w9 b3
        have b4 : sphereTo p n (m + 1) ≠ 0 := by omega
        clear b2
        generalize sphereTo p n (m + 1) = s at *
        go_wp2_with (refine (HPL.out _).mono ?_; rintro e w' ⟨rfl, rfl⟩)
        go_ret2
        exact ⟨by rw [HV.out]; rfl, Gr.refl _⟩

set_option maxRecDepth 100000 in
set_option maxHeartbeats 800000 in
theorem impl_SphereBound_any (p : Int) (hp : (Lit.int .i64 p).wf = true) (l : Int) (hl : (Lit.int .i64 l).wf = true) (c : Int) (hc : (Lit.int .i64 c).wf = true) (w : World) :
    Calls Try.prog 26 #[.int .i64 p, .int .i64 l, .int .i64 c] w fun e w' => e = .returned (.tuple #[.int .i64 (sphereV p l c), .int .i64 (sphereC p l c)]) ∧ Gr w w' := by
  have HQ := hid (show sphereB p l c = (askedB p l && betB c 1 l) from rfl)
  have HNO := hid (sphere_no (n := p) (l := l) (a := c))
  have HOK := hid (sphere_ok (n := p) (l := l) (a := c))
  have HAS := hid (fun V => areSizes_any p l V)
  clear hp hl hc
  cases hs : sphereB p l c
  · obtain ⟨e1, e2⟩ := HNO.out hs
    rw [e1, e2]
    rw [hs] at HQ
    clear e1 e2 HNO HOK hs
    cases ha : askedB p l
    · rw [ha] at HAS
      clear HQ ha
      go_enter Try.func26, Try.ntmps26
      go_wp2_with fail
      refine (HAS.out _).mono ?_
      rintro e w' ⟨rfl, rfl⟩
      go_wp2_with fail
      go_ret2
      exact ⟨rfl, Gr.refl _⟩
    · rw [ha] at HAS HQ
      have HBV := hid (show betB c 1 l = false from HQ.out.symm)
      clear HQ ha
      go_enter Try.func26, Try.ntmps26
      go_wp2_with fail
      refine (HAS.out _).mono ?_
      rintro e w' ⟨rfl, rfl⟩
      go_wp2_with (go_at_call 52; refine (isBetween_any _ _ _ _).mono ?_; rintro e w' ⟨rfl, rfl⟩; rw [HBV.out])
      go_ret2
      exact ⟨rfl, Gr.refl _⟩
  · obtain ⟨e1, e2⟩ := HOK.out hs
    obtain ⟨⟨p2, p37⟩, ⟨l1, l8⟩, c1, cl⟩ := sphere_args hs
    rw [hs] at HQ
    rw [e1]
    have HV := hid e2
    have ha : askedB p l = true ∧ betB c 1 l = true := by have := HQ.out; simpa using this.symm
    have HBV := hid ha.2
    rw [ha.1] at HAS
    clear e1 e2 HNO HOK hs HQ ha
    obtain ⟨n, rfl⟩ : ∃ n : Nat, l = n := ⟨l.toNat, by omega⟩
    obtain ⟨m, hm⟩ : ∃ m : Nat, (c - 1) / 2 = (m : Int) := ⟨((c - 1) / 2).toNat, by omega⟩
    have hm3 : m ≤ 3 := by omega
    have hml : 2 * (m : Int) + 1 ≤ n := by omega
    rw [hm, Int.toNat_natCast, show ((m : Int) + 1).toNat = m + 1 by omega] at HV
    have HP := hid (fun k (hk : k ≤ 3) V => power_any (p - 1) (by omega) (by omega) k (by omega) V)
    have HPL := hid (fun V => power_any p (by omega) p37 n (by omega) V)
    obtain ⟨w0, w9⟩ := pow_bd8 (b := p) (by omega) p37 (show n ≤ 8 by omega)
    have HSB := hid (fun k (hk : k ≤ 4) => sphere_bd p2 p37 l1 l8 hk)
    have HST := hid (fun k (hk : k ≤ 3) => sphere_step p2 p37 l1 l8 hk)
    have HPB := hid (fun k (hk : k ≤ 3) => pow_bd3 (b := p - 1) (by omega) (by omega) hk)
    have HFC := hid (fun k (hk : k ≤ 3) => fall_choose l1 l8 hk)
    have HCS := hid (fun k (hk : k ≤ 3) hl => choose_step l1 l8 hk hl)
    have HWY := hid (fun k (hk : k ≤ 3) V => waysW_any k hk (n : Int) (by omega) l8 V)
    have HWK := hid (fun k (hk : k ≤ 3) V => waysW_any k hk (k : Int) (by omega) (by omega) V)
    have HFB := hid (fun k (hk : k ≤ 3) => fallW_big (l := (n : Int)) (c := k) (by omega) l8 (by omega))
    generalize hpn : p ^ n = pn at *
    have HM := hid hm
    clear hpn hm
    go_enter Try.func26, Try.ntmps26
    go_wp2_with fail
    refine (HAS.out _).mono ?_
    rintro e w' ⟨rfl, rfl⟩
    go_wp2_with (go_at_call 52; refine (isBetween_any _ _ _ _).mono ?_; rintro e w' ⟨rfl, rfl⟩; rw [HBV.out])
    go_loop [8, 25] (fun s i => ∃ k : Nat, k ≤ m + 1 ∧ i = .int .i64 k ∧ s = .int .i64 (sphereTo p n k)) (fun _ i => m + 1 - (intOf i).toNat)
    case atStart => exact ⟨0, Nat.zero_le _, rfl, rfl⟩
    case round =>
      obtain ⟨k, hk, rfl, rfl⟩ := hrel
      obtain ⟨b0, b1, b2⟩ := HSB.out k (by omega)
      by_cases hlt : k ≤ m
      · have hlt' : (k : Int) < (c - 1) / 2 + 1 := by have := HM.out; omega
        obtain ⟨s0, s1⟩ := HST.out k (by omega)
        obtain ⟨f1, f2, ⟨c0, c9⟩⟩ := HFC.out k (by omega)
        obtain ⟨g0, g1⟩ := HFB.out k (by omega)
        have f3 : (fallW n k).tdiv (fallW k k) = chooseN n k := by rw [Int.tdiv_eq_ediv_of_nonneg g0]; exact f1
        have f4 : fallW k k ≠ 0 := by omega
        have f5 : IntKind.i64.wrap (chooseN n k) = chooseN n k := IntWalk.i64_in _ (by omega)
        have HPK := hid (HP.out k (by omega))
        have HW1 := hid (HWY.out k (by omega))
        have HW2 := hid (HWK.out k (by omega))
        have HN1 := hid (show sphereTo p n (k + 1) = sphereTo p n k + chooseN n k * (p - 1) ^ k from rfl)
        have e1 : IntKind.i64.wrap (chooseN n k * (p - 1) ^ k) = chooseN n k * (p - 1) ^ k := IntWalk.i64_in _ (by omega)
        have e2 : IntKind.i64.wrap (sphereTo p n k + chooseN n k * (p - 1) ^ k) = sphereTo p n k + chooseN n k * (p - 1) ^ k := IntWalk.i64_in _ (by omega)
        clear s0 s1 b2
        generalize (p - 1) ^ k = pw at *
        generalize sphereTo p n k = s at *
        generalize chooseN n k = v at *
        generalize fallW k k = y at *
        generalize fallW n k = x at *
        go_wp2_with fail
        refine (HW1.out _).mono ?_
        rintro e w' ⟨rfl, rfl⟩
        go_wp2_with fail
        refine (HW2.out _).mono ?_
        rintro e w' ⟨rfl, rfl⟩
        go_wp2_with (refine (HPK.out _).mono ?_; rintro e w' ⟨rfl, rfl⟩)
        go_round
        case rel => exact ⟨k + 1, by omega, by go_num, by rw [HN1.out]⟩
        case measure => simp [intOf] <;> omega
      · obtain rfl : k = m + 1 := by omega
        have hlt' : ¬ ((m + 1 : Nat) : Int) < (c - 1) / 2 + 1 := by have := HM.out; omega
        have b3 := b2 (by omega)
        obtain ⟨q1, q2⟩ := quo_last w0 w9 b3
        have b4 : sphereTo p n (m + 1) ≠ 0 := by omega
        clear b2
        generalize sphereTo p n (m + 1) = s at *
        go_wp2_with (refine (HPL.out _).mono ?_; rintro e w' ⟨rfl, rfl⟩)
        go_ret2
        exact ⟨by rw [HV.out]; rfl, Gr.refl _⟩
end Go.Proofs.Ytojdbeebgllhhaa
