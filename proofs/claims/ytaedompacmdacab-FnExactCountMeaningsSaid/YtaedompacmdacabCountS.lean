/- How many meanings there are: the model's functions. -/
import Derived.Test.YtaedompacmdacabCount
import Derived.Test.YtaedompacmdacabHForW
namespace Go.Proofs.Ytaedompacmdacab
open Go.RowKit
theorem patN_snoc {next : List Int → Nat → List (List Int)} {m : List Int} {nx : Nat} : ∀ {c a : Nat}, patN next m nx a (c + 1) = patN next m nx a c ++ next (m ++ [((a + c : Nat) : Int)]) (if a + c = nx then nx + 1 else nx) := by
  intro c
  induction c with
  | zero => intro a; simp [patN]
  | succ c ih =>
    intro a
    rw [patN, ih, patN, List.append_assoc, show a + 1 + c = a + (c + 1) by omega]
theorem patF_used : ∀ (f : Nat) (m : List Int) (k : Nat), Rgs m k → ∀ M ∈ patF f m (used m k), used m k ≤ used M (k + f) := by
  intro f
  induction f with
  | zero => intro m k h M hM; rw [patF, List.mem_singleton] at hM; rw [hM]; exact Nat.le_refl _
  | succ f ih =>
    intro m k h M hM
    rw [patF] at hM
    obtain ⟨y, _, h2, h3⟩ := patN_mem hM
    obtain ⟨g1, g2⟩ := rgs_snoc h (show y ≤ used m k by omega)
    rw [← g2] at h3
    have := ih _ _ g1 M h3
    rw [show k + 1 + f = k + (f + 1) by omega, g2] at this
    split at this <;> omega
theorem sumW_none {K : Nat} {S : Int} {B n : Nat} : ∀ {L : List (List Int)}, (∀ M ∈ L, K < used M n) → sumW (K : Int) S B n L = 0 := by
  intro L
  induction L with
  | nil => intro _; rfl
  | cons M L ih =>
    intro h
    have h1 := h M List.mem_cons_self
    simp only [sumW, wgt]
    rw [ih (fun x hx => h x (List.mem_cons_of_mem _ hx)), wtC_none h1]
    split <;> rfl
/-- As many kinds as have come already: no new one. -/
theorem pat_over {K : Nat} {S : Int} {B n f k : Nat} {m : List Int} (h : Rgs m k) (hu : used m k = K) (hk : k + 1 + f = n) : sumW (K : Int) S B n (patF f (m ++ [(K : Int)]) (K + 1)) = 0 := by
  obtain ⟨g1, g2⟩ := rgs_snoc h (show K ≤ used m k by omega)
  rw [if_pos hu.symm, hu] at g2
  refine sumW_none fun M hM => ?_
  rw [← g2] at hM
  have := patF_used f _ _ g1 M hM
  rw [g2, hk] at this
  omega
theorem pow7 {f : Nat} (h : f ≤ 6) : 7 ^ f ≤ 117649 := by
  have := Nat.pow_le_pow_right (n := 7) (by omega) h
  omega
def PatOk (K : Nat) (S : Int) (B n f : Nat) : Prop :=
  ∀ (m : List Int) (k : Nat), Rgs m k → k + f = n → used m k ≤ K → ∀ (bh oh ch : Nat) (w : World), SliceOf .i8 w (some ⟨bh, oh, none⟩) m →
    Calls Try.prog 58 #[.slice (some ⟨bh, oh, none⟩) k ch, .int .i8 (used m k), .int .i64 K, .int .i64 n, .int .i64 S, .int .i64 B] w fun e w' => e = .returned (.int .i64 (sumW K S B n (patF f m (used m k)))) ∧ Gr w w'
set_option maxRecDepth 100000 in
set_option maxHeartbeats 1000000 in
theorem pat_zero (K : Nat) (S : Int) (B n : Nat) (k4 : K ≤ 40) (n1 : 1 ≤ n) (n2 : n ≤ 6) (s1 : 1 ≤ S) (b2 : B ≤ 4) : PatOk K S B n 0 := by
  intro m k h hk hu bh oh ch w hs
  obtain rfl : k = n := by omega
  rw [patF]
  have hml : m.length = k := h.1
  have HF := hid (l02Find_any bh oh ch k m S B hml.symm (rgs_plain h n1 n2) (by omega) b2 w hs)
  have hu6 : used m k ≤ 6 := Nat.le_trans (used_le m k) n2
  have HSW := hid (show sumW (K : Int) S B k [m] = (if hoistsL m S B = [] then 0 else wtC K (used m k)) by simp [sumW, wgt])
  have HBD := hid (fun i (hi : i ≤ 6) => wtC_big (K := (K : Int)) (by omega) (by omega) hi)
  have HST := hid (fun i (hi : i < used m k) => show wtC (K : Int) (i + 1) = wtC (K : Int) i * ((K : Int) - i) by rw [wtC]; congr 1; unfold posI; rw [if_neg (by omega)])
  have HZ := hid (show wtC (K : Int) 0 = 1 from rfl)
  clear hs h hml
  generalize sumW (K : Int) S B k [m] = T at *
  generalize hR : hoistsL m S B = R at *
  clear hR
  generalize wtC (K : Int) = fw at *
  generalize used m k = u at *
  cases R with
  | nil =>
    have HT := hid (show T = 0 from HSW.out)
    clear HSW HST HBD HZ
    go_enter Try.func58, Try.ntmps58
    go_wp2_with fail
    refine HF.out.mono ?_
    rintro e w2 ⟨rfl, ⟨F, sr⟩, g2⟩
    have G2 := hid g2
    have c3 : w2.cell? ⟨w.heap.size, 3, none⟩ = some (.int .i64 0) := sr.cellC
    clear g2 sr
    go_wp2_with fail
    go_ret
    exact ⟨ret_int HT.out.symm, G2.out⟩
  | cons x R =>
    have HT := hid (show T = fw u from HSW.out)
    clear HSW
    go_enter Try.func58, Try.ntmps58
    go_wp2_with fail
    refine HF.out.mono ?_
    rintro e w2 ⟨rfl, ⟨F, sr⟩, g2⟩
    have G2 := hid g2
    have c3 : w2.cell? ⟨w.heap.size, 3, none⟩ = some (.int .i64 ((x :: R).length : Int)) := sr.cellC
    have hne : (((x :: R).length : Int) == 0) = false := by simp; omega
    generalize (x :: R).length = q at *
    clear g2 sr
    go_wp2_with fail
    go_loop [13, 14] (fun v i => ∃ j : Nat, j ≤ u ∧ i = .int .i64 j ∧ v = .int .i64 (fw j)) (fun _ i => u - (intOf i).toNat)
    case atStart => exact ⟨0, Nat.zero_le _, rfl, by rw [HZ.out]⟩
    case round =>
      obtain ⟨j, hj, rfl, rfl⟩ := hrel
      by_cases hlt : j < u
      · have HSJ := hid (HST.out j hlt)
        obtain ⟨p0, p1⟩ := HBD.out j (by omega)
        have e1 : IntKind.i64.wrap ((K : Int) - (j : Int)) = (K : Int) - (j : Int) := IntWalk.i64_in _ (by omega)
        have hm : fw j * ((K : Int) - j) ≤ 4096000000 * 40 := Int.mul_le_mul p1 (by omega) (by omega) (by omega)
        have hm0 : 0 ≤ fw j * ((K : Int) - j) := Int.mul_nonneg p0 (by omega)
        have e2 : IntKind.i64.wrap (fw j * ((K : Int) - j)) = fw j * ((K : Int) - j) := IntWalk.i64_in _ (by omega)
        clear hm hm0 p0 p1
        generalize fw j = y at *
        go_wp2_with fail
        first
          | exact ⟨⟨j + 1, by omega, by rw [show ((j + 1 : Nat) : Int) = (j : Int) + 1 by omega], by rw [HSJ.out]⟩, by simp [intOf]; omega⟩
          | (go_round
             case rel => exact ⟨j + 1, by omega, by go_num, by rw [HSJ.out]⟩
             case measure => simp [intOf]; omega)
      · obtain rfl : j = u := by omega
        go_wp2_with fail
        go_ret
        exact ⟨ret_int HT.out.symm, G2.out⟩
set_option maxRecDepth 100000 in
set_option maxHeartbeats 2000000 in
theorem pat_succ (K : Nat) (S : Int) (B n f : Nat) (k4 : K ≤ 40) (n2 : n ≤ 6) (ih : PatOk K S B n f) : PatOk K S B n (f + 1) := by
  intro m k h hk hu bh oh ch w hs
  have hml : m.length = k := h.1
  have hu6 : used m k ≤ k := used_le m k
  have HI := hid (fun (x : Nat) (hx : x ≤ used m k) (hxK : x < K) (w' : World) (bg cg : Nat) (hs : SliceOf .i8 w' (some ⟨bg, 0, none⟩) (m ++ [(x : Int)])) => by
    obtain ⟨g1, g2⟩ := rgs_snoc h hx
    have := ih (m ++ [(x : Int)]) (k + 1) g1 (by omega) (by rw [g2]; split <;> omega) bg 0 cg w' hs
    rwa [g2] at this)
  have HSN := hid (fun (x : Nat) => show sumW (K : Int) S B n (patN (patF f) m (used m k) 0 (x + 1)) = sumW (K : Int) S B n (patN (patF f) m (used m k) 0 x) + sumW (K : Int) S B n (patF f (m ++ [(x : Int)]) (if x = used m k then used m k + 1 else used m k)) by rw [patN_snoc, sumW_append, Nat.zero_add])
  have HL1 := hid (fun (x : Nat) (hx : x ≤ used m k + 1) => by
    have h1 := patN_length (next := patF f) (P := 7 ^ f) (m := m) (nx := used m k) (fun g j hj => patF_length f g j (by omega)) x 0
    have h2 : x * 7 ^ f ≤ 7 * 7 ^ f := Nat.mul_le_mul_right _ (by omega)
    have h3 := pow7 (f := f + 1) (by omega)
    rw [Nat.pow_succ] at h3
    have h4 := sumW_bd (K := (K : Int)) (S := S) (B := B) (n := n) (by omega) (by omega) n2 (patN (patF f) m (used m k) 0 x)
    have : 0 ≤ sumW (K : Int) S B n (patN (patF f) m (used m k) 0 x) ∧ sumW (K : Int) S B n (patN (patF f) m (used m k) 0 x) ≤ 481890304000000 := by omega
    exact this)
  have HL2 := hid (fun (x : Nat) (hx : x ≤ used m k) => by
    have h1 := patF_length f (m ++ [(x : Int)]) (if x = used m k then used m k + 1 else used m k) (by split <;> omega)
    have h3 := pow7 (f := f) (by omega)
    have h4 := sumW_bd (K := (K : Int)) (S := S) (B := B) (n := n) (by omega) (by omega) n2 (patF f (m ++ [(x : Int)]) (if x = used m k then used m k + 1 else used m k))
    have : 0 ≤ sumW (K : Int) S B n (patF f (m ++ [(x : Int)]) (if x = used m k then used m k + 1 else used m k)) ∧ sumW (K : Int) S B n (patF f (m ++ [(x : Int)]) (if x = used m k then used m k + 1 else used m k)) ≤ 481890304000000 := by omega
    exact this)
  have HEND := hid (show sumW (K : Int) S B n (patF (f + 1) m (used m k)) = sumW (K : Int) S B n (patN (patF f) m (used m k) 0 (used m k + 1)) from rfl)
  have HOV := hid (fun (e : used m k = K) => pat_over (S := S) (B := B) h e (by omega : k + 1 + f = n))
  have HS := hid (fun (w' : World) (g : Gr w w') => news_of_slice ((hs.gr g).gr ((Gr.refl w').alloc (.cells #[] 79))))
  have hkn : ((k : Int) == (n : Int)) = false := by simp; omega
  have hkn' : (k == n) = false := by rw [beq_eq_false_iff_ne]; omega
  have HK := hid hml
  have hk6 : k ≤ 6 := by omega
  clear hs ih h hml
  generalize used m k = u at *
  obtain ⟨G, hG⟩ : ∃ G : Nat → Int, G = fun x : Nat => sumW (K : Int) S B n (patN (patF f) m u 0 x) := ⟨_, rfl⟩
  obtain ⟨V, hV⟩ : ∃ V : Nat → Int, V = fun x : Nat => sumW (K : Int) S B n (patF f (m ++ [(x : Int)]) (if x = u then u + 1 else u)) := ⟨_, rfl⟩
  have HSN' := hid (fun x => show G (x + 1) = G x + V x by rw [hG, hV]; exact HSN.out x)
  have HL1' := hid (fun x (hx : x ≤ u + 1) => show 0 ≤ G x ∧ G x ≤ 481890304000000 by rw [hG]; exact HL1.out x hx)
  have HL2' := hid (fun x (hx : x ≤ u) => show 0 ≤ V x ∧ V x ≤ 481890304000000 by rw [hV]; exact HL2.out x hx)
  have HEND' := hid (show sumW (K : Int) S B n (patF (f + 1) m u) = G (u + 1) by rw [hG]; exact HEND.out)
  have HOV' := hid (fun (e : u = K) => show V K = 0 by rw [hV]; dsimp only; rw [if_pos e.symm, e]; exact HOV.out e)
  have HI' := hid (fun (x : Nat) (hx : x ≤ u) (hxK : x < K) (w' : World) (bg cg : Nat) (hs : SliceOf .i8 w' (some ⟨bg, 0, none⟩) (m ++ [(x : Int)])) =>
    show Calls Try.prog 58 #[.slice (some ⟨bg, 0, none⟩) (k + 1) cg, .int .i8 ((if x = u then u + 1 else u : Nat) : Int), .int .i64 K, .int .i64 n, .int .i64 S, .int .i64 B] w' fun e w'' => e = .returned (.int .i64 (V x)) ∧ Gr w' w'' by rw [hV]; exact HI.out x hx hxK w' bg cg hs)
  have HZ := hid (show G 0 = 0 by rw [hG]; rfl)
  clear HSN HL1 HL2 HEND HOV HI hG hV
  generalize sumW (K : Int) S B n (patF (f + 1) m u) = T at *
  obtain ⟨i0, hi, hz0, hz1, hz2⟩ := info_parts infoI8
  go_enter Try.func58, Try.ntmps58
  go_wp2_with fail
  go_loopw [15, 16] (fun s i wr => ∃ x : Nat, x ≤ u + 1 ∧ x ≤ K ∧ i = .int .i8 x ∧ s = .int .i64 (G x) ∧ Hid (Gr w wr)) (fun _ i _ => u + 1 - (intOf i).toNat)
  case atStart => exact ⟨0, Nat.zero_le _, Nat.zero_le _, rfl, by rw [HZ.out], hid (Gr.refl _)⟩
  case round =>
    obtain ⟨x, hx, hxK, rfl, rfl, gr⟩ := hrel
    have x40 : x ≤ 40 := by omega
    by_cases hxu : x ≤ u
    · have dxu : decide (x ≤ u) = true := decide_eq_true hxu
      by_cases hlt : x < K
      · have dlt : decide (x < K) = true := decide_eq_true hlt
        have HIX := hid (HI'.out x hxu hlt)
        have HSX := hid (HSN'.out x)
        obtain ⟨p0, p1⟩ := HL1'.out x (by omega)
        obtain ⟨q0, q1⟩ := HL2'.out x hxu
        generalize G x = y at *
        generalize V x = v at *
        have es : IntKind.i64.wrap (y + v) = y + v := IntWalk.i64_in _ (by omega)
        by_cases he : x = u
        · have de : (x == u) = true := by rw [beq_iff_eq]; exact he
          have HIF := hid (show ((if x = u then u + 1 else u : Nat) : Int) = (u : Int) + 1 by rw [if_pos he]; omega)
          rw [HIF.out] at HIX
          have eu : IntKind.i8.wrap ((u : Int) + 1) = (u : Int) + 1 := IntWalk.i8_in _ (by omega)
          clear HIF he
          have OE := hid ((Own.new (k := .i8) (e := 79) wr [] (by simp)).row)
          have HH := hid (HS.out wr gr.out)
          go_wp2_with (at_builtin; refine wpList_append_own _ rfl _ _ 25 rfl wr.heap.size 79 i0 (.int .i8 0) 1 1 Try.underlying25 hi hz0 hz1 hz2 rfl (by decide) _ _ _ rfl OE.out ⟨bh, oh, none⟩ k ch (m.map (Value.int .i8)) rfl (by rw [List.length_map, Nat.mul_one]; exact HK.out) HH.out (by simp [Value.oneCell']) (by unfold maxLen; simp; omega) (by simp; omega) (by simp) ?_)
          intro v1 w1 hown hgrow _
          have OV := hid (Own.ofRow (k := .i8) (xs := m) hown (by simp) (by rw [HK.out]))
          have G1 := hid (((Gr.refl wr).alloc (.cells #[] 79)).by_ hgrow (fun b e => by cases e; exact Nat.le_refl _))
          obtain ⟨av, cv, hv1⟩ := OV.out.shape
          rw [HK.out] at hv1
          subst hv1
          have ROW1 := hid OV.out.row
          rw [HK.out] at ROW1
          clear hown hgrow
          go_wp2_with (at_builtin; refine wpList_append_own _ rfl _ _ 25 rfl wr.heap.size 79 i0 (.int .i8 0) 1 1 Try.underlying25 hi hz0 hz1 hz2 rfl (by decide) _ _ _ rfl (ROW1.out.alloc _) ⟨w1.heap.size, 0, none⟩ 1 1 [.int .i8 (x : Int)] rfl rfl (cell_l1 _ _ _) (by simp [Value.oneCell']) (by unfold maxLen; omega) (by omega) (by have := G1.out.size; simp; omega) ?_)
          intro v2 w2 hown2 hgrow2 _
          obtain ⟨g2, c2, rfl, hg2, _⟩ := hown2.form (by omega)
          have OX := hid (Own.ofRow (k := .i8) (xs := m ++ [(x : Int)]) hown2 (by simp) (by rw [List.length_append, HK.out]; rfl)).reads
          have G2 := hid ((G1.out.alloc (.cells #[.int .i8 (x : Int)] 79)).by_ hgrow2 (fun b e => by have := (ROW1.out.lt b e).1; omega))
          have HIY := hid (HIX.out w2 g2 c2 OX.out)
          clear hown2 hgrow2 HIX
          go_wp2_with fail
          refine HIY.out.mono ?_
          rintro e w3 ⟨rfl, g3⟩
          have G3 := hid (gr.out.trans (G2.out.trans g3))
          clear g3 HIY
          go_wp2_with fail
          go_roundw
          case rel => exact ⟨x + 1, by omega, by omega, by go_num, by rw [HSX.out], G3⟩
          case measure => simp [intOf]; omega
        · have de : (x == u) = false := by rw [beq_eq_false_iff_ne]; exact he
          have HIF := hid (show ((if x = u then u + 1 else u : Nat) : Int) = (u : Int) by rw [if_neg he])
          rw [HIF.out] at HIX
          clear HIF he
          have OE := hid ((Own.new (k := .i8) (e := 79) wr [] (by simp)).row)
          have HH := hid (HS.out wr gr.out)
          go_wp2_with (at_builtin; refine wpList_append_own _ rfl _ _ 25 rfl wr.heap.size 79 i0 (.int .i8 0) 1 1 Try.underlying25 hi hz0 hz1 hz2 rfl (by decide) _ _ _ rfl OE.out ⟨bh, oh, none⟩ k ch (m.map (Value.int .i8)) rfl (by rw [List.length_map, Nat.mul_one]; exact HK.out) HH.out (by simp [Value.oneCell']) (by unfold maxLen; simp; omega) (by simp; omega) (by simp) ?_)
          intro v1 w1 hown hgrow _
          have OV := hid (Own.ofRow (k := .i8) (xs := m) hown (by simp) (by rw [HK.out]))
          have G1 := hid (((Gr.refl wr).alloc (.cells #[] 79)).by_ hgrow (fun b e => by cases e; exact Nat.le_refl _))
          obtain ⟨av, cv, hv1⟩ := OV.out.shape
          rw [HK.out] at hv1
          subst hv1
          have ROW1 := hid OV.out.row
          rw [HK.out] at ROW1
          clear hown hgrow
          go_wp2_with (at_builtin; refine wpList_append_own _ rfl _ _ 25 rfl wr.heap.size 79 i0 (.int .i8 0) 1 1 Try.underlying25 hi hz0 hz1 hz2 rfl (by decide) _ _ _ rfl (ROW1.out.alloc _) ⟨w1.heap.size, 0, none⟩ 1 1 [.int .i8 (x : Int)] rfl rfl (cell_l1 _ _ _) (by simp [Value.oneCell']) (by unfold maxLen; omega) (by omega) (by have := G1.out.size; simp; omega) ?_)
          intro v2 w2 hown2 hgrow2 _
          obtain ⟨g2, c2, rfl, hg2, _⟩ := hown2.form (by omega)
          have OX := hid (Own.ofRow (k := .i8) (xs := m ++ [(x : Int)]) hown2 (by simp) (by rw [List.length_append, HK.out]; rfl)).reads
          have G2 := hid ((G1.out.alloc (.cells #[.int .i8 (x : Int)] 79)).by_ hgrow2 (fun b e => by have := (ROW1.out.lt b e).1; omega))
          have HIY := hid (HIX.out w2 g2 c2 OX.out)
          clear hown2 hgrow2 HIX
          go_wp2_with fail
          refine HIY.out.mono ?_
          rintro e w3 ⟨rfl, g3⟩
          have G3 := hid (gr.out.trans (G2.out.trans g3))
          clear g3 HIY
          go_wp2_with fail
          go_roundw
          case rel => exact ⟨x + 1, by omega, by omega, by go_num, by rw [HSX.out], G3⟩
          case measure => simp [intOf]; omega
      · have dlt : decide (x < K) = false := decide_eq_false hlt
        have HTE := hid (show T = G x by
          have e1 : x = K := by omega
          have e2 : u = K := by omega
          rw [HEND'.out, HSN'.out u, e2, HOV'.out e2, e1, Int.add_zero])
        go_wp2_with fail
        go_ret
        exact ⟨ret_int HTE.out.symm, gr.out⟩
    · have dxu : decide (x ≤ u) = false := decide_eq_false hxu
      have HTE := hid (show T = G x by rw [HEND'.out, show x = u + 1 by omega])
      go_wp2_with fail
      go_ret
      exact ⟨ret_int HTE.out.symm, gr.out⟩
theorem pat_all (K : Nat) (S : Int) (B n : Nat) (k4 : K ≤ 40) (n1 : 1 ≤ n) (n2 : n ≤ 6) (s1 : 1 ≤ S) (b2 : B ≤ 4) : ∀ f, PatOk K S B n f := by
  intro f
  induction f with
  | zero => exact pat_zero K S B n k4 n1 n2 s1 b2
  | succ f ih => exact pat_succ K S B n f k4 n2 ih
set_option maxRecDepth 100000 in
set_option maxHeartbeats 1000000 in
theorem spec_CountMeanings_any (K n S B : Int) (w : World) :
    Calls Try.prog 16 #[.int .i64 K, .int .i64 n, .int .i64 S, .int .i64 B] w fun e w' => e = .returned (.tuple #[.int .i64 (cntV K n S B), .int .i64 (cntC K n S B)]) ∧ Gr w w' := by
  have HBT := hid (fun a b c w => l00In_b a b c w)
  cases h : cntB K n S B with
  | true =>
    obtain ⟨e1, e2⟩ := cnt_yes h
    rw [e1, e2]
    unfold cntB at h
    simp only [Bool.and_eq_true] at h
    obtain ⟨⟨hk, hn⟩, hs, hb⟩ := h
    have HK := hid hk
    have HN := hid hn
    have HS := hid hs
    have HB := hid hb
    rw [betB_iff] at hk hn hs hb
    obtain ⟨q, rfl⟩ := Int.eq_ofNat_of_zero_le (by omega : 0 ≤ K)
    obtain ⟨m, rfl⟩ := Int.eq_ofNat_of_zero_le (by omega : 0 ≤ n)
    obtain ⟨b, rfl⟩ := Int.eq_ofNat_of_zero_le hb.1
    rw [Int.toNat_natCast, Int.toNat_natCast]
    have HP := hid (pat_all q S b m (by omega) (by omega) (by omega) hs.1 (by omega) m [] 0 ⟨rfl, fun j hj => by omega⟩ (by omega) (Nat.zero_le _))
    have HP' : Hid (∀ (bh oh ch : Nat) (W : World), Calls Try.prog 58 #[.slice (some ⟨bh, oh, none⟩) 0 ch, .int .i8 0, .int .i64 q, .int .i64 m, .int .i64 S, .int .i64 b] W fun e w' => e = .returned (.int .i64 (sumW q S b m (patF m [] 0))) ∧ Gr W w') := hid (fun bh oh ch W => HP.out bh oh ch W (fun i hi => by simp at hi))
    clear hk hn hs hb e1 e2 HP
    generalize sumW (q : Int) S b m (patF m [] 0) = T at *
    go_enter Try.func16, Try.ntmps16
    go_wp2_with (refine (HBT.out _ _ _ _).mono ?_; rintro e w' ⟨rfl, rfl⟩; first | rw [HK.out] | rw [HN.out] | rw [HS.out] | rw [HB.out])
    refine (HP'.out _ _ _ _).mono ?_
    rintro e w1 ⟨rfl, g⟩
    have G := hid (((Gr.refl w).alloc (.cells #[] 79)).trans g)
    clear g
    go_wp2_with fail
    go_ret2
    exact ⟨rfl, G.out⟩
  | false =>
    obtain ⟨e1, e2⟩ := cnt_no h
    rw [e1, e2]
    clear e1 e2
    have HH := hid h
    unfold cntB at HH
    clear h
    cases hk : betB K 1 40 with
    | false =>
      have HK := hid hk
      clear hk HH
      go_enter Try.func16, Try.ntmps16
      go_wp2_with (refine (HBT.out _ _ _ _).mono ?_; rintro e w' ⟨rfl, rfl⟩; first | rw [HK.out])
      go_ret2
      exact ⟨rfl, Gr.refl _⟩
    | true =>
      cases hn : betB n 1 6 with
      | false =>
        have HK := hid hk
        have HN := hid hn
        clear hk hn HH
        go_enter Try.func16, Try.ntmps16
        go_wp2_with (refine (HBT.out _ _ _ _).mono ?_; rintro e w' ⟨rfl, rfl⟩; first | rw [HK.out] | rw [HN.out])
        go_ret2
        exact ⟨rfl, Gr.refl _⟩
      | true =>
        rw [hk, hn] at HH
        have HK := hid hk
        have HN := hid hn
        clear hk hn
        cases hs : betB S 1 8 with
        | false =>
          have HS := hid hs
          clear hs HH
          go_enter Try.func16, Try.ntmps16
          go_wp2_with (refine (HBT.out _ _ _ _).mono ?_; rintro e w' ⟨rfl, rfl⟩; first | rw [HK.out] | rw [HN.out] | rw [HS.out])
          go_ret2
          exact ⟨rfl, Gr.refl _⟩
        | true =>
          have HB : Hid (betB B 0 4 = false) := hid (by have := HH.out; rw [hs] at this; simpa using this)
          have HS := hid hs
          clear hs HH
          go_enter Try.func16, Try.ntmps16
          go_wp2_with (refine (HBT.out _ _ _ _).mono ?_; rintro e w' ⟨rfl, rfl⟩; first | rw [HK.out] | rw [HN.out] | rw [HS.out] | rw [HB.out])
          go_ret2
          exact ⟨rfl, Gr.refl _⟩
end Go.Proofs.Ytaedompacmdacab
