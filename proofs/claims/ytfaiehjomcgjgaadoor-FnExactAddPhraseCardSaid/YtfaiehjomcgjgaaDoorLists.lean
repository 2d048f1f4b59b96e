/- All lists of so many kinds, one by one: the program's iterator. -/
import Derived.Test.YtfaiehjomcgjgaaDoorGSeq
import Derived.Test.YtfaiehjomcgjgaaDoorGCnt
import Derived.Test.YtfaiehjomcgjgaaDoorGBk
namespace Go.Proofs.YtfaiehjomcgjgaaDoor
set_option linter.unusedVariables false
open Go.RowKit
attribute [local go_sem] Oper.semAt_some
/-- The next list: the last place that is not at its end goes on, all behind it begin anew. -/
def stepFrom (K : Nat) : Nat → List Int → Option (List Int)
  | 0, _ => none
  | k + 1, m => if m.getD k 0 = (K : Int) - 1 then stepFrom K k (m.set k 0) else some (m.set k (m.getD k 0 + 1))
def stepD (K : Nat) (m : List Int) : Option (List Int) := stepFrom K m.length m
def chainB (K : Nat) : List (List Int) → Bool
  | [] => true
  | [a] => decide (stepD K a = none)
  | a :: b :: r => decide (stepD K a = some b) && chainB K (b :: r)
def chainAll (n : Nat) : Bool := (List.range 10).all fun K => chainB (K + 1) (kindsS (K + 1) n) && decide ((kindsS (K + 1) n).head? = some (List.replicate n 0))
set_option maxRecDepth 100000 in
theorem chainAll_all : chainAll 1 = true ∧ chainAll 2 = true ∧ chainAll 3 = true := by decide +kernel
theorem chain_kinds {K n : Nat} (k1 : 1 ≤ K) (k2 : K ≤ 10) (h1 : 1 ≤ n) (h3 : n ≤ 3) : chainB K (kindsS K n) = true ∧ ∃ rest, kindsS K n = List.replicate n 0 :: rest := by
  have key : chainAll n = true := by rcases (show n = 1 ∨ n = 2 ∨ n = 3 by omega) with rfl | rfl | rfl <;> simp [chainAll_all]
  obtain ⟨K, rfl⟩ : ∃ k, K = k + 1 := ⟨K - 1, by omega⟩
  have := List.all_eq_true.1 key K (List.mem_range.2 (by omega))
  simp only [Bool.and_eq_true, decide_eq_true_eq] at this
  refine ⟨this.1, ?_⟩
  have h := this.2
  cases hL : kindsS (K + 1) n with
  | nil => rw [hL] at h; simp at h
  | cons a r => rw [hL] at h; simp at h; rw [h]; exact ⟨r, rfl⟩
theorem chain_step {K : Nat} : ∀ {pre rest : List (List Int)} {m : List Int}, chainB K (pre ++ m :: rest) = true → stepD K m = rest.head?
  | [], [], m, h => by simpa [chainB] using h
  | [], b :: r, m, h => by simp only [List.nil_append, chainB, Bool.and_eq_true, decide_eq_true_eq] at h; simpa using h.1
  | [a], rest, m, h => by
    simp only [List.cons_append, List.nil_append, chainB, Bool.and_eq_true] at h
    exact chain_step (pre := []) h.2
  | a :: b :: pre, rest, m, h => by
    simp only [List.cons_append, chainB, Bool.and_eq_true] at h
    exact chain_step (pre := b :: pre) h.2
/-- Which one a list is. -/
def numD (K : Nat) (m : List Int) : Nat := m.foldl (fun a x => a * K + x.toNat) 0
def numAll (n : Nat) : Bool := (List.range 10).all fun K => decide ((kindsS (K + 1) n).map (numD (K + 1)) = List.range (kindsS (K + 1) n).length)
set_option maxRecDepth 100000 in
theorem numAll_all : numAll 1 = true ∧ numAll 2 = true ∧ numAll 3 = true := by decide +kernel
theorem num_kinds {K n : Nat} (k1 : 1 ≤ K) (k2 : K ≤ 10) (h1 : 1 ≤ n) (h3 : n ≤ 3) : (kindsS K n).map (numD K) = List.range (kindsS K n).length := by
  have key : numAll n = true := by rcases (show n = 1 ∨ n = 2 ∨ n = 3 by omega) with rfl | rfl | rfl <;> simp [numAll_all]
  obtain ⟨K, rfl⟩ : ∃ k, K = k + 1 := ⟨K - 1, by omega⟩
  have := List.all_eq_true.1 key K (List.mem_range.2 (by omega))
  simpa using this
theorem num_at {K : Nat} {pre rest L : List (List Int)} {m : List Int} (h : L.map (numD K) = List.range L.length) (hL : pre ++ m :: rest = L) : numD K m = pre.length := by
  subst hL
  have := congrArg (fun l => l[pre.length]?) h
  simpa using this
theorem stepFrom_zero (K : Nat) (m : List Int) : stepFrom K 0 m = none := rfl
theorem stepFrom_end {K k : Nat} {m : List Int} (h : m.getD k 0 = (K : Int) - 1) : stepFrom K (k + 1) m = stepFrom K k (m.set k 0) := by rw [stepFrom, if_pos h]
theorem stepFrom_on {K k : Nat} {m : List Int} (h : ¬ m.getD k 0 = (K : Int) - 1) : stepFrom K (k + 1) m = some (m.set k (m.getD k 0 + 1)) := by rw [stepFrom, if_neg h]
theorem stepFrom_length {K : Nat} : ∀ {k : Nat} {m m' : List Int}, stepFrom K k m = some m' → m'.length = m.length
  | 0, m, m', h => by cases h
  | k + 1, m, m', h => by
    rw [stepFrom] at h
    split at h
    · rw [stepFrom_length h, List.length_set]
    · cases h; rw [List.length_set]
theorem run_make_int8s {P : Program} {t e : TypeId} {bytes : Nat} (ht : P.underlying t = some (.slice e)) (hi' : (P.info? e).map (fun i => (i.zero, i.size, i.bytes)) = some (some (.int .i8 0), 1, bytes))
    (n : Nat) (hb : bytes * n ≤ 281474976710656) (hn : n ≤ 9223372036854775807) (w : World) :
    (Instr.makeSlice t (.int .i8 n) (.int .i8 n)).run P w = .ok (.slice (some ⟨w.heap.size, 0, none⟩) n n) (w.alloc (.cells (kCells .i8 (List.replicate n 0)) e)) := by
  obtain ⟨i0, hi, hh⟩ := Option.map_eq_some_iff.1 hi'
  simp only [Prod.mk.injEq] at hh
  obtain ⟨h1, h2, h3⟩ := hh
  have hb' : (i0.bytes : Int) * (n : Int) ≤ 281474976710656 := by
    have h : ((bytes * n : Nat) : Int) ≤ 281474976710656 := by omega
    rw [Int.natCast_mul] at h; rw [h3]; exact h
  have := run_make (P := P) w t e i0 (.int .i8 0) ht hi h1 .i8 .i8 n n (by omega) (Int.le_refl _) hb' (by omega)
  rw [this, h2]
  simp only [Int.toNat_natCast]
  rw [madeInts]
/-- The state of the walk through the lists: block g holds the one at hand. -/
structure InvD (J : Nat → List Yld → World → Prop) (g n : Nat) (pre : List Yld) (m : List Int) (wr : World) : Prop where
  held : ∃ A, J (g + 1) pre A ∧ g + 1 ≤ A.heap.size ∧ Out g (g + 1) A wr
  b : wr.heap[g]? = some (.cells (kCells .i8 m) 22 (0, 0))
  len : m.length = n
set_option maxHeartbeats 8000000 in
set_option maxRecDepth 100000 in
theorem lists_iter (K n : Nat) (k1 : 1 ≤ K) (k2 : K ≤ 10) (h1 : 1 ≤ n) (h3 : n ≤ 3) (bl bk : Nat) (Kp : World → Prop) (W : World) (hbl : W.cell? ⟨bl, 0, none⟩ = some (.int .i8 (n : Int)))
    (hkp : ∀ V, Kp V → V.cell? ⟨bk, 0, none⟩ = some (.int .i8 (K : Int))) (hbk : bk < W.heap.size) :
    IterK Tryd.prog 103 #[.pointer (some ⟨bl, 0, none⟩), .pointer (some ⟨bk, 0, none⟩)] (fun x : Yld => #[x.1]) OkH (NxH (kindsS K n)) (SH (kindsS K n)) (SpH (kindsS K n)) Kp W := by
  intro l J Jx hJK h0 hY
  have hmk := run_make_int8s (P := Tryd.prog) (t := 59) (e := 22) (bytes := 1) Tryd.underlying59 (by kernel_rfl) n (by omega) (by omega)
  obtain ⟨hch, rest0, hrest⟩ := chain_kinds k1 k2 h1 h3
  have hnum := fun m (hm : m ∈ kindsS K n) => mem_kindsS.1 hm
  have hnd := num_kinds k1 k2 h1 h3
  obtain ⟨g, hg⟩ : ∃ g, g = W.heap.size := ⟨_, rfl⟩
  obtain ⟨L, hL⟩ : ∃ L, L = kindsS K n := ⟨_, rfl⟩
  rw [← hL] at hY hch hrest hnum hnd ⊢
  rw [← hg] at hY hbk
  have HCH := hid (fun (pre rest : List (List Int)) (m : List Int) (h : pre ++ m :: rest = L) => chain_step (K := K) (by rw [h]; exact hch))
  have HNUM := hid (fun (pre rest : List (List Int)) (m : List Int) (h : pre ++ m :: rest = L) => hnum m (by rw [← h]; exact List.mem_append.2 (.inr List.mem_cons_self)))
  have HND := hid (fun (pre rest : List (List Int)) (m : List Int) (h : pre ++ m :: rest = L) => num_at hnd h)
  have HY := hid hY
  have H0 := hid h0
  have HG := hid hg
  have HJK := hid hJK
  have HKP := hid hkp
  have HRE := hid hrest
  clear hY h0 hg hJK hkp hch hnum hrest hL hnd
  refine callsIn_of_wp Tryd.func103 rfl trivial ?_ rfl
  simp only [Tryd.ntmps103, List.size_toArray, List.length_cons, List.length_nil, Nat.reduceAdd, Nat.reduceSub, Array.replicate_succ, Array.replicate_zero, List.push_toArray, List.append_toArray, List.nil_append, List.cons_append]
  gi_wp2_with fail
  rw [← HG.out]
  generalize hW3 : World.alloc _ _ = W3
  have IV0 : Hid (InvD J g n [] (List.replicate n 0) W3 ∧ ([] : List Yld).map (·.2) ++ List.replicate n 0 :: rest0 = L) := by
    refine hid ⟨⟨⟨W3, H0.out _ _ ?_ ?_, ?_, Out.refl _ _ _⟩, ?_, by simp⟩, ?_⟩
    · rw [← hW3]; exact (Gr.refl W).alloc _
    · rw [← hW3, HG.out]; simp
    · rw [← hW3, HG.out]; simp
    · rw [← hW3, HG.out]; exact heap_new rfl
    · rw [HRE.out]; rfl
  clear hW3 hmk hbl
  gi_loopw [5] (fun _ wr => ∃ (pre : List Yld) (m : List Int) (rest : List (List Int)), Hid (InvD J g n pre m wr ∧ pre.map (·.2) ++ m :: rest = L)) (fun _ wr => L.length - numD K (intsIn wr g))
  case atStart => exact ⟨[], _, _, IV0⟩
  case round =>
    obtain ⟨pre, m, rest, IV⟩ := hrel
    have HMU := hid (show intsIn wr g = m from intsIn_ints IV.out.1.b)
    have HNM := hid (HND.out _ _ _ IV.out.2)
    gi_wp2_with fail
    refine ⟨trivial, ?_⟩
    refine ((callsIn_wide (n := 7)).2 (cloneMeaning_any (some ⟨g, 0, none⟩) n n m IV.out.1.len.symm h1 (by omega) wr (by have := sliceOf_block IV.out.1.b; exact this))).mono ?_
    rintro e B ⟨v, rfl, ow, gB⟩
    have hyd : YieldAt Fence.wide 7 Tryd.prog l #[v] B fun e C => e = .returned (.bool true) ∧ J (g + 1) (pre ++ [(v, m)]) C ∧ Ins g (g + 1) B C ∨ e = .returned (.bool false) ∧ Jx (pre ++ [(v, m)]) C := by
      obtain ⟨A, hJ, hA, hO⟩ := IV.out.1.held
      exact HY.out (g + 1) pre (v, m) A B (by omega) hA hJ (hO.trans (Out.ofBelow _ _ gB)) (ow.widen hO.size (Nat.le_refl _)) ⟨_, IV.out.2⟩
    obtain ⟨fn, tmps, assign, body, hyr, hR⟩ := hyd
    have HR := hid hR
    have HGB := hid gB
    obtain ⟨k0, hk0⟩ : ∃ k, n = k + 1 := ⟨n - 1, by omega⟩
    have ek : IntKind.i64.wrap ((n : Int) - 1) = (k0 : Int) := (IntWalk.i64_in _ (by omega)).trans (by omega)
    clear hR gB ow
    have HK0 := hid hk0
    clear hk0
    gi_wp2_with fail
    refine HR.out.mono ?_
    rintro e wo (⟨rfl, hJ, hin⟩ | ⟨rfl, hJx⟩)
    rotate_left
    · have HJX := hid hJx
      have HSP := hid (show SpH L (pre ++ [(v, m)]) from ⟨rest, by rw [List.map_append, List.append_assoc]; exact IV.out.2⟩)
      clear hJx
      gi_wp2_with fail
      go_end0
      exact ⟨⟨_, rfl⟩, .inr ⟨pre ++ [(v, m)], wo, HSP.out, HJX.out, Below.refl _ _⟩⟩
    have hszB : g + 1 ≤ B.heap.size := by
      obtain ⟨A, _, hA, hO⟩ := IV.out.1.held
      exact Nat.le_trans hA (Nat.le_trans hO.size HGB.out.size)
    have hck : wo.cell? ⟨bk, 0, none⟩ = some (.int .i8 (K : Int)) := HKP.out _ (HJK.out _ _ _ hJ)
    have HEQ := hid (show (pre ++ [(v, m)]).map (·.2) ++ rest = L by rw [List.map_append, List.append_assoc]; exact IV.out.2)
    have HPL := hid (show (pre ++ [(v, m)]).length = pre.length + 1 by simp)
    have HST := hid (HCH.out _ _ _ IV.out.2)
    have HDG := hid (HNUM.out _ _ _ IV.out.2).2
    have IVo : Hid (InvD J g n (pre ++ [(v, m)]) m wo) := hid ⟨⟨wo, hJ, Nat.le_trans hszB hin.size, Out.refl _ _ _⟩, hin.heap (HGB.out.heap IV.out.1.b) (Nat.le_refl _) (by omega), IV.out.1.len⟩
    rw [List.length_map] at HNM
    generalize pre ++ [(v, m)] = pre' at *
    clear hJ hin hyr HR HGB IV hszB
    gi_wp2_with fail
    gi_loopw [5] (fun t wi => ∃ (k : Nat) (mi : List Int), k ≤ n ∧ t = .int .i64 ((k : Int) - 1) ∧ Hid (InvD J g n pre' mi wi ∧ wi.cell? ⟨bk, 0, none⟩ = some (.int .i8 (K : Int)) ∧ stepFrom K k mi = rest.head? ∧ (∀ i, i < k → 0 ≤ mi.getD i 0 ∧ mi.getD i 0 < (K : Int)))) (fun t _ => (intOf t + 1).toNat)
    case atStart => exact ⟨n, m, Nat.le_refl _, by rw [show ((n : Int) - 1) = (k0 : Int) by rw [HK0.out]; omega], hid ⟨IVo.out, hck, by have := HST.out; unfold stepD at this; rw [IVo.out.len] at this; exact this, HDG.out⟩⟩
    case round =>
      clear IVo hck HDG
      obtain ⟨k, mi, hk, rfl, HI⟩ := hrel
      cases k with
      | zero =>
        have HE := hid (show rest = [] by
          have h := HI.out.2.2.1
          rw [stepFrom_zero] at h
          cases rest with
          | nil => rfl
          | cons a r => simp at h)
        have hz : ((0 : Nat) : Int) - 1 = -1 := by omega
        rw [hz]
        gi_wp2_with fail
        refine (wpIn_wide (n := 8)).2 ?_
        go_quiet (fail)
        gi_wp2_with fail
        refine bodyPost_ret (results_none rfl _ _ _) rfl ?_
        obtain ⟨A, hJ, hA, hO⟩ := HI.out.1.held
        rw [← HG.out]
        exact ⟨⟨_, rfl⟩, .inl ⟨g + 1, pre', A, by omega, hA, (by have := HEQ.out; rwa [HE.out, List.append_nil] at this), hJ, hO.drewN _⟩⟩
      | succ r =>
        have hz : ((r + 1 : Nat) : Int) - 1 = (r : Int) := by omega
        rw [hz]
        have hrn : r < n := hk
        have hcx := cell_ints HI.out.1.b (i := r) (by rw [HI.out.1.len]; exact hrn)
        have hck := HI.out.2.1
        have hfx : wr.frozen? ⟨g, r, none⟩ = false := frozen_of_row _ _ _ _ _ HI.out.1.b
        obtain ⟨d0, d1⟩ := HI.out.2.2.2 r (by omega)
        have HX := hid (show mi.getD r 0 = mi.getD r 0 from rfl)
        obtain ⟨x, hx⟩ : ∃ x, x = mi.getD r 0 := ⟨_, rfl⟩
        rw [← hx] at hcx d0 d1
        have HXE := hid hx
        clear hx HX
        have hb0 : (0 : Int) ≤ (r : Int) := by omega
        have hb1 : (r : Int) < (n : Int) := by omega
        have ek1 : IntKind.i8.wrap ((K : Int) - 1) = (K : Int) - 1 := IntWalk.i8_in _ (by omega)
        have er1 : IntKind.i64.wrap ((r : Int) - 1) = (r : Int) - 1 := IntWalk.i64_in _ (by omega)
        by_cases hxe : x = (K : Int) - 1
        · subst hxe
          gi_wp2_with fail
          refine (wpIn_wide (n := 8)).2 ?_
          go_quiet (fail)
          gi_wp2_with fail
          have hw : wr.drewN nq = wr.drewN nq := rfl
          refine ⟨⟨r, mi.set r 0, by omega, rfl, hid ⟨⟨?_, heap_int_set (w := wr.drewN nq) HI.out.1.b, by rw [List.length_set]; exact HI.out.1.len⟩, ?_, ?_, fun i hi => ?_⟩⟩, by simp [intOf]⟩
          · obtain ⟨A, hJ, hA, hO⟩ := HI.out.1.held
            exact ⟨A, hJ, hA, (hO.drewN _).setCell (p := ⟨g, r, none⟩) (Nat.le_refl _) (.inl (by dsimp only; omega)) _⟩
          · exact (World.cell?_of_block (w := wr) (Below.heap_setCell (wr.drewN nq) ⟨g, r, none⟩ _ bk (by dsimp only; omega))).trans hck
          · rw [← HI.out.2.2.1, stepFrom_end (HXE.out.symm)]
          · rw [getD_set_ne (by omega)]
            exact HI.out.2.2.2 i (by omega)
        · have hne : (x == (K : Int) - 1) = false := by simpa using hxe
          have ex1 : IntKind.i8.wrap (x + 1) = x + 1 := IntWalk.i8_in _ (by omega)
          gi_wp2_with fail
          refine (wpIn_wide (n := 8)).2 ?_
          go_quiet (fail)
          gi_wp2_with fail
          have hst : rest.head? = some (mi.set r (x + 1)) := by rw [← HI.out.2.2.1, stepFrom_on (by rw [← HXE.out]; exact hxe), ← HXE.out]
          obtain ⟨rest', hr'⟩ : ∃ rest', rest = mi.set r (x + 1) :: rest' := by
            cases rest with
            | nil => simp at hst
            | cons a q => simp at hst; exact ⟨q, by rw [hst]⟩
          have heq := HEQ.out
          rw [hr'] at heq
          have hb5 := heap_int_set (i := r) (x := x + 1) (w := wr.drewN nq) HI.out.1.b
          refine ⟨⟨pre', mi.set r (x + 1), rest', hid ⟨⟨?_, hb5, by rw [List.length_set]; exact HI.out.1.len⟩, heq⟩⟩, ?_⟩
          · obtain ⟨A, hJ, hA, hO⟩ := HI.out.1.held
            exact ⟨A, hJ, hA, (hO.drewN _).setCell (p := ⟨g, r, none⟩) (Nat.le_refl _) (.inl (by dsimp only; omega)) _⟩
          · have hn1 := HND.out _ _ _ heq
            have hlen := congrArg List.length heq
            rw [List.length_append, List.length_map, List.length_cons] at hlen
            rw [List.length_map] at hn1
            rw [intsIn_ints hb5, hn1, HMU.out, HNM.out]
            have := HPL.out
            omega
end Go.Proofs.YtfaiehjomcgjgaaDoor
