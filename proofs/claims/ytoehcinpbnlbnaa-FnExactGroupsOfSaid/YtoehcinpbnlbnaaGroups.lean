/- GroupsOf: what the program's function does. -/
import Derived.Test.YtoehcinpbnlbnaaOwnS
import Derived.Test.YtoehcinpbnlbnaaHoistU
namespace Go.Proofs.Ytoehcinpbnlbnaa
open Go.RowKit
/-- The groups that end before k. -/
def gTo (xs : List Int) : Nat → List (List Int)
  | 0 => []
  | k + 1 => if xs.getD k 0 = -10 then gTo xs k ++ [partL xs (startOf xs k) k] else gTo xs k
def groupsV (xs : List Int) : List (List Int) := gTo xs xs.length ++ [partL xs (startOf xs xs.length) xs.length]
def upTo (xs : List Int) (k : Nat) : List (List Int) := if k ≤ xs.length then gTo xs k else groupsV xs
theorem gTo_brk {xs : List Int} {k : Nat} (h : xs.getD k 0 = -10) : gTo xs (k + 1) = gTo xs k ++ [partL xs (startOf xs k) k] := by simp only [gTo]; rw [if_pos h]
theorem gTo_no {xs : List Int} {k : Nat} (h : ¬ xs.getD k 0 = -10) : gTo xs (k + 1) = gTo xs k := by simp only [gTo]; rw [if_neg h]
theorem gTo_length (xs : List Int) (k : Nat) : (gTo xs k).length ≤ k := by
  induction k with
  | zero => simp [gTo]
  | succ k ih =>
    simp only [gTo]
    split
    · rw [List.length_append, List.length_singleton]; omega
    · omega
theorem upTo_le {xs : List Int} {k : Nat} (h : k ≤ xs.length) : upTo xs k = gTo xs k := by unfold upTo; rw [if_pos h]
theorem upTo_all (xs : List Int) : upTo xs (xs.length + 1) = groupsV xs := by unfold upTo; rw [if_neg (by omega)]
theorem infoM : (Try.prog.info? 26).map (fun i => (i.zero, i.size, i.bytes)) = some (some (.slice none 0 0), 1, 24) := by kernel_rfl
def RetOwnS (c : Int) (xss : List (List Int)) (w : World) (r : Ending) (w' : World) : Prop :=
  ∃ v vs, r = .returned (withCode c v) ∧ OwnS w' w.heap.size w'.heap.size v vs xss ∧ Gr w w'
theorem cell_one1 (w : World) (v : Value) (t : TypeId) : ∀ j u, [v][j]? = some u → (w.alloc (.cells #[v] t)).cell? ((⟨w.heap.size, 0, none⟩ : Addr).add j) = some u := by
  intro j u hj
  match j, hj with
  | 0, hj => simp at hj; subst hj; simp [Addr.add]
set_option maxRecDepth 100000 in
set_option maxHeartbeats 4000000 in
theorem impl_GroupsOf_yes (a : Option Addr) (n cap : Nat) (xs : List Int) (hn : n = xs.length) (hcap : n ≤ cap) (hf : Fits .i8 xs) (hv : plainH xs = true) (w : World) (hs : SliceOf .i8 w a xs) :
    Calls Try.prog 14 #[.slice a n cap] w (RetOwnS 0 (groupsV xs) w) := by
  obtain ⟨hn1, hn8⟩ := validH_len (plainH_valid hv)
  rw [← hn] at hn1 hn8
  have HV := hid (fun (V : World) (g : Gr w V) => impl_ValidMeaning_cap a n cap xs hn (by omega) hcap hf V (hs.gr g))
  have HAB := hid (fun (p : Nat) (hp : p ≤ n) (V : World) (g : Gr w V) => aboveMeaning_any a n cap xs hn (by omega) hcap p hp V (hs.gr g))
  have HOK := hid (fun (p : Nat) (hp : p < xs.length) => validH_at (plainH_valid hv) hp)
  have HS := hid hs
  have HN := hid hn
  rw [hv] at HV
  have e0 : IntKind.i64.wrap ((n : Int) + 1) = (n : Int) + 1 := IntWalk.i64_in _ (by omega)
  clear hf hv hs hn
  obtain ⟨i0, hi, hz0, hz1, hz2⟩ := info_parts infoM
  go_enter Try.func14, Try.ntmps14
  go_wp2_with fail
  refine (HV.out w (Gr.refl w)).mono ?_
  rintro e w1 ⟨rfl, g1⟩
  have G1 := hid g1
  clear g1
  go_wp2_with fail
  go_loopw [4, 12] (fun v i wr => ∃ k : Nat, ∃ vs, k ≤ n + 1 ∧ i = .int .i64 k ∧ Hid (OwnS wr w.heap.size wr.heap.size v vs (upTo xs k)) ∧ Hid (Gr w wr)) (fun _ i _ => n + 1 - (intOf i).toNat)
  case atStart => exact ⟨0, [], Nat.zero_le _, rfl, hid (by rw [upTo_le (Nat.zero_le _)]; exact OwnS.nil _ _ _), G1⟩
  case round =>
    obtain ⟨k, vs, hk, rfl, ow, GR⟩ := hrel
    by_cases hle : k ≤ n
    · have HLE := hid (show (upTo xs k).length ≤ 8 by rw [upTo_le (by rw [← HN.out]; exact hle)]; have := gTo_length xs k; omega)
      by_cases hlt : k < n
      · have hlt' : k < xs.length := by rw [← HN.out]; exact hlt
        have hne : ((k : Int) == (n : Int)) = false := by simp; omega
        obtain ⟨b0, o0, rfl, h0⟩ := HS.out k hlt'
        have hc0 := GR.out.cell h0
        clear h0
        by_cases hb : xs.getD k 0 = -10
        · have hst : startOf xs k < k := by
            have h := HOK.out k hlt'
            rw [okAt_brk (brkI_iff.2 hb)] at h
            simp only [Bool.and_eq_true, decide_eq_true_eq] at h
            exact h.1
          have HE := hid (show upTo xs (k + 1) = upTo xs k ++ [partL xs (startOf xs k) k] by rw [upTo_le (by omega), upTo_le (by omega), gTo_brk hb])
          rw [hb] at hc0
          clear hlt' hb
          have hpl := partL_length (xs := xs) (i := startOf xs k) (j := k) (startOf_le xs k) (by rw [← HN.out]; omega)
          have HCL := hid (fun (ap : Option Addr) (V : World) (h : SliceOf .i8 V ap (partL xs (startOf xs k) k)) => cloneMeaning_any ap (k - startOf xs k) (k - startOf xs k) _ hpl.symm (by omega) (by omega) V h)
          clear hpl hst
          go_wp2_with fail
          refine (HAB.out k (by omega) _ GR.out).mono ?_
          rintro e w' ⟨ap, rfl, hsp, rfl⟩
          go_wp2_with fail
          refine (HCL.out ap _ hsp).mono ?_
          rintro e w2 ⟨u, rfl, ou, g2⟩
          obtain ⟨au, cu, rfl⟩ := ou.shape
          have OU := hid ou
          have G2 := hid g2
          have OW2 := hid ((ow.out.gr g2).gr ((Gr.refl _).alloc (.cells #[.slice au (partL xs (startOf xs k) k).length cu] 26)))
          clear ou g2 hsp
          go_wp2_with (at_builtin; refine wpList_append_own _ rfl _ _ 23 rfl w.heap.size 26 i0 (.slice none 0 0) 1 24 Try.underlying23 hi hz0 hz1 hz2 rfl (by decide) _ _ _ rfl OW2.out.row ⟨w2.heap.size, 0, none⟩ 1 1 [.slice au (partL xs (startOf xs k) k).length cu] rfl rfl (cell_one1 _ _ _) (by simp [Value.oneCell']) (by unfold maxLen; have := HLE.out; omega) (by have := HLE.out; omega) (by have := GR.out.size; have := G2.out.size; simp; omega) ?_)
          intro v3 w3 hown3 hgrow3 _
          have OW3 := hid (OwnS.snoc OW2.out GR.out.size (OU.out.gr ((Gr.refl _).alloc _)) hown3 hgrow3)
          have GW3 := hid (((GR.out.trans G2.out).alloc _).by_ hgrow3 (fun b e => (OW2.out.row.lt b e).1))
          clear hown3 hgrow3
          go_wp2_with fail
          go_roundw
          case rel => exact ⟨k + 1, vs ++ [.slice au (partL xs (startOf xs k) k).length cu], by omega, by go_num, hid (by rw [HE.out]; exact OW3.out), GW3⟩
          case measure => simp [intOf] <;> omega
        · have HE := hid (show upTo xs (k + 1) = upTo xs k by rw [upTo_le (by omega), upTo_le (by omega), gTo_no hb])
          have hbx : (xs.getD k 0 == -10) = false := by simpa using hb
          generalize xs.getD k 0 = x at *
          clear hlt'
          go_wp2_with fail
          go_roundw
          case rel => exact ⟨k + 1, vs, by omega, by go_num, hid (by rw [HE.out]; exact ow.out), GR⟩
          case measure => simp [intOf] <;> omega
      · obtain rfl : k = n := by omega
        have hst : startOf xs k < k := by
          obtain ⟨j, hj⟩ : ∃ j, k = j + 1 := ⟨k - 1, by omega⟩
          have hjl : j < xs.length := by rw [← HN.out]; omega
          rw [hj]
          by_cases hb : xs.getD j 0 = -10
          · have h := HOK.out j hjl
            rw [okAt_brk (brkI_iff.2 hb)] at h
            simp only [Bool.and_eq_true, decide_eq_true_eq] at h
            have := HN.out
            omega
          · rw [startOf_no hb]
            have := startOf_le xs j
            omega
        have HE := hid (show upTo xs (k + 1) = upTo xs k ++ [partL xs (startOf xs k) k] by rw [HN.out, upTo_all, upTo_le (Nat.le_refl _)]; rfl)
        have hpl := partL_length (xs := xs) (i := startOf xs k) (j := k) (startOf_le xs k) (by rw [← HN.out]; omega)
        have HCL := hid (fun (ap : Option Addr) (V : World) (h : SliceOf .i8 V ap (partL xs (startOf xs k) k)) => cloneMeaning_any ap (k - startOf xs k) (k - startOf xs k) _ hpl.symm (by omega) (by omega) V h)
        clear hpl hst
        go_wp2_with fail
        refine (HAB.out k (by omega) _ GR.out).mono ?_
        rintro e w' ⟨ap, rfl, hsp, rfl⟩
        go_wp2_with fail
        refine (HCL.out ap _ hsp).mono ?_
        rintro e w2 ⟨u, rfl, ou, g2⟩
        obtain ⟨au, cu, rfl⟩ := ou.shape
        have OU := hid ou
        have G2 := hid g2
        have OW2 := hid ((ow.out.gr g2).gr ((Gr.refl _).alloc (.cells #[.slice au (partL xs (startOf xs k) k).length cu] 26)))
        clear ou g2 hsp
        go_wp2_with (at_builtin; refine wpList_append_own _ rfl _ _ 23 rfl w.heap.size 26 i0 (.slice none 0 0) 1 24 Try.underlying23 hi hz0 hz1 hz2 rfl (by decide) _ _ _ rfl OW2.out.row ⟨w2.heap.size, 0, none⟩ 1 1 [.slice au (partL xs (startOf xs k) k).length cu] rfl rfl (cell_one1 _ _ _) (by simp [Value.oneCell']) (by unfold maxLen; have := HLE.out; omega) (by have := HLE.out; omega) (by have := GR.out.size; have := G2.out.size; simp; omega) ?_)
        intro v3 w3 hown3 hgrow3 _
        have OW3 := hid (OwnS.snoc OW2.out GR.out.size (OU.out.gr ((Gr.refl _).alloc _)) hown3 hgrow3)
        have GW3 := hid (((GR.out.trans G2.out).alloc _).by_ hgrow3 (fun b e => (OW2.out.row.lt b e).1))
        clear hown3 hgrow3
        go_wp2_with fail
        go_roundw
        case rel => exact ⟨k + 1, vs ++ [.slice au (partL xs (startOf xs k) k).length cu], by omega, by go_num, hid (by rw [HE.out]; exact OW3.out), GW3⟩
        case measure => simp [intOf] <;> omega
    · have HE := hid (show upTo xs k = groupsV xs by rw [show k = xs.length + 1 by rw [← HN.out]; omega, upTo_all])
      go_wp2_with fail
      go_ret2
      exact ⟨_, vs, rfl, by rw [← HE.out]; exact ow.out, GR.out⟩
def groupsL (xs : List Int) : List (List Int) := if plainH xs then groupsV xs else []
def groupsC (xs : List Int) : Int := if plainH xs then 0 else 1
set_option maxRecDepth 100000 in
set_option maxHeartbeats 4000000 in
theorem impl_GroupsOf_cap (a : Option Addr) (n cap : Nat) (xs : List Int) (hn : n = xs.length) (hm : n ≤ 1048576) (hcap : n ≤ cap) (hf : Fits .i8 xs) (w : World) (hs : SliceOf .i8 w a xs) :
    Calls Try.prog 14 #[.slice a n cap] w (RetOwnS (groupsC xs) (groupsL xs) w) := by
  cases hv : plainH xs with
  | true =>
    have h := impl_GroupsOf_yes a n cap xs hn hcap hf hv w hs
    unfold groupsC groupsL
    rw [hv]
    exact h
  | false =>
    have HV := hid (fun (V : World) (g : Gr w V) => impl_ValidMeaning_cap a n cap xs hn hm hcap hf V (hs.gr g))
    rw [hv] at HV
    have HC := hid (show groupsC xs = 1 by unfold groupsC; rw [hv]; rfl)
    have HG := hid (show groupsL xs = [] by unfold groupsL; rw [hv]; rfl)
    rw [HC.out, HG.out]
    clear hv hs hf hn HC HG
    go_enter Try.func14, Try.ntmps14
    go_wp2_with fail
    refine (HV.out w (Gr.refl w)).mono ?_
    rintro e w1 ⟨rfl, g1⟩
    have G1 := hid g1
    clear g1
    go_wp2_with fail
    go_ret2
    exact ⟨_, [], rfl, OwnS.nil _ _ _, G1.out⟩
end Go.Proofs.Ytoehcinpbnlbnaa
