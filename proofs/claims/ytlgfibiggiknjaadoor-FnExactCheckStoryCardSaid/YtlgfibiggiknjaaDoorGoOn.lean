/- The account with which a story has the least faults: the program's function. -/
import Derived.Test.YtlgfibiggiknjaaDoorAccts
import Derived.Test.YtlgfibiggiknjaaDoorTab
namespace Go.Proofs.YtlgfibiggiknjaaDoor
set_option linter.unusedVariables false
open Go.RowKit
def optV : Option Acct → Value
  | none => .nilIface
  | some a => a.val
theorem val_nil (a : Acct) : ∀ V : World, (binOp BinOp.eql 128 a.val .nilIface).run Tryd.prog V = .ok (.bool false) V := by
  intro V
  cases a with
  | right i k => exact (show (binOp BinOp.eql 128 (.iface 190 (.agg #[.int .i64 i, .int .i64 k])) .nilIface).run Tryd.prog V = .ok (.bool false) V by kernel_rfl)
  | mis i k => exact (show (binOp BinOp.eql 128 (.iface 144 (.agg #[.int .i64 i, .int .i64 k])) .nilIface).run Tryd.prog V = .ok (.bool false) V by kernel_rfl)
  | drop i => exact (show (binOp BinOp.eql 128 (.iface 142 (.int .i64 i)) .nilIface).run Tryd.prog V = .ok (.bool false) V by kernel_rfl)
  | extra i => exact (show (binOp BinOp.eql 128 (.iface 191 (.int .i64 i)) .nilIface).run Tryd.prog V = .ok (.bool false) V by kernel_rfl)
theorem optV_nil (o : Option Acct) : ∀ V : World, (binOp BinOp.eql 128 (optV o) .nilIface).run Tryd.prog V = .ok (.bool o.isNone) V := by
  intro V
  cases o with
  | none => exact (show (binOp BinOp.eql 128 .nilIface .nilIface).run Tryd.prog V = .ok (.bool true) V by kernel_rfl)
  | some a => exact val_nil a V
theorem optV_guard (o : Option Acct) (x : Operand) : ∀ V : World, (eqGuard BinOp.eql 128 x (.const .nilIface) (optV o) .nilIface).run Tryd.prog V = .ok () V := by
  intro V
  cases o with
  | none => exact (show (eqGuard BinOp.eql 128 x (.const .nilIface) .nilIface .nilIface).run Tryd.prog V = .ok () V by cases x <;> rfl)
  | some a => cases a <;> rfl
theorem Tab.less {w : World} {lo tb N M : Nat} {T : Nat → Nat → Int} {i0 i1 i j i' j' : Nat} {rb : Nat → Nat} (h : Tab w lo tb N M T i0 i j rb) (h0 : i0 ≤ i1) (h1 : i < i' ∨ (i = i' ∧ j ≤ j')) : Tab w lo tb N M T i1 i' j' rb := by
  refine ⟨?_, fun r g1 g2 => ?_, fun r s g1 g2 g3 => h.apart r s (by omega) g2 g3, fun r g1 g2 => h.low r (by omega) g2, h.lot⟩
  · obtain ⟨cs, a, b, c⟩ := h.outer
    exact ⟨cs, a, b, fun r g1 g2 => c r (by omega) g2⟩
  · obtain ⟨xs, a, b, c⟩ := h.rows r (by omega) g2
    exact ⟨xs, a, b, fun q hq g => c q hq (by omega)⟩
theorem acct_next {es fs : List En} {i k : Nat} {a : Acct} (h : AccAt es fs i k a) : (i < a.ni i ∨ (a.ni i = i ∧ k + 1 ≤ a.nk k)) ∧ a.ni i ≤ es.length ∧ a.nk k ≤ fs.length ∨ (es.length < i ∨ fs.length < k) := by
  by_cases h0 : es.length < i ∨ fs.length < k
  · exact .inr h0
  · left
    rcases h with ⟨rfl, h1, h2, _⟩ | ⟨rfl, h1, h2, _⟩ | ⟨rfl, h1⟩ | ⟨rfl, h1⟩
    · rw [ni_right, nk_right]; omega
    · rw [ni_mis, nk_mis]; omega
    · rw [ni_drop, nk_drop]; omega
    · rw [ni_extra, nk_extra]; omega
theorem cost_range (a : Acct) : 0 ≤ a.cost ∧ a.cost ≤ 2 := by cases a <;> simp [Acct.cost]
set_option maxRecDepth 100000 in
set_option maxHeartbeats 4000000 in
theorem goOn_raw (a b : Option Addr) (n m ca cb : Nat) (es fs : List En) (i k : Nat) (hi : i ≤ n) (hk : k ≤ m) (hn6 : n ≤ 60) (hm6 : m ≤ 60) (w : World) (h2 : Logs2 w a b n m es fs) (lo tb cap : Nat) (rb : Nat → Nat) (ht : Tab w lo tb (n + 1) (m + 1) (costT es fs) i i (k + 1) rb) :
    Calls Tryd.prog 148 #[.agg (sidesC a b n m ca cb), .slice (some ⟨tb, 0, none⟩) (n + 1) cap, .int .i64 i, .int .i64 k] w fun e w' => e = .returned (.tuple #[optV (pickL (costT es fs) i k (accs es fs i k)).1, .int .i64 (pickL (costT es fs) i k (accs es fs i k)).2]) ∧ Gr w w' := by
  have HAC := hid (fun V (g : Gr w V) => accounts_any a b n m ca cb es fs i k (by omega) (by omega) V (h2.gr g))
  have HT := hid (fun V (g : Gr w V) => ht.gr g)
  have HAT := hid (fun x (h : x ∈ accs es fs i k) => accs_at h)
  have hll := accs_length es fs i k
  have HTB := hid (fun r c => costT_bd es fs r c (by rw [← h2.n_]; exact hn6) (by rw [← h2.m_]; exact hm6))
  have HN := hid h2.n_
  have HM := hid h2.m_
  generalize accs es fs i k = L at *
  unfold sidesC at HAC ⊢
  clear h2 ht
  obtain ⟨W1, hW1⟩ : ∃ W1, W1 = w.alloc (.cells #[.slice a n ca, .slice b m cb] 115) := ⟨_, rfl⟩
  have GW := hid (show Gr w W1 by rw [hW1]; exact (Gr.refl w).alloc _)
  have HW1 := hid hW1
  clear hW1
  go_enter Tryd.func148, Tryd.ntmps148
  go_wp2_with fail
  refine (HAC.out _ (by rw [← HW1.out]; exact GW.out)).mono ?_
  rintro e w1 ⟨v, rfl, o1, g1⟩
  rw [← HW1.out] at g1
  have G1 := hid (GW.out.trans g1)
  obtain ⟨av, cv, rfl⟩ := o1.shape
  have O1 := hid o1
  clear o1 g1 HAC
  go_wp2_with fail
  go_loopw [10, 11, 22] (fun bv lv jv wr => ∃ j : Nat, j ≤ L.length ∧ jv = .int .i64 j ∧ bv = optV (pickL (costT es fs) i k (L.take j)).1 ∧ lv = .int .i64 (pickL (costT es fs) i k (L.take j)).2 ∧ Hid (Gr w1 wr)) (fun _ _ jv _ => L.length - (intOf jv).toNat)
  case atStart => exact ⟨0, Nat.zero_le _, rfl, rfl, rfl, hid (Gr.refl _)⟩
  case round =>
    obtain ⟨j, hj, rfl, rfl, rfl, hg⟩ := hrel
    by_cases hlt : j < L.length
    · obtain ⟨x, hx⟩ : ∃ x, L[j]? = some x := ⟨_, List.getElem?_eq_getElem hlt⟩
      obtain ⟨gb, rfl, -, hc, -⟩ := (O1.out.gr hg.out).at_ (i := j) (u := x.val) (by simp [acVals, hx])
      have hat := HAT.out x (List.mem_of_getElem? hx)
      have HSN := hid (show pickL (costT es fs) i k (L.take (j + 1)) = pickStep (costT es fs) i k (pickL (costT es fs) i k (L.take j)) x by
        rw [List.take_add_one, hx, Option.toList_some, pickL_snoc])
      have hnx := acct_next hat
      rw [← HN.out, ← HM.out] at hnx
      have GG := hid (G1.out.trans hg.out)
      have HST := hid (show pickStep (costT es fs) i k (pickL (costT es fs) i k (L.take j)) x = if (pickL (costT es fs) i k (L.take j)).1.isNone = true ∨ x.cost + costT es fs (x.ni i) (x.nk k) < (pickL (costT es fs) i k (L.take j)).2 then (some x, x.cost + costT es fs (x.ni i) (x.nk k)) else pickL (costT es fs) i k (L.take j) from rfl)
      generalize pickL (costT es fs) i k (L.take j) = st at *
      rw [HST.out] at HSN
      clear HST
      have HBH := hid (fun V => behind_any x.fl x.se i k (by omega) (by omega) V)
      have HFI := hid (fun V => faultsIn_any x V)
      have hcr := cost_range x
      have htr := HTB.out (x.ni i) (x.nk k)
      obtain ⟨r, hr⟩ : ∃ r, x.ni i = r := ⟨_, rfl⟩
      obtain ⟨c, hcc⟩ : ∃ c, x.nk k = c := ⟨_, rfl⟩
      have hni : (if x.fl = -1 then i else i + 1) = r := hr
      have hnk : (if x.se = -1 then k else k + 1) = c := hcc
      rw [hni, hnk] at HBH
      rw [hr, hcc] at hnx htr HSN
      clear hni hnk hr hcc
      have HR0 := hid (fun V (g : Gr w V) => ((HT.out V g).row (r := r) (by omega) (by omega)))
      have HR1 := hid (fun V (g : Gr w V) => ((HT.out V g).cell (r := r) (c := c) (by omega) (by omega) (by omega) (by omega)))
      generalize costT es fs r c = t at *
      generalize x.cost = f at *
      have hr0 : (0 : Int) ≤ r := by omega
      have hr1 : (r : Int) < (n + 1 : Nat) := by omega
      have hc0 : (0 : Int) ≤ c := by omega
      have hc1 : (c : Int) < (m + 1 : Nat) := by omega
      have hb0 : (0 : Int) ≤ j := by omega
      have hb1 : (j : Int) < L.length := by omega
      have HNL := hid (optV_nil st.1)
      have HGD := hid (optV_guard st.1 (.tmp 44))
      obtain ⟨st1, st2⟩ := st
      simp only at HSN HNL HGD ⊢
      have hq := HNL.out
      have hgd := HGD.out
      generalize hbv : optV st1 = bv at *
      have HBV := hid hbv
      clear hbv HAT hx hat hnx
      generalize st1.isNone = q at *
      generalize rb r = rr at *
      cases x with
      | right i' k' =>
        have HS := hid (show ∀ V, Calls Tryd.prog 219 #[.agg #[.int .i64 i', .int .i64 k']] V (fun e w' => e = .returned (.agg #[.int .i64 i', .int .i64 k']) ∧ Gr V w') from fun V => stepR_any i' k' V)
        unfold Acct.fl Acct.se at HBH
        unfold Acct.val at hc HFI
        go_wp2_with fail
        refine (HS.out _).mono ?_
        rintro e w2 ⟨rfl, g2⟩
        have G2 := hid (hg.out.trans g2)
        clear g2
        go_wp2_with fail
        refine (HBH.out _).mono ?_
        rintro e w3 ⟨rfl, g3⟩
        have G3 := hid (G2.out.trans g3)
        have c0 := HR0.out w3 (G1.out.trans G3.out)
        have c1 := HR1.out w3 (G1.out.trans G3.out)
        clear g3
        go_wp2_with fail
        go_quiet ((go_at_call 111; exact Calls.quiet_of_same ((HFI.out _).mono fun _ _ h => ⟨h.1, h.2.symm⟩)))
        generalize hw4 : w3.drewN _ = w4 at *
        have G4 := hid (show Gr w1 w4 by rw [← hw4]; exact G3.out.drewN _)
        clear hw4 c0 c1
        cases q
        · by_cases hft : f + t < st2
          · have HY := hid (show pickL (costT es fs) i k (L.take (j + 1)) = (some (Acct.right i' k'), f + t) by rw [HSN.out, if_pos (.inr hft)])
            go_wp2_with fail
            go_roundw
            case rel => exact ⟨j + 1, by omega, by go_num, by rw [HY.out]; rfl, by rw [HY.out], G4⟩
            case measure => simp [intOf]; omega
          · have HY := hid (show pickL (costT es fs) i k (L.take (j + 1)) = (st1, st2) by rw [HSN.out, if_neg (by simp; omega)])
            go_wp2_with fail
            go_roundw
            case rel => exact ⟨j + 1, by omega, by go_num, by rw [HY.out]; exact HBV.out.symm, by rw [HY.out], G4⟩
            case measure => simp [intOf]; omega
        · have HY := hid (show pickL (costT es fs) i k (L.take (j + 1)) = (some (Acct.right i' k'), f + t) by rw [HSN.out, if_pos (.inl rfl)])
          go_wp2_with fail
          go_roundw
          case rel => exact ⟨j + 1, by omega, by go_num, by rw [HY.out]; rfl, by rw [HY.out], G4⟩
          case measure => simp [intOf]; omega
      | mis i' k' =>
        have HS := hid (show ∀ V, Calls Tryd.prog 216 #[.agg #[.int .i64 i', .int .i64 k']] V (fun e w' => e = .returned (.agg #[.int .i64 i', .int .i64 k']) ∧ Gr V w') from fun V => stepM_any i' k' V)
        unfold Acct.fl Acct.se at HBH
        unfold Acct.val at hc HFI
        go_wp2_with fail
        refine (HS.out _).mono ?_
        rintro e w2 ⟨rfl, g2⟩
        have G2 := hid (hg.out.trans g2)
        clear g2
        go_wp2_with fail
        refine (HBH.out _).mono ?_
        rintro e w3 ⟨rfl, g3⟩
        have G3 := hid (G2.out.trans g3)
        have c0 := HR0.out w3 (G1.out.trans G3.out)
        have c1 := HR1.out w3 (G1.out.trans G3.out)
        clear g3
        go_wp2_with fail
        go_quiet ((go_at_call 111; exact Calls.quiet_of_same ((HFI.out _).mono fun _ _ h => ⟨h.1, h.2.symm⟩)))
        generalize hw4 : w3.drewN _ = w4 at *
        have G4 := hid (show Gr w1 w4 by rw [← hw4]; exact G3.out.drewN _)
        clear hw4 c0 c1
        cases q
        · by_cases hft : f + t < st2
          · have HY := hid (show pickL (costT es fs) i k (L.take (j + 1)) = (some (Acct.mis i' k'), f + t) by rw [HSN.out, if_pos (.inr hft)])
            go_wp2_with fail
            go_roundw
            case rel => exact ⟨j + 1, by omega, by go_num, by rw [HY.out]; rfl, by rw [HY.out], G4⟩
            case measure => simp [intOf]; omega
          · have HY := hid (show pickL (costT es fs) i k (L.take (j + 1)) = (st1, st2) by rw [HSN.out, if_neg (by simp; omega)])
            go_wp2_with fail
            go_roundw
            case rel => exact ⟨j + 1, by omega, by go_num, by rw [HY.out]; exact HBV.out.symm, by rw [HY.out], G4⟩
            case measure => simp [intOf]; omega
        · have HY := hid (show pickL (costT es fs) i k (L.take (j + 1)) = (some (Acct.mis i' k'), f + t) by rw [HSN.out, if_pos (.inl rfl)])
          go_wp2_with fail
          go_roundw
          case rel => exact ⟨j + 1, by omega, by go_num, by rw [HY.out]; rfl, by rw [HY.out], G4⟩
          case measure => simp [intOf]; omega
      | drop i' =>
        have HS := hid (show ∀ V, Calls Tryd.prog 215 #[.int .i64 i'] V (fun e w' => e = .returned (.agg #[.int .i64 i', .int .i64 (-1)]) ∧ Gr V w') from fun V => stepD_any i' V)
        unfold Acct.fl Acct.se at HBH
        unfold Acct.val at hc HFI
        go_wp2_with fail
        refine (HS.out _).mono ?_
        rintro e w2 ⟨rfl, g2⟩
        have G2 := hid (hg.out.trans g2)
        clear g2
        go_wp2_with fail
        refine (HBH.out _).mono ?_
        rintro e w3 ⟨rfl, g3⟩
        have G3 := hid (G2.out.trans g3)
        have c0 := HR0.out w3 (G1.out.trans G3.out)
        have c1 := HR1.out w3 (G1.out.trans G3.out)
        clear g3
        go_wp2_with fail
        go_quiet ((go_at_call 111; exact Calls.quiet_of_same ((HFI.out _).mono fun _ _ h => ⟨h.1, h.2.symm⟩)))
        generalize hw4 : w3.drewN _ = w4 at *
        have G4 := hid (show Gr w1 w4 by rw [← hw4]; exact G3.out.drewN _)
        clear hw4 c0 c1
        cases q
        · by_cases hft : f + t < st2
          · have HY := hid (show pickL (costT es fs) i k (L.take (j + 1)) = (some (Acct.drop i'), f + t) by rw [HSN.out, if_pos (.inr hft)])
            go_wp2_with fail
            go_roundw
            case rel => exact ⟨j + 1, by omega, by go_num, by rw [HY.out]; rfl, by rw [HY.out], G4⟩
            case measure => simp [intOf]; omega
          · have HY := hid (show pickL (costT es fs) i k (L.take (j + 1)) = (st1, st2) by rw [HSN.out, if_neg (by simp; omega)])
            go_wp2_with fail
            go_roundw
            case rel => exact ⟨j + 1, by omega, by go_num, by rw [HY.out]; exact HBV.out.symm, by rw [HY.out], G4⟩
            case measure => simp [intOf]; omega
        · have HY := hid (show pickL (costT es fs) i k (L.take (j + 1)) = (some (Acct.drop i'), f + t) by rw [HSN.out, if_pos (.inl rfl)])
          go_wp2_with fail
          go_roundw
          case rel => exact ⟨j + 1, by omega, by go_num, by rw [HY.out]; rfl, by rw [HY.out], G4⟩
          case measure => simp [intOf]; omega
      | extra k' =>
        have HS := hid (show ∀ V, Calls Tryd.prog 220 #[.int .i64 k'] V (fun e w' => e = .returned (.agg #[.int .i64 (-1), .int .i64 k']) ∧ Gr V w') from fun V => stepE_any k' V)
        unfold Acct.fl Acct.se at HBH
        unfold Acct.val at hc HFI
        go_wp2_with fail
        refine (HS.out _).mono ?_
        rintro e w2 ⟨rfl, g2⟩
        have G2 := hid (hg.out.trans g2)
        clear g2
        go_wp2_with fail
        refine (HBH.out _).mono ?_
        rintro e w3 ⟨rfl, g3⟩
        have G3 := hid (G2.out.trans g3)
        have c0 := HR0.out w3 (G1.out.trans G3.out)
        have c1 := HR1.out w3 (G1.out.trans G3.out)
        clear g3
        go_wp2_with fail
        go_quiet ((go_at_call 111; exact Calls.quiet_of_same ((HFI.out _).mono fun _ _ h => ⟨h.1, h.2.symm⟩)))
        generalize hw4 : w3.drewN _ = w4 at *
        have G4 := hid (show Gr w1 w4 by rw [← hw4]; exact G3.out.drewN _)
        clear hw4 c0 c1
        cases q
        · by_cases hft : f + t < st2
          · have HY := hid (show pickL (costT es fs) i k (L.take (j + 1)) = (some (Acct.extra k'), f + t) by rw [HSN.out, if_pos (.inr hft)])
            go_wp2_with fail
            go_roundw
            case rel => exact ⟨j + 1, by omega, by go_num, by rw [HY.out]; rfl, by rw [HY.out], G4⟩
            case measure => simp [intOf]; omega
          · have HY := hid (show pickL (costT es fs) i k (L.take (j + 1)) = (st1, st2) by rw [HSN.out, if_neg (by simp; omega)])
            go_wp2_with fail
            go_roundw
            case rel => exact ⟨j + 1, by omega, by go_num, by rw [HY.out]; exact HBV.out.symm, by rw [HY.out], G4⟩
            case measure => simp [intOf]; omega
        · have HY := hid (show pickL (costT es fs) i k (L.take (j + 1)) = (some (Acct.extra k'), f + t) by rw [HSN.out, if_pos (.inl rfl)])
          go_wp2_with fail
          go_roundw
          case rel => exact ⟨j + 1, by omega, by go_num, by rw [HY.out]; rfl, by rw [HY.out], G4⟩
          case measure => simp [intOf]; omega
    · obtain rfl : j = L.length := by omega
      have HR := hid (show L.take L.length = L from List.take_length)
      rw [HR.out]
      generalize hst : pickL (costT es fs) i k L = st at *
      obtain ⟨st1, st2⟩ := st
      have HP := hid hst
      clear hst
      simp only
      generalize hbv : optV st1 = bv at *
      have HBV := hid hbv
      clear hbv
      go_wp2_with fail
      go_ret2
      exact ⟨by rw [HP.out]; show _ = Ending.returned (.tuple #[optV st1, .int .i64 st2]); rw [HBV.out]; rfl, G1.out.trans hg.out⟩
theorem goOn_any (a b : Option Addr) (n m ca cb : Nat) (es fs : List En) (i k : Nat) (hi : i ≤ n) (hk : k ≤ m) (hn6 : n ≤ 60) (hm6 : m ≤ 60) (w : World) (h2 : Logs2 w a b n m es fs) (lo tb cap : Nat) (rb : Nat → Nat) (ht : Tab w lo tb (n + 1) (m + 1) (costT es fs) i i (k + 1) rb) :
    Calls Tryd.prog 148 #[.agg (sidesC a b n m ca cb), .slice (some ⟨tb, 0, none⟩) (n + 1) cap, .int .i64 i, .int .i64 k] w fun e w' => e = .returned (.tuple #[optV (if i < n ∨ k < m then some (pickA es fs i k) else none), .int .i64 (costT es fs i k)]) ∧ Gr w w' := by
  have h := goOn_raw a b n m ca cb es fs i k hi hk hn6 hm6 w h2 lo tb cap rb ht
  rw [pick_eq, ← h2.n_, ← h2.m_] at h
  by_cases hc : i < n ∨ k < m
  · rw [if_pos hc] at h ⊢; exact h
  · rw [if_neg hc] at h ⊢
    have h0 : costT es fs i k = 0 := by rw [costT, if_neg (by rw [← h2.n_]; omega), if_neg (by rw [← h2.m_]; omega)]
    rw [h0]; exact h
end Go.Proofs.YtlgfibiggiknjaaDoor
