/- CheckStory: what is told. -/
import Derived.Test.YtlgfibiggiknjaaDoorCheckM
import Derived.Test.YtlgfibiggiknjaaDoorStory
import Derived.Test.YtlgfibiggiknjaaDoorReplyInt7
import Derived.Deep.RegionHeld3
namespace Go.Proofs.YtlgfibiggiknjaaDoor
set_option linter.unusedVariables false
open Go.RowKit
set_option maxRecDepth 100000 in
set_option maxHeartbeats 2000000 in
theorem stepIs_any (x : Acct) (X Y : Int) (g : Nat) (w : World) (hg : w.heap[g]? = some (.cells #[.int .i64 X, .int .i64 Y] 112 (0, 0))) :
    Calls Tryd.prog 110 #[x.val, .pointer (some ⟨g, 0, none⟩)] w fun e w' => e = .returned (.bool (isP (X, Y) x)) ∧ Gr w w' := by
  have HG := hid hg
  have HQ := hid (show isP (X, Y) x = ((x.fl == X) && (x.se == Y)) from rfl)
  clear hg
  cases x with
  | right i' k' =>
    have HST := hid (show ∀ V, Calls Tryd.prog 219 #[.agg #[.int .i64 i', .int .i64 k']] V (fun e w' => e = .returned (.agg #[.int .i64 i', .int .i64 k']) ∧ Gr V w') from fun V => stepR_any i' k' V)
    simp only [Acct.fl, Acct.se] at HQ
    unfold Acct.val
    generalize isP (X, Y) (Acct.right i' k') = r at *
    cases e0 : ((i' : Int) == X) <;> cases e1 : ((k' : Int) == Y)
    all_goals
      have HR := hid (show r = _ by rw [HQ.out, e0, e1])
      clear HQ
      go_enter Tryd.func110, Tryd.ntmps110
      go_wp2_with fail
      refine wp_region_held_drew (S := fun V => V.heap[g]? = some (.cells #[.int .i64 X, .int .i64 Y] 112 (0, 0)) ∧ Gr w V) (by kernel_rfl) ⟨HG.out, (Gr.refl w).drew⟩ (fun hH => ?_)
      have HH := hid hH
      clear hH
      refine wpAnyH_take (i := 0) (v := .iface 190 (.agg #[.int .i64 i', .int .i64 k'])) rfl (by kernel_rfl) (by kernel_rfl) (by kernel_rfl) (fun _ _ _ h => h) (Or.inl ⟨by rfl, fun _ _ => by first | rfl | (go_simp; done) | (go_simp; rfl) | (go_simp; intro h; exfalso; omega)⟩) HH.out ?_
      simp only [Act.put, List.getElem_toArray, List.getElem_cons_zero, List.setIfInBounds_toArray, List.set_cons_zero, List.set_cons_succ]
      refine wpAnyH_take (i := 2) (v := .agg #[.int .i64 X, .int .i64 Y]) rfl (by kernel_rfl) (by kernel_rfl) (by kernel_rfl) (fun _ _ _ h => h) (yieldsIf_load_mid rfl 112 (.tmp 1) rfl g (0) rfl [.int .i64 X, .int .i64 Y] _ (fun V hV => rangeAt_vals (vs := [.int .i64 X, .int .i64 Y]) hV.1) Tryd.underlying112 rfl (by kernel_rfl)) HH.out ?_
      simp only [Act.put, List.getElem_toArray, List.getElem_cons_zero, List.getElem_cons_succ, List.setIfInBounds_toArray, List.set_cons_zero, List.set_cons_succ]
      refine wpAnyH_ready (rs := [1]) (by kernel_rfl) (by simp) (AllReadyH.cons rfl (fun KK hKK => ?_) AllReadyH.nil)
      rw [if_pos (by rfl)]
      go_simp
      refine (HST.out _).mono ?_
      rintro e V ⟨rfl, gV⟩
      dsimp only
      refine hKK.out _ _ ⟨gV.heap HH.out.1, HH.out.2.trans gV⟩ (fun hH => ?_)
      clear HH hKK KK
      have HH := hid hH
      clear hH
      refine wpAnyH_take (i := 3) (v := .bool (((i' : Int) == X) && ((k' : Int) == Y))) rfl (by kernel_rfl) (by kernel_rfl) (by kernel_rfl) (fun _ _ _ h => h) (Or.inl ⟨by rfl, fun V hV => by (first | (go_simp; done) | (go_simp; rfl))⟩) HH.out ?_
      simp only [Act.put, List.getElem_toArray, List.getElem_cons_zero, List.getElem_cons_succ, List.setIfInBounds_toArray, List.set_cons_zero, List.set_cons_succ]
      refine wpAnyH_take (i := 4) (v := .bool (((i' : Int) == X) && ((k' : Int) == Y))) rfl (by kernel_rfl) (by kernel_rfl) (by kernel_rfl) (fun _ _ _ h => h) (Or.inl ⟨by rfl, fun _ _ => by first | rfl | (go_simp; done) | (go_simp; rfl) | (go_simp; intro h; exfalso; omega)⟩) HH.out ?_
      simp only [Act.put, List.getElem_toArray, List.getElem_cons_zero, List.getElem_cons_succ, List.setIfInBounds_toArray, List.set_cons_zero, List.set_cons_succ]
      refine wpAnyH_done (by kernel_rfl) ?_ _
      go_wp2_with fail
      go_ret
      exact ⟨ret_bool (by rw [HR.out, e0, e1]), HH.out.2⟩
  | mis i' k' =>
    have HST := hid (show ∀ V, Calls Tryd.prog 216 #[.agg #[.int .i64 i', .int .i64 k']] V (fun e w' => e = .returned (.agg #[.int .i64 i', .int .i64 k']) ∧ Gr V w') from fun V => stepM_any i' k' V)
    simp only [Acct.fl, Acct.se] at HQ
    unfold Acct.val
    generalize isP (X, Y) (Acct.mis i' k') = r at *
    cases e0 : ((i' : Int) == X) <;> cases e1 : ((k' : Int) == Y)
    all_goals
      have HR := hid (show r = _ by rw [HQ.out, e0, e1])
      clear HQ
      go_enter Tryd.func110, Tryd.ntmps110
      go_wp2_with fail
      refine wp_region_held_drew (S := fun V => V.heap[g]? = some (.cells #[.int .i64 X, .int .i64 Y] 112 (0, 0)) ∧ Gr w V) (by kernel_rfl) ⟨HG.out, (Gr.refl w).drew⟩ (fun hH => ?_)
      have HH := hid hH
      clear hH
      refine wpAnyH_take (i := 0) (v := .iface 144 (.agg #[.int .i64 i', .int .i64 k'])) rfl (by kernel_rfl) (by kernel_rfl) (by kernel_rfl) (fun _ _ _ h => h) (Or.inl ⟨by rfl, fun _ _ => by first | rfl | (go_simp; done) | (go_simp; rfl) | (go_simp; intro h; exfalso; omega)⟩) HH.out ?_
      simp only [Act.put, List.getElem_toArray, List.getElem_cons_zero, List.setIfInBounds_toArray, List.set_cons_zero, List.set_cons_succ]
      refine wpAnyH_take (i := 2) (v := .agg #[.int .i64 X, .int .i64 Y]) rfl (by kernel_rfl) (by kernel_rfl) (by kernel_rfl) (fun _ _ _ h => h) (yieldsIf_load_mid rfl 112 (.tmp 1) rfl g (0) rfl [.int .i64 X, .int .i64 Y] _ (fun V hV => rangeAt_vals (vs := [.int .i64 X, .int .i64 Y]) hV.1) Tryd.underlying112 rfl (by kernel_rfl)) HH.out ?_
      simp only [Act.put, List.getElem_toArray, List.getElem_cons_zero, List.getElem_cons_succ, List.setIfInBounds_toArray, List.set_cons_zero, List.set_cons_succ]
      refine wpAnyH_ready (rs := [1]) (by kernel_rfl) (by simp) (AllReadyH.cons rfl (fun KK hKK => ?_) AllReadyH.nil)
      rw [if_pos (by rfl)]
      go_simp
      refine (HST.out _).mono ?_
      rintro e V ⟨rfl, gV⟩
      dsimp only
      refine hKK.out _ _ ⟨gV.heap HH.out.1, HH.out.2.trans gV⟩ (fun hH => ?_)
      clear HH hKK KK
      have HH := hid hH
      clear hH
      refine wpAnyH_take (i := 3) (v := .bool (((i' : Int) == X) && ((k' : Int) == Y))) rfl (by kernel_rfl) (by kernel_rfl) (by kernel_rfl) (fun _ _ _ h => h) (Or.inl ⟨by rfl, fun V hV => by (first | (go_simp; done) | (go_simp; rfl))⟩) HH.out ?_
      simp only [Act.put, List.getElem_toArray, List.getElem_cons_zero, List.getElem_cons_succ, List.setIfInBounds_toArray, List.set_cons_zero, List.set_cons_succ]
      refine wpAnyH_take (i := 4) (v := .bool (((i' : Int) == X) && ((k' : Int) == Y))) rfl (by kernel_rfl) (by kernel_rfl) (by kernel_rfl) (fun _ _ _ h => h) (Or.inl ⟨by rfl, fun _ _ => by first | rfl | (go_simp; done) | (go_simp; rfl) | (go_simp; intro h; exfalso; omega)⟩) HH.out ?_
      simp only [Act.put, List.getElem_toArray, List.getElem_cons_zero, List.getElem_cons_succ, List.setIfInBounds_toArray, List.set_cons_zero, List.set_cons_succ]
      refine wpAnyH_done (by kernel_rfl) ?_ _
      go_wp2_with fail
      go_ret
      exact ⟨ret_bool (by rw [HR.out, e0, e1]), HH.out.2⟩
  | drop i' =>
    have HST := hid (show ∀ V, Calls Tryd.prog 215 #[.int .i64 i'] V (fun e w' => e = .returned (.agg #[.int .i64 i', .int .i64 (-1)]) ∧ Gr V w') from fun V => stepD_any i' V)
    simp only [Acct.fl, Acct.se] at HQ
    unfold Acct.val
    generalize isP (X, Y) (Acct.drop i') = r at *
    cases e0 : ((i' : Int) == X) <;> cases e1 : (((-1) : Int) == Y)
    all_goals
      have HR := hid (show r = _ by rw [HQ.out, e0, e1])
      clear HQ
      go_enter Tryd.func110, Tryd.ntmps110
      go_wp2_with fail
      refine wp_region_held_drew (S := fun V => V.heap[g]? = some (.cells #[.int .i64 X, .int .i64 Y] 112 (0, 0)) ∧ Gr w V) (by kernel_rfl) ⟨HG.out, (Gr.refl w).drew⟩ (fun hH => ?_)
      have HH := hid hH
      clear hH
      refine wpAnyH_take (i := 0) (v := .iface 142 (.int .i64 i')) rfl (by kernel_rfl) (by kernel_rfl) (by kernel_rfl) (fun _ _ _ h => h) (Or.inl ⟨by rfl, fun _ _ => by first | rfl | (go_simp; done) | (go_simp; rfl) | (go_simp; intro h; exfalso; omega)⟩) HH.out ?_
      simp only [Act.put, List.getElem_toArray, List.getElem_cons_zero, List.setIfInBounds_toArray, List.set_cons_zero, List.set_cons_succ]
      refine wpAnyH_take (i := 2) (v := .agg #[.int .i64 X, .int .i64 Y]) rfl (by kernel_rfl) (by kernel_rfl) (by kernel_rfl) (fun _ _ _ h => h) (yieldsIf_load_mid rfl 112 (.tmp 1) rfl g (0) rfl [.int .i64 X, .int .i64 Y] _ (fun V hV => rangeAt_vals (vs := [.int .i64 X, .int .i64 Y]) hV.1) Tryd.underlying112 rfl (by kernel_rfl)) HH.out ?_
      simp only [Act.put, List.getElem_toArray, List.getElem_cons_zero, List.getElem_cons_succ, List.setIfInBounds_toArray, List.set_cons_zero, List.set_cons_succ]
      refine wpAnyH_ready (rs := [1]) (by kernel_rfl) (by simp) (AllReadyH.cons rfl (fun KK hKK => ?_) AllReadyH.nil)
      rw [if_pos (by rfl)]
      go_simp
      refine (HST.out _).mono ?_
      rintro e V ⟨rfl, gV⟩
      dsimp only
      refine hKK.out _ _ ⟨gV.heap HH.out.1, HH.out.2.trans gV⟩ (fun hH => ?_)
      clear HH hKK KK
      have HH := hid hH
      clear hH
      refine wpAnyH_take (i := 3) (v := .bool (((i' : Int) == X) && (((-1) : Int) == Y))) rfl (by kernel_rfl) (by kernel_rfl) (by kernel_rfl) (fun _ _ _ h => h) (Or.inl ⟨by rfl, fun V hV => by (first | (go_simp; done) | (go_simp; rfl))⟩) HH.out ?_
      simp only [Act.put, List.getElem_toArray, List.getElem_cons_zero, List.getElem_cons_succ, List.setIfInBounds_toArray, List.set_cons_zero, List.set_cons_succ]
      refine wpAnyH_take (i := 4) (v := .bool (((i' : Int) == X) && (((-1) : Int) == Y))) rfl (by kernel_rfl) (by kernel_rfl) (by kernel_rfl) (fun _ _ _ h => h) (Or.inl ⟨by rfl, fun _ _ => by first | rfl | (go_simp; done) | (go_simp; rfl) | (go_simp; intro h; exfalso; omega)⟩) HH.out ?_
      simp only [Act.put, List.getElem_toArray, List.getElem_cons_zero, List.getElem_cons_succ, List.setIfInBounds_toArray, List.set_cons_zero, List.set_cons_succ]
      refine wpAnyH_done (by kernel_rfl) ?_ _
      go_wp2_with fail
      go_ret
      exact ⟨ret_bool (by rw [HR.out, e0, e1]), HH.out.2⟩
  | extra k' =>
    have HST := hid (show ∀ V, Calls Tryd.prog 220 #[.int .i64 k'] V (fun e w' => e = .returned (.agg #[.int .i64 (-1), .int .i64 k']) ∧ Gr V w') from fun V => stepE_any k' V)
    simp only [Acct.fl, Acct.se] at HQ
    unfold Acct.val
    generalize isP (X, Y) (Acct.extra k') = r at *
    cases e0 : (((-1) : Int) == X) <;> cases e1 : ((k' : Int) == Y)
    all_goals
      have HR := hid (show r = _ by rw [HQ.out, e0, e1])
      clear HQ
      go_enter Tryd.func110, Tryd.ntmps110
      go_wp2_with fail
      refine wp_region_held_drew (S := fun V => V.heap[g]? = some (.cells #[.int .i64 X, .int .i64 Y] 112 (0, 0)) ∧ Gr w V) (by kernel_rfl) ⟨HG.out, (Gr.refl w).drew⟩ (fun hH => ?_)
      have HH := hid hH
      clear hH
      refine wpAnyH_take (i := 0) (v := .iface 191 (.int .i64 k')) rfl (by kernel_rfl) (by kernel_rfl) (by kernel_rfl) (fun _ _ _ h => h) (Or.inl ⟨by rfl, fun _ _ => by first | rfl | (go_simp; done) | (go_simp; rfl) | (go_simp; intro h; exfalso; omega)⟩) HH.out ?_
      simp only [Act.put, List.getElem_toArray, List.getElem_cons_zero, List.setIfInBounds_toArray, List.set_cons_zero, List.set_cons_succ]
      refine wpAnyH_take (i := 2) (v := .agg #[.int .i64 X, .int .i64 Y]) rfl (by kernel_rfl) (by kernel_rfl) (by kernel_rfl) (fun _ _ _ h => h) (yieldsIf_load_mid rfl 112 (.tmp 1) rfl g (0) rfl [.int .i64 X, .int .i64 Y] _ (fun V hV => rangeAt_vals (vs := [.int .i64 X, .int .i64 Y]) hV.1) Tryd.underlying112 rfl (by kernel_rfl)) HH.out ?_
      simp only [Act.put, List.getElem_toArray, List.getElem_cons_zero, List.getElem_cons_succ, List.setIfInBounds_toArray, List.set_cons_zero, List.set_cons_succ]
      refine wpAnyH_ready (rs := [1]) (by kernel_rfl) (by simp) (AllReadyH.cons rfl (fun KK hKK => ?_) AllReadyH.nil)
      rw [if_pos (by rfl)]
      go_simp
      refine (HST.out _).mono ?_
      rintro e V ⟨rfl, gV⟩
      dsimp only
      refine hKK.out _ _ ⟨gV.heap HH.out.1, HH.out.2.trans gV⟩ (fun hH => ?_)
      clear HH hKK KK
      have HH := hid hH
      clear hH
      refine wpAnyH_take (i := 3) (v := .bool ((((-1) : Int) == X) && ((k' : Int) == Y))) rfl (by kernel_rfl) (by kernel_rfl) (by kernel_rfl) (fun _ _ _ h => h) (Or.inl ⟨by rfl, fun V hV => by (first | (go_simp; done) | (go_simp; rfl))⟩) HH.out ?_
      simp only [Act.put, List.getElem_toArray, List.getElem_cons_zero, List.getElem_cons_succ, List.setIfInBounds_toArray, List.set_cons_zero, List.set_cons_succ]
      refine wpAnyH_take (i := 4) (v := .bool ((((-1) : Int) == X) && ((k' : Int) == Y))) rfl (by kernel_rfl) (by kernel_rfl) (by kernel_rfl) (fun _ _ _ h => h) (Or.inl ⟨by rfl, fun _ _ => by first | rfl | (go_simp; done) | (go_simp; rfl) | (go_simp; intro h; exfalso; omega)⟩) HH.out ?_
      simp only [Act.put, List.getElem_toArray, List.getElem_cons_zero, List.getElem_cons_succ, List.setIfInBounds_toArray, List.set_cons_zero, List.set_cons_succ]
      refine wpAnyH_done (by kernel_rfl) ?_ _
      go_wp2_with fail
      go_ret
      exact ⟨ret_bool (by rw [HR.out, e0, e1]), HH.out.2⟩
/-- Where the first one is that is so. -/
def IdxPost (p : Acct → Bool) (L : List Acct) (w : World) (e : Ending) (w' : World) : Prop := Gr w w' ∧ ((∃ (j : Nat) (x : Acct), L[j]? = some x ∧ L.find? p = some x ∧ e = .returned (.int .i64 (j : Int))) ∨ (L.find? p = none ∧ e = .returned (.int .i64 (-1))))
set_option maxRecDepth 100000 in
set_option maxHeartbeats 2000000 in
theorem indexAcc_any (K : FuncId) (caps : Array Value) (p : Acct → Bool) (L : List Acct) (a : Option Addr) (n c : Nat) (hl : n = L.length) (hn : n ≤ 100) (hK : ∀ (args : Array Value) (w : World), (callFunc K args).run Tryd.prog w = .ok (.enter K args) w) (w : World) (ha : CellsOf w a (acVals L))
    (HP : ∀ x V, Gr w V → Calls Tryd.prog K (#[x.val] ++ caps) V fun e w' => e = .returned (.bool (p x)) ∧ Gr V w') :
    Calls Tryd.prog 109 #[.slice a n c, .func (.func K) #[] caps] w (IdxPost p L w) := by
  have HA := hid ha
  have HQ := hid HP
  have HL := hid hl
  clear ha HP hl
  go_enter Tryd.func109, Tryd.ntmps109
  go_wp2_with fail
  go_loopw [8] (fun jv wr => ∃ j : Nat, j ≤ n ∧ jv = .int .i64 j ∧ Hid ((L.drop j).find? p = L.find? p) ∧ Hid (Gr w wr)) (fun jv _ => n - (intOf jv).toNat)
  case atStart => exact ⟨0, Nat.zero_le _, rfl, hid rfl, hid (Gr.refl _)⟩
  case round =>
    obtain ⟨j, hj, rfl, hF, hg⟩ := hrel
    by_cases hlt : j < n
    · obtain ⟨x, hx⟩ : ∃ x, L[j]? = some x := ⟨_, List.getElem?_eq_getElem (by rw [← HL.out]; exact hlt)⟩
      obtain ⟨b, off, rfl, hc⟩ := (HA.out.gr hg.out).at_ (i := j) (v := x.val) (by simp [acVals, hx])
      have HD := hid (show L.drop j = x :: L.drop (j + 1) by rw [List.drop_eq_getElem_cons (by rw [← HL.out]; exact hlt)]; congr 1; rw [List.getElem?_eq_getElem (by rw [← HL.out]; exact hlt)] at hx; exact Option.some.inj hx)
      have HC := hid (HQ.out x wr hg.out)
      have HX := hid hx
      have HFY := hid (fun (h : p x = true) => show L.find? p = some x by rw [← hF.out, HD.out, List.find?_cons_of_pos h])
      have HFN := hid (fun (h : p x = false) => show (L.drop (j + 1)).find? p = L.find? p by rw [← hF.out, HD.out, List.find?_cons_of_neg (by simp [h])])
      generalize p x = q at *
      have hb0 : (0 : Int) ≤ j := by omega
      have hb1 : (j : Int) < n := by omega
      clear hx
      generalize hxv : x.val = xv at *
      clear hxv
      go_wp2_with fail
      refine HC.out.mono ?_
      rintro e w2 ⟨rfl, g2⟩
      have G2 := hid (hg.out.trans g2)
      clear g2
      cases q
      · have HN := hid (HFN.out rfl)
        clear HFY HFN
        go_wp2_with fail
        go_roundw
        case rel => exact ⟨j + 1, by omega, by go_num, HN, G2⟩
        case measure => simp [intOf]; omega
      · have HY := hid (HFY.out rfl)
        clear HFY HFN
        go_wp2_with fail
        go_ret
        exact ⟨G2.out, Or.inl ⟨j, x, HX.out, HY.out, rfl⟩⟩
    · obtain rfl : j = n := by omega
      have HE := hid (show L.find? p = none by rw [← hF.out, HL.out, List.drop_length]; rfl)
      go_wp2_with fail
      go_ret
      exact ⟨hg.out, Or.inr ⟨HE.out, rfl⟩⟩
set_option maxRecDepth 100000 in
set_option maxHeartbeats 1000000 in
theorem chTell_pan (a b : Option Addr) (n m ca cb : Nat) (es fs : List En) (hf : EnFits es) (hg : EnFits fs) (hv : valid2 es fs = false) (sp : Addr) (lp tp : Addr) (w : World) (hlp : w.cell? lp = some (.slice a n ca)) (htp : w.cell? tp = some (.slice b m cb)) (h2 : Logs2 w a b n m es fs) :
    Calls Tryd.prog 107 #[.pointer (some lp), .pointer (some tp), .pointer (some sp)] w fun e w' => e = .panicked [{ v := .iface 177 (.int .i64 (bad2 es fs)), recovered := false }] ∧ Gr w w' := by
  have HS := hid (sidesOf_any a b n m ca cb es fs hf hg w h2)
  rw [hv] at HS
  clear h2 hf hg hv
  go_enter Tryd.func107, Tryd.ntmps107
  go_wp2_with fail
  refine HS.out.mono ?_
  rintro e w1 (⟨h, -⟩ | ⟨-, rfl, g1⟩)
  · cases h
  · have G1 := hid g1
    clear g1
    go_wp2_with fail
    exact ⟨rfl, rfl, G1.out⟩
def ChkRet (r : Option Int) (x : Int) (w : World) (e : Ending) (w' : World) : Prop := Gr w w' ∧ ((∃ f, r = some f ∧ e = .returned (.tuple #[.int .i64 f, .nilIface])) ∨ (r = none ∧ e = .returned (.tuple #[.int .i64 0, .iface 136 (.int .i64 x)])))
set_option maxRecDepth 100000 in
set_option maxHeartbeats 4000000 in
theorem chTell_any (a b : Option Addr) (n m ca cb : Nat) (es fs : List En) (hf : EnFits es) (hg : EnFits fs) (hv : valid2 es fs = true) (c : Option Addr) (l cc : Nat) (ss : List (Int × Int)) (hl : l = ss.length) (hl2 : l ≤ 1048576) (sp : Addr) (lp tp : Addr) (w : World) (hlp : w.cell? lp = some (.slice a n ca)) (htp : w.cell? tp = some (.slice b m cb)) (h2 : Logs2 w a b n m es fs) (hsp : w.cell? sp = some (.slice c l cc)) (hc : CellsOf w c (flCells ss)) :
    Calls Tryd.prog 107 #[.pointer (some lp), .pointer (some tp), .pointer (some sp)] w (ChkRet (ckEnd es fs ss) (ckBad es fs ss) w) := by
  have hmf : ∀ (fn : Fn) (first cap : Array Value) (w : World), (Instr.makeFunc fn first cap).run Tryd.prog w = .ok (.func fn first cap) w := fun _ _ _ _ => rfl
  have HS := hid (sidesOf_any a b n m ca cb es fs hf hg w h2)
  rw [hv] at HS
  have h60 := valid2_60 hv
  have H2 := hid h2
  have HN := hid h2.n_
  have HM := hid h2.m_
  have hn6 : n ≤ 60 := by rw [h2.n_]; exact h60.1
  have hm6 : m ≤ 60 := by rw [h2.m_]; exact h60.2
  have HCC := hid hc
  have HSP := hid hsp
  have HLP := hid hlp
  have HTP := hid htp
  have HL := hid hl
  have HK : ∀ (args : Array Value) (w : World), (callFunc 110 args).run Tryd.prog w = .ok (.enter 110 args) w := fun args w => callFunc_enter Tryd.func110 (by kernel_rfl) (by kernel_rfl) args w
  have HKK := hid HK
  clear h2 hf hg hv h60 hc hl HK
  unfold sidesC at HS
  go_enter Tryd.func107, Tryd.ntmps107
  go_wp2_with fail
  refine HS.out.mono ?_
  rintro e w1 (⟨-, rfl, g1⟩ | ⟨h, -⟩)
  · have G1 := hid g1
    have csp := g1.cell HSP.out
    obtain ⟨W2, hW2⟩ : ∃ W2, W2 = w1.alloc (.cells #[.slice a n ca, .slice b m cb] 115) := ⟨_, rfl⟩
    have G2 := hid (show Gr w W2 by rw [hW2]; exact G1.out.alloc _)
    have B2 := hid (show W2.heap[w1.heap.size]? = some (.cells #[.slice a n ca, .slice b m cb] 115 (0, 0)) by rw [hW2]; exact heap_new rfl)
    have csp2 : W2.cell? sp = some (.slice c l cc) := G2.out.cell HSP.out
    have HW2 := hid hW2
    clear g1 hlp htp hsp hW2
    go_upto_region 3 with (fail)
    rw [← HW2.out]
    clear csp
    go_wp2_with fail
    go_loopw [6, 7, 8, 18] (fun fv iv kv jv wr => ∃ (j : Nat) (ck : Ck), j ≤ l ∧ jv = .int .i64 j ∧ fv = .int .i64 ck.f ∧ iv = .int .i64 ck.i ∧ kv = .int .i64 ck.k ∧ Hid (ckTo es fs ss j = some ck) ∧ Hid (Gr W2 wr)) (fun _ _ _ jv _ => l - (intOf jv).toNat)
    case atStart => exact ⟨0, ⟨0, 0, 0⟩, Nat.zero_le _, rfl, rfl, rfl, rfl, hid rfl, hid (Gr.refl _)⟩
    case round =>
      clear csp2
      obtain ⟨j, ck, hj, rfl, rfl, rfl, rfl, hT, hg⟩ := hrel
      have hr := ckTo_range hT.out
      rw [← HN.out, ← HM.out] at hr
      have B3 := hid (hg.out.heap B2.out)
      by_cases hlt : j < l
      · have hlt2 : j < ss.length := by rw [← HL.out]; exact hlt
        obtain ⟨sb, so, rfl, rg⟩ := sp_at (HCC.out.gr (G2.out.trans hg.out)) hlt2
        have RG := hid rg
        have HFAIL := hid (fun h => ckTo_fail hT.out h hlt2)
        have HGO := hid (fun x h => ckTo_go (a := x) hT.out h)
        have HBAD := hid (fun h => ckBad_at hT.out h hlt2)
        generalize flAt ss j = xy at *
        obtain ⟨X, Y⟩ := xy
        obtain ⟨ci, ci_k, cf⟩ := ck
        simp only at hr HFAIL HGO HBAD RG ⊢
        have HAC := hid (fun V (g : Gr w V) => accounts_any a b n m ca cb es fs ci ci_k (by omega) (by omega) V (H2.out.gr g))
        have hal := accs_length es fs ci ci_k
        generalize accs es fs ci ci_k = L at *
        unfold sidesC at HAC
        obtain ⟨W3, hW3⟩ : ∃ W3, W3 = wr.alloc (.cells #[.int .i64 X, .int .i64 Y] 112) := ⟨_, rfl⟩
        have G3 := hid (show Gr wr W3 by rw [hW3]; exact (Gr.refl wr).alloc _)
        have B4 := hid (show W3.heap[wr.heap.size]? = some (.cells #[.int .i64 X, .int .i64 Y] 112 (0, 0)) by rw [hW3]; exact heap_new rfl)
        have HW3 := hid hW3
        have hb0 : (0 : Int) ≤ j := by omega
        have hb1 : (j : Int) < l := by omega
        clear rg hT hW3 hlt2
        go_upto_region 6 with (refine wpList_load_mid rfl 112 _ rfl sb (so + j * 2) rfl _ _ RG.out Tryd.underlying112 rfl (by kernel_rfl) ?_)
        rw [← HW3.out]
        have RS := hid (show W3.rangeAt w1.heap.size 0 [.slice a n ca, .slice b m cb] from rangeAt_vals (vs := [.slice a n ca, .slice b m cb]) (G3.out.heap B3.out))
        go_wp2_with (refine wpList_load_mid rfl 115 _ rfl w1.heap.size 0 rfl _ _ RS.out Tryd.underlying115 rfl (by kernel_rfl) ?_)
        refine (HAC.out _ (G2.out.trans (hg.out.trans G3.out))).mono ?_
        rintro e w4 ⟨v, rfl, o4, g4⟩
        have G4 := hid (G3.out.trans g4)
        obtain ⟨av, cv, rfl⟩ := o4.shape
        have O4 := hid o4
        have B5 := hid (g4.heap B4.out)
        have HIX := hid (indexAcc_any 110 #[.pointer (some ⟨wr.heap.size, 0, none⟩)] (isP (X, Y)) L av L.length cv rfl (by omega) HKK.out w4 o4.reads (fun x V g => stepIs_any x X Y wr.heap.size V (g.heap B5.out)))
        clear g4 o4 HAC B4
        go_wp2_with fail
        refine HIX.out.mono ?_
        rintro e w5 ⟨g5, (⟨q, x, hx, hfind, rfl⟩ | ⟨hfind, rfl⟩)⟩
        · have G5 := hid (G4.out.trans g5)
          have B6 := hid (g5.heap B5.out)
          have hql : q < L.length := (List.getElem?_eq_some_iff.1 hx).1
          obtain ⟨gb, rfl, -, hcx, -⟩ := (O4.out.gr g5).at_ (i := q) (u := x.val) (by simp [acVals, hx])
          have HT2 := hid (HGO.out x hfind)
          have HFI := hid (fun V => faultsIn_any x V)
          have hcr := cost_range x
          have RS6 := hid (show w5.rangeAt wr.heap.size 0 [.int .i64 X, .int .i64 Y] from rangeAt_vals (vs := [.int .i64 X, .int .i64 Y]) B6.out)
          have HXY := hid (show x.fl = X ∧ x.se = Y by
            have h := List.find?_some hfind
            unfold isP at h
            simpa using h)
          have HBH := hid (fun V => behind_any X Y ci ci_k (by omega) (by omega) V)
          have HNI := hid (show (if X = -1 then ci else ci + 1) = x.ni ci by unfold Acct.ni; rw [HXY.out.1])
          have HNK := hid (show (if Y = -1 then ci_k else ci_k + 1) = x.nk ci_k by unfold Acct.nk; rw [HXY.out.2])
          rw [HNI.out, HNK.out] at HBH
          generalize x.cost = f at *
          generalize x.ni ci = i2 at *
          generalize x.nk ci_k = k2 at *
          generalize hxv : x.val = xv at *
          have hq0 : (0 : Int) ≤ q := by omega
          have hq1 : (q : Int) < L.length := by omega
          clear g5 hfind hx hxv HNI HNK HXY HFAIL HGO HBAD
          go_wp2_with fail
          refine (HFI.out _).mono ?_
          rintro e w6 ⟨rfl, rfl⟩
          go_wp2_with (refine wpList_load_mid rfl 112 _ rfl wr.heap.size 0 rfl _ _ RS6.out Tryd.underlying112 rfl (by kernel_rfl) ?_)
          refine (HBH.out _).mono ?_
          rintro e w7 ⟨rfl, g7⟩
          have G7 := hid (hg.out.trans (G5.out.trans g7))
          clear g7
          go_wp2_with fail
          go_roundw
          case rel => exact ⟨j + 1, _, by omega, by go_num, rfl, rfl, rfl, HT2, G7⟩
          case measure => simp [intOf]; omega
        · have HE := hid (HFAIL.out hfind)
          have HB2 := hid (HBAD.out hfind)
          have G5 := hid (G2.out.trans (hg.out.trans (G4.out.trans g5)))
          clear g5 hfind HFAIL HGO HBAD
          go_wp2_with fail
          go_ret2
          exact ⟨G5.out, Or.inr ⟨HE.out, by rw [HB2.out]; rfl⟩⟩
      · obtain rfl : j = l := by omega
        have HEND := hid (show ckEnd es fs ss = if ck.i < n ∨ ck.k < m then none else some ck.f by unfold ckEnd; rw [← HL.out, hT.out, HN.out, HM.out]; rfl)
        have HB2 := hid (show ckBad es fs ss = (j : Int) by rw [HL.out]; exact ckBad_end (c := ck) (by rw [← HL.out]; exact hT.out))
        obtain ⟨ci, ci_k, cf⟩ := ck
        simp only at hr HEND ⊢
        have GG := hid (G2.out.trans hg.out)
        have c0 := GG.out.cell HLP.out
        have c1 := GG.out.cell HTP.out
        have c2 := GG.out.cell HSP.out
        by_cases hi : ci < n
        · have HE := hid (show ckEnd es fs ss = none by rw [HEND.out, if_pos (.inl hi)])
          clear HEND hT
          go_wp2_with fail
          go_quiet (fail)
          go_wp2_with fail
          go_ret2
          exact ⟨GG.out.drewN _, Or.inr ⟨HE.out, by rw [HB2.out]; rfl⟩⟩
        · by_cases hk : ci_k < m
          · have HE := hid (show ckEnd es fs ss = none by rw [HEND.out, if_pos (.inr hk)])
            clear HEND hT
            go_wp2_with fail
            go_quiet (fail)
            go_wp2_with fail
            go_ret2
            exact ⟨GG.out.drewN _, Or.inr ⟨HE.out, by rw [HB2.out]; rfl⟩⟩
          · have HE := hid (show ckEnd es fs ss = some cf by rw [HEND.out, if_neg (fun h => h.elim hi hk)])
            clear HEND hT
            go_wp2_with fail
            go_ret2
            exact ⟨GG.out, Or.inl ⟨cf, HE.out, rfl⟩⟩
  · cases h
end Go.Proofs.YtlgfibiggiknjaaDoor
