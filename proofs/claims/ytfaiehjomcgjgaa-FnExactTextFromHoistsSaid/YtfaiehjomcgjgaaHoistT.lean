/- MeaningOf, WithoutSubs: the functions. -/
import Derived.Test.YtfaiehjomcgjgaaHoistS
namespace Go.Proofs.Ytfaiehjomcgjgaa
set_option linter.unusedVariables false
open Go.RowKit
def codeH (xs : List Int) : Int := if validH xs then 0 else 1
theorem codeH_yes {xs : List Int} (h : validH xs = true) : codeH xs = 0 := by unfold codeH; rw [if_pos h]
theorem codeH_no {xs : List Int} (h : validH xs = false) : codeH xs = 1 := by unfold codeH; rw [if_neg (by rw [h]; simp)]
theorem Own.capLe {k : IntKind} {e : TypeId} {w : World} {lo hi n cap : Nat} {a : Option Addr} {xs : List Int} (h : Own k e w lo hi (.slice a n cap) xs) : n ≤ cap := by
  have hl := h.len
  subst hl
  rcases h.row.2 with ⟨h1, h2⟩ | ⟨g', cap', cur, h1, _, _, h2, _⟩
  · omega
  · simp only [Value.slice.injEq] at h1
    obtain ⟨_, _, rfl⟩ := h1
    exact h2
theorem ret_nil {k : IntKind} {e : TypeId} {w w1 : World} (g : Gr w w1) (mk : Value → Value) : RetOwn k e mk [] w (.returned (mk (.slice none 0 0))) w1 := ⟨_, rfl, Own.nil _ _ _, g⟩

set_option maxRecDepth 100000 in
set_option maxHeartbeats 1000000 in
theorem spec_MeaningOf_any (a : Option Addr) (xs : List Int) (hm : xs.length ≤ 1048576) (hf : Fits .i8 xs) (w : World) (hs : SliceOf .i8 w a xs) :
    Calls Try.prog 11 #[.slice a xs.length xs.length] w (RetOwn .i8 49 (withCode (codeH xs)) (readL xs) w) := by
  have h := hid (l02Read_any a _ xs.length xs rfl hm hf w hs)
  clear hs hf
  cases hv : validH xs
  · rw [codeH_no hv, readL_no hv]
    rw [hv, readL_no hv] at h
    clear hv
    go_enter Try.func11, Try.ntmps11
    go_wp2_with fail
    refine h.out.mono ?_
    rintro e w' ⟨v, rfl, -, g⟩
    have G := hid g
    clear g
    unfold withOk
    go_wp2_with fail
    go_ret2
    exact ret_empty G.out _
  · rw [codeH_yes hv]
    rw [hv] at h
    clear hv
    generalize readL xs = ys at *
    go_enter Try.func11, Try.ntmps11
    go_wp2_with fail
    refine h.out.mono ?_
    rintro e w' ⟨v, rfl, o, g⟩
    have G := hid g
    have O := hid o
    clear g o
    unfold withOk
    go_wp2_with fail
    go_ret2
    exact ⟨_, rfl, O.out, G.out⟩
set_option maxRecDepth 100000 in
set_option maxHeartbeats 1000000 in
theorem cloneHoist_any (a : Option Addr) (n cap : Nat) (xs : List Int) (hn : n = xs.length) (h1 : 1 ≤ n) (hm : n ≤ 1048576) (w : World) (hs : SliceOf .i8 w a xs) :
    Calls Try.prog 27 #[.slice a n cap] w (RetOwn .i8 49 (fun v => v) xs w) := by
  obtain ⟨i0, hi, hz0, hz1, hz2⟩ := info_parts infoI8
  obtain ⟨b, off, rfl, _⟩ := hs 0 (by omega)
  have hnews : ∀ j u, (xs.map (Value.int .i8))[j]? = some u → (w.alloc (.cells #[] 49)).cell? ((⟨b, off, none⟩ : Addr).add j) = some u := by
    intro j u hu
    rw [List.getElem?_map] at hu
    cases hx : xs[j]? with
    | none => rw [hx] at hu; cases hu
    | some x =>
      rw [hx] at hu
      have hjl : j < xs.length := (List.getElem?_eq_some_iff.1 hx).1
      obtain ⟨b', off', e, hc⟩ := hs j hjl
      simp only [Option.some.injEq, Addr.mk.injEq] at e
      obtain ⟨rfl, rfl, _⟩ := e
      have hadd : (⟨b, off, none⟩ : Addr).add j = ⟨b, off + j, none⟩ := by unfold Addr.add; split <;> simp_all
      rw [hadd, ((Gr.refl w).alloc _).cell hc]
      simp only [Option.map_some, Option.some.injEq] at hu
      rw [← hu]
      simp [List.getD, hx]
  have NEWS := hid hnews
  have HN := hid hn
  have ROW := hid (Own.new (k := .i8) (e := 49) w [] (by simp)).row
  have hone : ∀ u ∈ xs.map (Value.int .i8), u.oneCell' = true := by
    intro u hu; simp only [List.mem_map] at hu; obtain ⟨x, _, rfl⟩ := hu; rfl
  have ONE := hid hone
  have HL := hid (show (xs.map (Value.int .i8)).length = n * 1 by rw [List.length_map, ← hn, Nat.mul_one])
  clear hs hn hnews hone
  have hnil := fun (w : World) => Lib.run_eql_slice_nil (P := Try.prog) w 33 49 (some ⟨b, off, none⟩) n cap 0 0 Try.underlying33
  go_enter Try.func27, Try.ntmps27
  go_wp2_with (at_builtin; refine wpList_append_own _ rfl _ _ 33 rfl w.heap.size 49 i0 (.int .i8 0) 1 1 Try.underlying33 hi hz0 hz1 hz2 rfl (by decide) _ _ _ rfl ROW.out ⟨b, off, none⟩ n cap (xs.map (Value.int .i8)) rfl HL.out NEWS.out ONE.out (by unfold maxLen; simp; omega) (by simp; omega) (by simp) ?_; intro v' w1 hown' hgrow _)
  have O := hid (Own.ofRow (k := .i8) (xs := xs) hown' rfl (by rw [← HN.out]; simp))
  have G := hid (((Gr.refl w).alloc (.cells #[] 49)).by_ hgrow (fun k e => by have e' : some w.heap.size = some k := e; simp only [Option.some.injEq] at e'; omega))
  clear hown' hgrow
  go_wp2_with fail
  go_ret
  exact ⟨_, rfl, O.out, G.out⟩

set_option maxRecDepth 100000 in
set_option maxHeartbeats 2000000 in
theorem meaning_any (a : Option Addr) (n cap : Nat) (xs : List Int) (hn : n = xs.length) (hm : n ≤ 1048576) (hf : Fits .i8 xs) (hv : validH xs = true) (w : World) (hs : SliceOf .i8 w a xs) :
    Calls Try.prog 17 #[.slice a n cap] w (RetOwn .i8 49 (fun v => v) (meanL xs) w) := by
  have hl := validH_len hv
  rw [← hn] at hl
  obtain ⟨h1, h8⟩ := hl
  have hcl := hid (cloneHoist_any a n cap xs hn h1 hm w hs)
  have HN := hid hn
  have HF := hid hf
  have HA := hid (validH_all hv)
  clear hs hn hf hv
  go_enter Try.func17, Try.ntmps17
  go_wp2_with fail
  refine hcl.out.mono ?_
  rintro e w1 ⟨v, rfl, o, g⟩
  obtain ⟨am, cm, rfl⟩ := o.shape
  rw [← HN.out] at o ⊢
  have hcm := o.capLe
  have hlo := g.size
  have O := hid o
  have G := hid g
  clear o g hcl
  dsimp only
  generalize hlo' : w.heap.size = lo at *
  generalize hhi' : w1.heap.size = hi at *
  have HLO := hid hlo'
  have HHI := hid hhi'
  clear hlo' hhi'
  go_wp2_with fail
  go_loopw [10] (fun i wr => ∃ k : Nat, k ≤ n ∧ i = .int .i64 k ∧ Hid (Own .i8 49 wr lo hi (.slice am n cm) (mixTo xs k)) ∧ Hid (Gr w wr) ∧ Hid (hi ≤ wr.heap.size)) (fun i _ => n - (intOf i).toNat)
  case atStart => exact ⟨0, Nat.zero_le _, rfl, hid (by rw [mixTo_zero]; exact O.out), G, hid (by rw [HHI.out]; exact Nat.le_refl _)⟩
  case round =>
    clear O G
    obtain ⟨k, hk, rfl, O, G, HS⟩ := hrel
    by_cases hlt : k < n
    · have hlx : k < xs.length := by rw [← HN.out]; exact hlt
      have hml := mixTo_length (h := xs) (k := k) (by omega)
      obtain ⟨g, rfl, hgb, hc, hfz⟩ := O.out.at_ (i := k) (by rw [hml]; exact hlx)
      rw [mixTo_ge (Nat.le_refl _)] at hc
      obtain ⟨h0, h1'⟩ := HF.out.get8 k
      cases hsb : subI (xs.getD k 0)
      · have OK := hid (mixTo_keep hlx hsb)
        clear hml hlx hgb
        generalize xs.getD k 0 = x at *
        go_wp2_with (go_at_call 28; refine (isSub_any _ h0 h1' _).mono ?_; rintro e w' ⟨rfl, rfl⟩)
        go_roundw
        case rel => exact ⟨k + 1, by omega, by go_num, by rw [← OK.out]; exact O, G, HS⟩
        case measure => simp [intOf] <;> omega
      · obtain ⟨x0, x1⟩ := subI_iff.1 hsb
        have hak := allTo_upto HA.out (show k ≤ xs.length by omega)
        obtain ⟨hs1, hs2⟩ := okAt_sub (allTo_iff.1 HA.out k hlx) hsb
        have hab := aboveMeaning_any (some ⟨g, 0, none⟩) n cm (mixTo xs k) (by rw [hml, HN.out]) hm hcm k (by omega) wr O.out.reads
        unfold RetPart at hab
        rw [startOf_mix hak] at hab
        have hst := mixTo_step hlx (meanTo_sub hsb)
        obtain ⟨j, hj⟩ : ∃ j : Nat, xs.getD k 0 = -(j : Int) - 1 := ⟨(-(xs.getD k 0)).toNat - 1, by omega⟩
        have hjn : (-(xs.getD k 0)).toNat = j + 1 := by omega
        have hj126 : (j : Int) ≤ 3 := by omega
        rw [hjn] at hs1 hst
        have hpg := partL_get (xs := mixTo xs k) (i := startOf xs k) (j := k) (k := j) (by rw [hml]; omega) (by omega)
        have hpl := partL_length (xs := mixTo xs k) (i := startOf xs k) (j := k) (startOf_le xs k) (by rw [hml]; omega)
        rw [mixTo_lt (by omega)] at hpg
        rw [show startOf xs k + (j + 1) - 1 = startOf xs k + j by omega, ← hpg] at hst
        have HAB := hid hab
        have hd : j < k - startOf xs k := by omega
        have HPL := hid hpl
        have HST := hid hst
        have OPUT := hid (O.out.put k ((partL (mixTo xs k) (startOf xs k) k).getD j 0))
        rw [hj] at hc hsb h0 h1'
        clear hab hpl hst hs1 hs2 hak hml hj hjn hpg x0 x1 hlx
        generalize hq : (partL (mixTo xs k) (startOf xs k) k).getD j 0 = q at *
        have HQ := hid hq
        clear hq
        generalize hd' : k - startOf xs k = d at *
        clear hd'
        have hj0 : (0 : Int) ≤ j := by omega
        have hjd : (j : Int) < d := by omega
        have e1 : IntKind.i8.wrap (-(-(j : Int) - 1)) = (j : Int) + 1 := by rw [IntWalk.i8_in _ (by omega)]; omega
        have e2 : IntKind.i8.wrap ((j : Int) + 1 - 1) = (j : Int) := by rw [IntWalk.i8_in _ (by omega)]; omega
        have e3 : IntKind.i8.wrap (j : Int) = (j : Int) := IntWalk.i8_in _ (by omega)
        go_wp2_with (first | (go_at_call 28; refine (isSub_any _ h0 h1' _).mono ?_; rintro e w' ⟨rfl, rfl⟩) | (go_at_call 29; refine HAB.out.mono ?_; rintro e w' ⟨ap, rfl, hsp, rfl⟩; obtain ⟨bp, op, rfl, hcp⟩ := hsp j (by rw [HPL.out]; exact hd); rw [HQ.out] at hcp))
        clear e1 e2 e3
        go_roundw
        case rel => exact ⟨k + 1, by omega, by go_num, hid (by rw [← HST.out]; exact OPUT.out.1), hid (G.out.by_ OPUT.out.2 (fun b e => by cases e; rw [HLO.out]; exact hgb.1)), hid (by have := OPUT.out.2.size; have := HS.out; omega)⟩
        case measure => simp [intOf] <;> omega
    · have hkn : k = n := by omega
      have hO : Own .i8 49 wr lo hi (.slice am n cm) (meanL xs) := by have e : mixTo xs k = meanL xs := by { rw [hkn, HN.out]; exact mixTo_all xs }; rw [← e]; exact O.out
      have O2 := hid (hO.widen (Nat.le_refl _) HS.out)
      clear hO hkn O
      go_wp2_with fail
      go_ret
      exact ⟨_, rfl, by rw [HLO.out]; exact O2.out, G.out⟩
end Go.Proofs.Ytfaiehjomcgjgaa
