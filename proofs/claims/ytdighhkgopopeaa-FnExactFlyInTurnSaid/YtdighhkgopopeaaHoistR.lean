/- Hoists of the model: what is read. -/
import Derived.Test.YtdighhkgopopeaaHoistV
namespace Go.Proofs.Ytdighhkgopopeaa
set_option linter.unusedVariables false
open Go.RowKit
def readL (xs : List Int) : List Int := if validH xs then meanL xs else []
def withOk (b : Bool) (v : Value) : Value := .tuple #[v, .bool b]
theorem readL_yes {xs : List Int} (h : validH xs = true) : readL xs = meanL xs := by unfold readL; rw [if_pos h]
theorem readL_no {xs : List Int} (h : validH xs = false) : readL xs = [] := by unfold readL; rw [if_neg (by rw [h]; simp)]
theorem readL_length (xs : List Int) : (readL xs).length ≤ 8 := by
  cases h : validH xs
  · rw [readL_no h]; simp
  · rw [readL_yes h, meanL_length]; exact (validH_len h).2
theorem validH_bad {h : List Int} {i : Nat} (hi : i < h.length) (ho : okAt h i = false) : validH h = false := by
  unfold validH; rw [allTo_no hi ho, Bool.and_false]
theorem validH_short {h : List Int} (hl : lenB h = false) : validH h = false := by unfold validH; rw [hl, Bool.false_and]
theorem validH_good {h : List Int} (hl : lenB h = true) (ho : allTo (okAt h) h.length = true) : validH h = true := by unfold validH; rw [hl, ho]; rfl
theorem infoI8 : (Try.prog.info? 59).map (fun i => (i.zero, i.size, i.bytes)) = some (some (.int .i8 0), 1, 1) := by kernel_rfl
theorem okAt_brk {h : List Int} {i : Nat} (hb : brkI (h.getD i 0) = true) : okAt h i = (decide (startOf h i < i) && decide (i + 1 < h.length)) := by unfold okAt; rw [if_pos hb]
theorem okAt_s {h : List Int} {i : Nat} (hb : brkI (h.getD i 0) = false) (hs : subI (h.getD i 0) = true) : okAt h i = decide (startOf h i + (-(h.getD i 0)).toNat ≤ i) := by unfold okAt; rw [if_neg (by rw [hb]; simp), if_pos hs]
theorem okAt_k {h : List Int} {i : Nat} (hb : brkI (h.getD i 0) = false) (hs : subI (h.getD i 0) = false) : okAt h i = kindI (h.getD i 0) := by unfold okAt; rw [if_neg (by rw [hb]; simp), if_neg (by rw [hs]; simp)]
/-- A row that has got one number more. -/
theorem Own.appended {k : IntKind} {e : TypeId} {w1 : World} {lo m : Nat} {v : Value} {ys zs : List Int} {x : Int} (h : w1.ownsRow lo e 1 v (m + 1) (ys.map (Value.int k) ++ [.int k x])) (hz : zs = ys ++ [x]) (hm : ys.length = m) : Own k e w1 lo w1.heap.size v zs := by
  refine Own.ofRow h (by rw [hz, List.map_append]; rfl) (by rw [hz, List.length_append, hm]; rfl)
theorem ret_empty {k : IntKind} {e : TypeId} {w w1 : World} (g : Gr w w1) (mk : Value → Value) : RetOwn k e mk [] w (.returned (mk (.slice (some ⟨w1.heap.size, 0, none⟩) 0 0))) (w1.alloc (.cells #[] e)) :=
  ⟨_, rfl, (Own.new (k := k) (e := e) w1 [] (by simp)).widen g.size (by simp), g.alloc _⟩
set_option maxRecDepth 100000 in
set_option maxHeartbeats 4000000 in
theorem l02Read_any (a : Option Addr) (n cap : Nat) (xs : List Int) (hn : n = xs.length) (hm : n ≤ 1048576) (hf : Fits .i8 xs) (w : World) (hs : SliceOf .i8 w a xs) :
    Calls Try.prog 41 #[.slice a n cap] w (RetOwn .i8 59 (withOk (validH xs)) (readL xs) w) := by
  have S := hid hs
  have HN := hid hn
  have HF := hid hf
  obtain ⟨i0, hi, hz0, hz1, hz2⟩ := info_parts infoI8
  have hL : betB (n : Int) 1 8 = lenB xs := by unfold betB lenB; rw [← hn, Bool.eq_iff_iff]; simp; omega
  have HL := hid hL
  clear hs hn hf hL
  cases hl : lenB xs
  · have HV := hid (validH_short hl)
    have HLF := hid (HL.out.trans hl)
    clear hl HL hi hz0 hz1 hz2
    go_enter Try.func41, Try.ntmps41
    go_wp2_with (go_at_call 36; refine (l00In_b _ _ _ _).mono ?_; rintro e w' ⟨rfl, rfl⟩; rw [HLF.out])
    go_ret2
    rw [HV.out, readL_no HV.out]
    exact ret_empty (Gr.refl _) _
  · have HLT := hid (HL.out.trans hl)
    have HLN := hid hl
    have h8 := (lenB_iff.1 hl)
    rw [← HN.out] at h8
    obtain ⟨h81, h88⟩ := h8
    clear hl HL
    go_enter Try.func41, Try.ntmps41
    go_wp2_with (go_at_call 36; refine (l00In_b _ _ _ _).mono ?_; rintro e w' ⟨rfl, rfl⟩; rw [HLT.out])
    have S0 := S
    go_loopw [5, 6, 7] (fun v s i wr => ∃ k : Nat, k ≤ n ∧ i = .int .i64 k ∧ s = .int .i64 (startOf xs k) ∧ Hid (allTo (okAt xs) k = true) ∧ Hid (Own .i8 59 wr w.heap.size wr.heap.size v (meanTo xs k)) ∧ Hid (Gr w wr)) (fun _ _ i _ => n - (intOf i).toNat)
    case atStart => exact ⟨0, Nat.zero_le _, rfl, rfl, hid rfl, hid ((Own.new (k := .i8) (e := 59) w [] (by simp)).widen (Nat.le_refl _) (by simp)), hid ((Gr.refl _).alloc _)⟩
    case round =>
      obtain ⟨k, hk, rfl, rfl, hok, ow, GR⟩ := hrel
      obtain ⟨ao, co, rfl⟩ := ow.out.shape
      have ROW := hid ow.out.row
      have HML := hid (meanTo_length xs k)
      rw [HML.out] at ROW ow ⊢
      by_cases hlt : k < n
      · have hlx : k < xs.length := by rw [← HN.out]; exact hlt
        obtain ⟨b, off, rfl, hc0⟩ := S0.out k hlx
        have hc := GR.out.cell hc0
        obtain ⟨h0, h1⟩ := HF.out.get8 k
        have hle := startOf_le xs k
        have HYY := hid (fun (h : okAt xs k = true) => allTo_step hok.out h)
        have HVV := hid (fun (h : okAt xs k = false) => validH_bad hlx h)
        clear hc0
        cases hb : brkI (xs.getD k 0)
        · have hx : (xs.getD k 0 == -10) = false := by have := brkI_no hb; simpa using this
          have HST := hid (startOf_no (brkI_no hb))
          cases hs : subI (xs.getD k 0)
          · have HO := hid (okAt_k hb hs)
            have HM := hid (meanTo_own hs)
            cases hkd : kindI (xs.getD k 0)
            · -- no number
              have HV := hid (HVV.out (by rw [HO.out, hkd]))
              have hno : (xs.getD k 0 < 0 ∧ xs.getD k 0 < -4) ∨ 40 ≤ xs.getD k 0 := by have := subI_no hs; have := kindI_no hkd; omega
              clear HYY HVV HO HM HST hlx hb hs hkd
              generalize xs.getD k 0 = x at *
              rcases hno with ⟨n0, n1⟩ | n0
              · go_wp2_with fail
                go_ret2
                rw [HV.out, readL_no HV.out]
                exact ret_empty GR.out _
              · go_wp2_with fail
                go_ret2
                rw [HV.out, readL_no HV.out]
                exact ret_empty GR.out _
            · -- a flag
              have HY := hid (HYY.out (by rw [HO.out, hkd]))
              obtain ⟨x0, x1⟩ := kindI_iff.1 hkd
              clear HYY HVV HO hlx hb hs hkd h0 h1
              generalize xs.getD k 0 = x at *
              go_wp2_with (at_builtin; refine wpList_append_own _ rfl _ _ 33 rfl w.heap.size 59 i0 (.int .i8 0) 1 1 Try.underlying33 hi hz0 hz1 hz2 rfl (by decide) _ _ _ rfl (ROW.out.alloc _) ⟨wr.heap.size, 0, none⟩ 1 1 [.int .i8 x] rfl rfl (cell_one_new _ _ _) (by simp [Value.oneCell']) (by unfold maxLen; omega) (by omega) (by have := GR.out.size; simp; omega) ?_; intro v' w1 hown' hgrow _)
              have OW := hid (Own.appended hown' HM.out HML.out)
              have GW := hid ((GR.out.alloc _).by_ hgrow (fun b e => by have := (ROW.out.lt b e).1; omega))
              clear hown' hgrow
              go_wp2_with fail
              go_roundw
              case rel => exact ⟨k + 1, by omega, by go_num, by rw [HST.out], HY, OW, GW⟩
              case measure => simp [intOf] <;> omega
          · -- a substitute
            obtain ⟨x0, x1⟩ := subI_iff.1 hs
            have HO := hid (okAt_s hb hs)
            have HM := hid (meanTo_sub hs)
            obtain ⟨j, hj⟩ : ∃ j : Nat, (j : Int) = -(xs.getD k 0) := ⟨(-(xs.getD k 0)).toNat, by omega⟩
            have hj1 : 1 ≤ j := by omega
            have hj4 : j ≤ 4 := by omega
            have hjn : (-(xs.getD k 0)).toNat = j := by omega
            rw [hjn] at HO HM
            have hxj : xs.getD k 0 = -(j : Int) := by omega
            have HXJ := hid hxj
            clear hb hs hj hjn h0 h1 hxj x0 x1
            obtain ⟨p, hp⟩ : ∃ p, p + 1 = startOf xs k + j := ⟨startOf xs k + j - 1, by omega⟩
            by_cases hfit : p < k
            · have HY := hid (HYY.out (by rw [HO.out, decide_eq_true (by omega)]))
              obtain ⟨g, rfl, hgb, hcp, hfp⟩ := ow.out.at_ (i := p) (by rw [HML.out]; exact hfit)
              rw [show startOf xs k + j - 1 = p by omega] at HM
              clear HYY HVV HO hlx hgb hfp
              generalize (meanTo xs k).getD p 0 = y at *
              rw [HXJ.out] at hc hx
              have hpi : (startOf xs k : Int) + (j : Int) - 1 = (p : Int) := by omega
              generalize startOf xs k = st at *
              go_wp2_with (at_builtin; refine wpList_append_own _ rfl _ _ 33 rfl w.heap.size 59 i0 (.int .i8 0) 1 1 Try.underlying33 hi hz0 hz1 hz2 rfl (by decide) _ _ _ rfl (ROW.out.alloc _) ⟨wr.heap.size, 0, none⟩ 1 1 [.int .i8 y] rfl rfl (cell_one_new _ _ _) (by simp [Value.oneCell']) (by unfold maxLen; omega) (by omega) (by have := GR.out.size; simp; omega) ?_; intro v' w1 hown' hgrow _)
              have OW := hid (Own.appended hown' HM.out HML.out)
              have GW := hid ((GR.out.alloc _).by_ hgrow (fun b e => by have := (ROW.out.lt b e).1; omega))
              clear hown' hgrow
              go_wp2_with fail
              go_roundw
              case rel => exact ⟨k + 1, by omega, by go_num, by rw [HST.out], HY, OW, GW⟩
              case measure => simp [intOf] <;> omega
            · have HV := hid (HVV.out (by rw [HO.out, decide_eq_false (by omega)]))
              clear HYY HVV HO HM hlx
              rw [HXJ.out] at hc hx
              have hpi : (startOf xs k : Int) + (j : Int) - 1 = (p : Int) := by omega
              generalize startOf xs k = st at *
              go_wp2_with fail
              go_ret2
              rw [HV.out, readL_no HV.out]
              exact ret_empty GR.out _
        · -- a break
          have hxm : xs.getD k 0 = -10 := brkI_iff.1 hb
          have HST := hid (startOf_brk hxm)
          have HO := hid (okAt_brk hb)
          have HM := hid (meanTo_own (h := xs) (k := k) (by rw [hxm]; rfl))
          rw [← HN.out] at HO
          rw [hxm] at hc HM
          clear hb hxm h0 h1 hlx
          by_cases hks : startOf xs k = k
          · have HV := hid (HVV.out (by rw [HO.out, decide_eq_false (by omega)]; rfl))
            clear HYY HVV HO HM HST
            rw [hks]
            clear hks hle
            go_wp2_with fail
            go_ret2
            rw [HV.out, readL_no HV.out]
            exact ret_empty GR.out _
          · by_cases hkn : k + 1 = n
            · have HV := hid (HVV.out (by rw [HO.out, decide_eq_false (show ¬ k + 1 < n by omega), Bool.and_false]))
              have hkn' : (n : Int) - 1 = (k : Int) := by omega
              clear HYY HVV HO HM HST hkn
              generalize startOf xs k = st at *
              go_wp2_with fail
              go_ret2
              rw [HV.out, readL_no HV.out]
              exact ret_empty GR.out _
            · have HY := hid (HYY.out (by rw [HO.out, decide_eq_true (by omega), decide_eq_true (by omega)]; rfl))
              have hks' : startOf xs k < k := by omega
              have hks2 : ((k : Int) == (startOf xs k : Int)) = false := by rw [beq_eq_false_iff_ne]; omega
              have hkn2 : ((k : Int) == (n : Int) - 1) = false := by rw [beq_eq_false_iff_ne]; omega
              clear HYY HVV HO
              generalize startOf xs k = st at *
              go_wp2_with (at_builtin; refine wpList_append_own _ rfl _ _ 33 rfl w.heap.size 59 i0 (.int .i8 0) 1 1 Try.underlying33 hi hz0 hz1 hz2 rfl (by decide) _ _ _ rfl (ROW.out.alloc _) ⟨wr.heap.size, 0, none⟩ 1 1 [.int .i8 (-10)] rfl rfl (cell_one_new _ _ _) (by simp [Value.oneCell']) (by unfold maxLen; omega) (by omega) (by have := GR.out.size; simp; omega) ?_; intro v' w1 hown' hgrow _)
              have OW := hid (Own.appended hown' HM.out HML.out)
              have GW := hid ((GR.out.alloc _).by_ hgrow (fun b e => by have := (ROW.out.lt b e).1; omega))
              clear hown' hgrow
              go_wp2_with fail
              go_roundw
              case rel => exact ⟨k + 1, by omega, by go_num, by rw [HST.out]; go_num, HY, OW, GW⟩
              case measure => simp [intOf] <;> omega
      · have hkn : k = n := by omega
        have hv : validH xs = true := validH_good HLN.out (by rw [← HN.out, ← hkn]; exact hok.out)
        have hme : meanTo xs k = readL xs := by rw [readL_yes hv, hkn, HN.out]; rfl
        rw [hme] at ow
        have HV := hid hv
        clear hv hme hok ROW HML hkn
        go_wp2_with fail
        go_ret2
        rw [HV.out]
        exact ⟨_, rfl, ow.out, GR.out⟩
end Go.Proofs.Ytdighhkgopopeaa
