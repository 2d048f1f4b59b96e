/- SpoiledBy: the functions. -/
import Derived.Test.YtnghcchkiodalabHoistI
namespace Go.Proofs.Ytnghcchkiodalab
open Go.RowKit
/-- The places at which two lists differ. -/
def spoilTo (ys zs : List Int) : Nat → List Int
  | 0 => []
  | k + 1 => if ys.getD k 0 != zs.getD k 0 then spoilTo ys zs k ++ [(k : Int)] else spoilTo ys zs k
theorem spoilTo_len (ys zs : List Int) (k : Nat) : (spoilTo ys zs k).length ≤ k := by
  induction k with
  | zero => simp [spoilTo]
  | succ k ih =>
    simp only [spoilTo]
    split
    · rw [List.length_append, List.length_singleton]; omega
    · omega
theorem spoilTo_yes {ys zs : List Int} {k : Nat} (h : (ys.getD k 0 != zs.getD k 0) = true) : spoilTo ys zs (k + 1) = spoilTo ys zs k ++ [(k : Int)] := by simp only [spoilTo]; rw [if_pos h]
theorem spoilTo_no {ys zs : List Int} {k : Nat} (h : (ys.getD k 0 != zs.getD k 0) = false) : spoilTo ys zs (k + 1) = spoilTo ys zs k := by simp only [spoilTo]; rw [if_neg (by rw [h]; simp)]
def spoilL (xs : List Int) (p q : Int) : List Int := if ifC xs p q = 0 then spoilTo (meanL xs) (ifL xs p q) xs.length else []
theorem ifC_valid {xs : List Int} {p q : Int} (h : ifC xs p q = 0) : validH xs = true := by
  cases hv : validH xs
  · unfold ifC at h; rw [hv] at h; simp at h
  · rfl
theorem ifL_len {xs : List Int} {p q : Int} (h : ifC xs p q = 0) : (ifL xs p q).length = xs.length := by unfold ifL; rw [if_pos h, meanL_length, List.length_set]
theorem spoilL_length (xs : List Int) (p q : Int) : (spoilL xs p q).length ≤ 8 := by
  unfold spoilL
  split
  · rename_i h
    have h1 := spoilTo_len (meanL xs) (ifL xs p q) xs.length
    have h2 := (validH_len (ifC_valid h)).2
    omega
  · simp
theorem infoI64 : (Try.prog.info? 2).map (fun i => (i.zero, i.size, i.bytes)) = some (some (.int .i64 0), 1, 8) := by kernel_rfl
set_option maxHeartbeats 2000000 in
theorem spec_SpoiledBy_any (a : Option Addr) (xs : List Int) (hm : xs.length ≤ 1048576) (hf : Fits .i8 xs) (p : Int) (hp : (Lit.int .i64 p).wf = true) (q : Int) (hq : (Lit.int .i64 q).wf = true) (w : World) (hs : SliceOf .i8 w a xs) :
    Calls Try.prog 47 #[.slice a xs.length xs.length, .int .i64 p, .int .i64 q] w (RetOwn .i64 2 (withCode (ifC xs p q)) (spoilL xs p q) w) := by
  have h := hid (l02If_any a _ xs.length xs rfl hm hf p q hp hq w hs)
  have h2 := hid (fun (W : World) (g : Gr w W) => l02Read_any a _ xs.length xs rfl hm hf W (hs.gr g))
  clear hs hf hp hq
  by_cases hc : ifC xs p q = 0
  · have hv := ifC_valid hc
    have hsp : spoilL xs p q = spoilTo (meanL xs) (ifL xs p q) xs.length := by unfold spoilL; rw [if_pos hc]
    have HLY := hid (ifL_len hc)
    have HLM := hid (meanL_length xs)
    have h8 := (validH_len hv).2
    rw [hc, hsp]
    rw [hc] at h
    rw [hv, readL_yes hv] at h2
    clear hc hv hsp
    generalize ifL xs p q = zs at *
    generalize meanL xs = ys at *
    generalize xs.length = n at *
    obtain ⟨i0, hi, hz0, hz1, hz2⟩ := info_parts infoI64
    go_enter Try.func47, Try.ntmps47
    go_wp2_with fail
    refine h.out.mono ?_
    rintro e w1 ⟨v, rfl, o, g⟩
    obtain ⟨a1, c1, rfl⟩ := o.shape
    rw [HLY.out] at o ⊢
    have O1 := hid o
    have G := hid g
    clear o g h
    unfold withCode
    go_wp2_with fail
    refine (h2.out _ G.out).mono ?_
    rintro e w2 ⟨v, rfl, o, g⟩
    obtain ⟨a2, c2, rfl⟩ := o.shape
    rw [HLM.out] at o ⊢
    have O2 := hid o
    replace O1 := hid (O1.out.gr g)
    replace G := hid (G.out.trans g)
    clear o g h2
    unfold withOk
    go_wp2_with fail
    have SY := hid O2.out.reads
    have SZ := hid O1.out.reads
    clear O1 O2
    have hgz := hid G.out.size
    go_loopw [12, 13] (fun v i wr => ∃ k : Nat, k ≤ n ∧ i = .int .i64 k ∧ Hid (Own .i64 2 wr w2.heap.size wr.heap.size v (spoilTo ys zs k)) ∧ Hid (Gr w2 wr)) (fun _ i _ => n - (intOf i).toNat)
    case atStart => exact ⟨0, Nat.zero_le _, rfl, hid ((Own.new (k := .i64) (e := 2) w2 [] (by simp)).widen (Nat.le_refl _) (by simp)), hid ((Gr.refl w2).alloc _)⟩
    case round =>
      obtain ⟨k, hk, rfl, ow, GR⟩ := hrel
      obtain ⟨ao, co, rfl⟩ := ow.out.shape
      have hsl := spoilTo_len ys zs k
      obtain ⟨m, hm'⟩ : ∃ m, m = (spoilTo ys zs k).length := ⟨_, rfl⟩
      have ROW := hid ow.out.row
      rw [← hm'] at ROW hsl ow ⊢
      have HML := hid hm'.symm
      clear hm'
      by_cases hlt : k < n
      · obtain ⟨b1, o1, rfl, d1⟩ := SY.out k (by rw [HLM.out]; exact hlt)
        obtain ⟨b2, o2, rfl, d2⟩ := SZ.out k (by rw [HLY.out]; exact hlt)
        have hc1 := GR.out.cell d1
        have hc2 := GR.out.cell d2
        clear d1 d2
        have hk0 : (0 : Int) ≤ k := by omega
        have hk1 : (k : Int) < n := by omega
        cases hd : (ys.getD k 0 != zs.getD k 0)
        · have HS := hid (spoilTo_no hd)
          generalize ys.getD k 0 = y at *
          generalize zs.getD k 0 = z at *
          go_wp2_with fail
          go_quiet (fail)
          go_wp2_with fail
          go_roundw
          case rel => exact ⟨k + 1, by omega, by go_num, by rw [HS.out]; exact hid (ow.out.gr ((Gr.refl _).drewN _)), hid (GR.out.drewN _)⟩
          case measure => simp [intOf] <;> omega
        · have HS := hid (spoilTo_yes hd)
          generalize ys.getD k 0 = y at *
          generalize zs.getD k 0 = z at *
          go_wp2_with fail
          go_quiet (fail)
          go_wp2_with (at_builtin; refine wpList_append_own _ rfl _ _ 56 rfl w2.heap.size 2 i0 (.int .i64 0) 1 8 Try.underlying56 hi hz0 hz1 hz2 rfl (by decide) _ _ _ rfl ((ROW.out.kept (w' := wr.drewN _) (row := none) ⟨rfl, rfl, rfl, Nat.le_refl _, fun _ _ _ => rfl⟩ (by cases hv : (Value.slice ao m co).ownBlock <;> simp)).alloc _) ⟨wr.heap.size, 0, none⟩ 1 1 [.int .i64 k] rfl rfl (cell_one_new _ _ _) (by simp [Value.oneCell']) (by unfold maxLen; omega) (by omega) (by have := GR.out.size; simp; omega) ?_; intro v' w3 hown' hgrow _)
          have OW := hid (Own.appended hown' HS.out HML.out)
          have GW := hid (((GR.out.drewN _).alloc _).by_ hgrow (fun b e => by have := (ROW.out.lt b e).1; omega))
          clear hown' hgrow
          go_wp2_with fail
          go_roundw
          case rel => exact ⟨k + 1, by omega, by go_num, OW, GW⟩
          case measure => simp [intOf] <;> omega
      · have hkn : k = n := by omega
        rw [hkn] at ow
        clear ROW HML hkn
        go_wp2_with fail
        go_ret2
        exact ⟨_, rfl, ow.out.widen hgz.out (Nat.le_refl _), G.out.trans GR.out⟩
  · obtain ⟨c, hcc⟩ : ∃ c, c = ifC xs p q := ⟨_, rfl⟩
    have hsp : spoilL xs p q = [] := by unfold spoilL; rw [if_neg hc]
    rw [hsp, ← hcc]
    rw [← hcc] at h hc
    have hcb : (c != 0) = true := by rw [bne_iff_ne]; exact hc
    clear hsp hcc h2
    generalize ifL xs p q = zs at *
    generalize xs.length = n at *
    go_enter Try.func47, Try.ntmps47
    go_wp2_with fail
    refine h.out.mono ?_
    rintro e w1 ⟨v, rfl, o, g⟩
    have G := hid g
    clear o g h
    unfold withCode
    go_wp2_with fail
    go_ret2
    exact ret_empty G.out _
set_option maxHeartbeats 2000000 in
theorem impl_SpoiledBy_any (a : Option Addr) (xs : List Int) (hm : xs.length ≤ 1048576) (hf : Fits .i8 xs) (p : Int) (hp : (Lit.int .i64 p).wf = true) (q : Int) (hq : (Lit.int .i64 q).wf = true) (w : World) (hs : SliceOf .i8 w a xs) :
    Calls Try.prog 48 #[.slice a xs.length xs.length, .int .i64 p, .int .i64 q] w (RetOwn .i64 2 (withCode (ifC xs p q)) (spoilL xs p q) w) := by
  have h := hid (impl_MeaningIf_cap a _ xs.length xs rfl hm (Nat.le_refl _) hf p q hp hq w hs)
  have h2 := hid (fun (W : World) (g : Gr w W) (hv : validH xs = true) => meaning_any a _ xs.length xs rfl hm hf hv W (hs.gr g))
  clear hs hf hp hq
  by_cases hc : ifC xs p q = 0
  · have hv := ifC_valid hc
    have hsp : spoilL xs p q = spoilTo (meanL xs) (ifL xs p q) xs.length := by unfold spoilL; rw [if_pos hc]
    have HLY := hid (ifL_len hc)
    have HLM := hid (meanL_length xs)
    have h8 := (validH_len hv).2
    rw [hc, hsp]
    rw [hc] at h
    have h3 := hid (fun W g => h2.out W g hv)
    clear hc hv hsp h2
    generalize ifL xs p q = zs at *
    generalize meanL xs = ys at *
    generalize xs.length = n at *
    obtain ⟨i0, hi, hz0, hz1, hz2⟩ := info_parts infoI64
    go_enter Try.func48, Try.ntmps48
    go_wp2_with fail
    refine h.out.mono ?_
    rintro e w1 ⟨v, rfl, o, g⟩
    obtain ⟨a1, c1, rfl⟩ := o.shape
    rw [HLY.out] at o ⊢
    have O1 := hid o
    have G := hid g
    clear o g h
    unfold withCode
    go_wp2_with fail
    refine (h3.out _ G.out).mono ?_
    rintro e w2 ⟨v, rfl, o, g⟩
    obtain ⟨a2, c2, rfl⟩ := o.shape
    rw [HLM.out] at o ⊢
    have O2 := hid o
    replace O1 := hid (O1.out.gr g)
    replace G := hid (G.out.trans g)
    clear o g h3
    dsimp only
    go_wp2_with fail
    have SY := hid O2.out.reads
    have SZ := hid O1.out.reads
    clear O1 O2
    have hgz := hid G.out.size
    go_loopw [10, 26] (fun v i wr => ∃ k : Nat, k ≤ n ∧ i = .int .i64 k ∧ Hid (Own .i64 2 wr w2.heap.size wr.heap.size v (spoilTo ys zs k)) ∧ Hid (Gr w2 wr)) (fun _ i _ => n - (intOf i).toNat)
    case atStart => exact ⟨0, Nat.zero_le _, rfl, hid (Own.nil _ _ _), hid (Gr.refl w2)⟩
    case round =>
      obtain ⟨k, hk, rfl, ow, GR⟩ := hrel
      obtain ⟨ao, co, rfl⟩ := ow.out.shape
      have hsl := spoilTo_len ys zs k
      obtain ⟨m, hm'⟩ : ∃ m, m = (spoilTo ys zs k).length := ⟨_, rfl⟩
      have ROW := hid ow.out.row
      rw [← hm'] at ROW hsl ow ⊢
      have HML := hid hm'.symm
      clear hm'
      by_cases hlt : k < n
      · obtain ⟨b1, o1, rfl, d1⟩ := SY.out k (by rw [HLM.out]; exact hlt)
        obtain ⟨b2, o2, rfl, d2⟩ := SZ.out k (by rw [HLY.out]; exact hlt)
        have hc1 := GR.out.cell d1
        have hc2 := GR.out.cell d2
        clear d1 d2
        have hk0 : (0 : Int) ≤ k := by omega
        have hk1 : (k : Int) < n := by omega
        cases hd : (ys.getD k 0 != zs.getD k 0)
        · have HS := hid (spoilTo_no hd)
          have hd' : (zs.getD k 0 != ys.getD k 0) = false := by rw [bne_eq_false_iff_eq] at hd ⊢; exact hd.symm
          generalize ys.getD k 0 = y at *
          generalize zs.getD k 0 = z at *
          go_wp2_with fail
          go_roundw
          case rel => exact ⟨k + 1, by omega, by go_num, by rw [HS.out]; exact ow, GR⟩
          case measure => simp [intOf] <;> omega
        · have HS := hid (spoilTo_yes hd)
          have hd' : (zs.getD k 0 != ys.getD k 0) = true := by rw [bne_iff_ne] at hd ⊢; exact fun e => hd e.symm
          generalize ys.getD k 0 = y at *
          generalize zs.getD k 0 = z at *
          go_wp2_with (at_builtin; refine wpList_append_own _ rfl _ _ 56 rfl w2.heap.size 2 i0 (.int .i64 0) 1 8 Try.underlying56 hi hz0 hz1 hz2 rfl (by decide) _ _ _ rfl (ROW.out.alloc _) ⟨wr.heap.size, 0, none⟩ 1 1 [.int .i64 k] rfl rfl (cell_one_new _ _ _) (by simp [Value.oneCell']) (by unfold maxLen; omega) (by omega) (by have := GR.out.size; simp; omega) ?_; intro v' w3 hown' hgrow _)
          have OW := hid (Own.appended hown' HS.out HML.out)
          have GW := hid ((GR.out.alloc _).by_ hgrow (fun b e => by have := (ROW.out.lt b e).1; omega))
          clear hown' hgrow
          go_wp2_with fail
          go_roundw
          case rel => exact ⟨k + 1, by omega, by go_num, OW, GW⟩
          case measure => simp [intOf] <;> omega
      · have hkn : k = n := by omega
        rw [hkn] at ow
        clear ROW HML hkn
        go_wp2_with fail
        go_ret2
        exact ⟨_, rfl, ow.out.widen hgz.out (Nat.le_refl _), G.out.trans GR.out⟩
  · obtain ⟨c, hcc⟩ : ∃ c, c = ifC xs p q := ⟨_, rfl⟩
    have hsp : spoilL xs p q = [] := by unfold spoilL; rw [if_neg hc]
    rw [hsp, ← hcc]
    rw [← hcc] at h hc
    have hcb : (c != 0) = true := by rw [bne_iff_ne]; exact hc
    clear hsp hcc h2
    generalize ifL xs p q = zs at *
    generalize xs.length = n at *
    go_enter Try.func48, Try.ntmps48
    go_wp2_with fail
    refine h.out.mono ?_
    rintro e w1 ⟨v, rfl, o, g⟩
    have G := hid g
    clear o g h
    unfold withCode
    go_wp2_with fail
    go_ret2
    exact ret_nil G.out _
end Go.Proofs.Ytnghcchkiodalab
