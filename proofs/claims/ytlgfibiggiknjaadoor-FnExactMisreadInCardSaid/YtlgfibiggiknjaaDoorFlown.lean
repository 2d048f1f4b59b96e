/- Entries that have been missed or misread: the program's functions. -/
import Derived.Test.YtlgfibiggiknjaaDoorStory
import Derived.Test.YtlgfibiggiknjaaDoorReplyInts7
import Derived.Test.YtlgfibiggiknjaaDoorCode2
namespace Go.Proofs.YtlgfibiggiknjaaDoor
set_option linter.unusedVariables false
open Go.RowKit
set_option maxRecDepth 100000 in
set_option maxHeartbeats 800000 in
theorem says_MissedIn (x : Acct) (w : World) : Calls Tryd.prog 115 #[x.val] w fun e w' => e = .returned (.bool (dropB x)) ∧ Gr w w' := by
  cases x with
  | right i k =>
    have h1 : ∀ V : World, (Instr.typeAssert (.iface 190 (.agg #[.int .i64 i, .int .i64 k])) 128 142 true).run Tryd.prog V = .ok (.tuple #[.int .i64 0, .bool false]) V := fun _ => by kernel_rfl
    unfold Acct.val
    go_enter Tryd.func115, Tryd.ntmps115
    go_wp2_with fail
    go_ret
    first | exact ⟨rfl, Gr.refl _⟩ | exact ⟨rfl, (Gr.refl _).alloc _⟩
  | mis i k =>
    have h1 : ∀ V : World, (Instr.typeAssert (.iface 144 (.agg #[.int .i64 i, .int .i64 k])) 128 142 true).run Tryd.prog V = .ok (.tuple #[.int .i64 0, .bool false]) V := fun _ => by kernel_rfl
    unfold Acct.val
    go_enter Tryd.func115, Tryd.ntmps115
    go_wp2_with fail
    go_ret
    first | exact ⟨rfl, Gr.refl _⟩ | exact ⟨rfl, (Gr.refl _).alloc _⟩
  | drop i =>
    have h1 : ∀ V : World, (Instr.typeAssert (.iface 142 (.int .i64 i)) 128 142 true).run Tryd.prog V = .ok (.tuple #[.int .i64 i, .bool true]) V := fun _ => by kernel_rfl
    unfold Acct.val
    go_enter Tryd.func115, Tryd.ntmps115
    go_wp2_with fail
    go_ret
    first | exact ⟨rfl, Gr.refl _⟩ | exact ⟨rfl, (Gr.refl _).alloc _⟩
  | extra i =>
    have h1 : ∀ V : World, (Instr.typeAssert (.iface 191 (.int .i64 i)) 128 142 true).run Tryd.prog V = .ok (.tuple #[.int .i64 0, .bool false]) V := fun _ => by kernel_rfl
    unfold Acct.val
    go_enter Tryd.func115, Tryd.ntmps115
    go_wp2_with fail
    go_ret
    first | exact ⟨rfl, Gr.refl _⟩ | exact ⟨rfl, (Gr.refl _).alloc _⟩
set_option maxRecDepth 100000 in
set_option maxHeartbeats 800000 in
theorem says_MisreadIn (x : Acct) (w : World) : Calls Tryd.prog 116 #[x.val] w fun e w' => e = .returned (.bool (misB x)) ∧ Gr w w' := by
  cases x with
  | right i k =>
    have h1 : ∀ V : World, (Instr.typeAssert (.iface 190 (.agg #[.int .i64 i, .int .i64 k])) 128 144 true).run Tryd.prog V = .ok (.tuple #[.agg #[.int .i64 0, .int .i64 0], .bool false]) V := fun _ => by kernel_rfl
    unfold Acct.val
    go_enter Tryd.func116, Tryd.ntmps116
    go_wp2_with fail
    go_ret
    first | exact ⟨rfl, Gr.refl _⟩ | exact ⟨rfl, (Gr.refl _).alloc _⟩
  | mis i k =>
    have h1 : ∀ V : World, (Instr.typeAssert (.iface 144 (.agg #[.int .i64 i, .int .i64 k])) 128 144 true).run Tryd.prog V = .ok (.tuple #[.agg #[.int .i64 i, .int .i64 k], .bool true]) V := fun _ => by kernel_rfl
    unfold Acct.val
    go_enter Tryd.func116, Tryd.ntmps116
    go_wp2_with fail
    go_ret
    first | exact ⟨rfl, Gr.refl _⟩ | exact ⟨rfl, (Gr.refl _).alloc _⟩
  | drop i =>
    have h1 : ∀ V : World, (Instr.typeAssert (.iface 142 (.int .i64 i)) 128 144 true).run Tryd.prog V = .ok (.tuple #[.agg #[.int .i64 0, .int .i64 0], .bool false]) V := fun _ => by kernel_rfl
    unfold Acct.val
    go_enter Tryd.func116, Tryd.ntmps116
    go_wp2_with fail
    go_ret
    first | exact ⟨rfl, Gr.refl _⟩ | exact ⟨rfl, (Gr.refl _).alloc _⟩
  | extra i =>
    have h1 : ∀ V : World, (Instr.typeAssert (.iface 191 (.int .i64 i)) 128 144 true).run Tryd.prog V = .ok (.tuple #[.agg #[.int .i64 0, .int .i64 0], .bool false]) V := fun _ => by kernel_rfl
    unfold Acct.val
    go_enter Tryd.func116, Tryd.ntmps116
    go_wp2_with fail
    go_ret
    first | exact ⟨rfl, Gr.refl _⟩ | exact ⟨rfl, (Gr.refl _).alloc _⟩

def pickTo (p : Acct → Bool) (L : List Acct) (j : Nat) : List Int := ((L.take j).filter p).map Acct.fl
theorem pickTo_yes {p : Acct → Bool} {L : List Acct} {j : Nat} {x : Acct} (hx : L[j]? = some x) (h : p x = true) : pickTo p L (j + 1) = pickTo p L j ++ [x.fl] := by
  unfold pickTo
  rw [List.take_add_one, hx]
  simp [List.filter_append, h]
theorem pickTo_no {p : Acct → Bool} {L : List Acct} {j : Nat} {x : Acct} (hx : L[j]? = some x) (h : p x = false) : pickTo p L (j + 1) = pickTo p L j := by
  unfold pickTo
  rw [List.take_add_one, hx]
  simp [List.filter_append, h]
theorem pickTo_length (p : Acct → Bool) (L : List Acct) (j : Nat) : (pickTo p L j).length ≤ j := by
  unfold pickTo
  have := List.length_filter_le p (L.take j)
  simp only [List.length_map, List.length_take] at this ⊢
  omega
set_option maxRecDepth 100000 in
set_option maxHeartbeats 1000000 in
theorem fwTell_pan (a b : Option Addr) (n m ca cb : Nat) (es fs : List En) (hf : EnFits es) (hg : EnFits fs) (hv : valid2 es fs = false) (sp : Addr) (lp tp : Addr) (w : World) (hlp : w.cell? lp = some (.slice a n ca)) (htp : w.cell? tp = some (.slice b m cb)) (h2 : Logs2 w a b n m es fs) :
    Calls Tryd.prog 149 #[.pointer (some lp), .pointer (some tp), .pointer (some sp)] w fun e w' => e = .panicked [{ v := .iface 177 (.int .i64 (bad2 es fs)), recovered := false }] ∧ Gr w w' := by
  have HS := hid (sidesOf_any a b n m ca cb es fs hf hg w h2)
  rw [hv] at HS
  clear h2 hf hg hv
  go_enter Tryd.func149, Tryd.ntmps149
  go_wp2_with fail
  refine HS.out.mono ?_
  rintro e w1 (⟨h, -⟩ | ⟨-, rfl, g1⟩)
  · cases h
  · have G1 := hid g1
    clear g1
    go_wp2_with fail
    exact ⟨rfl, rfl, G1.out⟩
set_option maxRecDepth 100000 in
set_option maxHeartbeats 4000000 in
theorem fwTell_ok (a b : Option Addr) (n m ca cb : Nat) (es fs : List En) (hf : EnFits es) (hg : EnFits fs) (hv : valid2 es fs = true) (K : FuncId) (hK : ∀ (args : Array Value) (w : World), (callFunc K args).run Tryd.prog w = .ok (.enter K args) w) (p : Acct → Bool) (HP : ∀ x V, Calls Tryd.prog K #[x.val] V fun e w' => e = .returned (.bool (p x)) ∧ Gr V w') (sp : Addr) (lp tp : Addr) (w : World) (hlp : w.cell? lp = some (.slice a n ca)) (htp : w.cell? tp = some (.slice b m cb)) (h2 : Logs2 w a b n m es fs) (hsp : w.cell? sp = some (.func (.func K) #[] #[])) :
    Calls Tryd.prog 149 #[.pointer (some lp), .pointer (some tp), .pointer (some sp)] w (RetOwn .i64 2 (fun u => .tuple #[u, .nilIface]) (pickV p es fs) w) := by
  obtain ⟨i0, hi0, hz0, hz1, hz2⟩ := info_parts info64u
  have HS := hid (sidesOf_any a b n m ca cb es fs hf hg w h2)
  rw [hv] at HS
  have h60 := valid2_60 hv
  have HO := hid (fun V (g : Gr w V) => story_any a b n m ca cb es fs (by rw [h2.n_]; exact h60.1) (by rw [h2.m_]; exact h60.2) V (h2.gr g))
  have hll := storyL_length es fs _ 0 0 rfl
  have HV := hid (show pickV p es fs = ((storyL es fs 0 0).filter p).map Acct.fl by unfold pickV; rw [if_pos hv])
  rw [HV.out]
  generalize storyL es fs 0 0 = L at *
  have hl2 : L.length ≤ 120 := by omega
  have hfd : ∀ (x y : Int) (V : World), (Instr.field 112 (.agg #[.int .i64 x, .int .i64 y]) 0).run Tryd.prog V = .ok (.int .i64 x) V := fun _ _ _ => by kernel_rfl
  have HQP := hid HP
  have HSP := hid hsp
  clear h2 hf hg hv HV hll h60 HP
  unfold sidesC at HS HO
  go_enter Tryd.func149, Tryd.ntmps149
  go_wp2_with fail
  refine HS.out.mono ?_
  rintro e w1 (⟨-, rfl, g1⟩ | ⟨h, -⟩)
  · have G1 := hid g1
    clear g1
    go_wp2_with fail
    refine (HO.out _ G1.out).mono ?_
    rintro e w2 ⟨v, rfl, o2, g2⟩
    have G2 := hid (G1.out.trans g2)
    obtain ⟨av, cv, rfl⟩ := o2.shape
    have O2 := hid o2
    clear g2 o2 HO hsp
    go_wp2_with fail
    go_loopw [5, 13] (fun v jv wr => ∃ j : Nat, j ≤ L.length ∧ jv = .int .i64 j ∧ Hid (Own .i64 2 wr w2.heap.size wr.heap.size v (pickTo p L j)) ∧ Hid (Gr w2 wr)) (fun _ jv _ => L.length - (intOf jv).toNat)
    case atStart => exact ⟨0, Nat.zero_le _, rfl, hid (Own.nil _ _ _), hid (Gr.refl _)⟩
    case round =>
      obtain ⟨j, hj, rfl, O, G⟩ := hrel
      obtain ⟨vv, vc, rfl⟩ := O.out.shape
      by_cases hlt : j < L.length
      · obtain ⟨x, hx⟩ : ∃ x, L[j]? = some x := ⟨_, List.getElem?_eq_getElem hlt⟩
        obtain ⟨gb, rfl, -, hc, -⟩ := (O2.out.gr G.out).at_ (i := j) (u := x.val) (by simp [acVals, hx])
        have HY := hid (fun (h : p x = true) => pickTo_yes hx h)
        have HNO := hid (fun (h : p x = false) => pickTo_no hx h)
        have hxl := pickTo_length p L j
        have HK2 := hid (HQP.out x)
        have cs := (G2.out.trans G.out).cell HSP.out
        generalize pickTo p L j = xs at *
        generalize p x = q at *
        have hb0 : (0 : Int) ≤ j := by omega
        have hb1 : (j : Int) < L.length := by omega
        clear hx
        cases x with
        | right i' k' =>
          have HST := hid (show ∀ V, Calls Tryd.prog 219 #[.agg #[.int .i64 i', .int .i64 k']] V (fun e w' => e = .returned (.agg #[.int .i64 (i' : Int), .int .i64 (k' : Int)]) ∧ Gr V w') from fun V => stepR_any i' k' V)
          unfold Acct.val at hc HK2
          unfold Acct.fl at HY
          go_wp2_with fail
          refine (HK2.out _).mono ?_
          rintro e w3 ⟨rfl, g3⟩
          replace O := hid ((O.out.gr g3).widen (Nat.le_refl _) g3.size)
          replace G := hid (G.out.trans g3)
          replace hc := g3.cell hc
          clear g3 cs
          cases q
          · have HN2 := hid (HNO.out rfl)
            clear HY HNO
            go_wp2_with fail
            go_roundw
            case rel => exact ⟨j + 1, by omega, by go_num, by rw [HN2.out]; exact O, G⟩
            case measure => simp [intOf]; omega
          · have HY2 := hid (HY.out rfl)
            clear HY HNO
            go_wp2_with fail
            refine (HST.out _).mono ?_
            rintro e w4 ⟨rfl, g3⟩
            have G3 := hid (G.out.trans g3)
            have O3 := hid ((O.out.gr g3).widen (Nat.le_refl _) g3.size).row
            clear g3
            go_wp2_with (at_builtin; refine wpList_append_own _ rfl _ _ 52 rfl w2.heap.size 2 i0 (.int .i64 0) 1 8 Tryd.underlying52 hi0 hz0 hz1 hz2 rfl (by decide) _ _ _ rfl (O3.out.alloc _) ⟨w4.heap.size, 0, none⟩ 1 1 [.int .i64 (i' : Int)] rfl rfl (news_int1 (heap_new rfl)) (by simp [Value.oneCell']) (by unfold maxLen; omega) (by omega) (by have := G3.out.size; simp <;> omega) ?_; intro v5 w5 hown5 hgrow5 _)
            have G6 := hid ((G3.out.alloc (.cells #[.int .i64 (i' : Int)] 2)).by_ hgrow5 (fun b e => (O3.out.lt b e).1))
            have O5 := hid (show Own .i64 2 w5 w2.heap.size w5.heap.size v5 (xs ++ [(i' : Int)]) from Own.ofRow hown5 (by simp) (by simp))
            clear hown5 hgrow5
            go_wp2_with fail
            go_roundw
            case rel => exact ⟨j + 1, by omega, by go_num, by rw [HY2.out]; exact O5, G6⟩
            case measure => simp [intOf]; omega
        | mis i' k' =>
          have HST := hid (show ∀ V, Calls Tryd.prog 216 #[.agg #[.int .i64 i', .int .i64 k']] V (fun e w' => e = .returned (.agg #[.int .i64 (i' : Int), .int .i64 (k' : Int)]) ∧ Gr V w') from fun V => stepM_any i' k' V)
          unfold Acct.val at hc HK2
          unfold Acct.fl at HY
          go_wp2_with fail
          refine (HK2.out _).mono ?_
          rintro e w3 ⟨rfl, g3⟩
          replace O := hid ((O.out.gr g3).widen (Nat.le_refl _) g3.size)
          replace G := hid (G.out.trans g3)
          replace hc := g3.cell hc
          clear g3 cs
          cases q
          · have HN2 := hid (HNO.out rfl)
            clear HY HNO
            go_wp2_with fail
            go_roundw
            case rel => exact ⟨j + 1, by omega, by go_num, by rw [HN2.out]; exact O, G⟩
            case measure => simp [intOf]; omega
          · have HY2 := hid (HY.out rfl)
            clear HY HNO
            go_wp2_with fail
            refine (HST.out _).mono ?_
            rintro e w4 ⟨rfl, g3⟩
            have G3 := hid (G.out.trans g3)
            have O3 := hid ((O.out.gr g3).widen (Nat.le_refl _) g3.size).row
            clear g3
            go_wp2_with (at_builtin; refine wpList_append_own _ rfl _ _ 52 rfl w2.heap.size 2 i0 (.int .i64 0) 1 8 Tryd.underlying52 hi0 hz0 hz1 hz2 rfl (by decide) _ _ _ rfl (O3.out.alloc _) ⟨w4.heap.size, 0, none⟩ 1 1 [.int .i64 (i' : Int)] rfl rfl (news_int1 (heap_new rfl)) (by simp [Value.oneCell']) (by unfold maxLen; omega) (by omega) (by have := G3.out.size; simp <;> omega) ?_; intro v5 w5 hown5 hgrow5 _)
            have G6 := hid ((G3.out.alloc (.cells #[.int .i64 (i' : Int)] 2)).by_ hgrow5 (fun b e => (O3.out.lt b e).1))
            have O5 := hid (show Own .i64 2 w5 w2.heap.size w5.heap.size v5 (xs ++ [(i' : Int)]) from Own.ofRow hown5 (by simp) (by simp))
            clear hown5 hgrow5
            go_wp2_with fail
            go_roundw
            case rel => exact ⟨j + 1, by omega, by go_num, by rw [HY2.out]; exact O5, G6⟩
            case measure => simp [intOf]; omega
        | drop i' =>
          have HST := hid (show ∀ V, Calls Tryd.prog 215 #[.int .i64 i'] V (fun e w' => e = .returned (.agg #[.int .i64 (i' : Int), .int .i64 (-1)]) ∧ Gr V w') from fun V => stepD_any i' V)
          unfold Acct.val at hc HK2
          unfold Acct.fl at HY
          go_wp2_with fail
          refine (HK2.out _).mono ?_
          rintro e w3 ⟨rfl, g3⟩
          replace O := hid ((O.out.gr g3).widen (Nat.le_refl _) g3.size)
          replace G := hid (G.out.trans g3)
          replace hc := g3.cell hc
          clear g3 cs
          cases q
          · have HN2 := hid (HNO.out rfl)
            clear HY HNO
            go_wp2_with fail
            go_roundw
            case rel => exact ⟨j + 1, by omega, by go_num, by rw [HN2.out]; exact O, G⟩
            case measure => simp [intOf]; omega
          · have HY2 := hid (HY.out rfl)
            clear HY HNO
            go_wp2_with fail
            refine (HST.out _).mono ?_
            rintro e w4 ⟨rfl, g3⟩
            have G3 := hid (G.out.trans g3)
            have O3 := hid ((O.out.gr g3).widen (Nat.le_refl _) g3.size).row
            clear g3
            go_wp2_with (at_builtin; refine wpList_append_own _ rfl _ _ 52 rfl w2.heap.size 2 i0 (.int .i64 0) 1 8 Tryd.underlying52 hi0 hz0 hz1 hz2 rfl (by decide) _ _ _ rfl (O3.out.alloc _) ⟨w4.heap.size, 0, none⟩ 1 1 [.int .i64 (i' : Int)] rfl rfl (news_int1 (heap_new rfl)) (by simp [Value.oneCell']) (by unfold maxLen; omega) (by omega) (by have := G3.out.size; simp <;> omega) ?_; intro v5 w5 hown5 hgrow5 _)
            have G6 := hid ((G3.out.alloc (.cells #[.int .i64 (i' : Int)] 2)).by_ hgrow5 (fun b e => (O3.out.lt b e).1))
            have O5 := hid (show Own .i64 2 w5 w2.heap.size w5.heap.size v5 (xs ++ [(i' : Int)]) from Own.ofRow hown5 (by simp) (by simp))
            clear hown5 hgrow5
            go_wp2_with fail
            go_roundw
            case rel => exact ⟨j + 1, by omega, by go_num, by rw [HY2.out]; exact O5, G6⟩
            case measure => simp [intOf]; omega
        | extra k' =>
          have HST := hid (show ∀ V, Calls Tryd.prog 220 #[.int .i64 k'] V (fun e w' => e = .returned (.agg #[.int .i64 (-1), .int .i64 (k' : Int)]) ∧ Gr V w') from fun V => stepE_any k' V)
          unfold Acct.val at hc HK2
          unfold Acct.fl at HY
          go_wp2_with fail
          refine (HK2.out _).mono ?_
          rintro e w3 ⟨rfl, g3⟩
          replace O := hid ((O.out.gr g3).widen (Nat.le_refl _) g3.size)
          replace G := hid (G.out.trans g3)
          replace hc := g3.cell hc
          clear g3 cs
          cases q
          · have HN2 := hid (HNO.out rfl)
            clear HY HNO
            go_wp2_with fail
            go_roundw
            case rel => exact ⟨j + 1, by omega, by go_num, by rw [HN2.out]; exact O, G⟩
            case measure => simp [intOf]; omega
          · have HY2 := hid (HY.out rfl)
            clear HY HNO
            go_wp2_with fail
            refine (HST.out _).mono ?_
            rintro e w4 ⟨rfl, g3⟩
            have G3 := hid (G.out.trans g3)
            have O3 := hid ((O.out.gr g3).widen (Nat.le_refl _) g3.size).row
            clear g3
            go_wp2_with (at_builtin; refine wpList_append_own _ rfl _ _ 52 rfl w2.heap.size 2 i0 (.int .i64 0) 1 8 Tryd.underlying52 hi0 hz0 hz1 hz2 rfl (by decide) _ _ _ rfl (O3.out.alloc _) ⟨w4.heap.size, 0, none⟩ 1 1 [.int .i64 (-1)] rfl rfl (news_int1 (heap_new rfl)) (by simp [Value.oneCell']) (by unfold maxLen; omega) (by omega) (by have := G3.out.size; simp <;> omega) ?_; intro v5 w5 hown5 hgrow5 _)
            have G6 := hid ((G3.out.alloc (.cells #[.int .i64 (-1)] 2)).by_ hgrow5 (fun b e => (O3.out.lt b e).1))
            have O5 := hid (show Own .i64 2 w5 w2.heap.size w5.heap.size v5 (xs ++ [(-1)]) from Own.ofRow hown5 (by simp) (by simp))
            clear hown5 hgrow5
            go_wp2_with fail
            go_roundw
            case rel => exact ⟨j + 1, by omega, by go_num, by rw [HY2.out]; exact O5, G6⟩
            case measure => simp [intOf]; omega
      · obtain rfl : j = L.length := by omega
        have OE := hid (show Own .i64 2 wr w2.heap.size wr.heap.size (.slice vv (pickTo p L L.length).length vc) ((L.filter p).map Acct.fl) by have h := O.out; unfold pickTo at h ⊢; rw [List.take_length] at h ⊢; exact h)
        go_wp2_with fail
        go_ret2
        exact ⟨_, rfl, OE.out.widen G2.out.size (Nat.le_refl _), G2.out.trans G.out⟩
  · cases h
set_option maxRecDepth 100000 in
set_option maxHeartbeats 1000000 in
theorem flownWhere_any (a : Option Addr) (n ca : Nat) (es : List En) (hn0 : n = es.length) (hn : n ≤ 1048576) (hf : EnFits es) (b : Option Addr) (m cb : Nat) (fs : List En) (hm0 : m = fs.length) (hm : m ≤ 1048576) (hg : EnFits fs)
    (KS : FuncId) (hKS : ∀ (args : Array Value) (w : World), (callFunc KS args).run Tryd.prog w = .ok (.enter KS args) w) (p : Acct → Bool) (HP : ∀ x V, Calls Tryd.prog KS #[x.val] V fun e w' => e = .returned (.bool (p x)) ∧ Gr V w') (w : World) (ha : CellsOf w a (enCells es)) (hb : CellsOf w b (enCells fs)) :
    Calls Tryd.prog 114 #[.slice a n ca, .slice b m cb, .func (.func KS) #[] #[]] w (RetOwn .i64 2 (withCode (code2 es fs)) (pickV p es fs) w) := by
  have hmf : ∀ (fn : Fn) (first cap : Array Value) (w : World), (Instr.makeFunc fn first cap).run Tryd.prog w = .ok (.func fn first cap) w := fun _ _ _ _ => rfl
  have h2 : Logs2 w a b n m es fs := ⟨ha, hb, hn0, hm0, hn, hm⟩
  obtain ⟨Wa, hWa⟩ : ∃ Wa, Wa = w.alloc (.cells #[.slice a n ca] 27) := ⟨_, rfl⟩
  obtain ⟨Wb, hWb⟩ : ∃ Wb, Wb = Wa.alloc (.cells #[.slice b m cb] 27) := ⟨_, rfl⟩
  obtain ⟨W0, hW0⟩ : ∃ W0, W0 = Wb.alloc (.cells #[.func (.func KS) #[] #[]] 135) := ⟨_, rfl⟩
  have ga : Gr w Wa := by rw [hWa]; exact (Gr.refl w).alloc _
  have gb : Gr Wa Wb := by rw [hWb]; exact (Gr.refl Wa).alloc _
  have gc : Gr Wb W0 := by rw [hW0]; exact (Gr.refl Wb).alloc _
  have g0 : Gr w W0 := (ga.trans gb).trans gc
  have G0 := hid g0
  have sa : Wa.heap.size = w.heap.size + 1 := by rw [hWa]; simp
  have sb : Wb.heap.size = w.heap.size + 2 := by rw [hWb]; simp [sa]
  have hsz : W0.heap.size = w.heap.size + 3 := by rw [hW0]; simp [sb]
  have c0 : W0.cell? ⟨w.heap.size, 0, none⟩ = some (.slice a n ca) := by
    apply (gb.trans gc).cell
    rw [hWa, cell_of_row _ _ _ _ _ _ (heap_new (w := w) (o := .cells #[.slice a n ca] 27) rfl)]; rfl
  have c1 : W0.cell? ⟨w.heap.size + 1, 0, none⟩ = some (.slice b m cb) := by
    apply gc.cell
    rw [hWb, cell_of_row _ _ _ _ _ _ (heap_new (w := Wa) (o := .cells #[.slice b m cb] 27) sa.symm)]; rfl
  have c2 : W0.cell? ⟨w.heap.size + 2, 0, none⟩ = some (.func (.func KS) #[] #[]) := by
    rw [hW0, cell_of_row _ _ _ _ _ _ (heap_new (w := Wb) (o := .cells #[.func (.func KS) #[] #[]] 135) sb.symm)]; rfl
  have HA : Hid (Calls Tryd.prog 130 #[.func (.func 149) #[] #[.pointer (some ⟨w.heap.size, 0, none⟩), .pointer (some ⟨w.heap.size + 1, 0, none⟩), .pointer (some ⟨w.heap.size + 2, 0, none⟩)]] W0 (fun e w' => ∃ v, e = .returned (.tuple #[v, .int .i64 (code2 es fs)]) ∧ Own .i64 2 w' w.heap.size w'.heap.size v (pickV p es fs) ∧ Gr W0 w')) := by
    apply hid
    have ge : Gr W0 (W0.alloc (.cells #[.nilIface] 75)) := (Gr.refl _).alloc _
    have hK : ∀ (args : Array Value) (w : World), (callFunc 149 args).run Tryd.prog w = .ok (.enter 149 args) w := fun args w => callFunc_enter Tryd.func149 (by kernel_rfl) (by kernel_rfl) args w
    cases hv : valid2 es fs with
    | false =>
      have HV0 : pickV p es fs = [] := by unfold pickV; rw [hv]; rfl
      rw [show code2 es fs = 1 by unfold code2; rw [hv]; rfl]
      exact (rep_Ints_pan_cannotBe (bad2 es fs) 149 #[.pointer (some ⟨w.heap.size, 0, none⟩), .pointer (some ⟨w.heap.size + 1, 0, none⟩), .pointer (some ⟨w.heap.size + 2, 0, none⟩)] W0 hK
        (fwTell_pan a b n m ca cb es fs hf hg hv _ _ _ _ (ge.cell c0) (ge.cell c1) ((h2.gr g0).gr ge))).mono (by rintro e w' ⟨rfl, g⟩; exact ⟨_, rfl, by rw [HV0]; exact Own.nil _ _ _, g⟩)
    | true =>
      rw [show code2 es fs = 0 by unfold code2; rw [hv]; rfl]
      exact (rep_Ints_ok 149 #[.pointer (some ⟨w.heap.size, 0, none⟩), .pointer (some ⟨w.heap.size + 1, 0, none⟩), .pointer (some ⟨w.heap.size + 2, 0, none⟩)] (RI (W0.heap.size + 1) .i64 2 (pickV p es fs)) W0 hK (ri_stays (Nat.lt_succ_self _))
        ((fwTell_ok a b n m ca cb es fs hf hg hv KS hKS p HP _ _ _ _ (ge.cell c0) (ge.cell c1) ((h2.gr g0).gr ge) (ge.cell c2)).mono (by rintro e w' ⟨v, rfl, o, g⟩; exact ⟨v, rfl, ⟨_, Nat.le_refl _, o.widen (by simp) (Nat.le_refl _)⟩, g⟩))).mono (by rintro e w' ⟨v, rfl, ⟨hi, h1, o⟩, g⟩; exact ⟨v, rfl, o.widen (by omega) h1, g⟩)
  generalize pickV p es fs = ys at *
  generalize code2 es fs = cd at *
  rw [hW0, hWb, hWa] at HA
  clear h2 ha hb hf hg hn0 hm0 c0 c1 c2 g0 hsz HP ga gb gc sa sb hKS
  go_enter Tryd.func114, Tryd.ntmps114
  go_wp2_with fail
  refine HA.out.mono ?_
  rintro e w1 ⟨v, rfl, o1, g1⟩
  rw [← hWa, ← hWb, ← hW0] at g1
  have G1 := hid (G0.out.trans g1)
  have O1 := hid o1
  clear g1 o1
  go_wp2_with fail
  go_ret2
  exact ⟨_, rfl, O1.out, G1.out⟩
set_option maxRecDepth 100000 in
set_option maxHeartbeats 1000000 in
theorem impl_MissedIn_law (a : Option Addr) (n ca : Nat) (es : List En) (hn0 : n = es.length) (hn : n ≤ 1048576) (hf : EnFits es) (b : Option Addr) (m cb : Nat) (fs : List En) (hm0 : m = fs.length) (hm : m ≤ 1048576) (hg : EnFits fs) (w : World) (ha : CellsOf w a (enCells es)) (hb : CellsOf w b (enCells fs)) :
    Calls Tryd.prog 43 #[.slice a n ca, .slice b m cb] w (RetOwn .i64 2 (withCode (code2 es fs)) (pickV dropB es fs) w) := by
  have hmf : ∀ (fn : Fn) (first cap : Array Value) (w : World), (Instr.makeFunc fn first cap).run Tryd.prog w = .ok (.func fn first cap) w := fun _ _ _ _ => rfl
  have HA := hid (flownWhere_any a n ca es hn0 hn hf b m cb fs hm0 hm hg 115 (fun args w => callFunc_enter Tryd.func115 (by kernel_rfl) (by kernel_rfl) args w) dropB says_MissedIn w ha hb)
  generalize pickV dropB es fs = ys at *
  generalize code2 es fs = cd at *
  clear ha hb hf hg hn0 hm0
  go_enter Tryd.func43, Tryd.ntmps43
  go_wp2_with fail
  refine HA.out.mono ?_
  rintro e w1 ⟨v, rfl, o1, g1⟩
  have G1 := hid g1
  have O1 := hid o1
  clear g1 o1
  unfold withCode
  go_wp2_with fail
  go_ret2
  exact ⟨_, rfl, O1.out, G1.out⟩
set_option maxRecDepth 100000 in
set_option maxHeartbeats 1000000 in
theorem impl_MisreadIn_law (a : Option Addr) (n ca : Nat) (es : List En) (hn0 : n = es.length) (hn : n ≤ 1048576) (hf : EnFits es) (b : Option Addr) (m cb : Nat) (fs : List En) (hm0 : m = fs.length) (hm : m ≤ 1048576) (hg : EnFits fs) (w : World) (ha : CellsOf w a (enCells es)) (hb : CellsOf w b (enCells fs)) :
    Calls Tryd.prog 48 #[.slice a n ca, .slice b m cb] w (RetOwn .i64 2 (withCode (code2 es fs)) (pickV misB es fs) w) := by
  have hmf : ∀ (fn : Fn) (first cap : Array Value) (w : World), (Instr.makeFunc fn first cap).run Tryd.prog w = .ok (.func fn first cap) w := fun _ _ _ _ => rfl
  have HA := hid (flownWhere_any a n ca es hn0 hn hf b m cb fs hm0 hm hg 116 (fun args w => callFunc_enter Tryd.func116 (by kernel_rfl) (by kernel_rfl) args w) misB says_MisreadIn w ha hb)
  generalize pickV misB es fs = ys at *
  generalize code2 es fs = cd at *
  clear ha hb hf hg hn0 hm0
  go_enter Tryd.func48, Tryd.ntmps48
  go_wp2_with fail
  refine HA.out.mono ?_
  rintro e w1 ⟨v, rfl, o1, g1⟩
  have G1 := hid g1
  have O1 := hid o1
  clear g1 o1
  unfold withCode
  go_wp2_with fail
  go_ret2
  exact ⟨_, rfl, O1.out, G1.out⟩
end Go.Proofs.YtlgfibiggiknjaaDoor
