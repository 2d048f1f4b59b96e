/- The logs in which a signal has been executed late: as data. -/
import Derived.Test.YtnkoakneffjkbaaDoorGSp
import Derived.Test.YtnkoakneffjkbaaDoorUpAtTime
import Derived.Test.YtnkoakneffjkbaaDoorUpAt
import Derived.Test.YtnkoakneffjkbaaDoorReplyInts7
import Derived.Test.YtnkoakneffjkbaaDoorStay
namespace Go.Proofs.YtnkoakneffjkbaaDoor
set_option linter.unusedVariables false
open Go.RowKit
def lateB (ls : List Lg) (s wi lo : Int) (k : Nat) : Bool := decide (firstT (lgAt ls k).es s < 0) || decide (lo + wi < firstT (lgAt ls k).es s)
def lateTo (ls : List Lg) (s wi lo : Int) : Nat → List Int
  | 0 => []
  | k + 1 => if lateB ls s wi lo k = true then lateTo ls s wi lo k ++ [(k : Int)] else lateTo ls s wi lo k
theorem lateTo_length (ls : List Lg) (s wi lo : Int) : ∀ k, (lateTo ls s wi lo k).length ≤ k
  | 0 => Nat.le_refl _
  | k + 1 => by
    have := lateTo_length ls s wi lo k
    rw [lateTo]
    split
    · rw [List.length_append, List.length_singleton]; omega
    · omega
def ltC (ls : List Lg) (s wi : Int) : Int := if spC ls s = 0 ∨ spC ls s = 6 then (if rgV wi 0 100000 = true then spC ls s else 2) else spC ls s
def ltL (ls : List Lg) (s wi : Int) : List Int := if ltC ls s wi = 0 then lateTo ls s wi (spLo ls s) ls.length else []
theorem lt_other {ls : List Lg} {s wi : Int} (h0 : ¬ spC ls s = 0) (h6 : ¬ spC ls s = 6) : ltC ls s wi = spC ls s ∧ ltL ls s wi = [] := by
  have e : ltC ls s wi = spC ls s := by unfold ltC; rw [if_neg (by omega)]
  exact ⟨e, by unfold ltL; rw [e, if_neg h0]⟩
theorem lt_time {ls : List Lg} {s wi : Int} (h : spC ls s = 0 ∨ spC ls s = 6) (hr : rgV wi 0 100000 = false) : ltC ls s wi = 2 ∧ ltL ls s wi = [] := by
  have e : ltC ls s wi = 2 := by unfold ltC; rw [if_pos h, hr]; rfl
  exact ⟨e, by unfold ltL; rw [e]; rfl⟩
theorem lt_none {ls : List Lg} {s wi : Int} (h : spC ls s = 6) (hr : rgV wi 0 100000 = true) : ltC ls s wi = 6 ∧ ltL ls s wi = [] := by
  have e : ltC ls s wi = 6 := by unfold ltC; rw [if_pos (.inr h), if_pos hr, h]
  exact ⟨e, by unfold ltL; rw [e]; rfl⟩
theorem lt_ok {ls : List Lg} {s wi : Int} (h : spC ls s = 0) (hr : rgV wi 0 100000 = true) : ltC ls s wi = 0 ∧ ltL ls s wi = lateTo ls s wi (spLo ls s) ls.length := by
  have e : ltC ls s wi = 0 := by unfold ltC; rw [if_pos (.inl h), if_pos hr, h]
  exact ⟨e, by unfold ltL; rw [if_pos e]⟩
theorem ltL_length (ls : List Lg) (s wi : Int) : (ltL ls s wi).length ≤ ls.length := by
  unfold ltL
  split
  · exact lateTo_length _ _ _ _ _
  · exact Nat.zero_le _
end Go.Proofs.YtnkoakneffjkbaaDoor

/- LateShips: the model's function. -/
namespace Go.Proofs.YtnkoakneffjkbaaDoor
set_option linter.unusedVariables false
open Go.RowKit
theorem times_1 {es : List En} (hv : validE es = true) {i : Nat} (hi : i < es.length) : 0 ≤ (enAt es i).t ∧ (enAt es i).t ≤ 100000 := by
  have h1 := (valid_good hv).2
  have h2 := allTo_iff.1 h1 i hi
  unfold goodE at h2
  rw [Bool.and_eq_true] at h2
  have h3 := rgV_iff.1 h2.1
  have h4 := before_nonneg i (allTo_iff.2 fun j hj => allTo_iff.1 h1 j (by omega))
  omega
theorem first_bd {es : List En} (hv : validE es = true) (s : Int) : -1 ≤ firstT es s ∧ firstT es s ≤ 100000 := by
  unfold firstT
  split
  · rename_i h
    have := times_1 hv h
    omega
  · omega
theorem low_bd {ls : List Lg} (s : Int) : ∀ k, (∀ i, i < k → validE (lgAt ls i).es = true) → -1 ≤ lowTo ls s k ∧ lowTo ls s k ≤ 100000
  | 0, _ => by rw [lowTo]; omega
  | k + 1, h => by
    have ih := low_bd (ls := ls) s k (fun i hi => h i (by omega))
    have := first_bd (h k (by omega)) s
    rw [lowTo]
    split <;> omega
theorem sp_zero {ls : List Lg} {s : Int} (h : spC ls s = 0) : allV ls = true ∧ rgV (ls.length : Int) 1 8 = true ∧ rgV s 0 9999 = true ∧ spLo ls s = lowTo ls s ls.length ∧ ¬ lowTo ls s ls.length < 0 := by
  by_cases h0 : lgC ls = 0
  · obtain ⟨a, b⟩ := lgC_zero h0
    cases hs : rgV s 0 9999 with
    | false => have := (sp_sig h0 hs).1; omega
    | true =>
      by_cases h3 : lowTo ls s ls.length < 0
      · have := (sp_none h0 hs h3).1; omega
      · exact ⟨a, b, rfl, (sp_some h0 hs h3).2.1, h3⟩
  · have := (sp_lg (s := s) h0).1; omega
theorem ret_empty7 {k : IntKind} {e : TypeId} {w w1 : World} (g : Gr w w1) (mk : Value → Value) : RetOwn k e mk [] w (.returned (mk (.slice (some ⟨w1.heap.size, 0, none⟩) 0 0))) (w1.alloc (.cells #[] e)) :=
  ⟨_, rfl, (Own.new (k := k) (e := e) w1 [] (by simp)).widen g.size (by simp), g.alloc _⟩
set_option maxRecDepth 100000 in
set_option maxHeartbeats 2000000 in
theorem spec_LateShips_any (a : Option Addr) (n cap : Nat) (ls : List Lg) (hl : n = ls.length) (hn : n ≤ 1048576) (s wi : Int) (w : World) (ha : LogsAt w a ls) :
    Calls Tryd.prog 23 #[.slice a n cap, .int .i64 s, .int .i64 wi] w (RetOwn .i64 2 (withCode (ltC ls s wi)) (ltL ls s wi) w) := by
  have HSP := hid (spec_SpreadOf_any a n cap ls hl hn s w ha)
  have HT := hid (fun V => l07Time_any7 wi V)
  by_cases h0 : spC ls s = 0
  · cases hr : rgV wi 0 100000 with
    | false =>
      obtain ⟨e1, e2⟩ := lt_time (.inl h0) hr
      rw [e1, e2]
      rw [h0] at HSP
      rw [hr] at HT
      unfold Ret3 at HSP
      clear e1 e2 h0 hr ha hl
      generalize spLo ls s = lo at *
      generalize spHi ls s = hi at *
      unfold withCode
      go_enter Tryd.func23, Tryd.ntmps23
      go_wp2_with fail
      refine HSP.out.mono ?_
      rintro e w1 ⟨rfl, g1⟩
      have G1 := hid g1
      clear g1
      go_wp2_with fail
      refine (HT.out _).mono ?_
      rintro e w2 ⟨rfl, rfl⟩
      go_wp2_with fail
      go_ret2
      exact ret_empty7 G1.out _
    | true =>
      obtain ⟨e1, e2⟩ := lt_ok h0 hr
      obtain ⟨hav, -, -, hlo, hnn⟩ := sp_zero h0
      have hvi : ∀ i, i < n → validE (lgAt ls i).es = true := fun i hi => allTo_iff.1 hav i (by rw [← hl]; exact hi)
      have hlb := low_bd (ls := ls) s n hvi
      rw [e1, e2]
      rw [h0] at HSP
      rw [hr] at HT
      unfold Ret3 at HSP
      have HA := hid ha
      have HL := hid hl
      have hwi := rgV_iff.1 hr
      rw [hl, ← hlo] at hlb
      have HFT := hid (fun k V (h : LgOk V (lgAt ls k)) => l07First_any (lgAt ls k).a (lgAt ls k).es.length (lgAt ls k).c (lgAt ls k).es rfl h.len s V h.reads)
      have HFB := hid (fun k (hk : k < n) => first_bd (hvi k hk) s)
      have HLT := hid (fun k => show lateTo ls s wi (spLo ls s) (k + 1) = if lateB ls s wi (spLo ls s) k = true then lateTo ls s wi (spLo ls s) k ++ [(k : Int)] else lateTo ls s wi (spLo ls s) k from rfl)
      have HLB := hid (fun k => show lateB ls s wi (spLo ls s) k = (decide (firstT (lgAt ls k).es s < 0) || decide (spLo ls s + wi < firstT (lgAt ls k).es s)) from rfl)
      have HLL := hid (lateTo_length ls s wi (spLo ls s))
      obtain ⟨i0, hi0, hz0, hz1, hz2⟩ := info_parts info64t
      clear e1 e2 h0 hr ha hav hlo hnn hvi
      rw [show lateTo ls s wi (spLo ls s) ls.length = lateTo ls s wi (spLo ls s) n by rw [hl]]
      clear hl
      generalize spLo ls s = lo at *
      generalize spHi ls s = hi at *
      unfold withCode
      have e5 : IntKind.i64.wrap (lo + wi) = lo + wi := IntWalk.i64_in _ (by omega)
      go_enter Tryd.func23, Tryd.ntmps23
      go_wp2_with fail
      refine HSP.out.mono ?_
      rintro e w1 ⟨rfl, g1⟩
      have G1 := hid g1
      clear g1
      go_wp2_with fail
      refine (HT.out _).mono ?_
      rintro e w2 ⟨rfl, rfl⟩
      have OE := hid (Own.new (k := .i64) (e := 2) w1 [] (by simp))
      go_wp2_with fail
      go_loopw [11, 12, 13] (fun v iv _ wr => ∃ k : Nat, k ≤ n ∧ iv = .int .i64 k ∧ Hid (Own .i64 2 wr w.heap.size wr.heap.size v (lateTo ls s wi lo k)) ∧ Hid (Gr w wr)) (fun _ iv _ _ => n - (intOf iv).toNat)
      case atStart => exact ⟨0, Nat.zero_le _, rfl, hid (OE.out.widen G1.out.size (by simp)), hid (G1.out.alloc _)⟩
      case round =>
        obtain ⟨k, hk, rfl, ho, hg⟩ := hrel
        obtain ⟨av, cv, rfl⟩ := ho.out.shape
        by_cases hlt : k < n
        · obtain ⟨b, o, rfl, hc, hok⟩ := (HA.out.gr hg.out) k (by rw [← HL.out]; exact hlt)
          have HC := hid (HFT.out k wr hok)
          have HTK := hid (HLT.out k)
          have HBK := hid (HLB.out k)
          have hol := HLL.out k
          have htb := HFB.out k hlt
          unfold Lg.val at hc
          generalize firstT (lgAt ls k).es s = t at *
          generalize lateB ls s wi lo k = lb at *
          generalize (lgAt ls k).es.length = m at *
          generalize hO : lateTo ls s wi lo k = O at *
          generalize hol2 : O.length = ol at *
          have HOL := hid hol2
          have hk0 : (0 : Int) ≤ k := by omega
          have hk1 : (k : Int) < n := by omega
          clear hok HFT HLT HLB HLL HFB hO hol2
          cases lb with
          | false =>
            have HE := hid (HTK.out.trans (if_neg (by simp)))
            have hb2 := HBK.out.symm
            rw [Bool.or_eq_false_iff] at hb2
            have hq1 : ¬ t < 0 := of_decide_eq_false hb2.1
            have hq2 : ¬ lo + wi < t := of_decide_eq_false hb2.2
            clear hb2 HTK HBK
            go_wp2_with fail
            refine HC.out.mono ?_
            rintro e w2 ⟨rfl, g2⟩
            have G2 := hid (hg.out.trans g2)
            have O2 := hid ((ho.out.gr g2).widen (lo' := w.heap.size) (Nat.le_refl _) g2.size)
            clear g2
            go_wp2_with fail
            go_roundw
            case rel => exact ⟨k + 1, by omega, by go_num, hid (by rw [HE.out]; exact O2.out), G2⟩
            case measure => simp [intOf]; omega
          | true =>
            have HE := hid (HTK.out.trans (if_pos rfl))
            have hb2 := HBK.out.symm
            rw [Bool.or_eq_true] at hb2
            have hq : t < 0 ∨ (¬ t < 0 ∧ lo + wi < t) := by
              by_cases h : t < 0
              · exact .inl h
              · rcases hb2 with h1 | h1
                · exact absurd (of_decide_eq_true h1) h
                · exact .inr ⟨h, of_decide_eq_true h1⟩
            clear hb2 HTK HBK
            go_wp2_with fail
            refine HC.out.mono ?_
            rintro e w2 ⟨rfl, g2⟩
            have G2 := hid (hg.out.trans g2)
            have O2 := hid ((ho.out.gr g2).widen (lo' := w.heap.size) (Nat.le_refl _) g2.size)
            have OR := hid O2.out.row
            rw [HOL.out] at OR
            clear g2
            rcases hq with hq | ⟨hq, hq2⟩
            all_goals
              go_wp2_with (at_builtin; refine wpList_append_own _ rfl _ _ 44 rfl w.heap.size 2 i0 (.int .i64 0) 1 8 Tryd.underlying44 hi0 hz0 hz1 hz2 rfl (by decide) _ _ _ rfl (OR.out.alloc _) ⟨w2.heap.size, 0, none⟩ 1 1 [.int .i64 (k : Int)] rfl rfl (news_ac (heap_new rfl)) (by simp [Value.oneCell']) (by unfold maxLen; omega) (by omega) (by have := G2.out.size; simp; omega) ?_; intro v4 w4 hown4 hgrow4 _)
              have O4 := hid (Own.ofRow (k := .i64) (xs := O ++ [(k : Int)]) hown4 (by simp) (by rw [List.length_append, List.length_singleton, HOL.out]))
              have G4 := hid ((G2.out.alloc _).by_ hgrow4 (fun b e => (OR.out.lt b e).1))
              clear hown4 hgrow4
              go_wp2_with fail
              go_roundw
              case rel => exact ⟨k + 1, by omega, by go_num, hid (by rw [HE.out]; exact O4.out), G4⟩
              case measure => simp [intOf]; omega
        · have HK := hid (show k = n by omega)
          have OF := hid (show Own .i64 2 wr w.heap.size wr.heap.size (.slice av (lateTo ls s wi lo k).length cv) (lateTo ls s wi lo n) by rw [← HK.out]; exact ho.out)
          clear ho
          generalize (lateTo ls s wi lo k).length = ol at *
          go_wp2_with fail
          go_ret2
          exact ⟨_, rfl, OF.out, hg.out⟩
  · by_cases h6 : spC ls s = 6
    · rw [h6] at HSP
      unfold Ret3 at HSP
      cases hr : rgV wi 0 100000 with
      | false =>
        obtain ⟨e1, e2⟩ := lt_time (.inr h6) hr
        rw [e1, e2]
        rw [hr] at HT
        clear e1 e2 h0 h6 hr ha hl
        generalize spLo ls s = lo at *
        generalize spHi ls s = hi at *
        unfold withCode
        go_enter Tryd.func23, Tryd.ntmps23
        go_wp2_with fail
        refine HSP.out.mono ?_
        rintro e w1 ⟨rfl, g1⟩
        have G1 := hid g1
        clear g1
        go_wp2_with fail
        refine (HT.out _).mono ?_
        rintro e w2 ⟨rfl, rfl⟩
        go_wp2_with fail
        go_ret2
        exact ret_empty7 G1.out _
      | true =>
        obtain ⟨e1, e2⟩ := lt_none h6 hr
        rw [e1, e2]
        rw [hr] at HT
        clear e1 e2 h0 h6 hr ha hl
        generalize spLo ls s = lo at *
        generalize spHi ls s = hi at *
        unfold withCode
        go_enter Tryd.func23, Tryd.ntmps23
        go_wp2_with fail
        refine HSP.out.mono ?_
        rintro e w1 ⟨rfl, g1⟩
        have G1 := hid g1
        clear g1
        go_wp2_with fail
        refine (HT.out _).mono ?_
        rintro e w2 ⟨rfl, rfl⟩
        go_wp2_with fail
        go_ret2
        exact ret_empty7 G1.out _
    · obtain ⟨e1, e2⟩ := lt_other (wi := wi) h0 h6
      rw [e1, e2]
      unfold Ret3 at HSP
      have hc0 : (spC ls s == 0) = false := beq_eq_false_iff_ne.2 h0
      have hc6 : (spC ls s == 6) = false := beq_eq_false_iff_ne.2 h6
      clear e1 e2 h0 h6 ha hl HT
      generalize spLo ls s = lo at *
      generalize spHi ls s = hi at *
      generalize spC ls s = c at *
      unfold withCode
      go_enter Tryd.func23, Tryd.ntmps23
      go_wp2_with fail
      refine HSP.out.mono ?_
      rintro e w1 ⟨rfl, g1⟩
      have G1 := hid g1
      clear g1
      go_wp2_with fail
      go_ret2
      exact ret_empty7 G1.out _
end Go.Proofs.YtnkoakneffjkbaaDoor

/- LateShips: the program's closures. -/
namespace Go.Proofs.YtnkoakneffjkbaaDoor
set_option linter.unusedVariables false
open Go.RowKit
set_option maxRecDepth 100000 in
set_option maxHeartbeats 1000000 in
theorem late1_any (a : Option Addr) (n cap : Nat) (ls : List Lg) (hl : n = ls.length) (hn : n ≤ 1048576) (hv : allV ls = true) (s wi lo : Int) (hlo : 0 ≤ lo ∧ lo ≤ 100000) (hwi : 0 ≤ wi ∧ wi ≤ 100000) (k : Nat) (hk : k < n) (p1 p2 p3 p4 : Addr) (w : World) (ha : LogsAt w a ls)
    (h1 : w.cell? p1 = some (.slice a n cap)) (h2 : w.cell? p2 = some (.int .i64 s)) (h3 : w.cell? p3 = some (.int .i64 lo)) (h4 : w.cell? p4 = some (.int .i64 wi)) :
    Calls Tryd.prog 65 #[.int .i64 k, .pointer (some p1), .pointer (some p2), .pointer (some p3), .pointer (some p4)] w fun e w' => e = .returned (.bool (lateB ls s wi lo k)) ∧ Gr w w' := by
  obtain ⟨b, o, rfl, hc, hok⟩ := ha k (by rw [← hl]; exact hk)
  have HEX := hid (fun V (g : Gr w V) => executedAt_any (lgAt ls k).es (lgAt ls k).es.length (lgAt ls k).c rfl hok.len s (lgAt ls k).a V (hok.reads.gr g))
  have HB := hid (show lateB ls s wi lo k = (decide (firstT (lgAt ls k).es s < 0) || decide (lo + wi < firstT (lgAt ls k).es s)) from rfl)
  have HT1 := hid (fun (h : exeAt (lgAt ls k).es s < (lgAt ls k).es.length) => show 0 ≤ firstT (lgAt ls k).es s ∧ firstT (lgAt ls k).es s ≤ 100000 by
    unfold firstT; rw [if_pos h]; exact times_1 (allTo_iff.1 hv k (by rw [← hl]; exact hk)) h)
  have HT2 := hid (fun (h : ¬ exeAt (lgAt ls k).es s < (lgAt ls k).es.length) => show firstT (lgAt ls k).es s = -1 by unfold firstT; rw [if_neg h])
  unfold Lg.val at hc
  generalize (lgAt ls k).a = ga at *
  generalize (lgAt ls k).c = gc at *
  generalize firstT (lgAt ls k).es s = t at *
  generalize exeAt (lgAt ls k).es s = x at *
  generalize (lgAt ls k).es.length = m at *
  generalize lateB ls s wi lo k = r at *
  have HF := hid (fun V (g : Gr w V) => And.intro (g.cell h1) (And.intro (g.cell hc) (And.intro (g.cell h2) (And.intro (g.cell h3) (g.cell h4)))))
  have hk0 : (0 : Int) ≤ k := by omega
  have hk1 : (k : Int) < n := by omega
  clear ha hok hl hv
  by_cases hx : x < m
  · have HC := hid (fun V (g : Gr w V) => (HEX.out V g).mono (R' := fun e w' => e = .returned (.tuple #[.int .i64 t, .bool true]) ∧ Gr V w') (fun e w' h => ⟨h.1.elim (fun h => h.2) (fun h => absurd hx h.1), h.2⟩))
    have htb := HT1.out hx
    have e6 : IntKind.i64.wrap (t - lo) = t - lo := IntWalk.i64_in _ (by omega)
    have HR := hid (show r = decide (wi < t - lo) by rw [HB.out, decide_eq_false (by omega), Bool.false_or]; by_cases h : lo + wi < t
                                                     · rw [decide_eq_true h, decide_eq_true (by omega)]
                                                     · rw [decide_eq_false h, decide_eq_false (by omega)])
    clear HEX hx HT1 HT2 HB
    go_enter Tryd.func65, Tryd.ntmps65
    go_wp2_with fail
    clear h1 h2 h3 h4 hc
    refine wp_region_held_drew (S := (fun V => Gr w V)) (by kernel_rfl) (Gr.refl _).drew (fun hH => ?_)
    have HH := hid hH
    clear hH
    refine wpAnyH_take (i := 0) (v := .slice (some ⟨b, o, none⟩) n cap) rfl (by kernel_rfl) (by kernel_rfl) (by kernel_rfl) (fun _ _ _ h => h) (Or.inl ⟨by rfl, fun V hV => by have hc := (HF.out V hV).1; first | (go_simp; done) | (go_simp; rfl)⟩) HH.out ?_
    simp only [Act.put, List.getElem_toArray, List.getElem_cons_zero, List.setIfInBounds_toArray, List.set_cons_zero, List.set_cons_succ]
    refine wpAnyH_take (i := 1) (v := .int .i64 k) rfl (by kernel_rfl) (by kernel_rfl) (by kernel_rfl) (fun _ _ _ h => h) (Or.inl ⟨by rfl, fun _ _ => by first | rfl | (go_simp; done) | (go_simp; rfl) | (go_simp; intro h; exfalso; omega)⟩) HH.out ?_
    simp only [Act.put, List.getElem_toArray, List.getElem_cons_zero, List.getElem_cons_succ, List.setIfInBounds_toArray, List.set_cons_zero, List.set_cons_succ]
    refine wpAnyH_take (i := 2) (v := .pointer (some ⟨b, o + k, none⟩)) rfl (by kernel_rfl) (by kernel_rfl) (by kernel_rfl) (fun _ _ _ h => h) (Or.inl ⟨by rfl, fun _ _ => by first | rfl | (go_simp; done) | (go_simp; rfl) | (go_simp; intro h; exfalso; omega)⟩) HH.out ?_
    simp only [Act.put, List.getElem_toArray, List.getElem_cons_zero, List.getElem_cons_succ, List.setIfInBounds_toArray, List.set_cons_zero, List.set_cons_succ]
    refine wpAnyH_take (i := 3) (v := .slice ga m gc) rfl (by kernel_rfl) (by kernel_rfl) (by kernel_rfl) (fun _ _ _ h => h) (Or.inl ⟨by rfl, fun V hV => by have hc := (HF.out V hV).2.1; first | (go_simp; done) | (go_simp; rfl)⟩) HH.out ?_
    simp only [Act.put, List.getElem_toArray, List.getElem_cons_zero, List.getElem_cons_succ, List.setIfInBounds_toArray, List.set_cons_zero, List.set_cons_succ]
    refine wpAnyH_take (i := 4) (v := .int .i64 s) rfl (by kernel_rfl) (by kernel_rfl) (by kernel_rfl) (fun _ _ _ h => h) (Or.inl ⟨by rfl, fun V hV => by have hc := (HF.out V hV).2.2.1; first | (go_simp; done) | (go_simp; rfl)⟩) HH.out ?_
    simp only [Act.put, List.getElem_toArray, List.getElem_cons_zero, List.getElem_cons_succ, List.setIfInBounds_toArray, List.set_cons_zero, List.set_cons_succ]
    refine wpAnyH_ready (rs := [5]) (by kernel_rfl) (by simp) (AllReadyH.cons rfl (fun KK hKK => ?_) AllReadyH.nil)
    rw [if_pos (by rfl)]
    go_simp
    refine (HC.out _ HH.out).mono ?_
    rintro e V ⟨rfl, gV⟩
    dsimp only
    refine hKK.out _ _ (HH.out.trans gV) (fun hH => ?_)
    clear HH hKK KK
    have HH := hid hH
    clear hH
    refine wpAnyH_take (i := 6) (v := .tuple #[.int .i64 t, .bool true]) rfl (by kernel_rfl) (by kernel_rfl) (by kernel_rfl) (fun _ _ _ h => h) (Or.inl ⟨by rfl, fun _ _ => by first | rfl | (go_simp; done) | (go_simp; rfl) | (go_simp; intro h; exfalso; omega)⟩) HH.out ?_
    simp only [Act.put, List.getElem_toArray, List.getElem_cons_zero, List.getElem_cons_succ, List.setIfInBounds_toArray, List.set_cons_zero, List.set_cons_succ]
    refine wpAnyH_take (i := 7) (v := .int .i64 t) rfl (by kernel_rfl) (by kernel_rfl) (by kernel_rfl) (fun _ _ _ h => h) (Or.inl ⟨by rfl, fun _ _ => by first | rfl | (go_simp; done) | (go_simp; rfl) | (go_simp; intro h; exfalso; omega)⟩) HH.out ?_
    simp only [Act.put, List.getElem_toArray, List.getElem_cons_zero, List.getElem_cons_succ, List.setIfInBounds_toArray, List.set_cons_zero, List.set_cons_succ]
    refine wpAnyH_take (i := 8) (v := .bool true) rfl (by kernel_rfl) (by kernel_rfl) (by kernel_rfl) (fun _ _ _ h => h) (Or.inl ⟨by rfl, fun _ _ => by first | rfl | (go_simp; done) | (go_simp; rfl) | (go_simp; intro h; exfalso; omega)⟩) HH.out ?_
    simp only [Act.put, List.getElem_toArray, List.getElem_cons_zero, List.getElem_cons_succ, List.setIfInBounds_toArray, List.set_cons_zero, List.set_cons_succ]
    refine wpAnyH_take (i := 9) (v := .int .i64 t) rfl (by kernel_rfl) (by kernel_rfl) (by kernel_rfl) (fun _ _ _ h => h) (Or.inl ⟨by rfl, fun _ _ => by first | rfl | (go_simp; done) | (go_simp; rfl) | (go_simp; intro h; exfalso; omega)⟩) HH.out ?_
    simp only [Act.put, List.getElem_toArray, List.getElem_cons_zero, List.getElem_cons_succ, List.setIfInBounds_toArray, List.set_cons_zero, List.set_cons_succ]
    refine wpAnyH_take (i := 10) (v := .bool true) rfl (by kernel_rfl) (by kernel_rfl) (by kernel_rfl) (fun _ _ _ h => h) (Or.inl ⟨by rfl, fun _ _ => by first | rfl | (go_simp; done) | (go_simp; rfl) | (go_simp; intro h; exfalso; omega)⟩) HH.out ?_
    simp only [Act.put, List.getElem_toArray, List.getElem_cons_zero, List.getElem_cons_succ, List.setIfInBounds_toArray, List.set_cons_zero, List.set_cons_succ]
    refine wpAnyH_done (by kernel_rfl) ?_ _
    obtain ⟨-, -, -, d3, d4⟩ := HF.out _ HH.out
    have GH := hid HH.out
    go_wp2_with fail
    all_goals
      go_ret
      exact ⟨ret_bool (by rw [HR.out]), GH.out⟩
  · have HC := hid (fun V (g : Gr w V) => (HEX.out V g).mono (R' := fun e w' => e = .returned (.tuple #[.int .i64 0, .bool false]) ∧ Gr V w') (fun e w' h => ⟨h.1.elim (fun h => absurd h.1 hx) (fun h => h.2), h.2⟩))
    have HR := hid (show r = true by rw [HB.out, HT2.out hx]; rfl)
    clear HEX hx HT1 HT2 HB
    go_enter Tryd.func65, Tryd.ntmps65
    go_wp2_with fail
    clear h1 h2 h3 h4 hc
    refine wp_region_held_drew (S := (fun V => Gr w V)) (by kernel_rfl) (Gr.refl _).drew (fun hH => ?_)
    have HH := hid hH
    clear hH
    refine wpAnyH_take (i := 0) (v := .slice (some ⟨b, o, none⟩) n cap) rfl (by kernel_rfl) (by kernel_rfl) (by kernel_rfl) (fun _ _ _ h => h) (Or.inl ⟨by rfl, fun V hV => by have hc := (HF.out V hV).1; first | (go_simp; done) | (go_simp; rfl)⟩) HH.out ?_
    simp only [Act.put, List.getElem_toArray, List.getElem_cons_zero, List.setIfInBounds_toArray, List.set_cons_zero, List.set_cons_succ]
    refine wpAnyH_take (i := 1) (v := .int .i64 k) rfl (by kernel_rfl) (by kernel_rfl) (by kernel_rfl) (fun _ _ _ h => h) (Or.inl ⟨by rfl, fun _ _ => by first | rfl | (go_simp; done) | (go_simp; rfl) | (go_simp; intro h; exfalso; omega)⟩) HH.out ?_
    simp only [Act.put, List.getElem_toArray, List.getElem_cons_zero, List.getElem_cons_succ, List.setIfInBounds_toArray, List.set_cons_zero, List.set_cons_succ]
    refine wpAnyH_take (i := 2) (v := .pointer (some ⟨b, o + k, none⟩)) rfl (by kernel_rfl) (by kernel_rfl) (by kernel_rfl) (fun _ _ _ h => h) (Or.inl ⟨by rfl, fun _ _ => by first | rfl | (go_simp; done) | (go_simp; rfl) | (go_simp; intro h; exfalso; omega)⟩) HH.out ?_
    simp only [Act.put, List.getElem_toArray, List.getElem_cons_zero, List.getElem_cons_succ, List.setIfInBounds_toArray, List.set_cons_zero, List.set_cons_succ]
    refine wpAnyH_take (i := 3) (v := .slice ga m gc) rfl (by kernel_rfl) (by kernel_rfl) (by kernel_rfl) (fun _ _ _ h => h) (Or.inl ⟨by rfl, fun V hV => by have hc := (HF.out V hV).2.1; first | (go_simp; done) | (go_simp; rfl)⟩) HH.out ?_
    simp only [Act.put, List.getElem_toArray, List.getElem_cons_zero, List.getElem_cons_succ, List.setIfInBounds_toArray, List.set_cons_zero, List.set_cons_succ]
    refine wpAnyH_take (i := 4) (v := .int .i64 s) rfl (by kernel_rfl) (by kernel_rfl) (by kernel_rfl) (fun _ _ _ h => h) (Or.inl ⟨by rfl, fun V hV => by have hc := (HF.out V hV).2.2.1; first | (go_simp; done) | (go_simp; rfl)⟩) HH.out ?_
    simp only [Act.put, List.getElem_toArray, List.getElem_cons_zero, List.getElem_cons_succ, List.setIfInBounds_toArray, List.set_cons_zero, List.set_cons_succ]
    refine wpAnyH_ready (rs := [5]) (by kernel_rfl) (by simp) (AllReadyH.cons rfl (fun KK hKK => ?_) AllReadyH.nil)
    rw [if_pos (by rfl)]
    go_simp
    refine (HC.out _ HH.out).mono ?_
    rintro e V ⟨rfl, gV⟩
    dsimp only
    refine hKK.out _ _ (HH.out.trans gV) (fun hH => ?_)
    clear HH hKK KK
    have HH := hid hH
    clear hH
    refine wpAnyH_take (i := 6) (v := .tuple #[.int .i64 0, .bool false]) rfl (by kernel_rfl) (by kernel_rfl) (by kernel_rfl) (fun _ _ _ h => h) (Or.inl ⟨by rfl, fun _ _ => by first | rfl | (go_simp; done) | (go_simp; rfl) | (go_simp; intro h; exfalso; omega)⟩) HH.out ?_
    simp only [Act.put, List.getElem_toArray, List.getElem_cons_zero, List.getElem_cons_succ, List.setIfInBounds_toArray, List.set_cons_zero, List.set_cons_succ]
    refine wpAnyH_take (i := 7) (v := .int .i64 0) rfl (by kernel_rfl) (by kernel_rfl) (by kernel_rfl) (fun _ _ _ h => h) (Or.inl ⟨by rfl, fun _ _ => by first | rfl | (go_simp; done) | (go_simp; rfl) | (go_simp; intro h; exfalso; omega)⟩) HH.out ?_
    simp only [Act.put, List.getElem_toArray, List.getElem_cons_zero, List.getElem_cons_succ, List.setIfInBounds_toArray, List.set_cons_zero, List.set_cons_succ]
    refine wpAnyH_take (i := 8) (v := .bool false) rfl (by kernel_rfl) (by kernel_rfl) (by kernel_rfl) (fun _ _ _ h => h) (Or.inl ⟨by rfl, fun _ _ => by first | rfl | (go_simp; done) | (go_simp; rfl) | (go_simp; intro h; exfalso; omega)⟩) HH.out ?_
    simp only [Act.put, List.getElem_toArray, List.getElem_cons_zero, List.getElem_cons_succ, List.setIfInBounds_toArray, List.set_cons_zero, List.set_cons_succ]
    refine wpAnyH_take (i := 9) (v := .int .i64 0) rfl (by kernel_rfl) (by kernel_rfl) (by kernel_rfl) (fun _ _ _ h => h) (Or.inl ⟨by rfl, fun _ _ => by first | rfl | (go_simp; done) | (go_simp; rfl) | (go_simp; intro h; exfalso; omega)⟩) HH.out ?_
    simp only [Act.put, List.getElem_toArray, List.getElem_cons_zero, List.getElem_cons_succ, List.setIfInBounds_toArray, List.set_cons_zero, List.set_cons_succ]
    refine wpAnyH_take (i := 10) (v := .bool false) rfl (by kernel_rfl) (by kernel_rfl) (by kernel_rfl) (fun _ _ _ h => h) (Or.inl ⟨by rfl, fun _ _ => by first | rfl | (go_simp; done) | (go_simp; rfl) | (go_simp; intro h; exfalso; omega)⟩) HH.out ?_
    simp only [Act.put, List.getElem_toArray, List.getElem_cons_zero, List.getElem_cons_succ, List.setIfInBounds_toArray, List.set_cons_zero, List.set_cons_succ]
    refine wpAnyH_done (by kernel_rfl) ?_ _
    have GH := hid HH.out
    go_wp2_with fail
    go_ret
    exact ⟨ret_bool HR.out.symm, GH.out⟩
set_option maxRecDepth 100000 in
set_option maxHeartbeats 1000000 in
theorem whereLate_any (a : Option Addr) (n cap : Nat) (hn : n ≤ 1048576) (ls : List Lg) (s wi lo : Int) (K : FuncId) (caps : Array Value) (hK : ∀ (args : Array Value) (w : World), (callFunc K args).run Tryd.prog w = .ok (.enter K args) w) (w : World)
    (HC : ∀ k, k < n → ∀ V, Gr w V → Calls Tryd.prog K (#[.int .i64 k] ++ caps) V fun e w' => e = .returned (.bool (lateB ls s wi lo k)) ∧ Gr V w') :
    Calls Tryd.prog 64 #[.slice a n cap, .func (.func K) #[] caps] w (RetOwn .i64 2 (fun v => v) (lateTo ls s wi lo n) w) := by
  obtain ⟨i0, hi0, hz0, hz1, hz2⟩ := info_parts info64t
  have H := hid HC
  have HLL := hid (lateTo_length ls s wi lo)
  have HT := hid (fun k => show lateTo ls s wi lo (k + 1) = if lateB ls s wi lo k = true then lateTo ls s wi lo k ++ [(k : Int)] else lateTo ls s wi lo k from rfl)
  clear HC
  go_enter Tryd.func64, Tryd.ntmps64
  go_wp2_with fail
  go_loopw [5, 6, 9] (fun v _ iv wr => ∃ k : Nat, k ≤ n ∧ iv = .int .i64 k ∧ Hid (Own .i64 2 wr w.heap.size wr.heap.size v (lateTo ls s wi lo k)) ∧ Hid (Gr w wr)) (fun _ _ iv _ => n - (intOf iv).toNat)
  case atStart => exact ⟨0, Nat.zero_le _, rfl, hid (Own.nil _ _ _), hid (Gr.refl _)⟩
  case round =>
    obtain ⟨k, hk, rfl, ho, hg⟩ := hrel
    obtain ⟨av, cv, rfl⟩ := ho.out.shape
    by_cases hlt : k < n
    · have HCK := hid (H.out k hlt wr hg.out)
      have HTK := hid (HT.out k)
      have hol := HLL.out k
      generalize hO : lateTo ls s wi lo k = O at *
      generalize hol2 : O.length = ol at *
      have HOL := hid hol2
      clear hO hol2 HT HLL
      cases hb : lateB ls s wi lo k with
      | false =>
        rw [hb] at HCK HTK
        have HE := hid (HTK.out.trans (if_neg (by simp)))
        clear hb HTK
        go_wp2_with fail
        refine HCK.out.mono ?_
        rintro e w2 ⟨rfl, g2⟩
        have G2 := hid (hg.out.trans g2)
        have O2 := hid ((ho.out.gr g2).widen (lo' := w.heap.size) (Nat.le_refl _) g2.size)
        clear g2
        go_wp2_with fail
        go_roundw
        case rel => exact ⟨k + 1, by omega, by go_num, hid (by rw [HE.out]; exact O2.out), G2⟩
        case measure => simp [intOf]; omega
      | true =>
        rw [hb] at HCK HTK
        have HE := hid (HTK.out.trans (if_pos rfl))
        clear hb HTK
        go_wp2_with fail
        refine HCK.out.mono ?_
        rintro e w2 ⟨rfl, g2⟩
        have G2 := hid (hg.out.trans g2)
        have O2 := hid ((ho.out.gr g2).widen (lo' := w.heap.size) (Nat.le_refl _) g2.size)
        have OR := hid O2.out.row
        rw [HOL.out] at OR
        clear g2
        go_wp2_with (at_builtin; refine wpList_append_own _ rfl _ _ 44 rfl w.heap.size 2 i0 (.int .i64 0) 1 8 Tryd.underlying44 hi0 hz0 hz1 hz2 rfl (by decide) _ _ _ rfl (OR.out.alloc _) ⟨w2.heap.size, 0, none⟩ 1 1 [.int .i64 (k : Int)] rfl rfl (news_ac (heap_new rfl)) (by simp [Value.oneCell']) (by unfold maxLen; omega) (by omega) (by have := G2.out.size; simp; omega) ?_; intro v4 w4 hown4 hgrow4 _)
        have O4 := hid (Own.ofRow (k := .i64) (xs := O ++ [(k : Int)]) hown4 (by simp) (by rw [List.length_append, List.length_singleton, HOL.out]))
        have G4 := hid ((G2.out.alloc _).by_ hgrow4 (fun b e => (OR.out.lt b e).1))
        clear hown4 hgrow4
        go_wp2_with fail
        go_roundw
        case rel => exact ⟨k + 1, by omega, by go_num, hid (by rw [HE.out]; exact O4.out), G4⟩
        case measure => simp [intOf]; omega
    · have HK := hid (show k = n by omega)
      have OF := hid (show Own .i64 2 wr w.heap.size wr.heap.size (.slice av (lateTo ls s wi lo k).length cv) (lateTo ls s wi lo n) by rw [← HK.out]; exact ho.out)
      clear ho
      generalize (lateTo ls s wi lo k).length = ol at *
      go_wp2_with fail
      go_ret
      exact ⟨_, rfl, OF.out, hg.out⟩
end Go.Proofs.YtnkoakneffjkbaaDoor

/- LateShips: what is told, and the program's function. -/
namespace Go.Proofs.YtnkoakneffjkbaaDoor
set_option linter.unusedVariables false
open Go.RowKit
def timeTx : ByteArray := ⟨#[116, 105, 109, 101]⟩
/-- What is told. -/
def LtTold (ls : List Lg) (s wi : Int) (w : World) (e : Ending) (w' : World) : Prop :=
  (allV ls = false ∧ e = .panicked [{ v := .iface 144 (.int .i64 (badL ls)), recovered := false }] ∧ Gr w w') ∨
  (allV ls = true ∧ rgV (ls.length : Int) 1 8 = false ∧ e = .returned (.tuple #[.slice none 0 0, .iface 98 (.string logsTx)]) ∧ Gr w w') ∨
  (allV ls = true ∧ rgV (ls.length : Int) 1 8 = true ∧ rgV s 0 9999 = false ∧ e = .returned (.tuple #[.slice none 0 0, .iface 98 (.string sigTx)]) ∧ Gr w w') ∨
  (allV ls = true ∧ rgV (ls.length : Int) 1 8 = true ∧ rgV s 0 9999 = true ∧ rgV wi 0 100000 = false ∧ e = .returned (.tuple #[.slice none 0 0, .iface 98 (.string timeTx)]) ∧ Gr w w') ∨
  (allV ls = true ∧ rgV (ls.length : Int) 1 8 = true ∧ rgV s 0 9999 = true ∧ rgV wi 0 100000 = true ∧ tmsTo ls s ls.length = [] ∧ e = .returned (.tuple #[.slice none 0 0, .iface 80 (.string sigTx)]) ∧ Gr w w') ∨
  (allV ls = true ∧ rgV (ls.length : Int) 1 8 = true ∧ rgV s 0 9999 = true ∧ rgV wi 0 100000 = true ∧ 0 < (tmsTo ls s ls.length).length ∧ RetOwn .i64 2 (fun u => .tuple #[u, .nilIface]) (lateTo ls s wi (lowTo ls s ls.length) ls.length) w e w')
set_option maxRecDepth 100000 in
set_option maxHeartbeats 2000000 in
theorem ltTell_any (a : Option Addr) (n cap : Nat) (ls : List Lg) (hl : n = ls.length) (hn : n ≤ 1048576) (s wi : Int) (lp sp tp : Addr) (w : World) (hlp : w.cell? lp = some (.slice a n cap)) (hsp : w.cell? sp = some (.int .i64 s)) (htp : w.cell? tp = some (.int .i64 wi)) (ha : LogsAt w a ls) :
    Calls Tryd.prog 62 #[.pointer (some lp), .pointer (some sp), .pointer (some tp)] w (LtTold ls s wi w) := by
  have hmf : ∀ (fn : Fn) (first cap : Array Value) (w : World), (Instr.makeFunc fn first cap).run Tryd.prog w = .ok (.func fn first cap) w := fun _ _ _ _ => rfl
  have HC := hid (checkSignal_any a n cap ls hl hn s w ha)
  have HS := hid (fun V (g : Gr w V) => spread_any a n cap ls hl hn s V (ha.gr g))
  have HLP := hid (fun V (g : Gr w V) => And.intro (g.cell hlp) (And.intro (g.cell hsp) (g.cell htp)))
  have HIN := hid (fun V => isBetween_r (n := wi) (a := 0) (b := 100000) (r := rgV wi 0 100000) rfl V)
  have HLN := hid hl
  have HWH := hid (fun (hv : allV ls = true) (hwi : rgV wi 0 100000 = true) (h0 : 0 ≤ lowTo ls s ls.length) V (g : Gr w V) (fp : Addr) (hfp : V.cell? fp = some (.int .i64 (lowTo ls s ls.length))) =>
    whereLate_any a n cap hn ls s wi (lowTo ls s ls.length) 65 #[.pointer (some lp), .pointer (some sp), .pointer (some fp), .pointer (some tp)] (fun args w => callFunc_enter Tryd.func65 (by kernel_rfl) (by kernel_rfl) args w) V
      (fun k hk U gU => late1_any a n cap ls hl hn hv s wi (lowTo ls s ls.length) ⟨h0, (low_bd s ls.length (fun i hi => allTo_iff.1 hv i hi)).2⟩ (rgV_iff.1 hwi) k hk lp sp fp tp U (ha.gr (g.trans gU)) ((g.trans gU).cell hlp) ((g.trans gU).cell hsp) (gU.cell hfp) ((g.trans gU).cell htp)))
  have HSE := hid (fun (hv : allV ls = true) => spread_eq (ls := ls) (s := s) ls.length (fun i hi j hj => times_0 (allTo_iff.1 hv i hi) hj))
  unfold LtTold
  clear ha hl
  go_enter Tryd.func62, Tryd.ntmps62
  go_wp2_with fail
  clear hlp hsp htp
  refine HC.out.mono ?_
  rintro e w1 ⟨(⟨hv, rfl⟩ | ⟨hv, hr, rfl⟩ | ⟨hv, hr, hs, rfl⟩ | ⟨hv, hr, hs, rfl⟩), g1⟩
  · have G1 := hid g1
    have HV := hid hv
    clear g1 hv HC
    go_wp2_with fail
    exact ⟨rfl, .inl ⟨HV.out, rfl, G1.out⟩⟩
  · have G1 := hid g1
    have HV := hid hv
    have HR := hid (show rgV (ls.length : Int) 1 8 = false by rw [← HLN.out]; exact hr)
    clear g1 hv hr HC
    go_wp2_with fail
    go_ret2
    exact .inr (.inl ⟨HV.out, HR.out, rfl, G1.out⟩)
  · have G1 := hid g1
    have HV := hid hv
    have HR := hid (show rgV (ls.length : Int) 1 8 = true by rw [← HLN.out]; exact hr)
    have HSI := hid hs
    clear g1 hv hr hs HC
    go_wp2_with fail
    go_ret2
    exact .inr (.inr (.inl ⟨HV.out, HR.out, HSI.out, rfl, G1.out⟩))
  · have G1 := hid g1
    have HV := hid hv
    have HR := hid (show rgV (ls.length : Int) 1 8 = true by rw [← HLN.out]; exact hr)
    have HSI := hid hs
    obtain ⟨c0, c1, c2⟩ := HLP.out w1 g1
    clear g1 hv hr hs HC
    cases hw : rgV wi 0 100000 with
    | false =>
      rw [hw] at HIN
      have HW := hid hw
      clear hw
      go_wp2_with fail
      refine (HIN.out _).mono ?_
      rintro e w2 ⟨rfl, rfl⟩
      go_wp2_with fail
      go_ret2
      exact .inr (.inr (.inr (.inl ⟨HV.out, HR.out, HSI.out, HW.out, rfl, G1.out⟩)))
    | true =>
      rw [hw] at HIN
      have HW := hid hw
      clear hw
      go_wp2_with fail
      refine (HIN.out _).mono ?_
      rintro e w2 ⟨rfl, rfl⟩
      go_wp2_with fail
      refine (HS.out _ G1.out).mono ?_
      rintro e w3 ⟨(⟨ht, rfl⟩ | ⟨ht, rfl⟩), g3⟩
      · have G3 := hid (G1.out.trans g3)
        have HT := hid (show tmsTo ls s ls.length = [] by rw [← HLN.out]; exact ht)
        clear g3 ht c0 c1 c2
        go_wp2_with fail
        go_ret2
        exact .inr (.inr (.inr (.inr (.inl ⟨HV.out, HR.out, HSI.out, HW.out, HT.out, rfl, G3.out.alloc _⟩))))
      · have G3 := hid (G1.out.trans g3)
        rw [HLN.out] at ht
        rcases HSE.out HV.out with ⟨t0, t1, t2⟩ | ⟨t0, t1, t2, t3, t4⟩
        · rw [t0] at ht; simp at ht
        · have HT := hid ht
          have e9 : minL (tmsTo ls s n) ((tmsTo ls s n).length - 1) = lowTo ls s ls.length := by rw [HLN.out]; exact t2.symm
          rw [e9]
          have HWX := hid (HWH.out HV.out HW.out t1)
          clear g3 ht t0 t1 t2 t3 t4 e9 c0 c1 c2 HSE HWH
          generalize maxL (tmsTo ls s n) ((tmsTo ls s n).length - 1) = hi at *
          generalize hlo : lowTo ls s ls.length = lo at *
          have HLO := hid hlo
          clear hlo
          obtain ⟨W5, hW5⟩ : ∃ W5, W5 = w3.alloc (.cells #[.int .i64 lo] 2) := ⟨_, rfl⟩
          have G5 := hid (show Gr w W5 by rw [hW5]; exact G3.out.alloc _)
          have c5 : W5.cell? ⟨w3.heap.size, 0, none⟩ = some (.int .i64 lo) := by
            rw [hW5, cell_of_row _ _ _ _ _ _ (heap_new (w := w3) (o := .cells #[.int .i64 lo] 2) rfl)]; rfl
          have HWC := hid (HWX.out W5 G5.out ⟨w3.heap.size, 0, none⟩ c5)
          obtain ⟨c0, c1, c2⟩ := HLP.out w3 G3.out
          have HW5 := hid hW5
          clear hW5 c5 HWX
          go_upto_region 9 with (fail)
          rw [← HW5.out]
          clear c0 c1 c2
          obtain ⟨c0, c1, c2⟩ := HLP.out W5 G5.out
          go_wp2_with fail
          refine HWC.out.mono ?_
          rintro e w6 ⟨v, rfl, o6, g6⟩
          have O6 := hid (o6.widen (lo' := w.heap.size) G5.out.size (Nat.le_refl _))
          have G6 := hid (G5.out.trans g6)
          clear o6 g6
          go_wp2_with fail
          go_ret2
          rw [HLO.out]
          exact .inr (.inr (.inr (.inr (.inr ⟨HV.out, HR.out, HSI.out, HW.out, HT.out, ⟨_, rfl, by rw [← HLN.out]; exact O6.out, G6.out⟩⟩))))
set_option maxRecDepth 100000 in
set_option maxHeartbeats 1000000 in
theorem impl_LateShips_any (a : Option Addr) (n cap : Nat) (ls : List Lg) (hl : n = ls.length) (hn : n ≤ 1048576) (s wi : Int) (w : World) (ha : LogsAt w a ls) :
    Calls Tryd.prog 24 #[.slice a n cap, .int .i64 s, .int .i64 wi] w (RetOwn .i64 2 (withCode (ltC ls s wi)) (ltL ls s wi) w) := by
  have hmf : ∀ (fn : Fn) (first cap : Array Value) (w : World), (Instr.makeFunc fn first cap).run Tryd.prog w = .ok (.func fn first cap) w := fun _ _ _ _ => rfl
  obtain ⟨W0, hW0⟩ : ∃ W0, W0 = ((w.alloc (.cells #[.slice a n cap] 40)).alloc (.cells #[.int .i64 s] 2)).alloc (.cells #[.int .i64 wi] 2) := ⟨_, rfl⟩
  have g0 : Gr w W0 := by rw [hW0]; exact (((Gr.refl w).alloc _).alloc _).alloc _
  have G0 := hid g0
  have hsz : W0.heap.size = w.heap.size + 3 := by rw [hW0]; simp
  have c0 : W0.cell? ⟨w.heap.size, 0, none⟩ = some (.slice a n cap) := by
    rw [hW0, cell_of_row _ _ _ _ _ _ (heap_kept (heap_kept (heap_new (w := w) (o := .cells #[.slice a n cap] 40) rfl)))]; rfl
  have c1 : W0.cell? ⟨w.heap.size + 1, 0, none⟩ = some (.int .i64 s) := by
    rw [hW0, cell_of_row _ _ _ _ _ _ (heap_kept (heap_new (w := w.alloc (.cells #[.slice a n cap] 40)) (o := .cells #[.int .i64 s] 2) (by simp)))]; rfl
  have c2 : W0.cell? ⟨w.heap.size + 1 + 1, 0, none⟩ = some (.int .i64 wi) := by
    rw [hW0, cell_of_row _ _ _ _ _ _ (heap_new (w := (w.alloc (.cells #[.slice a n cap] 40)).alloc (.cells #[.int .i64 s] 2)) (o := .cells #[.int .i64 wi] 2) (by simp))]; rfl
  have HA : Hid (Calls Tryd.prog 61 #[.func (.func 62) #[] #[.pointer (some ⟨w.heap.size, 0, none⟩), .pointer (some ⟨w.heap.size + 1, 0, none⟩), .pointer (some ⟨w.heap.size + 1 + 1, 0, none⟩)]] W0 (fun e w' => ∃ v, e = .returned (.tuple #[v, .int .i64 (ltC ls s wi)]) ∧ Own .i64 2 w' w.heap.size w'.heap.size v (ltL ls s wi) ∧ Gr W0 w')) := by
    apply hid
    have ge : Gr W0 (W0.alloc (.cells #[.nilIface] 65)) := (Gr.refl _).alloc _
    have hK : ∀ (args : Array Value) (w : World), (callFunc 62 args).run Tryd.prog w = .ok (.enter 62 args) w := fun args w => callFunc_enter Tryd.func62 (by kernel_rfl) (by kernel_rfl) args w
    have hT := ltTell_any a n cap ls hl hn s wi _ _ _ _ (ge.cell c0) (ge.cell c1) (ge.cell c2) ((ha.gr g0).gr ge)
    unfold LtTold at hT
    cases hv : allV ls with
    | false =>
      have hlg := lgC_bad hv
      obtain ⟨e1, -, -⟩ := sp_lg (s := s) (show ¬ lgC ls = 0 by rw [hlg]; decide)
      obtain ⟨f1, f2⟩ := lt_other (wi := wi) (show ¬ spC ls s = 0 by rw [e1, hlg]; decide) (show ¬ spC ls s = 6 by rw [e1, hlg]; decide)
      rw [f1, f2, e1, hlg]
      rw [hv] at hT
      exact (rep_Ints_pan_cannotBe (badL ls) 62 _ W0 hK
        (hT.mono (fun e w' h => by simpa using h))).mono (by rintro e w' ⟨rfl, g⟩; exact ⟨_, rfl, Own.nil _ _ _, g⟩)
    | true =>
      rw [hv] at hT
      cases hr : rgV (ls.length : Int) 1 8 with
      | false =>
        have hlg := lgC_many hv hr
        obtain ⟨e1, -, -⟩ := sp_lg (s := s) (show ¬ lgC ls = 0 by rw [hlg]; decide)
        obtain ⟨f1, f2⟩ := lt_other (wi := wi) (show ¬ spC ls s = 0 by rw [e1, hlg]; decide) (show ¬ spC ls s = 6 by rw [e1, hlg]; decide)
        rw [f1, f2, e1, hlg]
        rw [hr] at hT
        exact (rep_Ints_err_outOfRange logsTx 62 _ W0 hK
          (hT.mono (fun e w' h => by have h' : e = _ ∧ _ := (by simpa using h); exact ⟨_, h'.1, h'.2⟩))).mono (by rintro e w' ⟨rfl, g⟩; exact ⟨_, rfl, Own.nil _ _ _, g⟩)
      | true =>
        have hlg := lgC_ok hv hr
        rw [hr] at hT
        cases hs : rgV s 0 9999 with
        | false =>
          obtain ⟨e1, -, -⟩ := sp_sig hlg hs
          obtain ⟨f1, f2⟩ := lt_other (wi := wi) (show ¬ spC ls s = 0 by rw [e1]; decide) (show ¬ spC ls s = 6 by rw [e1]; decide)
          rw [f1, f2, e1]
          rw [hs] at hT
          exact (rep_Ints_err_outOfRange sigTx 62 _ W0 hK
            (hT.mono (fun e w' h => by have h' : e = _ ∧ _ := (by simpa using h); exact ⟨_, h'.1, h'.2⟩))).mono (by rintro e w' ⟨rfl, g⟩; exact ⟨_, rfl, Own.nil _ _ _, g⟩)
        | true =>
          rw [hs] at hT
          have hsp := spread_eq (ls := ls) (s := s) ls.length (fun i hi j hj => times_0 (allTo_iff.1 hv i hi) hj)
          have h06 : spC ls s = 0 ∨ spC ls s = 6 := by
            by_cases h3 : lowTo ls s ls.length < 0
            · exact .inr (sp_none hlg hs h3).1
            · exact .inl (sp_some hlg hs h3).1
          cases hw : rgV wi 0 100000 with
          | false =>
            obtain ⟨f1, f2⟩ := lt_time h06 hw
            rw [f1, f2]
            rw [hw] at hT
            exact (rep_Ints_err_outOfRange timeTx 62 _ W0 hK
              (hT.mono (fun e w' h => by have h' : e = _ ∧ _ := (by simpa using h); exact ⟨_, h'.1, h'.2⟩))).mono (by rintro e w' ⟨rfl, g⟩; exact ⟨_, rfl, Own.nil _ _ _, g⟩)
          | true =>
            rw [hw] at hT
            rcases hsp with ⟨t0, t1, t2⟩ | ⟨t0, t1, t2, t3, t4⟩
            · obtain ⟨e1, -, -⟩ := sp_none hlg hs (by rw [t1]; decide)
              obtain ⟨f1, f2⟩ := lt_none e1 hw
              rw [f1, f2]
              rw [t0] at hT
              exact (rep_Ints_err_notFound sigTx 62 _ W0 hK
                (hT.mono (fun e w' h => by have h' : e = _ ∧ _ := (by simpa using h); exact ⟨_, h'.1, h'.2⟩))).mono (by rintro e w' ⟨rfl, g⟩; exact ⟨_, rfl, Own.nil _ _ _, g⟩)
            · obtain ⟨e1, e2, -⟩ := sp_some hlg hs (by omega)
              obtain ⟨f1, f2⟩ := lt_ok e1 hw
              rw [f1, f2, e2]
              have hne : ¬ tmsTo ls s ls.length = [] := fun h => by rw [h] at t0; simp at t0
              exact (rep_Ints_ok 62 _ (RI (W0.heap.size + 1) .i64 2 (lateTo ls s wi (lowTo ls s ls.length) ls.length)) W0 hK (ri_stays (Nat.lt_succ_self _))
                (hT.mono (by
                  intro e w' h
                  rcases h with h | h | h | h | h | h
                  · exact absurd h.1 (by decide)
                  · exact absurd h.2.1 (by decide)
                  · exact absurd h.2.2.1 (by decide)
                  · exact absurd h.2.2.2.1 (by decide)
                  · exact absurd h.2.2.2.2.1 hne
                  · obtain ⟨v, rfl, o, g⟩ := h.2.2.2.2.2
                    exact ⟨v, rfl, ⟨_, Nat.le_refl _, o.widen (by simp) (Nat.le_refl _)⟩, g⟩))).mono (by rintro e w' ⟨v, rfl, ⟨hi, h1, o⟩, g⟩; exact ⟨v, rfl, o.widen (by omega) h1, g⟩)
  generalize ltL ls s wi = ys at *
  generalize ltC ls s wi = cd at *
  rw [hW0] at HA
  clear ha hl c0 c1 c2 g0 hsz
  go_enter Tryd.func24, Tryd.ntmps24
  go_wp2_with fail
  refine HA.out.mono ?_
  rintro e w1 ⟨v, rfl, o1, g1⟩
  rw [← hW0] at g1
  have G1 := hid (G0.out.trans g1)
  have O1 := hid o1
  clear g1 o1
  go_wp2_with fail
  go_ret2
  exact ⟨_, rfl, O1.out, G1.out⟩
end Go.Proofs.YtnkoakneffjkbaaDoor
