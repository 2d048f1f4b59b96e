/- CheckTimes: the functions. -/
import Derived.Test.YtflbjjcpkhldkaaDoorTimesOf
import Derived.Test.YtflbjjcpkhldkaaDoorReplyBool
import Derived.Test.YtflbjjcpkhldkaaDoorLineE
namespace Go.Proofs.YtflbjjcpkhldkaaDoor
set_option linter.unusedVariables false
open Go.RowKit
theorem eqT_comm (t u : Tm) : eqT t u = eqT u t := by
  unfold eqT
  rw [BEq.comm (a := t.f), BEq.comm (a := t.s), BEq.comm (a := t.c), BEq.comm (a := t.l)]
theorem sameT_comm (ts us : List Tm) : sameT ts us = sameT us ts := by
  unfold sameT
  by_cases h : ts.length = us.length
  · rw [h]
    congr 2
    funext i
    exact eqT_comm _ _
  · rw [decide_eq_false h, decide_eq_false (fun e => h e.symm)]
    rfl
theorem timesL_fits {n : Nat} {xs : List Int} (hv : lineB n xs = true) : TmFits (timesL n xs) := by
  intro t ht
  obtain ⟨i, hi, rfl⟩ := List.mem_iff_getElem.1 ht
  have hok := timesTo_ok (lineOk_line hv) n (Nat.le_refl _) i hi
  have h20 := (lineOk_of hv).1.2
  have hin : i < n := by have := hi; unfold timesL at this; rwa [timesTo_length] at this
  have e : tmAt (timesTo (shS xs) (shR xs) (shD xs) n) i = (timesL n xs)[i] := by simp [tmAt, timesL, List.getD, List.getElem?_eq_getElem (show i < (timesTo (shS xs) (shR xs) (shD xs) n).length from hi)]
  rw [e] at hok
  generalize (timesL n xs)[i] = t at *
  rcases hok with h | ⟨h1, h2, h3, h4, h5, h6, h7⟩
  · subst h
    refine ⟨?_, ?_, ?_, ?_⟩ <;> decide
  · refine ⟨?_, ?_, ?_, ?_⟩ <;> simp [Lit.wf, IntKind.min, IntKind.max, IntKind.signed, IntKind.bits] <;> omega
def checkV (n : Nat) (xs : List Int) (ts : List Tm) : Bool := if lineB n xs = true then sameT ts (timesL n xs) else false
set_option maxRecDepth 100000 in
theorem checkTell_any (b : Option Addr) (m cb : Nat) (ts : List Tm) (hl2 : m = ts.length) (hm : m ≤ 1048576) (hf2 : TmFits ts) (n : Nat) (us : List Tm) (hl : n = us.length) (hn : n ≤ 1048576) (hf : TmFits us) (lp : Addr) (w : World) (hc : w.cell? lp = some (.slice b m cb)) (hb : CellsOf w b (tmCells ts)) (a : Option Addr) (c : Nat) (ha : CellsOf w a (tmCells us)) :
    Calls Tryd.prog 59 (#[.slice a n c] ++ #[.pointer (some lp)]) w fun e w' => e = .returned (.tuple #[.bool (sameT ts us), .nilIface]) ∧ Gr w w' := by
  have HA := hid (impl_SameTimes_law b m cb ts hl2 hm hf2 a n c us hl hn hf w hb ha)
  generalize sameT ts us = q at *
  clear hb ha hl hl2 hf hf2
  go_enter Tryd.func59, Tryd.ntmps59
  go_wp2_with fail
  refine HA.out.mono ?_
  rintro e w1 ⟨rfl, g1⟩
  have G1 := hid g1
  clear g1
  go_wp2_with fail
  go_ret2
  exact ⟨rfl, G1.out⟩
set_option maxRecDepth 100000 in
theorem impl_CheckTimes_law (a : Option Addr) (n cap : Nat) (xs : List Int) (hl : xs.length = n * 3) (hn : n ≤ 1048576) (hf : Fits .i8 xs) (b : Option Addr) (m cb : Nat) (ts : List Tm) (hl2 : m = ts.length) (hm : m ≤ 1048576) (hf2 : TmFits ts) (w : World) (hnv : NeverAt w) (hs : CellsOf w a (xs.map (Value.int .i8))) (hb : CellsOf w b (tmCells ts)) :
    Calls Tryd.prog 26 #[.slice a n cap, .slice b m cb] w fun e w' => e = .returned (.tuple #[.bool (checkV n xs ts), .int .i64 (lineC n xs)]) ∧ Gr w w' := by
  have hmf : ∀ (fn : Fn) (first cap : Array Value) (w : World), (Instr.makeFunc fn first cap).run Tryd.prog w = .ok (.func fn first cap) w := fun _ _ _ _ => rfl
  have g0 := (Gr.refl w).alloc (.cells #[.slice b m cb] 24)
  have G0 := hid g0
  have hc0 : (w.alloc (.cells #[.slice b m cb] 24)).cell? ⟨w.heap.size, 0, none⟩ = some (.slice b m cb) := by
    rw [cell_of_row _ _ _ _ _ _ (heap_new (w := w) (o := .cells #[.slice b m cb] 24) rfl)]; rfl
  cases hv : lineB n xs with
  | false =>
    have HA := hid (ans_Bool_no a n cap xs hl hn hf hv 59 #[.pointer (some ⟨w.heap.size, 0, none⟩)] (w.alloc (.cells #[.slice b m cb] 24)) ((sliceOf_cells hs).gr g0))
    rw [show checkV n xs ts = false by unfold checkV; rw [hv]; rfl, show lineC n xs = 1 by unfold lineC; rw [hv]; rfl]
    clear hs hl hf hnv hb hl2 hf2 g0 hc0
    go_enter Tryd.func26, Tryd.ntmps26
    go_wp2_with fail
    refine HA.out.mono ?_
    rintro e w1 ⟨rfl, g1⟩
    have G1 := hid (G0.out.trans g1)
    clear g1
    go_wp2_with fail
    go_ret2
    exact ⟨rfl, G1.out⟩
  | true =>
    have hlen : (timesL n xs).length = n := timesTo_length _ _ _ _
    have HA := hid (ans_Bool_ok a n cap xs hl hn hf hv 59 #[.pointer (some ⟨w.heap.size, 0, none⟩)] (fun _ v _ => v = .bool (sameT ts (timesL n xs))) (w.alloc (.cells #[.slice b m cb] 24)) (hnv.gr g0) ((sliceOf_cells hs).gr g0)
      (fun args w => callFunc_enter Tryd.func59 (by kernel_rfl) (by kernel_rfl) args w) (fun _ _ _ _ _ _ _ h => h)
      (fun W V av cv gW gV o => (checkTell_any b m cb ts hl2 hm hf2 n (timesL n xs) hlen.symm hn (timesL_fits hv) _ V ((gW.trans gV).cell hc0) (hb.gr (g0.trans (gW.trans gV))) av cv o.reads).mono (by rintro e w' ⟨rfl, g⟩; exact ⟨_, rfl, rfl, g⟩)))
    rw [show checkV n xs ts = sameT ts (timesL n xs) by unfold checkV; rw [hv]; rfl, show lineC n xs = 0 by unfold lineC; rw [hv]; rfl]
    generalize sameT ts (timesL n xs) = q at *
    clear hs hl hf hnv hb hl2 hf2 g0 hc0 hlen
    go_enter Tryd.func26, Tryd.ntmps26
    go_wp2_with fail
    refine HA.out.mono ?_
    rintro e w1 ⟨W, v, rfl, rfl, -, g1⟩
    have G1 := hid (G0.out.trans g1)
    clear g1
    go_wp2_with fail
    go_ret2
    exact ⟨rfl, G1.out⟩
set_option maxRecDepth 100000 in
theorem spec_CheckTimes_law (a : Option Addr) (n cap : Nat) (xs : List Int) (hl : xs.length = n * 3) (hn : n ≤ 1048576) (hf : Fits .i8 xs) (b : Option Addr) (m cb : Nat) (ts : List Tm) (hl2 : m = ts.length) (hm : m ≤ 1048576) (hf2 : TmFits ts) (w : World) (hs : CellsOf w a (xs.map (Value.int .i8))) (hb : CellsOf w b (tmCells ts)) :
    Calls Tryd.prog 24 #[.slice a n cap, .slice b m cb] w fun e w' => e = .returned (.tuple #[.bool (checkV n xs ts), .int .i64 (lineC n xs)]) ∧ Gr w w' := by
  have HO := hid (l06Ok_any a n cap xs hl hn hf w (sliceOf_cells hs))
  cases hv : lineB n xs with
  | false =>
    rw [hv] at HO
    rw [show checkV n xs ts = false by unfold checkV; rw [hv]; rfl, show lineC n xs = 1 by unfold lineC; rw [hv]; rfl]
    clear hs hl hf hb hl2 hf2
    go_enter Tryd.func24, Tryd.ntmps24
    go_wp2_with fail
    refine HO.out.mono ?_
    rintro e w1 ⟨rfl, g1⟩
    have G1 := hid g1
    clear g1
    go_wp2_with fail
    go_ret2
    exact ⟨rfl, G1.out⟩
  | true =>
    have HT := hid (fun V (g : Gr w V) => l06Times_any a n cap xs hl hv (-1) 0 (by omega) V ((sliceOf_cells hs).gr g))
    rw [hv] at HO
    rw [moreR_none] at HT
    have hlen : (timesL n xs).length = n := timesTo_length _ _ _ _
    change Hid (∀ V, Gr w V → Calls _ _ _ V (RetV _ _ _ _ (tmCells (timesL n xs)) V)) at HT
    have HS := hid (fun V av cv (h1 : CellsOf V av (tmCells (timesL n xs))) (g : Gr w V) => spec_SameTimes_law av n cv (timesL n xs) hlen.symm hn (timesL_fits hv) b m cb ts hl2 hm hf2 V h1 (hb.gr g))
    rw [show checkV n xs ts = sameT (timesL n xs) ts by unfold checkV; rw [hv, sameT_comm]; rfl, show lineC n xs = 0 by unfold lineC; rw [hv]; rfl]
    generalize sameT (timesL n xs) ts = q at *
    generalize tmCells (timesL n xs) = cs at *
    clear hs hl hf hlen hb hl2 hf2
    go_enter Tryd.func24, Tryd.ntmps24
    go_wp2_with fail
    refine HO.out.mono ?_
    rintro e w1 ⟨rfl, g1⟩
    have G1 := hid g1
    clear g1
    go_wp2_with fail
    refine (HT.out _ G1.out).mono ?_
    rintro e w2 ⟨v, rfl, o2, g2⟩
    obtain ⟨av, cv, rfl⟩ := o2.shape
    have G2 := hid (G1.out.trans g2)
    have HSc := hid (HS.out w2 av cv o2.reads G2.out)
    clear o2 g2
    unfold id
    go_wp2_with fail
    refine HSc.out.mono ?_
    rintro e w3 ⟨rfl, g3⟩
    have G3 := hid (G2.out.trans g3)
    clear g3
    go_wp2_with fail
    go_ret2
    exact ⟨rfl, G3.out⟩
end Go.Proofs.YtflbjjcpkhldkaaDoor
