/- When a signal has been executed in several logs: the program's functions. -/
import Derived.Test.YtnkoakneffjkbaaDoorSpreadM
import Derived.Test.YtnkoakneffjkbaaDoorCommonI
import Derived.Test.YtnkoakneffjkbaaDoorUpAt
namespace Go.Proofs.YtnkoakneffjkbaaDoor
set_option linter.unusedVariables false
open Go.RowKit
set_option maxRecDepth 100000 in
set_option maxHeartbeats 1000000 in
theorem exe1_any (y : En) (s : Int) (sp : Addr) (w : World) (hs : w.cell? sp = some (.int .i64 s)) :
    Calls Tryd.prog 83 #[enV y, .pointer (some sp)] w fun e w' => e = .returned (.bool (y.d && (y.s == s))) ∧ Gr w w' := by
  obtain ⟨yt, ys, yd⟩ := y
  unfold enV
  dsimp only
  have HC := hid (fun V (g : Gr w V) => g.cell hs)
  have hc := HC.out _ ((Gr.refl w).alloc (.cells #[.int .i64 yt, .int .i64 ys, .bool yd] 58))
  clear hs
  cases yd with
  | false =>
    go_enter Tryd.func83, Tryd.ntmps83
    go_wp2_with fail
    go_ret
    exact ⟨rfl, (Gr.refl _).alloc _⟩
  | true =>
    cases h : (ys == s) with
    | false =>
      go_enter Tryd.func83, Tryd.ntmps83
      go_wp2_with fail
      go_ret
      exact ⟨rfl, (Gr.refl _).alloc _⟩
    | true =>
      go_enter Tryd.func83, Tryd.ntmps83
      go_wp2_with fail
      go_ret
      exact ⟨rfl, (Gr.refl _).alloc _⟩
set_option maxRecDepth 100000 in
set_option maxHeartbeats 1000000 in
/-- Of a log: the first entry that executes a signal, or -1. -/
theorem indexEx_any (es : List En) (n cap : Nat) (hl : n = es.length) (hn : n ≤ 1048576) (s : Int) (sp : Addr) (a : Option Addr) (w : World) (ha : CellsOf w a (enCells es)) (hs : w.cell? sp = some (.int .i64 s)) :
    Calls Tryd.prog 38 #[.slice a n cap, .func (.func 83) #[] #[.pointer (some sp)]] w fun e w' =>
      e = .returned (.int .i64 (idxV (exeB es s) n 0)) ∧ Gr w w' := by
  have HA := hid ha
  have HL := hid hl
  have hcf := callFunc_enter Tryd.func83 (by kernel_rfl) (by kernel_rfl)
  have HAG := hid (fun k V (g : Gr w V) => exe1_any (enAt es k) s sp V (g.cell hs))
  have HPE := hid (fun k => show exeB es s k = ((enAt es k).d && ((enAt es k).s == s)) from rfl)
  have HFY := hid (fun q => firstFrom_yes (p := exeB es s) (n := n) (j := q))
  have HFN := hid (fun q => firstFrom_no (p := exeB es s) (n := n) (j := q))
  have HFG := hid (fun q => firstFrom_ge (p := exeB es s) (n := n) (j := q))
  generalize exeB es s = p at *
  clear ha hl hs
  go_enter Tryd.func38, Tryd.ntmps38
  go_wp2_with fail
  go_loopw [5, 8] (fun _ iv wr => ∃ q : Nat, q ≤ n ∧ iv = .int .i64 q ∧ Hid (firstFrom p n 0 = firstFrom p n q) ∧ Hid (Gr w wr)) (fun _ iv _ => n - (intOf iv).toNat)
  case atStart => exact ⟨0, Nat.zero_le _, rfl, hid rfl, hid (Gr.refl _)⟩
  case round =>
    obtain ⟨q, hq, rfl, hf, hg⟩ := hrel
    by_cases hlt : q < n
    · obtain ⟨b, o, rfl, p0, p1, p2⟩ := en_at (HA.out.gr hg.out) (i := q) (by rw [← HL.out]; exact hlt)
      have HR := hid (range3 ⟨p0, p1, p2⟩)
      have HC := hid (HAG.out q wr hg.out)
      have HE := hid (HPE.out q)
      have HY := hid (HFY.out q hlt)
      have HN := hid (HFN.out q hlt)
      rw [← HE.out] at HC
      clear p0 p1 p2
      generalize enAt es q = y at *
      obtain ⟨yt, ys, yd⟩ := y
      unfold enV at HC
      simp only at HR HC
      have hq0 : (0 : Int) ≤ q := by omega
      have hq1 : (q : Int) < n := by omega
      cases hpq : p q with
      | false =>
        rw [hpq] at HC
        have HF := hid (hf.out.trans (HN.out hpq))
        clear hpq
        go_wp2_with (refine wpList_load_mid rfl 58 _ rfl b (o + q * 3) rfl _ _ HR.out Tryd.underlying58 rfl sizeEn ?_)
        refine HC.out.mono ?_
        rintro e w2 ⟨rfl, g2⟩
        have G2 := hid (hg.out.trans g2)
        clear g2
        go_wp2_with fail
        go_roundw
        case rel => exact ⟨q + 1, by omega, by go_num, HF, G2⟩
        case measure => simp [intOf]; omega
      | true =>
        rw [hpq] at HC
        have HF := hid (show firstFrom p n 0 = q from hf.out.trans (HY.out hpq))
        have HLT := hid hlt
        clear hpq
        go_wp2_with (refine wpList_load_mid rfl 58 _ rfl b (o + q * 3) rfl _ _ HR.out Tryd.underlying58 rfl sizeEn ?_)
        refine HC.out.mono ?_
        rintro e w2 ⟨rfl, g2⟩
        have G2 := hid (hg.out.trans g2)
        clear g2
        go_wp2_with fail
        go_ret
        exact ⟨ret_int (by unfold idxV; rw [HF.out, if_pos HLT.out]; omega), G2.out⟩
    · have HF := hid (show firstFrom p n 0 = n by rw [hf.out, HFG.out q (by omega)])
      clear hf
      go_wp2_with fail
      go_ret
      exact ⟨ret_int (by unfold idxV; rw [HF.out, if_neg (by omega)]), hg.out⟩
set_option maxRecDepth 100000 in
set_option maxHeartbeats 1000000 in
theorem executedAt_any (es : List En) (n cap : Nat) (hl : n = es.length) (hn : n ≤ 1048576) (s : Int) (a : Option Addr) (w : World) (ha : CellsOf w a (enCells es)) :
    Calls Tryd.prog 66 #[.slice a n cap, .int .i64 s] w fun e w' =>
      ((exeAt es s < n ∧ e = .returned (.tuple #[.int .i64 (firstT es s), .bool true])) ∨ (¬ exeAt es s < n ∧ e = .returned (.tuple #[.int .i64 0, .bool false]))) ∧ Gr w w' := by
  obtain ⟨W1, hW1⟩ : ∃ W1, W1 = w.alloc (.cells #[.int .i64 s] 2) := ⟨_, rfl⟩
  have GW := hid (show Gr w W1 by rw [hW1]; exact (Gr.refl w).alloc _)
  have hc : W1.cell? ⟨w.heap.size, 0, none⟩ = some (.int .i64 s) := by rw [hW1, cell_of_row _ _ _ _ _ _ (heap_new (w := w) (o := .cells #[.int .i64 s] 2) rfl)]; rfl
  have HIX := hid (indexEx_any es n cap hl hn s ⟨w.heap.size, 0, none⟩ a W1 (ha.gr GW.out) hc)
  have HIV := hid (show idxV (exeB es s) n 0 = if exeAt es s < n then (exeAt es s : Int) else -1 by unfold idxV exeAt; rw [← hl]; simp)
  have HT := hid (fun (h : exeAt es s < n) => show firstT es s = (enAt es (exeAt es s)).t by unfold firstT; rw [← hl, if_pos h])
  have HA := hid (fun V (g : Gr w V) (h : exeAt es s < n) => en_at (ha.gr g) (i := exeAt es s) (by rw [← hl]; exact h))
  have hmf : ∀ (fn : Fn) (first cap : Array Value) (w : World), (Instr.makeFunc fn first cap).run Tryd.prog w = .ok (.func fn first cap) w := fun _ _ _ _ => rfl
  have HW1 := hid hW1
  generalize idxV (exeB es s) n 0 = ix at *
  generalize hx : exeAt es s = x at *
  generalize firstT es s = t at *
  clear hc hW1 ha hl hx
  go_enter Tryd.func66, Tryd.ntmps66
  go_wp2_with fail
  rw [← HW1.out]
  refine HIX.out.mono ?_
  rintro e w2 ⟨rfl, g2⟩
  have G2 := hid (GW.out.trans g2)
  clear g2
  by_cases h : x < n
  · have hix : ix = (x : Int) := by rw [HIV.out, if_pos h]
    subst hix
    obtain ⟨b, o, rfl, p0, -, -⟩ := HA.out w2 G2.out h
    rw [← HT.out h] at p0
    have HH := hid h
    have hx0 : (0 : Int) ≤ x := by omega
    have hx1 : (x : Int) < n := by omega
    have hx2 : ¬ (x : Int) < 0 := by omega
    clear HIV HT HA HIX
    go_wp2_with fail
    go_ret2
    exact ⟨.inl ⟨HH.out, rfl⟩, G2.out⟩
  · have hix : ix = -1 := by rw [HIV.out, if_neg h]
    subst hix
    have HH := hid h
    clear HIV HT HA HIX
    go_wp2_with fail
    go_ret2
    exact ⟨.inr ⟨HH.out, rfl⟩, G2.out⟩
end Go.Proofs.YtnkoakneffjkbaaDoor
