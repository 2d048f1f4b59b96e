/- SlackOf: the functions. -/
import Derived.Test.YtflbjjcpkhldkaaDoorMono
import Derived.Test.YtflbjjcpkhldkaaDoorLaterIf
namespace Go.Proofs.YtflbjjcpkhldkaaDoor
set_option linter.unusedVariables false
open Go.RowKit
set_option maxRecDepth 100000 in
theorem slackAt_pan (al : Option Addr) (n cal : Nat) (xs : List Int) (hl : xs.length = n * 3) (hv : lineB n xs = true) (a : Option Addr) (c : Nat) (s : Int) (hr : rgV s 0 ((n : Int) - 1) = false) (t : Int) (_ht : t = 30) (lp tp sp : Addr) (w : World) (hlp : w.cell? lp = some (.slice al n cal)) (htp : w.cell? tp = some (.slice a n c)) (hsp : w.cell? sp = some (.int .i64 s)) (hline : CellsOf w al (xs.map (Value.int .i8))) :
    Calls Tryd.prog 93 (#[.int .i64 t] ++ #[.pointer (some lp), .pointer (some tp), .pointer (some sp)]) w fun e w' => e = .panicked [{ v := .iface 122 (.int .i64 s), recovered := false }] ∧ Gr w w' := by
  subst _ht
  have HP := hid (laterIf_pan al n cal xs hl hv a c s hr 31 w hline)
  clear hl hv hline hr
  go_enter Tryd.func93, Tryd.ntmps93
  go_wp2_with fail
  refine HP.out.mono ?_
  rintro e w2 ⟨rfl, g2⟩
  have G2 := hid g2
  clear g2
  go_wp2_with fail
  exact ⟨rfl, rfl, G2.out⟩
set_option maxRecDepth 100000 in
theorem slackAt_ok (al : Option Addr) (n cal : Nat) (xs : List Int) (hl : xs.length = n * 3) (hv : lineB n xs = true) (a : Option Addr) (c : Nat) (s : Nat) (hs : s < n) (t : Nat) (ht : t < 60) (lp tp sp : Addr) (w : World) (hnv : NeverAt w) (hlp : w.cell? lp = some (.slice al n cal)) (htp : w.cell? tp = some (.slice a n c)) (hsp : w.cell? sp = some (.int .i64 s)) (hline : CellsOf w al (xs.map (Value.int .i8))) (ha : CellsOf w a (tmCells (timesL n xs))) :
    Calls Tryd.prog 93 (#[.int .i64 t] ++ #[.pointer (some lp), .pointer (some tp), .pointer (some sp)]) w fun e w' => e = .returned (.bool (slackB n xs s t)) ∧ Gr w w' := by
  have HP := hid (laterIf_any al n cal xs hl hv a c s hs ((t : Int) + 1) (by omega) w hnv hline ha)
  have HE := hid (show slackB n xs s t = decide (0 < lastC (timesM n xs s ((t : Int) + 1)) - lastC (timesL n xs)) from rfl)
  rw [HE.out]
  generalize lastC (timesM n xs s ((t : Int) + 1)) - lastC (timesL n xs) = q at *
  have e1 : IntKind.i64.wrap ((t : Int) + 1) = (t : Int) + 1 := IntWalk.i64_in _ (by omega)
  clear hl hv hline ha hnv HE
  cases hq : decide (0 < q)
  all_goals
    go_enter Tryd.func93, Tryd.ntmps93
    go_wp2_with fail
    refine HP.out.mono ?_
    rintro e w2 ⟨rfl, g2⟩
    have G2 := hid g2
    clear g2
    go_wp2_with fail
    go_ret
    exact ⟨rfl, G2.out⟩
set_option maxRecDepth 100000 in
theorem slackTell_pan (al : Option Addr) (n cal : Nat) (xs : List Int) (hl : xs.length = n * 3) (hv : lineB n xs = true) (a : Option Addr) (c : Nat) (s : Int) (hr : rgV s 0 ((n : Int) - 1) = false) (lp sp : Addr) (w : World) (hlp : w.cell? lp = some (.slice al n cal)) (hsp : w.cell? sp = some (.int .i64 s)) (hline : CellsOf w al (xs.map (Value.int .i8))) :
    Calls Tryd.prog 91 (#[.slice a n c] ++ #[.pointer (some lp), .pointer (some sp)]) w fun e w' => e = .panicked [{ v := .iface 122 (.int .i64 s), recovered := false }] ∧ Gr w w' := by
  have hmf : ∀ (fn : Fn) (first cap : Array Value) (w : World), (Instr.makeFunc fn first cap).run Tryd.prog w = .ok (.func fn first cap) w := fun _ _ _ _ => rfl
  have g0 := (Gr.refl w).alloc (.cells #[.slice a n c] 24)
  have G0 := hid g0
  have hc0 : (w.alloc (.cells #[.slice a n c] 24)).cell? ⟨w.heap.size, 0, none⟩ = some (.slice a n c) := by
    rw [cell_of_row _ _ _ _ _ _ (heap_new (w := w) (o := .cells #[.slice a n c] 24) rfl)]; rfl
  have HS := hid (search_pan (.int .i64 s) 122 93 #[.pointer (some lp), .pointer (some ⟨w.heap.size, 0, none⟩), .pointer (some sp)] (w.alloc (.cells #[.slice a n c] 24)) (fun args w => callFunc_enter Tryd.func93 (by kernel_rfl) (by kernel_rfl) args w)
    (slackAt_pan al n cal xs hl hv a c s hr 30 rfl lp _ sp _ (g0.cell hlp) hc0 (g0.cell hsp) (hline.gr g0)))
  clear hl hv hline hr g0 hc0
  go_enter Tryd.func91, Tryd.ntmps91
  go_wp2_with fail
  refine HS.out.mono ?_
  rintro e w1 ⟨rfl, g1⟩
  have G1 := hid (G0.out.trans g1)
  clear g1
  go_wp2_with fail
  exact ⟨rfl, rfl, G1.out⟩
set_option maxRecDepth 100000 in
theorem slackTell_ok (al : Option Addr) (n cal : Nat) (xs : List Int) (hl : xs.length = n * 3) (hv : lineB n xs = true) (a : Option Addr) (c : Nat) (s : Nat) (hs : s < n) (lp sp : Addr) (w : World) (hnv : NeverAt w) (hlp : w.cell? lp = some (.slice al n cal)) (hsp : w.cell? sp = some (.int .i64 s)) (hline : CellsOf w al (xs.map (Value.int .i8))) (ha : CellsOf w a (tmCells (timesL n xs))) :
    Calls Tryd.prog 91 (#[.slice a n c] ++ #[.pointer (some lp), .pointer (some sp)]) w fun e w' => e = .returned (.tuple #[.int .i64 (slackFrom (slackB n xs s) 60 0), .nilIface]) ∧ Gr w w' := by
  have hmf : ∀ (fn : Fn) (first cap : Array Value) (w : World), (Instr.makeFunc fn first cap).run Tryd.prog w = .ok (.func fn first cap) w := fun _ _ _ _ => rfl
  have g0 := (Gr.refl w).alloc (.cells #[.slice a n c] 24)
  have G0 := hid g0
  have hc0 : (w.alloc (.cells #[.slice a n c] 24)).cell? ⟨w.heap.size, 0, none⟩ = some (.slice a n c) := by
    rw [cell_of_row _ _ _ _ _ _ (heap_new (w := w) (o := .cells #[.slice a n c] 24) rfl)]; rfl
  have HS := hid (search_any (slackB n xs s) (fun t t' h => slackB_mono hv s h) 93 #[.pointer (some lp), .pointer (some ⟨w.heap.size, 0, none⟩), .pointer (some sp)] (w.alloc (.cells #[.slice a n c] 24)) (fun args w => callFunc_enter Tryd.func93 (by kernel_rfl) (by kernel_rfl) args w)
    (fun V t g ht => slackAt_ok al n cal xs hl hv a c s hs t ht lp _ sp V (hnv.gr (g0.trans g)) ((g0.trans g).cell hlp) (g.cell hc0) ((g0.trans g).cell hsp) (hline.gr (g0.trans g)) (ha.gr (g0.trans g))))
  generalize (slackFrom (slackB n xs s) 60 0 : Int) = q at *
  clear hl hv hline g0 hc0 hnv ha
  go_enter Tryd.func91, Tryd.ntmps91
  go_wp2_with fail
  refine HS.out.mono ?_
  rintro e w1 ⟨rfl, g1⟩
  have G1 := hid (G0.out.trans g1)
  clear g1
  go_wp2_with fail
  go_ret2
  exact ⟨rfl, G1.out⟩
set_option maxRecDepth 100000 in
set_option maxHeartbeats 1000000 in
theorem impl_SlackOf_law (a : Option Addr) (n cap : Nat) (xs : List Int) (hl : xs.length = n * 3) (hn : n ≤ 1048576) (hf : Fits .i8 xs) (s : Int) (_vs : (Lit.int .i64 s).wf = true) (w : World) (hnv : NeverAt w) (hs : CellsOf w a (xs.map (Value.int .i8))) :
    Calls Tryd.prog 48 #[.slice a n cap, .int .i64 s] w fun e w' => e = .returned (.tuple #[.int .i64 (slackV n xs s), .int .i64 (askC n xs s)]) ∧ Gr w w' := by
  have hmf : ∀ (fn : Fn) (first cap : Array Value) (w : World), (Instr.makeFunc fn first cap).run Tryd.prog w = .ok (.func fn first cap) w := fun _ _ _ _ => rfl
  have g0 : Gr w ((w.alloc (.cells #[.slice a n cap] 27)).alloc (.cells #[.int .i64 s] 2)) := ((Gr.refl w).alloc _).alloc _
  have G0 := hid g0
  have c0 : ((w.alloc (.cells #[.slice a n cap] 27)).alloc (.cells #[.int .i64 s] 2)).cell? ⟨w.heap.size, 0, none⟩ = some (.slice a n cap) := Gr.cell ((Gr.refl (w.alloc (.cells #[.slice a n cap] 27))).alloc _) (by rw [cell_of_row _ _ _ _ _ _ (heap_new (w := w) (o := .cells #[.slice a n cap] 27) (by simp))]; rfl)
  have c1 : ((w.alloc (.cells #[.slice a n cap] 27)).alloc (.cells #[.int .i64 s] 2)).cell? ⟨w.heap.size + 1, 0, none⟩ = some (.int .i64 s) := Gr.cell (Gr.refl ((w.alloc (.cells #[.slice a n cap] 27)).alloc (.cells #[.int .i64 s] 2))) (by rw [cell_of_row _ _ _ _ _ _ (heap_new (w := (w.alloc (.cells #[.slice a n cap] 27))) (o := .cells #[.int .i64 s] 2) (by simp))]; rfl)
  have HA : Hid (Calls Tryd.prog 78 #[.slice a n cap, .func (.func 91) #[] #[.pointer (some ⟨w.heap.size, 0, none⟩), .pointer (some ⟨w.heap.size + 1, 0, none⟩)]] ((w.alloc (.cells #[.slice a n cap] 27)).alloc (.cells #[.int .i64 s] 2)) (fun e w' => e = .returned (.tuple #[.int .i64 (slackV n xs s), .int .i64 (askC n xs s)]) ∧ Gr ((w.alloc (.cells #[.slice a n cap] 27)).alloc (.cells #[.int .i64 s] 2)) w')) := by
    apply hid
    cases hv : lineB n xs with
    | false =>
      rw [show slackV n xs s = 0 by unfold slackV; rw [hv]; rfl, show askC n xs s = 1 by unfold askC; rw [hv]; rfl]
      exact ans_Int_no a n cap xs hl hn hf hv 91 #[.pointer (some ⟨w.heap.size, 0, none⟩), .pointer (some ⟨w.heap.size + 1, 0, none⟩)] ((w.alloc (.cells #[.slice a n cap] 27)).alloc (.cells #[.int .i64 s] 2)) ((sliceOf_cells hs).gr g0)
    | true =>
      cases hr : rgV s 0 ((n : Int) - 1) with
      | false =>
        rw [show slackV n xs s = 0 by unfold slackV; rw [hv, hr]; rfl, show askC n xs s = 2 by unfold askC; rw [hv, hr]; rfl]
        exact ans_Int_pan_noShip s a n cap xs hl hn hf hv 91 #[.pointer (some ⟨w.heap.size, 0, none⟩), .pointer (some ⟨w.heap.size + 1, 0, none⟩)] ((w.alloc (.cells #[.slice a n cap] 27)).alloc (.cells #[.int .i64 s] 2)) (hnv.gr g0) ((sliceOf_cells hs).gr g0) (fun args w => callFunc_enter Tryd.func91 (by kernel_rfl) (by kernel_rfl) args w)
          (fun W V av cv gW gV o => slackTell_pan a n cap xs hl hv av cv s hr _ _ V ((gW.trans gV).cell c0) ((gW.trans gV).cell c1) (hs.gr (g0.trans (gW.trans gV))))
      | true =>
        obtain ⟨sn, rfl⟩ : ∃ sn : Nat, s = (sn : Int) := ⟨s.toNat, by have := rgV_iff.1 hr; omega⟩
        have hsn : sn < n := by have := rgV_iff.1 hr; omega
        rw [show slackV n xs sn = (slackFrom (slackB n xs sn) 60 0 : Int) by unfold slackV; rw [hv, hr, Int.toNat_natCast]; rfl, show askC n xs sn = 0 by unfold askC; rw [hv, hr]; rfl]
        exact (ans_Int_ok a n cap xs hl hn hf hv 91 #[.pointer (some ⟨w.heap.size, 0, none⟩), .pointer (some ⟨w.heap.size + 1, 0, none⟩)] (fun _ v _ => v = .int .i64 (slackFrom (slackB n xs sn) 60 0)) _ (hnv.gr g0) ((sliceOf_cells hs).gr g0) (fun args w => callFunc_enter Tryd.func91 (by kernel_rfl) (by kernel_rfl) args w) (fun _ _ _ _ _ _ _ h => h)
          (fun W V av cv gW gV o => (slackTell_ok a n cap xs hl hv av cv sn hsn _ _ V (hnv.gr (g0.trans (gW.trans gV))) ((gW.trans gV).cell c0) ((gW.trans gV).cell c1) (hs.gr (g0.trans (gW.trans gV))) o.reads).mono (by rintro e w' ⟨rfl, g⟩; exact ⟨_, rfl, rfl, g⟩))).mono (by rintro e w' ⟨W, v, rfl, rfl, -, g⟩; exact ⟨rfl, g⟩)
  generalize slackV n xs s = y at *
  generalize askC n xs s = q at *
  clear hs hl hf hnv g0 c1
  go_enter Tryd.func48, Tryd.ntmps48
  go_wp2_with fail
  refine HA.out.mono ?_
  rintro e w1 ⟨rfl, g1⟩
  have G1 := hid (G0.out.trans g1)
  clear g1
  go_wp2_with fail
  go_ret2
  exact ⟨rfl, G1.out⟩
theorem slackFrom_step {f : Nat → Bool} {q k : Nat} (h : f k = false) : slackFrom f (q + 1) k = slackFrom f q (k + 1) := by rw [slackFrom, if_neg (by rw [h]; simp)]
theorem slackFrom_stop {f : Nat → Bool} {q k : Nat} (h : f k = true) : slackFrom f (q + 1) k = k := by rw [slackFrom, if_pos h]
set_option maxRecDepth 100000 in
set_option maxHeartbeats 1000000 in
theorem spec_SlackOf_law (a : Option Addr) (n cap : Nat) (xs : List Int) (hl : xs.length = n * 3) (hn : n ≤ 1048576) (hf : Fits .i8 xs) (s : Int) (_vs : (Lit.int .i64 s).wf = true) (w : World) (hs : CellsOf w a (xs.map (Value.int .i8))) :
    Calls Tryd.prog 47 #[.slice a n cap, .int .i64 s] w fun e w' => e = .returned (.tuple #[.int .i64 (slackV n xs s), .int .i64 (askC n xs s)]) ∧ Gr w w' := by
  have HO := hid (l06Asked_any a n cap xs hl hn hf s w (sliceOf_cells hs))
  cases hc : (askC n xs s == 0) with
  | true =>
    have hc' : askC n xs s = 0 := by simpa using hc
    obtain ⟨hv, hr⟩ : lineB n xs = true ∧ rgV s 0 ((n : Int) - 1) = true := by
      unfold askC at hc'
      split at hc'
      · rename_i h1
        split at hc'
        · rename_i h2; exact ⟨h1, h2⟩
        · simp at hc'
      · simp at hc'
    obtain ⟨sn, rfl⟩ : ∃ sn : Nat, s = (sn : Int) := ⟨s.toNat, by have := rgV_iff.1 hr; omega⟩
    rw [hc'] at HO ⊢
    rw [show slackV n xs sn = (slackFrom (slackB n xs sn) 60 0 : Int) by unfold slackV; rw [hv, hr, Int.toNat_natCast]; rfl]
    have HLT := hid (fun (t : Nat) (ht : t < 60) V (g : Gr w V) => show Calls _ _ _ _ (fun e w' => e = .returned (.int .i64 (latD n xs sn ((t : Int) + 1))) ∧ Gr V w') from l06Later_any a n cap xs hl hv sn ((t : Int) + 1) (by omega) V ((sliceOf_cells hs).gr g))
    have HB := hid (fun (t : Nat) => show slackB n xs sn t = decide (0 < latD n xs sn ((t : Int) + 1)) from rfl)
    have HNN := hid (fun t : Nat => latD_nonneg hv sn (m := (t : Int) + 1) (by omega))
    clear hs hl hf hv hr hc hc'
    go_enter Tryd.func47, Tryd.ntmps47
    go_wp2_with fail
    refine HO.out.mono ?_
    rintro e w1 ⟨rfl, g1⟩
    have G1 := hid g1
    clear g1
    go_wp2_with fail
    go_loopw [7] (fun x wr => ∃ k : Nat, k ≤ 60 ∧ x = .int .i64 k ∧ Hid (slackFrom (slackB n xs sn) (60 - k) k = slackFrom (slackB n xs sn) 60 0) ∧ Hid (Gr w wr)) (fun x _ => 60 - (intOf x).toNat)
    case atStart => exact ⟨0, by omega, rfl, hid rfl, G1⟩
    case round =>
      obtain ⟨k, hk, rfl, I, G⟩ := hrel
      by_cases hlt : k < 60
      · have HC := hid (HLT.out k hlt wr G.out)
        have hbk := HB.out k
        have hnn := HNN.out k
        obtain ⟨q, hq⟩ : ∃ q, 60 - k = q + 1 := ⟨59 - k, by omega⟩
        have hI := I.out
        rw [hq] at hI
        have hq2 : 60 - (k + 1) = q := by omega
        generalize latD n xs sn ((k : Int) + 1) = d at *
        have hlt2 : (k : Int) < 60 := by omega
        by_cases hd : 0 < d
        · have HI := hid ((slackFrom_stop (q := q) (hbk.trans (decide_eq_true hd))).symm.trans hI)
          have hd2 : (d == 0) = false := by simp; omega
          clear hI hbk hq hq2 I
          go_wp2_with fail
          refine HC.out.mono ?_
          rintro e w2 ⟨rfl, g2⟩
          have G2 := hid (G.out.trans g2)
          clear g2
          go_wp2_with fail
          go_ret2
          exact ⟨by rw [← HI.out]; rfl, G2.out⟩
        · have HI := hid ((slackFrom_step (q := q) (hbk.trans (decide_eq_false hd))).symm.trans hI)
          have hd2 : d = 0 := by omega
          subst hd2
          rw [← hq2] at HI
          clear hI hbk hq hq2 I
          go_wp2_with fail
          refine HC.out.mono ?_
          rintro e w2 ⟨rfl, g2⟩
          have G2 := hid (G.out.trans g2)
          clear g2
          go_wp2_with fail
          go_roundw
          case rel => exact ⟨k + 1, by omega, by go_num, HI, G2⟩
          case measure => simp [intOf] <;> omega
      · obtain rfl : k = 60 := by omega
        have HI := hid (show slackFrom (slackB n xs sn) 60 0 = 60 from I.out.symm)
        clear I
        go_wp2_with fail
        go_ret2
        exact ⟨by rw [HI.out]; rfl, G.out⟩
  | false =>
    have hV : slackV n xs s = 0 := by
      unfold slackV
      unfold askC at hc
      split
      · rename_i h1
        rw [if_pos h1] at hc
        split
        · rename_i h2; rw [if_pos h2] at hc; simp at hc
        · rfl
      · rfl
    rw [hV]
    generalize askC n xs s = q at *
    clear hs hl hf hV
    go_enter Tryd.func47, Tryd.ntmps47
    go_wp2_with fail
    refine HO.out.mono ?_
    rintro e w1 ⟨rfl, g1⟩
    have G1 := hid g1
    clear g1
    go_wp2_with fail
    go_ret2
    exact ⟨rfl, G1.out⟩
end Go.Proofs.YtflbjjcpkhldkaaDoor
