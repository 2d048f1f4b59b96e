/- LaterIf: the functions. -/
import Derived.Test.YtflbjjcpkhldkaaDoorLaterS
import Derived.Test.YtflbjjcpkhldkaaDoorReplyInt
namespace Go.Proofs.YtflbjjcpkhldkaaDoor
set_option linter.unusedVariables false
open Go.RowKit
def minTxt : ByteArray := ⟨#[109, 105, 110, 117, 116, 101, 115]⟩
set_option maxRecDepth 100000 in
theorem laterIf_pan (al : Option Addr) (n cal : Nat) (xs : List Int) (hl : xs.length = n * 3) (hv : lineB n xs = true) (a : Option Addr) (c : Nat) (s : Int) (hr : rgV s 0 ((n : Int) - 1) = false) (m : Int) (w : World) (hline : CellsOf w al (xs.map (Value.int .i8))) :
    Calls Tryd.prog 90 #[.slice al n cal, .slice a n c, .int .i64 s, .int .i64 m] w fun e w' => e = .panicked [{ v := .iface 122 (.int .i64 s), recovered := false }] ∧ Gr w w' := by
  obtain ⟨h0, h20⟩ := (lineOk_of hv).1
  obtain ⟨b, off, rfl, -⟩ := hline 0 (by simp [hl]; omega)
  have HCL := hid (cloneShips_any b off n cal h0 (by omega) xs hl w hline)
  have HP := hid (placeOf_no (some ⟨b, off, none⟩) n cal s (by omega) hr)
  clear hl hv hline hr
  go_enter Tryd.func90, Tryd.ntmps90
  go_wp2_with fail
  refine HCL.out.mono ?_
  rintro e w1 ⟨v, rfl, o1, g1⟩
  have G1 := hid g1
  clear o1 g1
  unfold id
  go_wp2_with fail
  refine (HP.out _).mono ?_
  rintro e w2 ⟨rfl, rfl⟩
  go_wp2_with fail
  exact ⟨rfl, rfl, G1.out⟩
set_option maxRecDepth 100000 in
theorem laterTell_rng (a : Option Addr) (n c : Nat) (m : Int) (hr : rgV m 0 60 = false) (mp lp sp : Addr) (w : World) (hmp : w.cell? mp = some (.int .i64 m)) :
    Calls Tryd.prog 89 (#[.slice a n c] ++ #[.pointer (some mp), .pointer (some lp), .pointer (some sp)]) w fun e w' => (∃ v, e = .returned (.tuple #[v, .iface 98 (.string minTxt)])) ∧ Gr w w' := by
  have HR := hid (fun V => isBetween_r hr V)
  clear hr
  go_enter Tryd.func89, Tryd.ntmps89
  go_wp2_with fail
  refine (HR.out _).mono ?_
  rintro e w0 ⟨rfl, rfl⟩
  go_wp2_with fail
  go_ret2
  exact ⟨⟨_, rfl⟩, Gr.refl _⟩
set_option maxRecDepth 100000 in
theorem laterTell_pan (al : Option Addr) (n cal : Nat) (xs : List Int) (hl : xs.length = n * 3) (hv : lineB n xs = true) (a : Option Addr) (c : Nat) (s : Int) (hr : rgV s 0 ((n : Int) - 1) = false) (m : Int) (hm : rgV m 0 60 = true) (mp lp sp : Addr) (w : World) (hmp : w.cell? mp = some (.int .i64 m)) (hlp : w.cell? lp = some (.slice al n cal)) (hsp : w.cell? sp = some (.int .i64 s)) (hline : CellsOf w al (xs.map (Value.int .i8))) :
    Calls Tryd.prog 89 (#[.slice a n c] ++ #[.pointer (some mp), .pointer (some lp), .pointer (some sp)]) w fun e w' => e = .panicked [{ v := .iface 122 (.int .i64 s), recovered := false }] ∧ Gr w w' := by
  have HR := hid (fun V => isBetween_r hm V)
  have HP := hid (laterIf_pan al n cal xs hl hv a c s hr m w hline)
  clear hl hv hline hr hm
  go_enter Tryd.func89, Tryd.ntmps89
  go_wp2_with fail
  refine (HR.out _).mono ?_
  rintro e w0 ⟨rfl, rfl⟩
  go_wp2_with fail
  refine HP.out.mono ?_
  rintro e w2 ⟨rfl, g2⟩
  have G2 := hid g2
  clear g2
  go_wp2_with fail
  exact ⟨rfl, rfl, G2.out⟩
set_option maxRecDepth 100000 in
theorem laterTell_ok (al : Option Addr) (n cal : Nat) (xs : List Int) (hl : xs.length = n * 3) (hv : lineB n xs = true) (a : Option Addr) (c : Nat) (s : Nat) (hs : s < n) (m : Int) (hm : rgV m 0 60 = true) (mp lp sp : Addr) (w : World) (hnv : NeverAt w) (hmp : w.cell? mp = some (.int .i64 m)) (hlp : w.cell? lp = some (.slice al n cal)) (hsp : w.cell? sp = some (.int .i64 s)) (hline : CellsOf w al (xs.map (Value.int .i8))) (ha : CellsOf w a (tmCells (timesL n xs))) :
    Calls Tryd.prog 89 (#[.slice a n c] ++ #[.pointer (some mp), .pointer (some lp), .pointer (some sp)]) w fun e w' => e = .returned (.tuple #[.int .i64 (lastC (timesM n xs s m) - lastC (timesL n xs)), .nilIface]) ∧ Gr w w' := by
  have HR := hid (fun V => isBetween_r hm V)
  have HP := hid (laterIf_any al n cal xs hl hv a c s hs m (rgV_iff.1 hm) w hnv hline ha)
  generalize lastC (timesM n xs s m) - lastC (timesL n xs) = q at *
  clear hl hv hline hm ha hnv
  go_enter Tryd.func89, Tryd.ntmps89
  go_wp2_with fail
  refine (HR.out _).mono ?_
  rintro e w0 ⟨rfl, rfl⟩
  go_wp2_with fail
  refine HP.out.mono ?_
  rintro e w2 ⟨rfl, g2⟩
  have G2 := hid g2
  clear g2
  go_wp2_with fail
  go_ret2
  exact ⟨rfl, G2.out⟩
set_option maxRecDepth 100000 in
set_option maxHeartbeats 1000000 in
theorem impl_LaterIf_law (a : Option Addr) (n cap : Nat) (xs : List Int) (hl : xs.length = n * 3) (hn : n ≤ 1048576) (hf : Fits .i8 xs) (s : Int) (_vs : (Lit.int .i64 s).wf = true) (m : Int) (_vm : (Lit.int .i64 m).wf = true) (w : World) (hnv : NeverAt w) (hs : CellsOf w a (xs.map (Value.int .i8))) :
    Calls Tryd.prog 46 #[.slice a n cap, .int .i64 s, .int .i64 m] w fun e w' => e = .returned (.tuple #[.int .i64 (laterV n xs s m), .int .i64 (laterC n xs s m)]) ∧ Gr w w' := by
  have hmf : ∀ (fn : Fn) (first cap : Array Value) (w : World), (Instr.makeFunc fn first cap).run Tryd.prog w = .ok (.func fn first cap) w := fun _ _ _ _ => rfl
  have g0 : Gr w (((w.alloc (.cells #[.slice a n cap] 27)).alloc (.cells #[.int .i64 s] 2)).alloc (.cells #[.int .i64 m] 2)) := (((Gr.refl w).alloc _).alloc _).alloc _
  have G0 := hid g0
  have c0 : (((w.alloc (.cells #[.slice a n cap] 27)).alloc (.cells #[.int .i64 s] 2)).alloc (.cells #[.int .i64 m] 2)).cell? ⟨w.heap.size, 0, none⟩ = some (.slice a n cap) := Gr.cell (((Gr.refl (w.alloc (.cells #[.slice a n cap] 27))).alloc _).alloc _) (by rw [cell_of_row _ _ _ _ _ _ (heap_new (w := w) (o := .cells #[.slice a n cap] 27) (by simp))]; rfl)
  have c1 : (((w.alloc (.cells #[.slice a n cap] 27)).alloc (.cells #[.int .i64 s] 2)).alloc (.cells #[.int .i64 m] 2)).cell? ⟨w.heap.size + 1, 0, none⟩ = some (.int .i64 s) := Gr.cell ((Gr.refl ((w.alloc (.cells #[.slice a n cap] 27)).alloc (.cells #[.int .i64 s] 2))).alloc _) (by rw [cell_of_row _ _ _ _ _ _ (heap_new (w := (w.alloc (.cells #[.slice a n cap] 27))) (o := .cells #[.int .i64 s] 2) (by simp))]; rfl)
  have c2 : (((w.alloc (.cells #[.slice a n cap] 27)).alloc (.cells #[.int .i64 s] 2)).alloc (.cells #[.int .i64 m] 2)).cell? ⟨w.heap.size + 2, 0, none⟩ = some (.int .i64 m) := Gr.cell (Gr.refl (((w.alloc (.cells #[.slice a n cap] 27)).alloc (.cells #[.int .i64 s] 2)).alloc (.cells #[.int .i64 m] 2))) (by rw [cell_of_row _ _ _ _ _ _ (heap_new (w := ((w.alloc (.cells #[.slice a n cap] 27)).alloc (.cells #[.int .i64 s] 2))) (o := .cells #[.int .i64 m] 2) (by simp))]; rfl)
  have HA : Hid (Calls Tryd.prog 78 #[.slice a n cap, .func (.func 89) #[] #[.pointer (some ⟨w.heap.size + 2, 0, none⟩), .pointer (some ⟨w.heap.size, 0, none⟩), .pointer (some ⟨w.heap.size + 1, 0, none⟩)]] (((w.alloc (.cells #[.slice a n cap] 27)).alloc (.cells #[.int .i64 s] 2)).alloc (.cells #[.int .i64 m] 2)) (fun e w' => e = .returned (.tuple #[.int .i64 (laterV n xs s m), .int .i64 (laterC n xs s m)]) ∧ Gr (((w.alloc (.cells #[.slice a n cap] 27)).alloc (.cells #[.int .i64 s] 2)).alloc (.cells #[.int .i64 m] 2)) w')) := by
    apply hid
    cases hv : lineB n xs with
    | false =>
      rw [show laterV n xs s m = 0 by unfold laterV; rw [hv]; rfl, show laterC n xs s m = 1 by unfold laterC; rw [hv]; rfl]
      exact ans_Int_no a n cap xs hl hn hf hv 89 #[.pointer (some ⟨w.heap.size + 2, 0, none⟩), .pointer (some ⟨w.heap.size, 0, none⟩), .pointer (some ⟨w.heap.size + 1, 0, none⟩)] (((w.alloc (.cells #[.slice a n cap] 27)).alloc (.cells #[.int .i64 s] 2)).alloc (.cells #[.int .i64 m] 2)) ((sliceOf_cells hs).gr g0)
    | true =>
      cases hm : rgV m 0 60 with
      | false =>
        rw [show laterV n xs s m = 0 by unfold laterV; rw [hv, hm]; cases rgV s 0 ((n : Int) - 1) <;> rfl, show laterC n xs s m = 2 by unfold laterC; rw [hv, hm]; cases rgV s 0 ((n : Int) - 1) <;> rfl]
        exact ans_Int_err_outOfRange minTxt a n cap xs hl hn hf hv 89 #[.pointer (some ⟨w.heap.size + 2, 0, none⟩), .pointer (some ⟨w.heap.size, 0, none⟩), .pointer (some ⟨w.heap.size + 1, 0, none⟩)] (((w.alloc (.cells #[.slice a n cap] 27)).alloc (.cells #[.int .i64 s] 2)).alloc (.cells #[.int .i64 m] 2)) (hnv.gr g0) ((sliceOf_cells hs).gr g0) (fun args w => callFunc_enter Tryd.func89 (by kernel_rfl) (by kernel_rfl) args w)
          (fun W V av cv gW gV o => laterTell_rng av n cv m hm _ _ _ V ((gW.trans gV).cell c2))
      | true =>
        cases hr : rgV s 0 ((n : Int) - 1) with
        | false =>
          rw [show laterV n xs s m = 0 by unfold laterV; rw [hv, hr]; rfl, show laterC n xs s m = 2 by unfold laterC; rw [hv, hr]; rfl]
          exact ans_Int_pan_noShip s a n cap xs hl hn hf hv 89 #[.pointer (some ⟨w.heap.size + 2, 0, none⟩), .pointer (some ⟨w.heap.size, 0, none⟩), .pointer (some ⟨w.heap.size + 1, 0, none⟩)] (((w.alloc (.cells #[.slice a n cap] 27)).alloc (.cells #[.int .i64 s] 2)).alloc (.cells #[.int .i64 m] 2)) (hnv.gr g0) ((sliceOf_cells hs).gr g0) (fun args w => callFunc_enter Tryd.func89 (by kernel_rfl) (by kernel_rfl) args w)
            (fun W V av cv gW gV o => laterTell_pan a n cap xs hl hv av cv s hr m hm _ _ _ V ((gW.trans gV).cell c2) ((gW.trans gV).cell c0) ((gW.trans gV).cell c1) (hs.gr (g0.trans (gW.trans gV))))
        | true =>
          obtain ⟨sn, rfl⟩ : ∃ sn : Nat, s = (sn : Int) := ⟨s.toNat, by have := rgV_iff.1 hr; omega⟩
          have hsn : sn < n := by have := rgV_iff.1 hr; omega
          rw [show laterV n xs sn m = lastC (timesM n xs sn m) - lastC (timesL n xs) by unfold laterV; rw [hv, hr, hm]; rfl, show laterC n xs sn m = 0 by unfold laterC; rw [hv, hr, hm]; rfl]
          exact (ans_Int_ok a n cap xs hl hn hf hv 89 #[.pointer (some ⟨w.heap.size + 2, 0, none⟩), .pointer (some ⟨w.heap.size, 0, none⟩), .pointer (some ⟨w.heap.size + 1, 0, none⟩)] (fun _ v _ => v = .int .i64 (lastC (timesM n xs sn m) - lastC (timesL n xs))) _ (hnv.gr g0) ((sliceOf_cells hs).gr g0) (fun args w => callFunc_enter Tryd.func89 (by kernel_rfl) (by kernel_rfl) args w) (fun _ _ _ _ _ _ _ h => h)
            (fun W V av cv gW gV o => (laterTell_ok a n cap xs hl hv av cv sn hsn m hm _ _ _ V (hnv.gr (g0.trans (gW.trans gV))) ((gW.trans gV).cell c2) ((gW.trans gV).cell c0) ((gW.trans gV).cell c1) (hs.gr (g0.trans (gW.trans gV))) o.reads).mono (by rintro e w' ⟨rfl, g⟩; exact ⟨_, rfl, rfl, g⟩))).mono (by rintro e w' ⟨W, v, rfl, rfl, -, g⟩; exact ⟨rfl, g⟩)
  generalize laterV n xs s m = y at *
  generalize laterC n xs s m = q at *
  clear hs hl hf hnv g0 c1 c2
  go_enter Tryd.func46, Tryd.ntmps46
  go_wp2_with fail
  refine HA.out.mono ?_
  rintro e w1 ⟨rfl, g1⟩
  have G1 := hid (G0.out.trans g1)
  clear g1
  go_wp2_with fail
  go_ret2
  exact ⟨rfl, G1.out⟩
set_option maxRecDepth 100000 in
set_option maxHeartbeats 1000000 in
theorem spec_LaterIf_law (a : Option Addr) (n cap : Nat) (xs : List Int) (hl : xs.length = n * 3) (hn : n ≤ 1048576) (hf : Fits .i8 xs) (s : Int) (_vs : (Lit.int .i64 s).wf = true) (m : Int) (_vm : (Lit.int .i64 m).wf = true) (w : World) (hs : CellsOf w a (xs.map (Value.int .i8))) :
    Calls Tryd.prog 45 #[.slice a n cap, .int .i64 s, .int .i64 m] w fun e w' => e = .returned (.tuple #[.int .i64 (laterV n xs s m), .int .i64 (laterC n xs s m)]) ∧ Gr w w' := by
  have HO := hid (l06Asked_any a n cap xs hl hn hf s w (sliceOf_cells hs))
  cases hc : (askC n xs s == 0) with
  | true =>
    have hc' : askC n xs s = 0 := by simpa using hc
    obtain ⟨hv, hr⟩ : lineB n xs = true ∧ rgV s 0 ((n : Int) - 1) = true := by
      unfold askC at hc'
      split at hc'
      · rename_i h1
        split at hc'
        · rename_i h2; exact ⟨h1, h2⟩
        · simp at hc'
      · simp at hc'
    rw [hc'] at HO
    cases hm : rgV m 0 60 with
    | false =>
      have HR := hid (fun V => l00In_v hm V)
      rw [show laterV n xs s m = 0 by unfold laterV; rw [hv, hm]; cases rgV s 0 ((n : Int) - 1) <;> rfl, show laterC n xs s m = 2 by unfold laterC; rw [hv, hm]; cases rgV s 0 ((n : Int) - 1) <;> rfl]
      clear hs hl hf hv hr hm hc hc'
      go_enter Tryd.func45, Tryd.ntmps45
      go_wp2_with fail
      refine HO.out.mono ?_
      rintro e w1 ⟨rfl, g1⟩
      have G1 := hid g1
      clear g1
      go_wp2_with fail
      refine (HR.out _).mono ?_
      rintro e w0 ⟨rfl, rfl⟩
      go_wp2_with fail
      go_ret2
      exact ⟨rfl, G1.out⟩
    | true =>
      have HR := hid (fun V => l00In_v hm V)
      have HLT := hid (fun V (g : Gr w V) => l06Later_any a n cap xs hl hv s m (rgV_iff.1 hm) V ((sliceOf_cells hs).gr g))
      rw [show laterV n xs s m = lastC (timesM n xs s m) - lastC (timesL n xs) by unfold laterV; rw [hv, hr, hm]; rfl, show laterC n xs s m = 0 by unfold laterC; rw [hv, hr, hm]; rfl]
      generalize lastC (timesM n xs s m) - lastC (timesL n xs) = y at *
      clear hs hl hf hv hr hm hc hc'
      go_enter Tryd.func45, Tryd.ntmps45
      go_wp2_with fail
      refine HO.out.mono ?_
      rintro e w1 ⟨rfl, g1⟩
      have G1 := hid g1
      clear g1
      go_wp2_with fail
      refine (HR.out _).mono ?_
      rintro e w0 ⟨rfl, rfl⟩
      go_wp2_with fail
      refine (HLT.out _ G1.out).mono ?_
      rintro e w2 ⟨rfl, g2⟩
      have G2 := hid (G1.out.trans g2)
      clear g2
      go_wp2_with fail
      go_ret2
      exact ⟨rfl, G2.out⟩
  | false =>
    have hV : laterV n xs s m = 0 := by
      unfold laterV
      unfold askC at hc
      split
      · rename_i h1
        rw [if_pos h1] at hc
        split
        · rename_i h2; rw [if_pos h2] at hc; simp at hc
        · rfl
      · rfl
    have hC : laterC n xs s m = askC n xs s := by
      unfold laterC
      unfold askC at hc ⊢
      split
      · rename_i h1
        rw [if_pos h1] at hc
        split
        · rename_i h2; rw [if_pos h2] at hc; simp at hc
        · rfl
      · rfl
    rw [hV, hC]
    generalize askC n xs s = q at *
    clear hs hl hf hV hC
    go_enter Tryd.func45, Tryd.ntmps45
    go_wp2_with fail
    refine HO.out.mono ?_
    rintro e w1 ⟨rfl, g1⟩
    have G1 := hid g1
    clear g1
    go_wp2_with fail
    go_ret2
    exact ⟨rfl, G1.out⟩
end Go.Proofs.YtflbjjcpkhldkaaDoor
