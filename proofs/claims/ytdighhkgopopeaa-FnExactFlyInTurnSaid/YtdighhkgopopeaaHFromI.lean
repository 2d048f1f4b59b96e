/- HoistFrom: the program's function. -/
import Derived.Test.YtdighhkgopopeaaHForB
import Derived.Test.YtdighhkgopopeaaLockH
import Derived.Test.YtdighhkgopopeaaLkM
namespace Go.Proofs.Ytdighhkgopopeaa
set_option linter.unusedVariables false
open Go.RowKit
set_option maxRecDepth 100000 in
set_option maxHeartbeats 1000000 in
theorem allM1_any (b : Nat) (a : Option Addr) (n cap : Nat) (m : List Int) (hn : n = m.length) (hm : n ≤ 1048576) (hcap : n ≤ cap) (hf : Fits .i8 m) (w : World) (hb : w.heap[b]? = some (.cells #[.slice a n cap] 33 (0, 0))) (hs : SliceOf .i8 w a m) :
    Calls Try.prog 72 #[.slice (some ⟨b, 0, none⟩) 1 1, .func (.func 73) #[] #[]] w fun e w' => e = .returned (.bool (plainH m)) ∧ Gr w w' := by
  have HB := hid hb
  have HV := hid (fun V (g : Gr w V) => impl_ValidMeaning_cap a n cap m hn hm hcap hf V (hs.gr g))
  have hcf := callFunc_enter Try.func73 (by kernel_rfl) (by kernel_rfl)
  clear hb hs hn hm hcap hf
  generalize plainH m = p at *
  go_enter Try.func72, Try.ntmps72
  go_wp2_with fail
  go_loopw [6, 9] (fun _ i wr => ∃ k : Nat, k ≤ 1 ∧ i = .int .i64 k ∧ Hid (1 ≤ k → p = true) ∧ Hid (Gr w wr)) (fun _ i _ => 1 - (intOf i).toNat)
  case atStart => exact ⟨0, Nat.zero_le _, rfl, hid (fun h => by omega), hid (Gr.refl _)⟩
  case round =>
    obtain ⟨k, hk, rfl, hp, gr⟩ := hrel
    rcases (show k = 0 ∨ k = 1 by omega) with rfl | rfl
    · have c0 : wr.cell? ⟨b, 0, none⟩ = some (.slice a n cap) := by rw [cell_of_row _ _ _ _ _ _ (gr.out.heap HB.out)]; rfl
      have HVK := hid (HV.out wr gr.out)
      clear HV
      go_wp2_with fail
      refine HVK.out.mono ?_
      rintro e w1 ⟨rfl, g1⟩
      have G1 := hid (gr.out.trans g1)
      clear g1 HVK
      cases p with
      | false =>
        go_wp2_with fail
        go_ret
        exact ⟨rfl, G1.out⟩
      | true =>
        go_wp2_with fail
        go_roundw
        case rel => exact ⟨1, by omega, rfl, hid (by simp), G1⟩
        case measure => simp [intOf]
    · obtain rfl := hp.out (Nat.le_refl _)
      go_wp2_with fail
      go_ret
      exact ⟨rfl, gr.out⟩
set_option maxRecDepth 100000 in
theorem meaning1_isValid (b : Nat) (a : Option Addr) (n cap : Nat) (m : List Int) (hn : n = m.length) (hm : n ≤ 1048576) (hcap : n ≤ cap) (hf : Fits .i8 m) (w : World) (hb : w.heap[b]? = some (.cells #[.slice a n cap] 33 (0, 0))) (hs : SliceOf .i8 w a m) :
    Calls Try.prog 70 #[.slice (some ⟨b, 0, none⟩) 1 1] w fun e w' => e = .returned (.bool (plainH m)) ∧ Gr w w' := by
  have HA := hid (allM1_any b a n cap m hn hm hcap hf w hb hs)
  clear hn hm hcap hf hb hs
  generalize plainH m = r at *
  go_enter Try.func70, Try.ntmps70
  go_wp2_with fail
  refine HA.out.mono ?_
  rintro e w1 ⟨rfl, g1⟩
  have G1 := hid g1
  clear g1
  go_wp2_with fail
  go_ret
  exact ⟨rfl, G1.out⟩
set_option maxRecDepth 100000 in
theorem meaning1_signals (b : Nat) (w : World) :
    Calls Try.prog 71 #[.slice (some ⟨b, 0, none⟩) 1 1] w fun e w' => e = .returned (.int .i64 1) ∧ Gr w w' := by
  go_enter Try.func71, Try.ntmps71
  go_wp2_with fail
  go_ret
  exact ⟨rfl, Gr.refl _⟩
theorem there_av (q : Nat) (xs : List Int) (lx : xs.length = 44) (hv : lockB xs = true) (V : World) (x : Int) (hx : -4 ≤ x ∧ x ≤ 39) (hK : V.heap[q]? = some (.cells (kCells .i16 (stk xs)) 64 (0, 0))) :
    Calls Try.prog 31 (#[.pointer (some ⟨q, 0, none⟩)] ++ #[.int .i8 x] ++ #[]) V fun e w' => e = .returned (.int .i64 (avL xs x)) ∧ V = w' := by
  have hc := cell_ints hK (i := sOff (pIdx x)) (by rw [stk_length lx]; exact sOff_lt (pIdx_lt hx))
  rw [stk_get lx (pIdx_lt hx)] at hc
  have h := there_p q (pIdx_lt hx) (avL xs x) (by have := lockB_get hv (pIdx x); unfold avL; omega) V hc
  rw [pNum_pIdx hx] at h
  exact h
theorem twoC_1 (a b : Bool) : twoC a b 1 = if a && b then 0 else 1 := by cases a <;> cases b <;> rfl
set_option maxHeartbeats 4000000 in
set_option maxRecDepth 100000 in
theorem impl_HoistFrom_cap (xs : List Int) (lx : xs.length = 44) (fx : Fits .i16 xs) (a : Option Addr) (n cap : Nat) (m : List Int) (hn : n = m.length) (hm : n ≤ 1048576) (hcap : n ≤ cap) (hf : Fits .i8 m) (w : World) (hs : SliceOf .i8 w a m) :
    Calls Try.prog 8 #[.agg (kCells .i16 xs), .slice a n cap] w (RetOwn .i8 59 (withCode (hfC xs m)) (hfL xs m) w) := by
  have LX := hid lx
  have HSX := hid (stockOf_any xs lx)
  have HLS := hid (stk_length lx)
  have HSR := hid (fun V (g : Gr w V) => hs.gr g)
  have HCK := hid (fun bM b V (g : Gr w V) (hM : V.heap[bM]? = some (.cells #[.slice a n cap] 33 (0, 0))) hb => checkLM b xs lx fx (.slice (some ⟨bM, 0, none⟩) 1 1) (plainH m) 1 V (fun U gU => meaning1_isValid bM a n cap m hn hm hcap hf U (gU.heap hM) ((hs.gr g).gr gU)) (fun U _ => meaning1_signals bM U) hb)
  rw [twoC_1] at HCK
  have HFH := hid (fun (h : (lockB xs && plainH m) = true) q V (g : Gr w V) (hq : V.heap[q]? = some (.cells (kCells .i16 (stk xs)) 64 (0, 0))) =>
    have h2 : lockB xs = true ∧ plainH m = true := by simpa using h
    firstHoist_any a n cap m hn hcap h2.2 (avL xs) 31 #[.pointer (some ⟨q, 0, none⟩)] #[] (callFunc_enter Try.func31 (by kernel_rfl) (by kernel_rfl))
      (fun V => V.heap[q]? = some (.cells (kCells .i16 (stk xs)) 64 (0, 0))) V (hs.gr g)
      (fun A B lo k hlo hK ho => ho.heap hK (.inl (by have := lt_of_heap hq; omega))) hq
      (fun U x hK hx => there_av q xs lx h2.1 U x hx hK))
  have HLK := hid (fun (h : (lockB xs && plainH m) = true) => show goC (choT m n n) (avL xs) n [] = fromL xs m by
    have h2 : lockB xs = true ∧ plainH m = true := by simpa using h
    rw [hn]
    exact lk_goC (plain_nums h2.2) m.length xs [] (by simp) (Lf.nil lx h2.1))
  clear lx fx hn hm hcap hf hs
  go_enter Try.func8, Try.ntmps8
  go_wp2_with (refine wpList_load_struct rfl 31 (.tmp 2) rfl w.heap.size rfl _ (kCells .i16 xs) _ (heap_new rfl) Try.underlying31 rfl (by rw [kCells_size, LX.out]; kernel_rfl) ?_)
  generalize hW2 : World.alloc _ (.cells _ 77) = W2
  have b0 : Hid (W2.heap[w.heap.size]? = some (.cells (kCells .i16 xs) 31 (0, 0))) := hid (by rw [← hW2]; exact heap_kept (heap_kept (heap_new rfl)))
  have bM : Hid (W2.heap[w.heap.size + 1]? = some (.cells #[.slice a n cap] 33 (0, 0))) := hid (by rw [← hW2]; exact heap_kept (heap_new (by simp)))
  have bd : Hid (W2.heap[w.heap.size + 1 + 1]? = some (.cells #[.iface 31 (.agg (kCells .i16 xs)), .iface 61 (.slice (some ⟨w.heap.size + 1, 0, none⟩) 1 1)] 77 (0, 0))) := hid (by rw [← hW2]; exact heap_new (by simp))
  have gr : Hid (Gr w W2) := hid (by rw [← hW2]; exact (((Gr.refl _).alloc _).alloc _).alloc _)
  clear hW2
  refine (HCK.out _ _ _ gr.out bM.out bd.out).mono ?_
  rintro e W3 ⟨rfl, g⟩
  replace b0 := hid (g.heap b0.out)
  replace gr := hid (gr.out.trans g)
  clear bd bM g HCK
  cases hv : (lockB xs && plainH m) with
  | false =>
    obtain ⟨eC, eL⟩ := hf_no hv
    have EC := hid eC
    have EL := hid eL
    rw [if_neg (by simp)]
    clear hv eC eL HFH HLK HSX
    go_wp2_with fail
    go_ret2
    rw [EC.out, EL.out]
    exact ret_nil gr.out _
  | true =>
    obtain ⟨eC, eL⟩ := hf_yes hv
    have EC := hid eC
    have EL := hid eL
    rw [if_pos rfl]
    have HF := hid (HFH.out hv)
    rw [HLK.out hv] at HF
    clear hv eC eL HFH HLK
    go_wp2_with (refine wpList_load_struct rfl 31 (.tmp 2) rfl w.heap.size rfl _ (kCells .i16 xs) _ b0.out Try.underlying31 rfl (by rw [kCells_size, LX.out]; kernel_rfl) ?_)
    refine (HSX.out _).mono ?_
    rintro e W4 ⟨rfl, g⟩
    have G4 := hid (gr.out.trans g)
    have N4 : Hid ((W4.alloc (.cells (kCells .i16 zeros44) 64)).heap[W4.heap.size]? = some (.cells (kCells .i16 zeros44) 64 (0, 0))) := hid (heap_new rfl)
    clear g
    go_wp2_with (refine wpList_store_cells rfl 64 _ _ rfl _ (kCells .i16 (stk xs)) (kCells .i16 zeros44) rfl rfl _ 44 N4.out (by kernel_rfl) (by rw [kCells_size, HLS.out]) rfl (kCells_one _ _) ?_; generalize hW : World.setRow _ _ (kCells .i16 (stk xs)) = W5)
    have b5 : Hid (W5.heap[W4.heap.size]? = some (.cells (kCells .i16 (stk xs)) 64 (0, 0))) := hid (by rw [← hW]; exact heap_row_set N4.out)
    have G5 : Hid (Gr w W5) := hid (by rw [← hW]; exact (G4.out.alloc _).setRow (by have := G4.out.size; omega) _)
    clear hW N4
    refine (HF.out W4.heap.size W5 G5.out b5.out).mono ?_
    rintro e w3 ⟨v, rfl, ow, g3⟩
    have OW := hid (ow.widen (lo' := w.heap.size) (hi' := w3.heap.size) G5.out.size (Nat.le_refl _))
    have G6 := hid (G5.out.trans g3)
    unfold withCode
    clear ow g3 HF
    obtain ⟨a', c', rfl⟩ := OW.out.shape
    go_wp2_with fail
    go_ret2
    rw [EC.out, EL.out]
    exact ⟨_, rfl, OW.out, G6.out⟩
end Go.Proofs.Ytdighhkgopopeaa
