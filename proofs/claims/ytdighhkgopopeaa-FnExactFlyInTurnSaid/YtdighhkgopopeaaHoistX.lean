/- ValidHoist: the program's, the model's. -/
import Derived.Test.YtdighhkgopopeaaHoistW
namespace Go.Proofs.Ytdighhkgopopeaa
set_option linter.unusedVariables false
open Go.RowKit
def passedH (xs : List Int) (k : Nat) : Prop := (1 ≤ k → lenB xs = true) ∧ (2 ≤ k → numsB xs = true) ∧ (3 ≤ k → grpsB xs = true) ∧ (4 ≤ k → repsB xs = true)
set_option maxRecDepth 100000 in
set_option maxHeartbeats 2000000 in
theorem impl_ValidHoist_cap (a : Option Addr) (n cap : Nat) (xs : List Int) (hn : n = xs.length) (hm : n ≤ 1048576) (hcap : n ≤ cap) (hf : Fits .i8 xs) (w : World) (hs : SliceOf .i8 w a xs) :
    Calls Try.prog 74 #[.slice a n cap] w fun e w' => e = .returned (.bool (validH xs)) ∧ Gr w w' := by
  have h1 := hid (fun W => hasLength_any a n cap hm W)
  have h2 := hid (fun W hg => hasNumbers_any a n cap xs hn hm hf W hg)
  have h3 := hid (fun W hg => hasGroups_any a n cap xs hn hm hcap W hg)
  have h4 := hid (fun W hg => hasRepeated_any a n cap xs hn hm hcap hf W hg)
  have hL : lenB xs = (decide (1 ≤ n) && decide (n ≤ 8)) := by unfold lenB; rw [hn]
  have hV := validH_checks xs
  rw [← hL] at h1
  have HV := hid hV
  have S := hid hs
  clear hs hn hV hL hf
  go_enter Try.func74, Try.ntmps74
  go_wp2
  have hgr : Gr w (w.alloc (.cells #[.func (.func 76) #[] #[], .func (.func 77) #[] #[], .func (.func 65) #[] #[], .func (.func 78) #[] #[]] 73)) := (Gr.refl w).alloc _
  have hb := hid (heap_alloc_new w (.cells #[.func (.func 76) #[] #[], .func (.func 77) #[] #[], .func (.func 65) #[] #[], .func (.func 78) #[] #[]] 73))
  replace S := hid (S.out.gr hgr)
  have GR := hid hgr
  clear hgr
  generalize w.alloc _ = W at *
  go_loop [9] (fun i => ∃ k : Nat, k ≤ 4 ∧ i = .int .i64 k ∧ Hid (passedH xs k)) (fun i => 4 - (intOf i).toNat)
  case atStart => exact ⟨0, by omega, rfl, hid ⟨by omega, by omega, by omega, by omega⟩⟩
  case round =>
    obtain ⟨k, hk, rfl, hok⟩ := hrel
    have hcell := fun i => cell_of_row W w.heap.size i _ _ _ hb.out
    obtain rfl | rfl | rfl | rfl | rfl : k = 0 ∨ k = 1 ∨ k = 2 ∨ k = 3 ∨ k = 4 := by omega
    · have hc0 := hcell 0
      clear hcell
      simp only [List.getElem?_toArray] at hc0
      cases hc : lenB xs
      · have HF := hid (show validH xs = false by rw [HV.out, hc]; simp)
        go_wp2_with fail
        refine (h1.out _).mono ?_
        rintro e w' ⟨rfl, rfl⟩
        go_wp2_with fail
        go_ret
        exact ⟨ret_bool HF.out.symm, GR.out⟩
      · have HN := hid (show passedH xs 1 from ⟨(fun _ => hc), (fun h => by omega), (fun h => by omega), (fun h => by omega)⟩)
        clear hok
        go_wp2_with fail
        refine (h1.out _).mono ?_
        rintro e w' ⟨rfl, rfl⟩
        go_wp2_with fail
        go_round
        case rel => exact ⟨1, by omega, rfl, HN⟩
        case measure => simp [intOf]
    · have hc0 := hcell 1
      clear hcell
      simp only [List.getElem?_toArray] at hc0
      cases hc : numsB xs
      · have HF := hid (show validH xs = false by rw [HV.out, hc]; simp)
        go_wp2_with fail
        refine (h2.out _ S.out).mono ?_
        rintro e w' ⟨rfl, rfl⟩
        go_wp2_with fail
        go_ret
        exact ⟨ret_bool HF.out.symm, GR.out⟩
      · have HN := hid (show passedH xs 2 from ⟨(fun _ => hok.out.1 (by omega)), (fun _ => hc), (fun h => by omega), (fun h => by omega)⟩)
        clear hok
        go_wp2_with fail
        refine (h2.out _ S.out).mono ?_
        rintro e w' ⟨rfl, rfl⟩
        go_wp2_with fail
        go_round
        case rel => exact ⟨2, by omega, rfl, HN⟩
        case measure => simp [intOf]
    · have hc0 := hcell 2
      clear hcell
      simp only [List.getElem?_toArray] at hc0
      cases hc : grpsB xs
      · have HF := hid (show validH xs = false by rw [HV.out, hc]; simp)
        go_wp2_with fail
        refine (h3.out _ S.out).mono ?_
        rintro e w' ⟨rfl, rfl⟩
        go_wp2_with fail
        go_ret
        exact ⟨ret_bool HF.out.symm, GR.out⟩
      · have HN := hid (show passedH xs 3 from ⟨(fun _ => hok.out.1 (by omega)), (fun _ => hok.out.2.1 (by omega)), (fun _ => hc), (fun h => by omega)⟩)
        clear hok
        go_wp2_with fail
        refine (h3.out _ S.out).mono ?_
        rintro e w' ⟨rfl, rfl⟩
        go_wp2_with fail
        go_round
        case rel => exact ⟨3, by omega, rfl, HN⟩
        case measure => simp [intOf]
    · have hc0 := hcell 3
      clear hcell
      simp only [List.getElem?_toArray] at hc0
      cases hc : repsB xs
      · have HF := hid (show validH xs = false by rw [HV.out, hc]; simp)
        go_wp2_with fail
        refine (h4.out _ S.out).mono ?_
        rintro e w' ⟨rfl, rfl⟩
        go_wp2_with fail
        go_ret
        exact ⟨ret_bool HF.out.symm, GR.out⟩
      · have HN := hid (show passedH xs 4 from ⟨(fun _ => hok.out.1 (by omega)), (fun _ => hok.out.2.1 (by omega)), (fun _ => hok.out.2.2.1 (by omega)), (fun _ => hc)⟩)
        clear hok
        go_wp2_with fail
        refine (h4.out _ S.out).mono ?_
        rintro e w' ⟨rfl, rfl⟩
        go_wp2_with fail
        go_round
        case rel => exact ⟨4, by omega, rfl, HN⟩
        case measure => simp [intOf]
    · have HT := hid (show validH xs = true by rw [HV.out, hok.out.1 (by omega), hok.out.2.1 (by omega), hok.out.2.2.1 (by omega), hok.out.2.2.2 (by omega)]; rfl)
      clear hcell
      go_wp2_with fail
      go_ret
      exact ⟨ret_bool HT.out.symm, GR.out⟩
end Go.Proofs.Ytdighhkgopopeaa
