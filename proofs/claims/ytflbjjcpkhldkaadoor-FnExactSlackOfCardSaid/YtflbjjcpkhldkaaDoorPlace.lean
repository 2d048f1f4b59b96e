/- A ship that there is, or not: the program's function and the model's. -/
import Derived.Test.YtflbjjcpkhldkaaDoorTimesOf
namespace Go.Proofs.YtflbjjcpkhldkaaDoor
set_option linter.unusedVariables false
open Go.RowKit
set_option maxRecDepth 100000 in
theorem placeOf_ok (a : Option Addr) (n c : Nat) (s : Int) (_h20 : n ≤ 1048576) (hr : rgV s 0 ((n : Int) - 1) = true) (w : World) :
    Calls Tryd.prog 72 #[.slice a n c, .int .i64 s] w fun e w' => e = .returned (.int .i64 s) ∧ w = w' := by
  have HR := hid (fun V => isBetween_r hr V)
  clear hr
  go_enter Tryd.func72, Tryd.ntmps72
  go_wp2_with fail
  refine (HR.out _).mono ?_
  rintro e w1 ⟨rfl, rfl⟩
  go_wp2_with fail
  go_ret
  exact ⟨rfl, rfl⟩
set_option maxRecDepth 100000 in
theorem placeOf_no (a : Option Addr) (n c : Nat) (s : Int) (_h20 : n ≤ 1048576) (hr : rgV s 0 ((n : Int) - 1) = false) (w : World) :
    Calls Tryd.prog 72 #[.slice a n c, .int .i64 s] w fun e w' => e = .panicked [{ v := .iface 122 (.int .i64 s), recovered := false }] ∧ w = w' := by
  have HR := hid (fun V => isBetween_r hr V)
  clear hr
  go_enter Tryd.func72, Tryd.ntmps72
  go_wp2_with fail
  refine (HR.out _).mono ?_
  rintro e w1 ⟨rfl, rfl⟩
  go_wp2_with fail
  exact ⟨rfl, rfl, rfl⟩
def askC (n : Nat) (xs : List Int) (s : Int) : Int := if lineB n xs = true then (if rgV s 0 ((n : Int) - 1) = true then 0 else 2) else 1
set_option maxRecDepth 100000 in
theorem l06Asked_any (a : Option Addr) (n cap : Nat) (xs : List Int) (hl : xs.length = n * 3) (hn : n ≤ 1048576) (hf : Fits .i8 xs) (s : Int) (w : World) (hs : SliceOf .i8 w a xs) :
    Calls Tryd.prog 70 #[.slice a n cap, .int .i64 s] w fun e w' => e = .returned (.int .i64 (askC n xs s)) ∧ Gr w w' := by
  have HO := hid (l06Ok_any a n cap xs hl hn hf w hs)
  cases hv : lineB n xs with
  | false =>
    rw [hv] at HO
    rw [show askC n xs s = 1 by unfold askC; rw [hv]; rfl]
    clear hs hl hf
    go_enter Tryd.func70, Tryd.ntmps70
    go_wp2_with fail
    refine HO.out.mono ?_
    rintro e w1 ⟨rfl, g1⟩
    have G1 := hid g1
    clear g1
    go_wp2_with fail
    go_ret
    exact ⟨rfl, G1.out⟩
  | true =>
    rw [hv] at HO
    have HR := hid (fun V => l00In_v (n := s) (a := 0) (b := (n : Int) - 1) rfl V)
    rw [show askC n xs s = if rgV s 0 ((n : Int) - 1) = true then 0 else 2 by unfold askC; rw [hv]; rfl]
    generalize rgV s 0 ((n : Int) - 1) = q at *
    clear hs hl hf
    cases q
    all_goals
      go_enter Tryd.func70, Tryd.ntmps70
      go_wp2_with fail
      refine HO.out.mono ?_
      rintro e w1 ⟨rfl, g1⟩
      have G1 := hid g1
      clear g1
      go_wp2_with fail
      refine (HR.out _).mono ?_
      rintro e w2 ⟨rfl, rfl⟩
      go_wp2_with fail
      go_ret
      exact ⟨rfl, G1.out⟩
end Go.Proofs.YtflbjjcpkhldkaaDoor
