/- What hangs above a place: in whatever world the list is read. -/
import Derived.Test.YtdighhkgopopeaaHoistV
namespace Go.Proofs.Ytdighhkgopopeaa
set_option linter.unusedVariables false
open Go.RowKit
def RetPartV (k : IntKind) (a : Option Addr) (xs : List Int) (s p : Nat) (w : World) (e : Ending) (w' : World) : Prop :=
  ∃ ap, e = .returned (.slice ap (p - s) (p - s)) ∧ (∀ V, SliceOf k V a xs → SliceOf k V ap (partL xs s p)) ∧ w = w'
set_option maxRecDepth 100000 in
theorem aboveMeaning_all (a : Option Addr) (n cap : Nat) (xs : List Int) (hn : n = xs.length) (hm : n ≤ 1048576) (hcap : n ≤ cap) (p : Nat) (hp : p ≤ n) (w : World) (hs : SliceOf .i8 w a xs) :
    Calls Try.prog 48 #[.slice a n cap, .int .i64 p] w (RetPartV .i8 a xs (startOf xs p) p w) := by
  have S := hid hs
  have HN := hid hn
  clear hs hn
  go_enter Try.func48, Try.ntmps48
  go_wp2
  go_loop [5] (fun s => ∃ j : Nat, j ≤ p ∧ s = .int .i64 j ∧ Hid (startOf xs j = startOf xs p)) (fun s => (intOf s).toNat)
  case atStart => exact ⟨p, Nat.le_refl _, rfl, hid rfl⟩
  case round =>
    obtain ⟨j, hj, rfl, hst⟩ := hrel
    cases j with
    | zero =>
      have hz : startOf xs p = 0 := by rw [← hst.out]; rfl
      have HZ := hid hz
      clear hz
      go_wp2
      go_ret
      exact ⟨a, by rw [HZ.out]; rfl, fun V hV => by rw [HZ.out]; exact hV.part0 (by rw [← HN.out]; exact hp), rfl⟩
    | succ i =>
      obtain ⟨b, off, rfl, hc⟩ := S.out i (by rw [← HN.out]; omega)
      cases hb : brkI (xs.getD i 0)
      · have hx : (xs.getD i 0 == -10) = false := by have := brkI_no hb; simpa using this
        have hx' : (xs.getD i 0 != -10) = true := by have := brkI_no hb; simpa using this
        have HS := hid ((startOf_no (brkI_no hb)).symm.trans hst.out)
        clear hb
        generalize xs.getD i 0 = x at *
        go_wp2
        go_round
        case rel => exact ⟨i, by omega, rfl, HS⟩
        case measure => simp [intOf]
      · have hx : (xs.getD i 0 == -10) = true := by have := brkI_iff.1 hb; simpa using this
        have hx' : (xs.getD i 0 != -10) = false := by have := brkI_iff.1 hb; simpa using this
        have hz : startOf xs p = i + 1 := by rw [← hst.out]; exact startOf_brk (brkI_iff.1 hb)
        have HZ := hid hz
        clear hz hb
        generalize xs.getD i 0 = x at *
        go_wp2
        · go_ret
          obtain rfl : p = i + 1 := by assumption
          exact ⟨_, by rw [HZ.out, Nat.sub_self]; rfl, fun V _ => by rw [HZ.out]; exact SliceOf.part_nil (by rw [← HN.out]; exact hp), rfl⟩
        · go_ret
          exact ⟨_, by rw [HZ.out]; rfl, fun V hV => by rw [HZ.out]; exact hV.part hj (by rw [← HN.out]; exact hp), rfl⟩
end Go.Proofs.Ytdighhkgopopeaa
