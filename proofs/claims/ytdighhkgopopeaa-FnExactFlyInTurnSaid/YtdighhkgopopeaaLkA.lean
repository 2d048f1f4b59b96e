/- The model's search for hoists out of a locker: its end. -/
import Derived.Test.YtdighhkgopopeaaLkM
import Derived.Test.YtdighhkgopopeaaOwnH
import Derived.Test.YtdighhkgopopeaaChoices
import Derived.Test.YtdighhkgopopeaaLockA
namespace Go.Proofs.Ytdighhkgopopeaa
set_option linter.unusedVariables false
open Go.RowKit
/-- A row grows, or what has been made since turns too. -/
theorem grb {w w1 w2 : World} {r r' : Option Nat} (h : w.grownBy w1 r) (g : w1.grownBy w2 r') (hr : ∀ k, r' = some k → r = some k ∨ w.heap.size ≤ k) : w.grownBy w2 r := by
  refine ⟨g.os.trans h.os, g.tape.trans h.tape, g.output.trans h.output, Nat.le_trans h.size g.size, fun k hk hne => ?_⟩
  rw [g.block k (Nat.lt_of_lt_of_le hk h.size) (fun e => ?_)]
  · exact h.block k hk hne
  · rcases hr k e.symm with e1 | e1
    · exact hne e1.symm
    · omega
theorem grb_gr {w w1 w2 : World} {r : Option Nat} (h : w.grownBy w1 r) (g : Gr w1 w2) : w.grownBy w2 r :=
  grb h (r' := none) ⟨g.1, g.2, g.3, g.4, fun k hk _ => g.5 k hk⟩ (fun k e => by cases e)
theorem grb_refl (w : World) (r : Option Nat) : w.grownBy w r := ⟨rfl, rfl, rfl, Nat.le_refl _, fun _ _ _ => rfl⟩
theorem gr_grb {w w1 : World} (g : Gr w w1) (r : Option Nat) : w.grownBy w1 r := grb_gr (grb_refl w r) g
/-- The row is the one it was, or a new one. -/
def OneB (v v' : Value) (z : Nat) : Prop := ∀ b, v'.ownBlock = some b → v.ownBlock = some b ∨ z ≤ b
theorem OneB.refl (v : Value) (z : Nat) : OneB v v z := fun _ h => .inl h
/-- What a call of the search hands back. -/
def LkPost (lo : Nat) (v : Value) (xss R : List (List Int)) (w : World) (e : Ending) (w' : World) : Prop :=
  ∃ v' vs', e = .returned v' ∧ OwnH w' lo w'.heap.size v' vs' (xss ++ R) ∧ w.grownBy w' v.ownBlock ∧ OneB v v' w.heap.size
set_option maxHeartbeats 2000000 in
set_option maxRecDepth 100000 in
theorem lk04_end (lo : Nat) (ao : Option Addr) (no co : Nat) (vs : List Value) (xss : List (List Int)) (left : List Int) (bm om k cm bh oh ch st : Nat) (h : List Int) (hk : k = h.length) (hk1 : 1 ≤ k) (hk8 : k ≤ 8) (w : World) (hlo : lo ≤ w.heap.size)
    (ho : OwnH w lo w.heap.size (.slice ao no co) vs xss) (hno : xss.length ≤ 1000000) (hh : SliceOf .i8 w (some ⟨bh, oh, none⟩) h) :
    Calls Try.prog 38 #[.slice ao no co, .agg (kCells .i16 left), .slice (some ⟨bm, om, none⟩) k cm, .slice (some ⟨bh, oh, none⟩) k ch, .int .i64 st] w (LkPost lo (.slice ao no co) xss [h] w) := by
  have hno2 := ho.len
  subst hno2
  have GB : Gr w (w.alloc (.cells (kCells .i16 left) 31)) := (Gr.refl w).alloc _
  have HH := hid (news_of_slice (hh.gr (GB.alloc (.cells #[] 59))))
  have OE := hid (Own.new (k := .i8) (e := 59) (w.alloc (.cells (kCells .i16 left) 31)) [] (by simp)).row
  rw [World.size_alloc] at OE
  have HO := hid ho
  have HK := hid hk
  have HLO := hid hlo
  have G1 := hid (GB.alloc (.cells #[] 59))
  clear hh hk ho GB hlo
  obtain ⟨i0, hi, hz0, hz1, hz2⟩ := info_parts infoI8
  obtain ⟨j0, ji, jz0, jz1, jz2⟩ := info_parts infoH
  go_enter Try.func38, Try.ntmps38
  go_wp2_with (at_builtin; refine wpList_append_own _ rfl _ _ 28 rfl (w.heap.size + 1) 59 i0 (.int .i8 0) 1 1 Try.underlying28 hi hz0 hz1 hz2 rfl (by decide) _ _ _ rfl OE.out ⟨bh, oh, none⟩ k ch (h.map (Value.int .i8)) rfl (by rw [List.length_map, Nat.mul_one]; exact HK.out.symm) HH.out (by simp [Value.oneCell']) (by unfold maxLen; simp; omega) (by simp; omega) (by simp) ?_)
  intro v1 w1 hown hgrow _
  have OV := hid (Own.ofRow (k := .i8) (xs := h) hown (by simp) (by rw [← HK.out]))
  have GW1 := hid (G1.out.by_ hgrow (fun b e => by simp [Value.ownBlock] at e; omega))
  obtain ⟨av, cv, hv1⟩ := OV.out.shape
  rw [← HK.out] at hv1
  subst hv1
  have GA := hid (GW1.out.alloc (.cells #[.slice av k cv] 28))
  have OW2 := hid (HO.out.gr GA.out)
  have ON := hid ((OV.out.gr ((Gr.refl w1).alloc (.cells #[.slice av k cv] 28))).widen (show w.heap.size ≤ w.heap.size + 1 by omega) (Nat.le_refl _))
  have HZ := hid (show lo ≤ w1.heap.size by have := HLO.out; have := GW1.out.size; omega)
  clear hown hgrow
  go_wp2_with (at_builtin; refine wpList_append_lies _ rfl _ _ 55 rfl lo 28 j0 (.slice none 0 0) 1 24 Try.underlying55 ji jz0 jz1 jz2 rfl (by decide) _ _ _ rfl OW2.out.row ⟨w1.heap.size, 0, none⟩ 1 1 [.slice av k cv] rfl rfl (cell_l1 _ _ _) (by simp [Value.oneCell']) (by omega) (by unfold maxLen; omega) (by omega) (by have := HZ.out; simp; omega) (w1.heap.size + 1) (by simp) ?_)
  intro gg cap2 w2 hown2 hgrow2 hat hlt2
  have OW3 := hid (OwnH.snoc OW2.out HLO.out ON.out hown2 hgrow2)
  have GB2 := hid (grb (gr_grb GA.out (Value.slice ao xss.length co).ownBlock) hgrow2 (fun k e => .inl e))
  have HAT := hid hat
  have HS1 := hid GW1.out.size
  clear hown2 hgrow2 hat hlt2
  go_wp2_with fail
  go_ret
  refine ⟨_, _, rfl, OW3.out, GB2.out, fun b e => ?_⟩
  have e' : some gg = some b := e
  obtain rfl := Option.some.inj e'
  rcases HAT.out with h1 | h1
  · exact .inl h1
  · have := HS1.out; right; omega
end Go.Proofs.Ytdighhkgopopeaa
