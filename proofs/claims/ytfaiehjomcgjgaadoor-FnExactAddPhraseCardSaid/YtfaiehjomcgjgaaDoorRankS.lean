/- RankOf: ranks as numbers; the model's function. -/
import Derived.Test.YtfaiehjomcgjgaaDoorValidBook
import Derived.Test.YtfaiehjomcgjgaaDoorHoistE
import Derived.Test.YtfaiehjomcgjgaaDoorGHst
namespace Go.Proofs.YtfaiehjomcgjgaaDoor
set_option linter.unusedVariables false
open Go.RowKit
/-- Where a list is in another one for the first time, -1 standing for nowhere. -/
def rankI (L : List (List Int)) (m : List Int) : Int := if m ∈ L then (L.idxOf m : Int) else -1
theorem rankI_at {L pre rest : List (List Int)} {m : List Int} (h : pre ++ m :: rest = L) (hn : m ∉ pre) : rankI L m = (pre.length : Int) := by
  subst h
  unfold rankI
  rw [if_pos (List.mem_append.2 (.inr List.mem_cons_self)), List.idxOf_append, if_neg hn]
  simp
theorem rankI_no {L : List (List Int)} {m : List Int} (hn : m ∉ L) : rankI L m = -1 := by unfold rankI; rw [if_neg hn]
theorem rankI_bd (L : List (List Int)) (m : List Int) : rankI L m = -1 ∨ (0 ≤ rankI L m ∧ rankI L m < (L.length : Int)) := by
  unfold rankI
  split
  · rename_i h
    have := List.idxOf_lt_length_of_mem h
    exact .inr ⟨by omega, by omega⟩
  · exact .inl rfl
theorem rankI_k {L : List (List Int)} {m : List Int} {k : Nat} (hk : k < L.length) (hn : m ∉ L.take k) (he : L.getD k [] = m) : rankI L m = (k : Int) := by
  have h : L.take k ++ m :: L.drop (k + 1) = L := by
    rw [← he]
    have : L.getD k [] = L[k] := by simp [List.getD, List.getElem?_eq_getElem hk]
    rw [this, ← List.drop_eq_getElem_cons hk, List.take_append_drop]
  rw [rankI_at h hn, List.length_take, Nat.min_eq_left (by omega)]
theorem take_step {L : List (List Int)} {m : List Int} {k : Nat} (hk : k < L.length) (hn : m ∉ L.take k) (he : ¬ L.getD k [] = m) : m ∉ L.take (k + 1) := by
  rw [List.take_succ_eq_append_getElem hk, List.mem_append, List.mem_singleton]
  have : L.getD k [] = L[k] := by simp [List.getD, List.getElem?_eq_getElem hk]
  rw [this] at he
  rintro (h | h)
  · exact hn h
  · exact he h.symm
def rankV (k l s : Int) (ss : List ByteArray) (m : List Int) : Int := if validBk k l s ss && plainH m then (if rankI (meansOf k l s) m < 0 then 0 else rankI (meansOf k l s) m) else 0
def rankC (k l s : Int) (ss : List ByteArray) (m : List Int) : Int := if validBk k l s ss && plainH m then (if rankI (meansOf k l s) m < 0 then 6 else 0) else 1
theorem rank_no {k l s : Int} {ss : List ByteArray} {m : List Int} (h : (validBk k l s ss && plainH m) = false) : rankV k l s ss m = 0 ∧ rankC k l s ss m = 1 := by unfold rankV rankC; rw [h]; exact ⟨rfl, rfl⟩
theorem rank_none {k l s : Int} {ss : List ByteArray} {m : List Int} (h : (validBk k l s ss && plainH m) = true) (h2 : rankI (meansOf k l s) m < 0) : rankV k l s ss m = 0 ∧ rankC k l s ss m = 6 := by
  unfold rankV rankC; rw [h, if_pos rfl, if_pos rfl, if_pos h2, if_pos h2]; exact ⟨rfl, rfl⟩
theorem rank_some {k l s : Int} {ss : List ByteArray} {m : List Int} (h : (validBk k l s ss && plainH m) = true) (h2 : ¬ rankI (meansOf k l s) m < 0) : rankV k l s ss m = rankI (meansOf k l s) m ∧ rankC k l s ss m = 0 := by
  unfold rankV rankC; rw [h, if_pos rfl, if_pos rfl, if_neg h2, if_neg h2]; exact ⟨rfl, rfl⟩
theorem validBk_sizedT {k l s : Int} {ss : List ByteArray} (h : validBk k l s ss = true) : sizedB k l s = true := by
  cases e : sizedB k l s
  · rw [validBk_sized e] at h; cases h
  · rfl
set_option maxRecDepth 100000 in
theorem l03Same_any (a : Option Addr) (n ca : Nat) (xs : List Int) (hn : n = xs.length) (hm : n ≤ 1048576) (b : Option Addr) (m cb : Nat) (ys : List Int) (hn2 : m = ys.length) (hm2 : m ≤ 1048576) (w : World) (hs : SliceOf .i8 w a xs) (ht : SliceOf .i8 w b ys) :
    Calls Tryd.prog 91 #[.slice a n ca, .slice b m cb] w fun e w' => e = .returned (.bool (eqLB xs ys)) ∧ Gr w w' := by
  have H0 := hid (l02Same_any a n ca xs hn hm b m cb ys hn2 hm2 w hs ht)
  have H : Hid (Calls Tryd.prog 105 #[.slice a n ca, .slice b m cb] w fun e w' => e = .returned (.bool (eqLB xs ys)) ∧ Gr w w') := hid (by
    clear hs ht hn hn2
    go_enter Tryd.func105, Tryd.ntmps105
    go_wp2_with fail
    refine H0.out.mono ?_
    rintro e w1 ⟨rfl, g1⟩
    have G1 := hid g1
    clear g1
    go_wp2_with fail
    go_ret
    exact ⟨rfl, G1.out⟩)
  clear hs ht hn hn2 H0
  go_enter Tryd.func91, Tryd.ntmps91
  go_wp2_with fail
  refine H.out.mono ?_
  rintro e w1 ⟨rfl, g1⟩
  have G1 := hid g1
  clear g1
  go_wp2_with fail
  go_ret
  exact ⟨rfl, G1.out⟩
theorem book_lens {K B L : Nat} (hL : L ≤ 3) : ∀ x ∈ bookL K B L, x.length ≤ 1048576 := fun x hx => by
  obtain ⟨j, _, h2, h3, _⟩ := mem_bookL hx
  have := (mem_kindsS.1 h3).1
  omega
end Go.Proofs.YtfaiehjomcgjgaaDoor
