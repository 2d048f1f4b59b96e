/- An index in a book: what is wrong with it: both functions. -/
import Derived.Test.YtfaiehjomcgjgaaDoorValidBook
import Derived.Test.YtfaiehjomcgjgaaDoorRankS
import Derived.Test.YtfaiehjomcgjgaaDoorCodeOf
import Derived.Deep.RegionHeld3
namespace Go.Proofs.YtfaiehjomcgjgaaDoor
set_option linter.unusedVariables false
open Go.RowKit
def thereC (k l s : Int) (ss : List ByteArray) (i : Int) : Int := if validBk k l s ss then (if betB i 0 ((ss.length : Int) - 1) then 0 else 2) else 1
theorem there_no {k l s : Int} {ss : List ByteArray} {i : Int} (h : validBk k l s ss = false) : thereC k l s ss i = 1 := by unfold thereC; rw [h]; rfl
theorem there_out {k l s : Int} {ss : List ByteArray} {i : Int} (h : validBk k l s ss = true) (h2 : betB i 0 ((ss.length : Int) - 1) = false) : thereC k l s ss i = 2 := by unfold thereC; rw [h, h2]; rfl
theorem there_in {k l s : Int} {ss : List ByteArray} {i : Int} (h : validBk k l s ss = true) (h2 : betB i 0 ((ss.length : Int) - 1) = true) : thereC k l s ss i = 0 := by unfold thereC; rw [h, h2]; rfl
theorem there_cases (k l s : Int) (ss : List ByteArray) (i : Int) : thereC k l s ss i = 0 ∨ thereC k l s ss i = 1 ∨ thereC k l s ss i = 2 := by
  cases h : validBk k l s ss with
  | false => exact .inr (.inl (there_no h))
  | true => cases h2 : betB i 0 ((ss.length : Int) - 1) with
    | false => exact .inr (.inr (there_out h h2))
    | true => exact .inl (there_in h h2)
theorem there_yes {k l s : Int} {ss : List ByteArray} {i : Int} (h : thereC k l s ss i = 0) : validBk k l s ss = true ∧ ∃ j : Nat, i = j ∧ j < ss.length := by
  cases h1 : validBk k l s ss with
  | false => rw [there_no h1] at h; exact absurd h (by decide)
  | true => cases h2 : betB i 0 ((ss.length : Int) - 1) with
    | false => rw [there_out h1 h2] at h; exact absurd h (by decide)
    | true => have := betB_iff.1 h2; exact ⟨rfl, i.toNat, by omega, by omega⟩
/-- The load of a whole struct in a region that draws its order. -/
theorem yields_row {P : Program} {ops : Array Oper} {S : World → Prop} {o : Oper} {a : Act} (hw : Region.wanted o (yielded ops a.tmps) = true) (ty : TypeId) (x : Operand) (ho : o.op = .load ty x)
    (g : Nat) (hx : a.eval x = .pointer (some ⟨g, 0, none⟩)) (t : TypeId) (cs : Array Value) (d : TypeDesc) (hg : ∀ w, S w → w.heap[g]? = some (.cells cs t (0, 0)))
    (hu : P.underlying ty = some d) (hd : (match d with | .struct _ | .array _ _ => true | _ => false) = true) (hi : (P.info? ty).map (·.size) = some cs.size) : YieldsIf P ops S o (.agg cs) a := by
  refine Or.inl ⟨hw, fun w hS => ?_⟩
  unfold execOp
  simp only [ho, hx, Instr.loadAt, Instr.sureAddr, Sem.run_bind, Sem.run_pure, Result.andThen_ok, run_loadVar_row w g t ty cs (0, 0) d (hg w hS) hu hd hi]
/-- The value of an error with a code. -/
def errB (b0 b1 b2 : Addr) (c : Int) : Addr := if c = 1 then b0 else if c = 2 then b1 else b2
def errE (b0 b1 b2 : Addr) (c : Int) : Value := if c = 0 then .nilIface else sentV (errB b0 b1 b2 c)
theorem errE_zero (b0 b1 b2 : Addr) : errE b0 b1 b2 0 = .nilIface := rfl
theorem errE_ne {b0 b1 b2 : Addr} {c : Int} (h : ¬ c = 0) : errE b0 b1 b2 c = sentV (errB b0 b1 b2 c) := by unfold errE; rw [if_neg h]
set_option maxRecDepth 100000 in
set_option maxHeartbeats 1000000 in
theorem codeOf_state (b0 b1 b2 : Addr) (w : World) (h : SentAt w b0 b1 b2) :
    Calls Tryd.prog 41 #[sentV b2] w fun e w' => e = .returned (.int .i64 4) ∧ w = w' := by
  obtain ⟨cs1, t1, e1⟩ := h.h1
  obtain ⟨cs2, t2, e2⟩ := h.h2
  have H1 := hid (isOther_any b2 b1 cs2 cs1 t2 t1 w (Ne.symm h.n12) e2 e1)
  have H2 := hid (isSame_any b2 w)
  have c1 := h.g1
  have c2 := h.g2
  clear h e1 e2
  unfold sentV at c1 c2 H1 H2 ⊢
  go_enter Tryd.func41, Tryd.ntmps41
  go_wp2_with fail
  refine H1.out.mono ?_
  rintro e w1 ⟨rfl, rfl⟩
  go_wp2_with fail
  refine H2.out.mono ?_
  rintro e w1 ⟨rfl, rfl⟩
  go_wp2_with fail
  go_ret
  exact ⟨rfl, rfl⟩
theorem codeOf_any (b0 b1 b2 : Addr) (c : Int) (hc : c = 1 ∨ c = 2 ∨ c = 4) (w : World) (h : SentAt w b0 b1 b2) :
    Calls Tryd.prog 41 #[sentV (errB b0 b1 b2 c)] w fun e w' => e = .returned (.int .i64 c) ∧ w = w' := by
  rcases hc with rfl | rfl | rfl
  · exact codeOf_invalid b0 b1 b2 w h
  · exact codeOf_range b0 b1 b2 w h
  · exact codeOf_state b0 b1 b2 w h
set_option maxRecDepth 100000 in
set_option maxHeartbeats 1000000 in
theorem l03There_any (bb : Nat) (k l s : Int) (a : Option Addr) (n cap : Nat) (ss : List ByteArray) (hw : Wf3 k l s) (hn : n ≤ 1048576) (hz : SizesOk ss) (i : Int) (w : World) (hb : BookAt w bb k l s a n cap ss) :
    Calls Tryd.prog 36 #[.pointer (some ⟨bb, 0, none⟩), .int .i64 i] w fun e w' => e = .returned (.int .i64 (thereC k l s ss i)) ∧ Gr w w' := by
  have HB := hid (l03Ok_any bb k l s a n cap ss hw hn hz w hb)
  have HC := hid (fun V (g : Gr w V) => (hb.gr g).c3)
  have hl := hb.len
  have hnW : IntKind.i64.wrap ((n : Int) - 1) = (n : Int) - 1 := IntWalk.i64_in _ (by omega)
  have HI := hid (fun V => l00In_b i 0 ((n : Int) - 1) V)
  cases h : validBk k l s ss with
  | false =>
    rw [there_no h]
    rw [h] at HB
    clear h hb hl hw hz
    go_enter Tryd.func36, Tryd.ntmps36
    go_wp2_with fail
    refine HB.out.mono ?_
    rintro e w1 ⟨rfl, g1⟩
    have G1 := hid g1
    clear g1
    go_wp2_with fail
    go_ret
    exact ⟨rfl, G1.out⟩
  | true =>
    rw [h] at HB
    cases h2 : betB i 0 ((n : Int) - 1) with
    | false =>
      rw [there_out h (by rw [← hl]; exact h2)]
      rw [h2] at HI
      clear h h2 hb hl hw hz
      go_enter Tryd.func36, Tryd.ntmps36
      go_wp2_with fail
      refine HB.out.mono ?_
      rintro e w1 ⟨rfl, g1⟩
      have G1 := hid g1
      have c3 := HC.out _ g1
      clear g1
      go_wp2_with fail
      refine (HI.out _).mono ?_
      rintro e w2 ⟨rfl, rfl⟩
      go_wp2_with fail
      go_ret
      exact ⟨rfl, G1.out⟩
    | true =>
      rw [there_in h (by rw [← hl]; exact h2)]
      rw [h2] at HI
      clear h h2 hb hl hw hz
      go_enter Tryd.func36, Tryd.ntmps36
      go_wp2_with fail
      refine HB.out.mono ?_
      rintro e w1 ⟨rfl, g1⟩
      have G1 := hid g1
      have c3 := HC.out _ g1
      clear g1
      go_wp2_with fail
      refine (HI.out _).mono ?_
      rintro e w2 ⟨rfl, rfl⟩
      go_wp2_with fail
      go_ret
      exact ⟨rfl, G1.out⟩
set_option maxRecDepth 100000 in
set_option maxHeartbeats 2000000 in
theorem checkIndex_any (k l s : Int) (hw : Wf3 k l s) (a : Option Addr) (cap n : Nat) (ss : List ByteArray) (hl : n = ss.length) (hn : n ≤ 1048576) (hz : SizesOk ss) (i : Int) (b0 b1 b2 : Addr) (w : World) (hs : StrsOf w a ss) (hS : SentAt w b0 b1 b2) :
    Calls Tryd.prog 40 #[bookV k l s (.slice a n cap), .int .i64 i] w fun e w' => e = .returned (errE b0 b1 b2 (thereC k l s ss i)) ∧ Gr w w' := by
  obtain ⟨W, hW⟩ : ∃ W, W = w.alloc (.cells (bookC k l s (.slice a n cap)) 31) := ⟨_, rfl⟩
  have G0 : Hid (Gr w W) := hid (by rw [hW]; exact (Gr.refl w).alloc _)
  have B0 : Hid (W.heap[w.heap.size]? = some (.cells (bookC k l s (.slice a n cap)) 31 (0, 0))) := hid (by rw [hW]; exact heap_new rfl)
  have HD := hid (fun V (g : Gr W V) => bk_cells (k := k) (l := l) (s := s) (v := .slice a n cap) (g.heap B0.out))
  have HVB := hid (fun V (g : Gr W V) => impl_ValidBook_any k l s hw a cap n ss hl hn hz V (hs.gr (G0.out.trans g)))
  have HSE := hid (fun V (g : Gr W V) => hS.gr (G0.out.trans g))
  have hnW : IntKind.i64.wrap ((n : Int) - 1) = (n : Int) - 1 := IntWalk.i64_in _ (by omega)
  have HI := hid (fun V => isBetween_any i 0 ((n : Int) - 1) V)
  have HW := hid hW
  clear hW hS
  cases h : validBk k l s ss with
  | false =>
    rw [there_no h]
    rw [h] at HVB
    clear h hs hl hz hw
    go_enter Tryd.func40, Tryd.ntmps40
    go_wp2_with fail
    rw [← HW.out]
    obtain ⟨d0, d1, d2, d3⟩ := HD.out _ (Gr.refl W)
    go_wp2_with fail
    refine (HVB.out _ (Gr.refl W)).mono ?_
    rintro e w2 ⟨rfl, g2⟩
    have G2 := hid (G0.out.trans g2)
    have c0 := (HSE.out _ g2).g0
    unfold sentV at c0
    clear g2 d0 d1 d2 d3
    go_wp2_with fail
    go_ret
    exact ⟨rfl, G2.out⟩
  | true =>
    rw [h] at HVB
    cases h2 : betB i 0 ((n : Int) - 1) with
    | false =>
      rw [there_out h (by rw [← hl]; exact h2)]
      rw [h2] at HI
      clear h h2 hs hl hz hw
      go_enter Tryd.func40, Tryd.ntmps40
      go_wp2_with fail
      rw [← HW.out]
      obtain ⟨d0, d1, d2, d3⟩ := HD.out _ (Gr.refl W)
      go_wp2_with fail
      refine (HVB.out _ (Gr.refl W)).mono ?_
      rintro e w2 ⟨rfl, g2⟩
      have G2 := hid (G0.out.trans g2)
      have c1 := (HSE.out _ g2).g1
      unfold sentV at c1
      clear d0 d1 d2 d3
      obtain ⟨d0, d1, d2, d3⟩ := HD.out _ g2
      clear g2
      go_wp2_with fail
      refine (HI.out _).mono ?_
      rintro e w3 ⟨rfl, rfl⟩
      go_wp2_with fail
      go_ret
      exact ⟨rfl, G2.out⟩
    | true =>
      rw [there_in h (by rw [← hl]; exact h2)]
      rw [h2] at HI
      clear h h2 hs hl hz hw
      go_enter Tryd.func40, Tryd.ntmps40
      go_wp2_with fail
      rw [← HW.out]
      obtain ⟨d0, d1, d2, d3⟩ := HD.out _ (Gr.refl W)
      go_wp2_with fail
      refine (HVB.out _ (Gr.refl W)).mono ?_
      rintro e w2 ⟨rfl, g2⟩
      have G2 := hid (G0.out.trans g2)
      clear d0 d1 d2 d3
      obtain ⟨d0, d1, d2, d3⟩ := HD.out _ g2
      clear g2
      go_wp2_with fail
      refine (HI.out _).mono ?_
      rintro e w3 ⟨rfl, rfl⟩
      go_wp2_with fail
      go_ret
      exact ⟨rfl, G2.out⟩
end Go.Proofs.YtfaiehjomcgjgaaDoor
