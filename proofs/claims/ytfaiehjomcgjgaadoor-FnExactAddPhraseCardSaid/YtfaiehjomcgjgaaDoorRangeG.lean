/- A range over a function whose iterator comes to own more and more: a set of blocks at each yield. -/
import Derived.Test.YtfaiehjomcgjgaaDoorGSeq
namespace Go.Proofs.YtfaiehjomcgjgaaDoor
set_option linter.unusedVariables false
open Go.RowKit
/-- From A to B blocks of the set have turned at most, and new ones have come. -/
structure Chg (own : Nat → Prop) (A B : World) : Prop where
  os : B.os = A.os
  tape : B.tape = A.tape
  output : B.output = A.output
  size : A.heap.size ≤ B.heap.size
  block : ∀ k, k < A.heap.size → ¬ own k → B.heap[k]? = A.heap[k]?
theorem Chg.refl (own : Nat → Prop) (A : World) : Chg own A A := ⟨rfl, rfl, rfl, Nat.le_refl _, fun _ _ _ => rfl⟩
theorem Chg.trans {own : Nat → Prop} {A B C : World} (h : Chg own A B) (k : Chg own B C) : Chg own A C :=
  ⟨k.os.trans h.os, k.tape.trans h.tape, k.output.trans h.output, Nat.le_trans h.size k.size, fun i hi ho => (k.block i (Nat.lt_of_lt_of_le hi h.size) ho).trans (h.block i hi ho)⟩
theorem Chg.widen {own own' : Nat → Prop} {A B : World} (h : Chg own A B) (hw : ∀ k, k < A.heap.size → own k → own' k) : Chg own' A B :=
  ⟨h.os, h.tape, h.output, h.size, fun k hk ho => h.block k hk (fun g => ho (hw k hk g))⟩
theorem Chg.ofBelow (own : Nat → Prop) {A B : World} (h : Below A.heap.size A B) : Chg own A B := ⟨h.os, h.tape, h.output, h.size, fun k hk _ => h.block k hk⟩
theorem Chg.ofOut {own : Nat → Prop} {lo hi : Nat} {A B : World} (h : Out lo hi A B) (hw : ∀ k, lo ≤ k → k < hi → own k) : Chg own A B :=
  ⟨h.os, h.tape, h.output, h.size, fun k hk ho => h.block k hk (by
    rcases Nat.lt_or_ge k lo with h1 | h1
    · exact .inl h1
    · rcases Nat.lt_or_ge k hi with h2 | h2
      · exact absurd (hw k h1 h2) ho
      · exact .inr h2)⟩
theorem Chg.below {own : Nat → Prop} {lo : Nat} {A B : World} (h : Chg own A B) (hl : lo ≤ A.heap.size) (ho : ∀ k, own k → lo ≤ k) : Below lo A B :=
  ⟨h.os, h.tape, h.output, h.size, fun k hk => h.block k (by omega) (fun g => by have := ho k g; omega)⟩
theorem Chg.heap {own : Nat → Prop} {A B : World} (h : Chg own A B) {k : Nat} {x : Obj} (hx : A.heap[k]? = some x) (ho : ¬ own k) : B.heap[k]? = some x := (h.block k (lt_of_heap hx) ho).trans hx
theorem Chg.cell {own : Nat → Prop} {A B : World} (h : Chg own A B) {p : Addr} {v : Value} (hc : A.cell? p = some v) (ho : ¬ own p.block) : B.cell? p = some v :=
  (World.cell?_of_block (w := A) (h.block p.block (World.block_lt_of_cell? A p hc) ho)).trans hc
theorem Chg.setCell {own : Nat → Prop} {A W : World} (h : Chg own A W) {p : Addr} (hp : own p.block ∨ A.heap.size ≤ p.block) (v : Value) : Chg own A (W.setCell p v) := by
  refine ⟨h.os, h.tape, h.output, ?_, fun k hk ho => ?_⟩
  · rw [World.size_setCell]; exact h.size
  · rw [Below.heap_setCell W p v k (fun e => hp.elim (fun g => ho (by rw [e]; exact g)) (fun g => by omega))]; exact h.block k hk ho
theorem Chg.alloc {own : Nat → Prop} {A W : World} (h : Chg own A W) (o : Obj) : Chg own A (W.alloc o) :=
  ⟨h.os, h.tape, h.output, by have := h.size; rw [World.size_alloc]; omega, fun k hk ho => (Below.heap_alloc W o k (Nat.lt_of_lt_of_le hk h.size)).trans (h.block k hk ho)⟩
theorem Chg.drew {own : Nat → Prop} {A W : World} (h : Chg own A W) : Chg own A W.drew := ⟨h.os, h.tape, h.output, h.size, h.block⟩
/-- The blocks of the set lie as they lay. -/
structure Keep (own : Nat → Prop) (A B : World) : Prop where
  size : A.heap.size ≤ B.heap.size
  block : ∀ k, own k → B.heap[k]? = A.heap[k]?
theorem Keep.refl (own : Nat → Prop) (A : World) : Keep own A A := ⟨Nat.le_refl _, fun _ _ => rfl⟩
theorem Keep.trans {own : Nat → Prop} {A B C : World} (h : Keep own A B) (k : Keep own B C) : Keep own A C := ⟨Nat.le_trans h.size k.size, fun i hi => (k.block i hi).trans (h.block i hi)⟩
theorem Keep.ofBelow {own : Nat → Prop} {A B : World} (h : Below A.heap.size A B) (ho : ∀ k, own k → k < A.heap.size) : Keep own A B := ⟨h.size, fun k hk => h.block k (ho k hk)⟩
theorem Keep.ins {own : Nat → Prop} {lo hi : Nat} {A B : World} (h : Keep own A B) (ho : ∀ k, lo ≤ k → k < hi → own k) : Ins lo hi A B := ⟨h.size, fun k h1 h2 => h.block k (ho k h1 h2)⟩
theorem Keep.heap {own : Nat → Prop} {A B : World} (h : Keep own A B) {k : Nat} {x : Obj} (hx : A.heap[k]? = some x) (ho : own k) : B.heap[k]? = some x := (h.block k ho).trans hx
theorem Keep.setCell {own : Nat → Prop} {A W : World} (h : Keep own A W) {p : Addr} (hp : ¬ own p.block) (v : Value) : Keep own A (W.setCell p v) :=
  ⟨by rw [World.size_setCell]; exact h.size, fun k hk => (Below.heap_setCell W p v k (fun e => hp (by rw [← e]; exact hk))).trans (h.block k hk)⟩
/-- Nothing depends on the depth under the widest fence. -/
theorem roundIn_wide {n m : Nat} {P : Program} {l : Nat} {f : FuncId} {tmps : Array Value} {assign body : Code} {w : World} {R : Ending → World → Prop} (h : RoundIn Fence.wide n P l f tmps assign body w R) : RoundIn Fence.wide m P l f tmps assign body w R :=
  ⟨h.1, fun c cs _ => h.2 c cs (room_wide _)⟩
section
variable {α : Type}
/-- WHAT AN ITERATOR PROMISES whose own blocks grow. -/
def IterG (P : Program) (gf : Nat) (lb : Array Value) (enc : α → Array Value) (Ok : (Nat → Prop) → World → α → Prop) (Nx : List α → α → Prop) (S Sp : List α → Prop) (Kp : World → Prop) (W : World) : Prop :=
  ∀ (l : Nat) (J Jx : (Nat → Prop) → List α → World → Prop),
    (∀ own pre A, J own pre A → Kp A ∧ ∀ k, own k → W.heap.size ≤ k ∧ k < A.heap.size) →
    (∀ own B, (∀ k, own k → W.heap.size ≤ k ∧ k < B.heap.size) → Below W.heap.size W B → J own [] B) →
    (∀ own own' pre x A B, J own pre A → Chg own A B → (∀ k, own' k → (own k ∨ A.heap.size ≤ k) ∧ k < B.heap.size) → Ok own' B x → Nx pre x →
      YieldAt Fence.wide 7 P l (enc x) B fun e C => (e = .returned (.bool true) ∧ J own' (pre ++ [x]) C ∧ Keep own' B C) ∨ (e = .returned (.bool false) ∧ Jx own' (pre ++ [x]) C ∧ Keep own' B C)) →
    CallsIn Fence.wide 8 P gf (#[.func (.yield l) #[] #[]] ++ lb) W fun e D => (∃ v, e = .returned v) ∧
      ((∃ own xs A, S xs ∧ J own xs A ∧ Chg own A D) ∨ (∃ own pre A, Sp pre ∧ Jx own pre A ∧ (∀ k, own k → W.heap.size ≤ k) ∧ Chg own A D))
/-- The blocks of the loop, and those of its iterator. -/
def andLoop (w : World) (own : Nat → Prop) (k : Nat) : Prop := own k ∨ (w.heap.size ≤ k ∧ k < w.heap.size + 2)
/-- How a round may be left. -/
def roundG (w : World) (own : Nat → Prop) (I : (Nat → Prop) → List α → World → Prop) (Ix : Code → (Nat → Prop) → List α → World → Prop) (xs : List α) (B : World) : Exit → Act → World → Prop
  | .normal, _, C => Keep (andLoop w own) B C ∧ I own xs C
  | .ret, _, C => Keep (andLoop w own) B C ∧ Ix .ret own xs C
  | .exit id, _, C => Keep (andLoop w own) B C ∧ Ix (.exit id) own xs C
  | .goto t, _, C => Keep (andLoop w own) B C ∧ Ix (.goto t) own xs C
  | .panic _, _, _ => False
  | .outgrown, _, _ => False
/-- THE STATEMENT 'for .. := range g { .. }'. -/
theorem wpIn_rangeFunc_G {P : Program} {g : Operand} {ps : Array Tmp} {assign body : Code} {Q : Exit → Act → World → Prop} {a : Act} {w : World}
    {gf : Nat} {lb : Array Value} (hg : a.eval g = .func (.func gf) #[] lb) (eg : ∀ args w, (callFunc gf args).run P w = .ok (.enter gf args) w)
    {enc : α → Array Value} {Ok : (Nat → Prop) → World → α → Prop} {Nx : List α → α → Prop} {S Sp : List α → Prop} {Kp : World → Prop}
    (hit : ∀ W, Below w.heap.size w W → W.heap.size = w.heap.size + 2 → IterG P gf lb enc Ok Nx S Sp Kp W)
    (hKo : ∀ A B, Kp A → Out w.heap.size (w.heap.size + 2) A B → Kp B)
    (hOk : ∀ own B C x, Ok own B x → Out w.heap.size (w.heap.size + 2) B C → Ok own C x)
    (hps : ∀ x, (enc x).size = ps.size) (I : (Nat → Prop) → List α → World → Prop) (Ix : Code → (Nat → Prop) → List α → World → Prop)
    (hIK : ∀ own pre A, I own pre A → Kp A ∧ ∀ k, own k → w.heap.size + 2 ≤ k ∧ k < A.heap.size)
    (h0 : ∀ own B, (∀ k, own k → w.heap.size + 2 ≤ k ∧ k < B.heap.size) → Below w.heap.size w B → w.heap.size + 2 ≤ B.heap.size → I own [] B) (a₁ : α → Act)
    (hassign : ∀ (l : Nat) (x : α) (W : World) (K : Act → World → Prop), K (a₁ x) W →
      assign.wpIn (Fence.wide.inRound l) 7 P (Exit.then K (fun _ _ _ => False)) { tmps := (ps.zip (enc x)).foldl (fun t (p, v) => t.setIfInBounds p v) a.tmps, defers := [] } W)
    (hbody : ∀ (l : Nat) (own own' : Nat → Prop) (pre : List α) (x : α) (A B : World), I own pre A → Chg (andLoop w own) A B → (∀ k, own' k → (own k ∨ A.heap.size ≤ k) ∧ k < B.heap.size ∧ w.heap.size + 2 ≤ k) → w.heap.size + 2 ≤ B.heap.size → Ok own' B x → Nx pre x →
      body.wpIn (Fence.wide.inRound l) 7 P (roundG w own' I Ix (pre ++ [x]) B) (a₁ x) B)
    (hdone : ∀ (own : Nat → Prop) (xs : List α) (A W : World), S xs → I own xs A → Chg (andLoop w own) A W → W.heap[w.heap.size]? = some (.deferred (some [])) →
      Q .normal { a with defers := { target := .collected w.heap.size, args := #[] } :: a.defers } W)
    (hstop : ∀ (c : Code) (own : Nat → Prop) (pre : List α) (A W : World), Sp pre → Ix c own pre A → (∀ k, own k → w.heap.size + 2 ≤ k) → Chg (andLoop w own) A W → W.heap[w.heap.size]? = some (.deferred (some [])) →
      c.wpIn Fence.wide 9 P Q { a with defers := { target := .collected w.heap.size, args := #[] } :: a.defers } W) :
    (Code.rangeFunc g ps assign body).wpIn Fence.wide 9 P Q a w := by
  refine wpIn_rangeFunc ?_
  intro fn hfn
  obtain ⟨rc, hrc⟩ : ∃ rc : LoopState → Option Code → Loop, rc = fun st pe => { state := st, pending := pe, fn, tmps := a.tmps, params := ps, assign, body, defers := w.heap.size } := ⟨_, rfl⟩
  obtain ⟨W1, hW1⟩ : ∃ W1, (w.alloc (.deferred (some []))).alloc (.loop (rc .ready none)) = W1 := ⟨_, rfl⟩
  have hs1 : W1.heap.size = w.heap.size + 2 := by rw [← hW1]; simp
  have hL1 : W1.heap[w.heap.size + 1]? = some (.loop (rc .ready none)) := by rw [← hW1]; exact heap_new (by simp)
  have hD1 : W1.heap[w.heap.size]? = some (.deferred (some [])) := by rw [← hW1]; exact heap_kept (heap_new rfl)
  have hb1 : Below w.heap.size w W1 := by rw [← hW1]; exact ((Below.refl _ w).alloc (Nat.le_refl _) _).alloc (by simp) _
  have hput : ∀ (own : Nat → Prop) (V : World) (o : Obj), Chg (andLoop w own) V (V.putObj (w.heap.size + 1) o) := fun own V o => ⟨rfl, rfl, rfl, by rw [World.putObj_size]; exact Nat.le_refl _, fun k _ ho => World.putObj_heap_other (fun e => ho (.inr (by omega)))⟩
  have hout : ∀ (own : Nat → Prop) {A B : World}, Out w.heap.size (w.heap.size + 2) A B → Chg (andLoop w own) A B := fun own A B h => Chg.ofOut h (fun k h1 h2 => .inr ⟨h1, h2⟩)
  refine ⟨w.heap.size + 1, [{ target := .collected w.heap.size, args := #[] }], W1, { target := .fn (.func gf) lb, args := #[.func (.yield (w.heap.size + 1)) #[] #[]] }, W1, gf,
    #[.func (.yield (w.heap.size + 1)) #[] #[]] ++ lb, W1, ?_, ?_, fun f' _ => trivial, ?_, fun _ => by omega, ?_⟩
  · rw [← hW1, hrc]; exact run_enterLoop_outer _ _ _ _ _
  · simp only [resolve, hg]
    simp [go_sem]
  · simp [invoke, go_sem, eg]
  · have hrun := hit W1 hb1 hs1 (w.heap.size + 1)
      (fun own pre A => ∃ A', I own pre A' ∧ A'.heap.size = A.heap.size ∧ Out w.heap.size (w.heap.size + 2) A' A ∧ A.heap[w.heap.size + 1]? = some (.loop (rc .ready none)) ∧ A.heap[w.heap.size]? = some (.deferred (some [])))
      (fun own pre A => ∃ c A', Ix c own pre A' ∧ Out w.heap.size (w.heap.size + 2) A' A ∧ A.heap[w.heap.size + 1]? = some (.loop (rc .done (some c))) ∧ A.heap[w.heap.size]? = some (.deferred (some [])))
      (fun own pre A ⟨A', hI, hz, ho, _, _⟩ => ⟨hKo A' A (hIK own pre A' hI).1 ho, fun k hk => by have := (hIK own pre A' hI).2 k hk; omega⟩)
      (fun own B hown hb => ⟨B, h0 own B (fun k hk => by have := hown k hk; omega) ⟨hb.os.trans hb1.os, hb.tape.trans hb1.tape, hb.output.trans hb1.output, Nat.le_trans hb1.size hb.size, fun k hk => (hb.block k (by omega)).trans (hb1.block k hk)⟩ (by have := hb.size; omega), rfl, Out.refl _ _ _,
        (hb.block _ (by omega)).trans hL1, (hb.block _ (by omega)).trans hD1⟩)
      ?_
    · refine hrun.mono ?_
      rintro e D ⟨⟨v, rfl⟩, (⟨own, xs, A, hS, ⟨A', hI, hz, ho', hl, hd⟩, ho⟩ | ⟨own, pre, A, hSp, ⟨c, A', hI, ho', hl, hd⟩, hown, ho⟩)⟩
      · have hk := (hIK own xs A' hI).2
        have hl' := ho.heap hl (fun g => by have := hk _ g; omega)
        have hd' := ho.heap hd (fun g => by have := hk _ g; omega)
        refine ⟨none, _, by have := run_endLoop (P := P) hl' (by rw [hrc]; simp); rw [hrc] at this; exact this, ?_⟩
        exact hdone own xs A' _ hS hI (((hout own ho').trans (ho.widen (fun k _ g => .inl g))).trans (hput own _ _)) ((World.putObj_heap_other (by omega)).trans hd')
      · have hl' := ho.heap hl (fun g => by have := hown _ g; omega)
        have hd' := ho.heap hd (fun g => by have := hown _ g; omega)
        refine ⟨some c, _, by have := run_endLoop (P := P) hl' (by rw [hrc]; simp); rw [hrc] at this; exact this, ?_⟩
        exact hstop c own pre A' _ hSp hI (fun k hk => by have := hown k hk; omega) (((hout own ho').trans (ho.widen (fun k _ g => .inl g))).trans (hput own _ _)) ((World.putObj_heap_other (by omega)).trans hd')
    · rintro own own' pre x A B ⟨A', hI, hz, ho', hl, hd⟩ ho hsub hok hnx
      have hk := (hIK own pre A' hI).2
      have hk' : ∀ k, own' k → w.heap.size + 2 ≤ k := fun k h => by
        rcases (hsub k h).1 with g | g
        · have := hk k g; omega
        · have h1 := ho'.size
          have h2 : w.heap.size + 1 < A.heap.size := lt_of_heap hl
          omega
      have hlB := ho.heap hl (fun g => by have := hk _ g; omega)
      have hdB := ho.heap hd (fun g => by have := hk _ g; omega)
      have hltB := lt_of_heap hlB
      have hy := run_yield (P := P) (args := enc x) hlB (by rw [hrc]; exact hps x)
      rw [hrc] at hy
      refine ⟨fn, _, assign, body, hy, roundIn_of_wpIn hfn (hassign _ x B _ ⟨_, run_beginRound hlB (by rw [hrc]), ?_⟩)⟩
      obtain ⟨B2, hB2⟩ : ∃ B2, B.putObj (w.heap.size + 1) (.loop { rc .ready none with state := .busy }) = B2 := ⟨_, rfl⟩
      have e2 : ({ rc .ready none with state := .busy } : Loop) = rc .busy none := by rw [hrc]
      rw [e2] at hB2
      rw [e2, hB2]
      have hlB2 : B2.heap[w.heap.size + 1]? = some (.loop (rc .busy none)) := by rw [← hB2]; exact World.putObj_heap_same hltB
      have hdB2 : B2.heap[w.heap.size]? = some (.deferred (some [])) := by rw [← hB2]; exact (World.putObj_heap_other (by omega)).trans hdB
      have hoB2 : Out w.heap.size (w.heap.size + 2) B B2 := by rw [← hB2]; exact Out.putObj _ _ _ (by omega) (by omega) _
      have hzB2 : B2.heap.size = B.heap.size := by rw [← hB2]; simp
      have insB2 : ∀ k, k ≠ w.heap.size + 1 → B2.heap[k]? = B.heap[k]? := fun k hk => by rw [← hB2]; exact World.putObj_heap_other hk
      refine wpIn_mono (hbody _ own own' pre x A' B2 hI (((hout own ho').trans (ho.widen (fun k _ g => .inl g))).trans (hout own hoB2)) (fun k h => ⟨(hsub k h).1.imp id (fun g => by omega), by have := (hsub k h).2; omega, hk' k h⟩) (by omega) (hOk _ _ _ _ hok hoB2) hnx) ?_
      have fin : ∀ (jump : Option Code) (C : World), C.heap[w.heap.size + 1]? = some (.loop (rc .busy none)) →
          (Instr.endRound (w.heap.size + 1) jump).run P C = .ok (.bool jump.isNone) (C.putObj (w.heap.size + 1) (.loop (rc (if jump.isNone then .ready else .done) jump))) := fun jump C hC => by
        have := run_endRound (P := P) jump hC
        rw [hrc] at this ⊢
        exact this
      have kp : ∀ (C : World) (o : Obj), Keep (andLoop w own') B2 C → Keep own' B (C.putObj (w.heap.size + 1) o) := fun C o hin => ⟨by have := hin.size; simp; omega, fun k h => by
        have := hk' k h
        rw [World.putObj_heap_other (by omega), hin.block k (.inl h), insB2 k (by omega)]⟩
      have lp : ∀ (C : World), Keep (andLoop w own') B2 C → C.heap[w.heap.size + 1]? = some (.loop (rc .busy none)) ∧ C.heap[w.heap.size]? = some (.deferred (some [])) := fun C hin =>
        ⟨(hin.block (w.heap.size + 1) (.inr (by omega))).trans hlB2, (hin.block w.heap.size (.inr (by omega))).trans hdB2⟩
      rintro e a3 C hp
      cases e with
      | normal =>
        obtain ⟨hin, hI3⟩ := hp
        obtain ⟨hlC, hdC⟩ := lp C hin
        exact ⟨_, _, fin none C hlC, .inl ⟨rfl, ⟨C, hI3, by simp, Out.putObj _ _ _ (by omega) (by omega) _, World.putObj_heap_same (lt_of_heap hlC), (World.putObj_heap_other (by omega)).trans hdC⟩, kp C _ hin⟩⟩
      | ret =>
        obtain ⟨hin, hI3⟩ := hp
        obtain ⟨hlC, hdC⟩ := lp C hin
        exact ⟨_, _, fin (some .ret) C hlC, .inr ⟨rfl, ⟨.ret, C, hI3, Out.putObj _ _ _ (by omega) (by omega) _, World.putObj_heap_same (lt_of_heap hlC), (World.putObj_heap_other (by omega)).trans hdC⟩, kp C _ hin⟩⟩
      | exit id =>
        obtain ⟨hin, hI3⟩ := hp
        obtain ⟨hlC, hdC⟩ := lp C hin
        exact ⟨_, _, fin (some (.exit id)) C hlC, .inr ⟨rfl, ⟨.exit id, C, hI3, Out.putObj _ _ _ (by omega) (by omega) _, World.putObj_heap_same (lt_of_heap hlC), (World.putObj_heap_other (by omega)).trans hdC⟩, kp C _ hin⟩⟩
      | goto t =>
        obtain ⟨hin, hI3⟩ := hp
        obtain ⟨hlC, hdC⟩ := lp C hin
        exact ⟨_, _, fin (some (.goto t)) C hlC, .inr ⟨rfl, ⟨.goto t, C, hI3, Out.putObj _ _ _ (by omega) (by omega) _, World.putObj_heap_same (lt_of_heap hlC), (World.putObj_heap_other (by omega)).trans hdC⟩, kp C _ hin⟩⟩
      | panic ch => exact hp.elim
      | outgrown => exact hp.elim
/-- The same where the function is walked in the plain way. -/
theorem wp_rangeFunc_G {P : Program} {g : Operand} {ps : Array Tmp} {assign body : Code} {Q : Exit → Act → World → Prop} {a : Act} {w : World}
    {gf : Nat} {lb : Array Value} (hg : a.eval g = .func (.func gf) #[] lb) (eg : ∀ args w, (callFunc gf args).run P w = .ok (.enter gf args) w)
    {enc : α → Array Value} {Ok : (Nat → Prop) → World → α → Prop} {Nx : List α → α → Prop} {S Sp : List α → Prop} {Kp : World → Prop}
    (hit : ∀ W, Below w.heap.size w W → W.heap.size = w.heap.size + 2 → IterG P gf lb enc Ok Nx S Sp Kp W)
    (hKo : ∀ A B, Kp A → Out w.heap.size (w.heap.size + 2) A B → Kp B)
    (hOk : ∀ own B C x, Ok own B x → Out w.heap.size (w.heap.size + 2) B C → Ok own C x)
    (hps : ∀ x, (enc x).size = ps.size) (I : (Nat → Prop) → List α → World → Prop) (Ix : Code → (Nat → Prop) → List α → World → Prop)
    (hIK : ∀ own pre A, I own pre A → Kp A ∧ ∀ k, own k → w.heap.size + 2 ≤ k ∧ k < A.heap.size)
    (h0 : ∀ own B, (∀ k, own k → w.heap.size + 2 ≤ k ∧ k < B.heap.size) → Below w.heap.size w B → w.heap.size + 2 ≤ B.heap.size → I own [] B) (a₁ : α → Act)
    (hassign : ∀ (l : Nat) (x : α) (W : World) (K : Act → World → Prop), K (a₁ x) W →
      assign.wpIn (Fence.wide.inRound l) 7 P (Exit.then K (fun _ _ _ => False)) { tmps := (ps.zip (enc x)).foldl (fun t (p, v) => t.setIfInBounds p v) a.tmps, defers := [] } W)
    (hbody : ∀ (l : Nat) (own own' : Nat → Prop) (pre : List α) (x : α) (A B : World), I own pre A → Chg (andLoop w own) A B → (∀ k, own' k → (own k ∨ A.heap.size ≤ k) ∧ k < B.heap.size ∧ w.heap.size + 2 ≤ k) → w.heap.size + 2 ≤ B.heap.size → Ok own' B x → Nx pre x →
      body.wpIn (Fence.wide.inRound l) 7 P (roundG w own' I Ix (pre ++ [x]) B) (a₁ x) B)
    (hdone : ∀ (own : Nat → Prop) (xs : List α) (A W : World), S xs → I own xs A → Chg (andLoop w own) A W → W.heap[w.heap.size]? = some (.deferred (some [])) →
      Q .normal { a with defers := { target := .collected w.heap.size, args := #[] } :: a.defers } W)
    (hstop : ∀ (c : Code) (own : Nat → Prop) (pre : List α) (A W : World), Sp pre → Ix c own pre A → (∀ k, own k → w.heap.size + 2 ≤ k) → Chg (andLoop w own) A W → W.heap[w.heap.size]? = some (.deferred (some [])) →
      c.wp P Q { a with defers := { target := .collected w.heap.size, args := #[] } :: a.defers } W) :
    (Code.rangeFunc g ps assign body).wp P Q a w :=
  (wpIn_wide (n := 9)).1 (wpIn_rangeFunc_G hg eg hit hKo hOk hps I Ix hIK h0 a₁ hassign hbody hdone (fun c own pre A W h1 h2 h3 h4 h5 => wpIn_wide.2 (hstop c own pre A W h1 h2 h3 h4 h5)))
end
end Go.Proofs.YtfaiehjomcgjgaaDoor
