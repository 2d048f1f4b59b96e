/- A range over a function: what the iterator owns, what the rounds own, and what a round may know of what it is handed. -/
import Derived.Test.YtfaiehjomcgjgaaDoorGKit
import Derived.RangeFuncNested
import Derived.Deep.MidRow
import Derived.RangeFuncCalls
import Derived.RangeFuncLeaves
import Derived.OwnWalkIn
import Derived.TacticsInMore
import Derived.LoopNIn
import Derived.LoopIn
import Derived.Test.YtfaiehjomcgjgaaDoorGCho
import Derived.Test.YtfaiehjomcgjgaaDoorGHst
import Derived.Test.YtfaiehjomcgjgaaDoorGLook
import Derived.Sort.QuietTacIn
import Derived.WalkMore
namespace Go.Proofs.YtfaiehjomcgjgaaDoor
set_option linter.unusedVariables false
open Go.RowKit

/-- From A to B blocks from lo to hi have turned at most, and new ones have come. -/
structure Out (lo hi : Nat) (A B : World) : Prop where
  os : B.os = A.os
  tape : B.tape = A.tape
  output : B.output = A.output
  size : A.heap.size ≤ B.heap.size
  block : ∀ k, k < A.heap.size → (k < lo ∨ hi ≤ k) → B.heap[k]? = A.heap[k]?
theorem Out.refl (lo hi : Nat) (A : World) : Out lo hi A A := ⟨rfl, rfl, rfl, Nat.le_refl _, fun _ _ _ => rfl⟩
theorem Out.trans {lo hi : Nat} {A B C : World} (h : Out lo hi A B) (k : Out lo hi B C) : Out lo hi A C :=
  ⟨k.os.trans h.os, k.tape.trans h.tape, k.output.trans h.output, Nat.le_trans h.size k.size, fun i hi ho => (k.block i (Nat.lt_of_lt_of_le hi h.size) ho).trans (h.block i hi ho)⟩
theorem Out.widen {lo hi lo' hi' : Nat} {A B : World} (h : Out lo hi A B) (hl : lo' ≤ lo) (hh : hi ≤ hi') : Out lo' hi' A B :=
  ⟨h.os, h.tape, h.output, h.size, fun k hk ho => h.block k hk (ho.elim (fun e => .inl (by omega)) (fun e => .inr (by omega)))⟩
theorem Out.below {lo hi : Nat} {A B : World} (h : Out lo hi A B) (hl : lo ≤ A.heap.size) : Below lo A B :=
  ⟨h.os, h.tape, h.output, h.size, fun k hk => h.block k (by omega) (.inl hk)⟩
theorem Out.ofBelow {A B : World} (lo hi : Nat) (h : Below A.heap.size A B) : Out lo hi A B := ⟨h.os, h.tape, h.output, h.size, fun k hk _ => h.block k hk⟩
theorem Out.putObj (lo hi : Nat) (W : World) {l : Nat} (h1 : lo ≤ l) (h2 : l < hi) (o : Obj) : Out lo hi W (W.putObj l o) :=
  ⟨rfl, rfl, rfl, by rw [World.putObj_size]; exact Nat.le_refl _, fun k _ ho => World.putObj_heap_other (by omega)⟩
theorem Out.setCell {lo hi : Nat} {A W : World} (h : Out lo hi A W) {p : Addr} (h1 : lo ≤ p.block) (h2 : p.block < hi ∨ A.heap.size ≤ p.block) (v : Value) : Out lo hi A (W.setCell p v) := by
  refine ⟨h.os, h.tape, h.output, ?_, fun k hk ho => ?_⟩
  · rw [World.size_setCell]; exact h.size
  · rw [Below.heap_setCell W p v k (by omega)]; exact h.block k hk ho
theorem Out.alloc {lo hi : Nat} {A W : World} (h : Out lo hi A W) (o : Obj) : Out lo hi A (W.alloc o) :=
  ⟨h.os, h.tape, h.output, by have := h.size; rw [World.size_alloc]; omega, fun k hk ho => (Below.heap_alloc W o k (Nat.lt_of_lt_of_le hk h.size)).trans (h.block k hk ho)⟩
theorem Out.drew {lo hi : Nat} {A W : World} (h : Out lo hi A W) : Out lo hi A W.drew := ⟨h.os, h.tape, h.output, h.size, h.block⟩
theorem Out.drewN {lo hi : Nat} {A W : World} (h : Out lo hi A W) (n : Nat) : Out lo hi A (W.drewN n) := ⟨h.os, h.tape, h.output, h.size, h.block⟩
theorem Out.cell {lo hi : Nat} {A B : World} (h : Out lo hi A B) {p : Addr} {v : Value} (hc : A.cell? p = some v) (ho : p.block < lo ∨ hi ≤ p.block) : B.cell? p = some v :=
  (World.cell?_of_block (w := A) (h.block p.block (World.block_lt_of_cell? A p hc) ho)).trans hc
theorem Out.heap {lo hi : Nat} {A B : World} (h : Out lo hi A B) {k : Nat} {x : Obj} (hx : A.heap[k]? = some x) (ho : k < lo ∨ hi ≤ k) : B.heap[k]? = some x :=
  (h.block k (lt_of_heap hx) ho).trans hx
/-- The blocks from lo to hi lie as they lay. -/
structure Ins (lo hi : Nat) (A B : World) : Prop where
  size : A.heap.size ≤ B.heap.size
  block : ∀ k, lo ≤ k → k < hi → B.heap[k]? = A.heap[k]?
theorem Ins.refl (lo hi : Nat) (A : World) : Ins lo hi A A := ⟨Nat.le_refl _, fun _ _ _ => rfl⟩
theorem Ins.trans {lo hi : Nat} {A B C : World} (h : Ins lo hi A B) (k : Ins lo hi B C) : Ins lo hi A C :=
  ⟨Nat.le_trans h.size k.size, fun i h1 h2 => (k.block i h1 h2).trans (h.block i h1 h2)⟩
theorem Ins.ofBelow {lo hi n : Nat} {A B : World} (h : Below n A B) (hn : hi ≤ n) : Ins lo hi A B := ⟨h.size, fun k _ h2 => h.block k (by omega)⟩
theorem Ins.setCell {lo hi : Nat} {A W : World} (h : Ins lo hi A W) {p : Addr} (hp : p.block < lo ∨ hi ≤ p.block) (v : Value) : Ins lo hi A (W.setCell p v) :=
  ⟨by rw [World.size_setCell]; exact h.size, fun k h1 h2 => (Below.heap_setCell W p v k (by omega)).trans (h.block k h1 h2)⟩
theorem Ins.drew {lo hi : Nat} {A W : World} (h : Ins lo hi A W) : Ins lo hi A W.drew := ⟨h.size, h.block⟩
theorem Ins.alloc {lo hi : Nat} {A W : World} (h : Ins lo hi A W) (hh : hi ≤ A.heap.size) (o : Obj) : Ins lo hi A (W.alloc o) :=
  ⟨by have := h.size; rw [World.size_alloc]; omega, fun k h1 h2 => (Below.heap_alloc W o k (by have := h.size; omega)).trans (h.block k h1 h2)⟩
theorem Ins.heap {lo hi : Nat} {A B : World} (h : Ins lo hi A B) {k : Nat} {x : Obj} (hx : A.heap[k]? = some x) (h1 : lo ≤ k) (h2 : k < hi) : B.heap[k]? = some x := (h.block k h1 h2).trans hx
theorem Ins.cell {lo hi : Nat} {A B : World} (h : Ins lo hi A B) {p : Addr} {v : Value} (hc : A.cell? p = some v) (h1 : lo ≤ p.block) (h2 : p.block < hi) : B.cell? p = some v :=
  (World.cell?_of_block (w := A) (h.block p.block h1 h2)).trans hc

section
variable {α : Type}
/-- WHAT AN ITERATOR PROMISES. Before it yields for the first time the heap has come to n blocks: of those that lay when it was called it turns none, and behind that it turns at most its own ones, up to n. What it yields is as told by Ok: 'Ok m B x': x in the world B, all of it at or behind block m; Nx: which one comes next. -/
def Iter (P : Program) (gf : Nat) (lb : Array Value) (enc : α → Array Value) (Ok : Nat → World → α → Prop) (Nx : List α → α → Prop) (S Sp : List α → Prop) (W : World) : Prop :=
  ∀ (l : Nat) (J : Nat → List α → World → Prop) (Jx : List α → World → Prop),
    (∀ n B, Below W.heap.size W B → B.heap.size = n → J n [] B) →
    (∀ n pre x A B, W.heap.size ≤ n → n ≤ A.heap.size → J n pre A → Out W.heap.size n A B → Ok A.heap.size B x → Nx pre x →
      YieldAt Fence.wide 7 P l (enc x) B fun e C => (e = .returned (.bool true) ∧ J n (pre ++ [x]) C ∧ Ins W.heap.size n B C) ∨ (e = .returned (.bool false) ∧ Jx (pre ++ [x]) C)) →
    CallsIn Fence.wide 8 P gf (#[.func (.yield l) #[] #[]] ++ lb) W fun e D => (∃ v, e = .returned v) ∧
      ((∃ n xs A, W.heap.size ≤ n ∧ n ≤ A.heap.size ∧ S xs ∧ J n xs A ∧ Out W.heap.size n A D) ∨ (∃ pre A, Sp pre ∧ Jx pre A ∧ Below A.heap.size A D))

/-- How a round may be left. -/
def roundV (lo n : Nat) (I : Nat → List α → World → Prop) (Ix : Code → List α → World → Prop) (xs : List α) (B : World) : Exit → Act → World → Prop
  | .normal, _, C => Ins lo n B C ∧ I n xs C
  | .ret, _, C => Ins lo (lo + 2) B C ∧ Ix .ret xs C
  | .exit id, _, C => Ins lo (lo + 2) B C ∧ Ix (.exit id) xs C
  | .goto t, _, C => Ins lo (lo + 2) B C ∧ Ix (.goto t) xs C
  | .panic _, _, _ => False
  | .outgrown, _, _ => False

/-- THE STATEMENT 'for .. := range g { .. }', outermost. -/
theorem wpIn_rangeFunc_V {P : Program} {g : Operand} {ps : Array Tmp} {assign body : Code} {Q : Exit → Act → World → Prop} {a : Act} {w : World}
    {gf : Nat} {lb : Array Value} (hg : a.eval g = .func (.func gf) #[] lb) (eg : ∀ args w, (callFunc gf args).run P w = .ok (.enter gf args) w)
    {enc : α → Array Value} {Ok : Nat → World → α → Prop} {Nx : List α → α → Prop} {S Sp : List α → Prop}
    (hit : ∀ W, Below w.heap.size w W → W.heap.size = w.heap.size + 2 → Iter P gf lb enc Ok Nx S Sp W)
    (hOk : ∀ m B C x, w.heap.size + 2 ≤ m → Ok m B x → Out w.heap.size (w.heap.size + 2) B C → Ok m C x)
    (hps : ∀ x, (enc x).size = ps.size) (I : Nat → List α → World → Prop) (Ix : Code → List α → World → Prop)
    (h0 : ∀ n B, Below w.heap.size w B → w.heap.size + 2 ≤ n → B.heap.size = n → I n [] B) (a₁ : α → Act)
    (hassign : ∀ (l : Nat) (x : α) (W : World) (K : Act → World → Prop), K (a₁ x) W →
      assign.wpIn (Fence.wide.inRound l) 7 P (Exit.then K (fun _ _ _ => False)) { tmps := (ps.zip (enc x)).foldl (fun t (p, v) => t.setIfInBounds p v) a.tmps, defers := [] } W)
    (hbody : ∀ (l n : Nat) (pre : List α) (x : α) (A B : World), w.heap.size + 2 ≤ n → n ≤ A.heap.size → I n pre A → Out w.heap.size n A B → Ok A.heap.size B x → Nx pre x →
      body.wpIn (Fence.wide.inRound l) 7 P (roundV w.heap.size n I Ix (pre ++ [x]) B) (a₁ x) B)
    (hdone : ∀ (n : Nat) (xs : List α) (A W : World), w.heap.size + 2 ≤ n → n ≤ A.heap.size → S xs → I n xs A → Out w.heap.size n A W → W.heap[w.heap.size]? = some (.deferred (some [])) →
      Q .normal { a with defers := { target := .collected w.heap.size, args := #[] } :: a.defers } W)
    (hstop : ∀ (c : Code) (pre : List α) (A W : World), Sp pre → Ix c pre A → Out w.heap.size (w.heap.size + 2) A W → W.heap[w.heap.size]? = some (.deferred (some [])) →
      c.wpIn Fence.wide 9 P Q { a with defers := { target := .collected w.heap.size, args := #[] } :: a.defers } W) :
    (Code.rangeFunc g ps assign body).wpIn Fence.wide 9 P Q a w := by
  refine wpIn_rangeFunc ?_
  intro fn hfn
  obtain ⟨rc, hrc⟩ : ∃ rc : LoopState → Option Code → Loop, rc = fun st pe => { state := st, pending := pe, fn, tmps := a.tmps, params := ps, assign, body, defers := w.heap.size } := ⟨_, rfl⟩
  obtain ⟨W1, hW1⟩ : ∃ W1, (w.alloc (.deferred (some []))).alloc (.loop (rc .ready none)) = W1 := ⟨_, rfl⟩
  have hs1 : W1.heap.size = w.heap.size + 2 := by rw [← hW1]; simp
  have hL1 : W1.heap[w.heap.size + 1]? = some (.loop (rc .ready none)) := by rw [← hW1]; exact heap_new (by simp)
  have hD1 : W1.heap[w.heap.size]? = some (.deferred (some [])) := by rw [← hW1]; exact heap_kept (heap_new rfl)
  have hb1 : Below w.heap.size w W1 := by rw [← hW1]; exact ((Below.refl _ w).alloc (Nat.le_refl _) _).alloc (by simp) _
  refine ⟨w.heap.size + 1, [{ target := .collected w.heap.size, args := #[] }], W1, { target := .fn (.func gf) lb, args := #[.func (.yield (w.heap.size + 1)) #[] #[]] }, W1, gf,
    #[.func (.yield (w.heap.size + 1)) #[] #[]] ++ lb, W1, ?_, ?_, fun f' _ => trivial, ?_, fun _ => by omega, ?_⟩
  · rw [← hW1, hrc]; exact run_enterLoop_outer _ _ _ _ _
  · simp only [resolve, hg]
    simp [go_sem]
  · simp [invoke, go_sem, eg]
  · have hrun := hit W1 hb1 hs1 (w.heap.size + 1)
      (fun n pre A => ∃ A', I n pre A' ∧ A'.heap.size = A.heap.size ∧ Out w.heap.size (w.heap.size + 2) A' A ∧ A.heap[w.heap.size + 1]? = some (.loop (rc .ready none)) ∧ A.heap[w.heap.size]? = some (.deferred (some [])))
      (fun pre A => ∃ c A', Ix c pre A' ∧ Out w.heap.size (w.heap.size + 2) A' A ∧ A.heap[w.heap.size + 1]? = some (.loop (rc .done (some c))) ∧ A.heap[w.heap.size]? = some (.deferred (some [])))
      (fun n B hb hn => ⟨B, h0 n B ⟨hb.os.trans hb1.os, hb.tape.trans hb1.tape, hb.output.trans hb1.output, Nat.le_trans hb1.size hb.size, fun k hk => (hb.block k (by omega)).trans (hb1.block k hk)⟩ (by have := hb.size; omega) hn, rfl, Out.refl _ _ _,
        (hb.block _ (by omega)).trans hL1, (hb.block _ (by omega)).trans hD1⟩)
      ?_
    · refine hrun.mono ?_
      rintro e D ⟨⟨v, rfl⟩, (⟨n, xs, A, hn1, hn2, hS, ⟨A', hI, hz, ho', hl, hd⟩, ho⟩ | ⟨pre, A, hSp, ⟨c, A', hI, ho', hl, hd⟩, ho⟩)⟩
      · have hl' := (ho.block _ (lt_of_heap hl) (.inl (by omega))).trans hl
        have hd' := (ho.block _ (lt_of_heap hd) (.inl (by omega))).trans hd
        refine ⟨none, _, by have := run_endLoop (P := P) hl' (by rw [hrc]; simp); rw [hrc] at this; exact this, ?_⟩
        exact hdone n xs A' _ (by omega) (by omega) hS hI (((ho'.widen (Nat.le_refl _) (by omega)).trans (ho.widen (by omega) (Nat.le_refl _))).trans (Out.putObj _ _ _ (by omega) (by omega) _)) ((World.putObj_heap_other (by omega)).trans hd')
      · have hl' := (ho.block _ (lt_of_heap hl)).trans hl
        have hd' := (ho.block _ (lt_of_heap hd)).trans hd
        refine ⟨some c, _, by have := run_endLoop (P := P) hl' (by rw [hrc]; simp); rw [hrc] at this; exact this, ?_⟩
        exact hstop c pre A' _ hSp hI ((ho'.trans (Out.ofBelow _ _ ho)).trans (Out.putObj _ _ _ (by omega) (by omega) _)) ((World.putObj_heap_other (by omega)).trans hd')
    · rintro n pre x A B hn1 hn2 ⟨A', hI, hz, ho', hl, hd⟩ ho hok hnx
      have hlB := (ho.block _ (lt_of_heap hl) (.inl (by omega))).trans hl
      have hdB := (ho.block _ (lt_of_heap hd) (.inl (by omega))).trans hd
      have hltB := lt_of_heap hlB
      have hy := run_yield (P := P) (args := enc x) hlB (by rw [hrc]; exact hps x)
      rw [hrc] at hy
      refine ⟨fn, _, assign, body, hy, roundIn_of_wpIn hfn (hassign _ x B _ ⟨_, run_beginRound hlB (by rw [hrc]), ?_⟩)⟩
      obtain ⟨B2, hB2⟩ : ∃ B2, B.putObj (w.heap.size + 1) (.loop { rc .ready none with state := .busy }) = B2 := ⟨_, rfl⟩
      have e2 : ({ rc .ready none with state := .busy } : Loop) = rc .busy none := by rw [hrc]
      rw [e2] at hB2
      rw [e2, hB2]
      have hlB2 : B2.heap[w.heap.size + 1]? = some (.loop (rc .busy none)) := by rw [← hB2]; exact World.putObj_heap_same hltB
      have hdB2 : B2.heap[w.heap.size]? = some (.deferred (some [])) := by rw [← hB2]; exact (World.putObj_heap_other (by omega)).trans hdB
      have hoB2 : Out w.heap.size (w.heap.size + 2) B B2 := by rw [← hB2]; exact Out.putObj _ _ _ (by omega) (by omega) _
      have hzB2 : B2.heap.size = B.heap.size := by rw [← hB2]; simp
      have insB2 : ∀ k, k ≠ w.heap.size + 1 → B2.heap[k]? = B.heap[k]? := fun k hk => by rw [← hB2]; exact World.putObj_heap_other hk
      refine wpIn_mono (hbody _ n pre x A' B2 (by omega) (by omega) hI (((ho'.widen (Nat.le_refl _) (by omega)).trans (ho.widen (by omega) (Nat.le_refl _))).trans (hoB2.widen (Nat.le_refl _) (by omega))) (hOk _ _ _ _ (by omega) (by rw [hz]; exact hok) hoB2) hnx) ?_
      have fin : ∀ (jump : Option Code) (C : World), C.heap[w.heap.size + 1]? = some (.loop (rc .busy none)) →
          (Instr.endRound (w.heap.size + 1) jump).run P C = .ok (.bool jump.isNone) (C.putObj (w.heap.size + 1) (.loop (rc (if jump.isNone then .ready else .done) jump))) := fun jump C hC => by
        have := run_endRound (P := P) jump hC
        rw [hrc] at this ⊢
        exact this
      rintro e a3 C hp
      cases e with
      | normal =>
        obtain ⟨hin, hI3⟩ := hp
        have hlC := (hin.block (w.heap.size + 1) (by omega) (by omega)).trans hlB2
        have hdC := (hin.block w.heap.size (by omega) (by omega)).trans hdB2
        refine ⟨_, _, fin none C hlC, .inl ⟨rfl, ⟨C, hI3, by simp, Out.putObj _ _ _ (by omega) (by omega) _, World.putObj_heap_same (lt_of_heap hlC), (World.putObj_heap_other (by omega)).trans hdC⟩, ?_, ?_⟩⟩
        · have := hin.size; simp; omega
        · intro k h1 h2
          rw [World.putObj_heap_other (by omega), hin.block k (by omega) h2, insB2 k (by omega)]
      | ret =>
        obtain ⟨hin, hI3⟩ := hp
        have hlC := (hin.block (w.heap.size + 1) (by omega) (by omega)).trans hlB2
        have hdC := (hin.block w.heap.size (by omega) (by omega)).trans hdB2
        exact ⟨_, _, fin (some .ret) C hlC, .inr ⟨rfl, .ret, C, hI3, Out.putObj _ _ _ (by omega) (by omega) _, World.putObj_heap_same (lt_of_heap hlC), (World.putObj_heap_other (by omega)).trans hdC⟩⟩
      | exit id =>
        obtain ⟨hin, hI3⟩ := hp
        have hlC := (hin.block (w.heap.size + 1) (by omega) (by omega)).trans hlB2
        have hdC := (hin.block w.heap.size (by omega) (by omega)).trans hdB2
        exact ⟨_, _, fin (some (.exit id)) C hlC, .inr ⟨rfl, .exit id, C, hI3, Out.putObj _ _ _ (by omega) (by omega) _, World.putObj_heap_same (lt_of_heap hlC), (World.putObj_heap_other (by omega)).trans hdC⟩⟩
      | goto t =>
        obtain ⟨hin, hI3⟩ := hp
        have hlC := (hin.block (w.heap.size + 1) (by omega) (by omega)).trans hlB2
        have hdC := (hin.block w.heap.size (by omega) (by omega)).trans hdB2
        exact ⟨_, _, fin (some (.goto t)) C hlC, .inr ⟨rfl, .goto t, C, hI3, Out.putObj _ _ _ (by omega) (by omega) _, World.putObj_heap_same (lt_of_heap hlC), (World.putObj_heap_other (by omega)).trans hdC⟩⟩
      | panic ch => exact hp.elim
      | outgrown => exact hp.elim
/-- The same where the function is walked in the plain way. -/
theorem wp_rangeFunc_V {P : Program} {g : Operand} {ps : Array Tmp} {assign body : Code} {Q : Exit → Act → World → Prop} {a : Act} {w : World}
    {gf : Nat} {lb : Array Value} (hg : a.eval g = .func (.func gf) #[] lb) (eg : ∀ args w, (callFunc gf args).run P w = .ok (.enter gf args) w)
    {enc : α → Array Value} {Ok : Nat → World → α → Prop} {Nx : List α → α → Prop} {S Sp : List α → Prop}
    (hit : ∀ W, Below w.heap.size w W → W.heap.size = w.heap.size + 2 → Iter P gf lb enc Ok Nx S Sp W)
    (hOk : ∀ m B C x, w.heap.size + 2 ≤ m → Ok m B x → Out w.heap.size (w.heap.size + 2) B C → Ok m C x)
    (hps : ∀ x, (enc x).size = ps.size) (I : Nat → List α → World → Prop) (Ix : Code → List α → World → Prop)
    (h0 : ∀ n B, Below w.heap.size w B → w.heap.size + 2 ≤ n → B.heap.size = n → I n [] B) (a₁ : α → Act)
    (hassign : ∀ (l : Nat) (x : α) (W : World) (K : Act → World → Prop), K (a₁ x) W →
      assign.wpIn (Fence.wide.inRound l) 7 P (Exit.then K (fun _ _ _ => False)) { tmps := (ps.zip (enc x)).foldl (fun t (p, v) => t.setIfInBounds p v) a.tmps, defers := [] } W)
    (hbody : ∀ (l n : Nat) (pre : List α) (x : α) (A B : World), w.heap.size + 2 ≤ n → n ≤ A.heap.size → I n pre A → Out w.heap.size n A B → Ok A.heap.size B x → Nx pre x →
      body.wpIn (Fence.wide.inRound l) 7 P (roundV w.heap.size n I Ix (pre ++ [x]) B) (a₁ x) B)
    (hdone : ∀ (n : Nat) (xs : List α) (A W : World), w.heap.size + 2 ≤ n → n ≤ A.heap.size → S xs → I n xs A → Out w.heap.size n A W → W.heap[w.heap.size]? = some (.deferred (some [])) →
      Q .normal { a with defers := { target := .collected w.heap.size, args := #[] } :: a.defers } W)
    (hstop : ∀ (c : Code) (pre : List α) (A W : World), Sp pre → Ix c pre A → Out w.heap.size (w.heap.size + 2) A W → W.heap[w.heap.size]? = some (.deferred (some [])) →
      c.wp P Q { a with defers := { target := .collected w.heap.size, args := #[] } :: a.defers } W) :
    (Code.rangeFunc g ps assign body).wp P Q a w :=
  (wpIn_wide (n := 9)).1 (wpIn_rangeFunc_V hg eg hit hOk hps I Ix h0 a₁ hassign hbody hdone (fun c pre A W h1 h2 h3 h4 => wpIn_wide.2 (hstop c pre A W h1 h2 h3 h4)))
/-- The mark goes: nothing was put off. -/
theorem leaves_mark {P : Program} {fn : Func} {tmps : Array Value} {R : Ending → World → Prop} {w : World} {b : Nat} (h : w.heap[b]? = some (.deferred (some []))) {v : Value}
    (hr : (results fn tmps).run P (w.putObj b (.deferred none)) = .ok v (w.putObj b (.deferred none))) (hR : R (.returned v) (w.putObj b (.deferred none))) :
    LeavesInM Fence.wide 9 P fn tmps R [{ target := .collected b, args := #[] }] .returning w :=
  ⟨by simp, .inl ⟨b, _, rfl, run_takeDeferred h, ⟨v, hr, hR⟩⟩⟩
theorem run_loadVar_cell {P : Program} {w : World} {ty : TypeId} {p : Addr} {v : Value} {d : TypeDesc} (hc : w.cell? p = some v) (hu : P.underlying ty = some d) (hd : d.isRow = false) : (loadVar ty p).run P w = .ok v w := by
  have hagg : (isAgg ty).run P w = .ok false w := by
    unfold isAgg
    rw [Sem.run_bind, run_underlying hu w]
    cases d <;> simp_all
  have hl : (load p).run P w = .ok v w := by
    simp [go_sem, hc]
  simp [loadVar, Sem.run_bind, hagg, Result.andThen, hl]
theorem results_cell_val {P : Program} {fn : Func} {p : Tmp} {ty : TypeId} (h : fn.results = #[.cell p ty]) (tmps : Array Value) (w : World) {g : Nat} {v : Value} {d : TypeDesc} (hp : tmps.getD p undef = .pointer (some ⟨g, 0, none⟩)) (hc : w.cell? ⟨g, 0, none⟩ = some v)
    (hu : P.underlying ty = some d) (hd : d.isRow = false) : (results fn tmps).run P w = .ok v w := by
  have hp' : tmps[p]?.getD undef = .pointer (some ⟨g, 0, none⟩) := by simpa using hp
  simp [results, h, hp', asAddr, run_loadVar_cell hc hu hd]
theorem heap_putObj {W : World} {l k : Nat} {o x : Obj} (hne : k ≠ l) (h : W.heap[k]? = some x) : (W.putObj l o).heap[k]? = some x := (World.putObj_heap_other hne).trans h
theorem cell_putObj {W : World} {l : Nat} {o : Obj} {p : Addr} {v : Value} (hc : W.cell? p = some v) (hne : p.block ≠ l) : (W.putObj l o).cell? p = some v :=
  (World.cell?_of_block (w := W) (World.putObj_heap_other hne)).trans hc
theorem cell_stored_same {W : World} {p : Addr} {u v : Value} (hc : W.cell? p = some u) : (W.setCell p v).cell? p = some v := World.cell?_setCell_same' _ _ _ (by rw [hc]; rfl)
theorem Gr_out {W A B : World} {lo hi : Nat} (h : Below W.heap.size W A) (ho : Out lo hi A B) (hl : W.heap.size ≤ lo) : Below W.heap.size W B :=
  ⟨ho.os.trans h.os, ho.tape.trans h.tape, ho.output.trans h.output, Nat.le_trans h.size ho.size, fun k hk => (ho.block k (Nat.lt_of_lt_of_le hk h.size) (.inl (by omega))).trans (h.block k hk)⟩
theorem Gr_putObj {W A : World} (h : Below W.heap.size W A) {l : Nat} (hl : W.heap.size ≤ l) (o : Obj) : Below W.heap.size W (A.putObj l o) :=
  ⟨h.os, h.tape, h.output, by rw [World.putObj_size]; exact h.size, fun k hk => (World.putObj_heap_other (by omega)).trans (h.block k hk)⟩
end
end Go.Proofs.YtfaiehjomcgjgaaDoor

/- A range over a function that reads what lies in memory: the rounds keep it. -/
namespace Go.Proofs.YtfaiehjomcgjgaaDoor
set_option linter.unusedVariables false
open Go.RowKit
section
variable {α : Type}
/-- WHAT AN ITERATOR PROMISES. Before it yields for the first time the heap has come to n blocks: of those that lay when it was called it turns none, and behind that it turns at most its own ones, up to n. What it yields is as told by Ok: 'Ok m B x': x in the world B, all of it at or behind block m; Nx: which one comes next. -/
def IterK (P : Program) (gf : Nat) (lb : Array Value) (enc : α → Array Value) (Ok : Nat → World → α → Prop) (Nx : List α → α → Prop) (S Sp : List α → Prop) (Kp : World → Prop) (W : World) : Prop :=
  ∀ (l : Nat) (J : Nat → List α → World → Prop) (Jx : List α → World → Prop),
    (∀ n pre A, J n pre A → Kp A) →
    (∀ n B, Below W.heap.size W B → B.heap.size = n → J n [] B) →
    (∀ n pre x A B, W.heap.size ≤ n → n ≤ A.heap.size → J n pre A → Out W.heap.size n A B → Ok A.heap.size B x → Nx pre x →
      YieldAt Fence.wide 7 P l (enc x) B fun e C => (e = .returned (.bool true) ∧ J n (pre ++ [x]) C ∧ Ins W.heap.size n B C) ∨ (e = .returned (.bool false) ∧ Jx (pre ++ [x]) C)) →
    CallsIn Fence.wide 8 P gf (#[.func (.yield l) #[] #[]] ++ lb) W fun e D => (∃ v, e = .returned v) ∧
      ((∃ n xs A, W.heap.size ≤ n ∧ n ≤ A.heap.size ∧ S xs ∧ J n xs A ∧ Out W.heap.size n A D) ∨ (∃ pre A, Sp pre ∧ Jx pre A ∧ Below A.heap.size A D))

/-- THE STATEMENT 'for .. := range g { .. }', outermost. -/
theorem wpIn_rangeFunc_K {P : Program} {g : Operand} {ps : Array Tmp} {assign body : Code} {Q : Exit → Act → World → Prop} {a : Act} {w : World}
    {gf : Nat} {lb : Array Value} (hg : a.eval g = .func (.func gf) #[] lb) (eg : ∀ args w, (callFunc gf args).run P w = .ok (.enter gf args) w)
    {enc : α → Array Value} {Ok : Nat → World → α → Prop} {Nx : List α → α → Prop} {S Sp : List α → Prop} {Kp : World → Prop}
    (hit : ∀ W, Below w.heap.size w W → W.heap.size = w.heap.size + 2 → IterK P gf lb enc Ok Nx S Sp Kp W)
    (hKo : ∀ A B, Kp A → Out w.heap.size (w.heap.size + 2) A B → Kp B)
    (hOk : ∀ m B C x, w.heap.size + 2 ≤ m → Ok m B x → Out w.heap.size (w.heap.size + 2) B C → Ok m C x)
    (hps : ∀ x, (enc x).size = ps.size) (I : Nat → List α → World → Prop) (Ix : Code → List α → World → Prop)
    (hIK : ∀ n pre A, I n pre A → Kp A)
    (h0 : ∀ n B, Below w.heap.size w B → w.heap.size + 2 ≤ n → B.heap.size = n → I n [] B) (a₁ : α → Act)
    (hassign : ∀ (l : Nat) (x : α) (W : World) (K : Act → World → Prop), K (a₁ x) W →
      assign.wpIn (Fence.wide.inRound l) 7 P (Exit.then K (fun _ _ _ => False)) { tmps := (ps.zip (enc x)).foldl (fun t (p, v) => t.setIfInBounds p v) a.tmps, defers := [] } W)
    (hbody : ∀ (l n : Nat) (pre : List α) (x : α) (A B : World), w.heap.size + 2 ≤ n → n ≤ A.heap.size → I n pre A → Out w.heap.size n A B → Ok A.heap.size B x → Nx pre x →
      body.wpIn (Fence.wide.inRound l) 7 P (roundV w.heap.size n I Ix (pre ++ [x]) B) (a₁ x) B)
    (hdone : ∀ (n : Nat) (xs : List α) (A W : World), w.heap.size + 2 ≤ n → n ≤ A.heap.size → S xs → I n xs A → Out w.heap.size n A W → W.heap[w.heap.size]? = some (.deferred (some [])) →
      Q .normal { a with defers := { target := .collected w.heap.size, args := #[] } :: a.defers } W)
    (hstop : ∀ (c : Code) (pre : List α) (A W : World), Sp pre → Ix c pre A → Out w.heap.size (w.heap.size + 2) A W → W.heap[w.heap.size]? = some (.deferred (some [])) →
      c.wpIn Fence.wide 9 P Q { a with defers := { target := .collected w.heap.size, args := #[] } :: a.defers } W) :
    (Code.rangeFunc g ps assign body).wpIn Fence.wide 9 P Q a w := by
  refine wpIn_rangeFunc ?_
  intro fn hfn
  obtain ⟨rc, hrc⟩ : ∃ rc : LoopState → Option Code → Loop, rc = fun st pe => { state := st, pending := pe, fn, tmps := a.tmps, params := ps, assign, body, defers := w.heap.size } := ⟨_, rfl⟩
  obtain ⟨W1, hW1⟩ : ∃ W1, (w.alloc (.deferred (some []))).alloc (.loop (rc .ready none)) = W1 := ⟨_, rfl⟩
  have hs1 : W1.heap.size = w.heap.size + 2 := by rw [← hW1]; simp
  have hL1 : W1.heap[w.heap.size + 1]? = some (.loop (rc .ready none)) := by rw [← hW1]; exact heap_new (by simp)
  have hD1 : W1.heap[w.heap.size]? = some (.deferred (some [])) := by rw [← hW1]; exact heap_kept (heap_new rfl)
  have hb1 : Below w.heap.size w W1 := by rw [← hW1]; exact ((Below.refl _ w).alloc (Nat.le_refl _) _).alloc (by simp) _
  refine ⟨w.heap.size + 1, [{ target := .collected w.heap.size, args := #[] }], W1, { target := .fn (.func gf) lb, args := #[.func (.yield (w.heap.size + 1)) #[] #[]] }, W1, gf,
    #[.func (.yield (w.heap.size + 1)) #[] #[]] ++ lb, W1, ?_, ?_, fun f' _ => trivial, ?_, fun _ => by omega, ?_⟩
  · rw [← hW1, hrc]; exact run_enterLoop_outer _ _ _ _ _
  · simp only [resolve, hg]
    simp [go_sem]
  · simp [invoke, go_sem, eg]
  · have hrun := hit W1 hb1 hs1 (w.heap.size + 1)
      (fun n pre A => ∃ A', I n pre A' ∧ A'.heap.size = A.heap.size ∧ Out w.heap.size (w.heap.size + 2) A' A ∧ A.heap[w.heap.size + 1]? = some (.loop (rc .ready none)) ∧ A.heap[w.heap.size]? = some (.deferred (some [])))
      (fun pre A => ∃ c A', Ix c pre A' ∧ Out w.heap.size (w.heap.size + 2) A' A ∧ A.heap[w.heap.size + 1]? = some (.loop (rc .done (some c))) ∧ A.heap[w.heap.size]? = some (.deferred (some [])))
      (fun n pre A ⟨A', hI, _, ho, _, _⟩ => hKo A' A (hIK n pre A' hI) ho)
      (fun n B hb hn => ⟨B, h0 n B ⟨hb.os.trans hb1.os, hb.tape.trans hb1.tape, hb.output.trans hb1.output, Nat.le_trans hb1.size hb.size, fun k hk => (hb.block k (by omega)).trans (hb1.block k hk)⟩ (by have := hb.size; omega) hn, rfl, Out.refl _ _ _,
        (hb.block _ (by omega)).trans hL1, (hb.block _ (by omega)).trans hD1⟩)
      ?_
    · refine hrun.mono ?_
      rintro e D ⟨⟨v, rfl⟩, (⟨n, xs, A, hn1, hn2, hS, ⟨A', hI, hz, ho', hl, hd⟩, ho⟩ | ⟨pre, A, hSp, ⟨c, A', hI, ho', hl, hd⟩, ho⟩)⟩
      · have hl' := (ho.block _ (lt_of_heap hl) (.inl (by omega))).trans hl
        have hd' := (ho.block _ (lt_of_heap hd) (.inl (by omega))).trans hd
        refine ⟨none, _, by have := run_endLoop (P := P) hl' (by rw [hrc]; simp); rw [hrc] at this; exact this, ?_⟩
        exact hdone n xs A' _ (by omega) (by omega) hS hI (((ho'.widen (Nat.le_refl _) (by omega)).trans (ho.widen (by omega) (Nat.le_refl _))).trans (Out.putObj _ _ _ (by omega) (by omega) _)) ((World.putObj_heap_other (by omega)).trans hd')
      · have hl' := (ho.block _ (lt_of_heap hl)).trans hl
        have hd' := (ho.block _ (lt_of_heap hd)).trans hd
        refine ⟨some c, _, by have := run_endLoop (P := P) hl' (by rw [hrc]; simp); rw [hrc] at this; exact this, ?_⟩
        exact hstop c pre A' _ hSp hI ((ho'.trans (Out.ofBelow _ _ ho)).trans (Out.putObj _ _ _ (by omega) (by omega) _)) ((World.putObj_heap_other (by omega)).trans hd')
    · rintro n pre x A B hn1 hn2 ⟨A', hI, hz, ho', hl, hd⟩ ho hok hnx
      have hlB := (ho.block _ (lt_of_heap hl) (.inl (by omega))).trans hl
      have hdB := (ho.block _ (lt_of_heap hd) (.inl (by omega))).trans hd
      have hltB := lt_of_heap hlB
      have hy := run_yield (P := P) (args := enc x) hlB (by rw [hrc]; exact hps x)
      rw [hrc] at hy
      refine ⟨fn, _, assign, body, hy, roundIn_of_wpIn hfn (hassign _ x B _ ⟨_, run_beginRound hlB (by rw [hrc]), ?_⟩)⟩
      obtain ⟨B2, hB2⟩ : ∃ B2, B.putObj (w.heap.size + 1) (.loop { rc .ready none with state := .busy }) = B2 := ⟨_, rfl⟩
      have e2 : ({ rc .ready none with state := .busy } : Loop) = rc .busy none := by rw [hrc]
      rw [e2] at hB2
      rw [e2, hB2]
      have hlB2 : B2.heap[w.heap.size + 1]? = some (.loop (rc .busy none)) := by rw [← hB2]; exact World.putObj_heap_same hltB
      have hdB2 : B2.heap[w.heap.size]? = some (.deferred (some [])) := by rw [← hB2]; exact (World.putObj_heap_other (by omega)).trans hdB
      have hoB2 : Out w.heap.size (w.heap.size + 2) B B2 := by rw [← hB2]; exact Out.putObj _ _ _ (by omega) (by omega) _
      have hzB2 : B2.heap.size = B.heap.size := by rw [← hB2]; simp
      have insB2 : ∀ k, k ≠ w.heap.size + 1 → B2.heap[k]? = B.heap[k]? := fun k hk => by rw [← hB2]; exact World.putObj_heap_other hk
      refine wpIn_mono (hbody _ n pre x A' B2 (by omega) (by omega) hI (((ho'.widen (Nat.le_refl _) (by omega)).trans (ho.widen (by omega) (Nat.le_refl _))).trans (hoB2.widen (Nat.le_refl _) (by omega))) (hOk _ _ _ _ (by omega) (by rw [hz]; exact hok) hoB2) hnx) ?_
      have fin : ∀ (jump : Option Code) (C : World), C.heap[w.heap.size + 1]? = some (.loop (rc .busy none)) →
          (Instr.endRound (w.heap.size + 1) jump).run P C = .ok (.bool jump.isNone) (C.putObj (w.heap.size + 1) (.loop (rc (if jump.isNone then .ready else .done) jump))) := fun jump C hC => by
        have := run_endRound (P := P) jump hC
        rw [hrc] at this ⊢
        exact this
      rintro e a3 C hp
      cases e with
      | normal =>
        obtain ⟨hin, hI3⟩ := hp
        have hlC := (hin.block (w.heap.size + 1) (by omega) (by omega)).trans hlB2
        have hdC := (hin.block w.heap.size (by omega) (by omega)).trans hdB2
        refine ⟨_, _, fin none C hlC, .inl ⟨rfl, ⟨C, hI3, by simp, Out.putObj _ _ _ (by omega) (by omega) _, World.putObj_heap_same (lt_of_heap hlC), (World.putObj_heap_other (by omega)).trans hdC⟩, ?_, ?_⟩⟩
        · have := hin.size; simp; omega
        · intro k h1 h2
          rw [World.putObj_heap_other (by omega), hin.block k (by omega) h2, insB2 k (by omega)]
      | ret =>
        obtain ⟨hin, hI3⟩ := hp
        have hlC := (hin.block (w.heap.size + 1) (by omega) (by omega)).trans hlB2
        have hdC := (hin.block w.heap.size (by omega) (by omega)).trans hdB2
        exact ⟨_, _, fin (some .ret) C hlC, .inr ⟨rfl, .ret, C, hI3, Out.putObj _ _ _ (by omega) (by omega) _, World.putObj_heap_same (lt_of_heap hlC), (World.putObj_heap_other (by omega)).trans hdC⟩⟩
      | exit id =>
        obtain ⟨hin, hI3⟩ := hp
        have hlC := (hin.block (w.heap.size + 1) (by omega) (by omega)).trans hlB2
        have hdC := (hin.block w.heap.size (by omega) (by omega)).trans hdB2
        exact ⟨_, _, fin (some (.exit id)) C hlC, .inr ⟨rfl, .exit id, C, hI3, Out.putObj _ _ _ (by omega) (by omega) _, World.putObj_heap_same (lt_of_heap hlC), (World.putObj_heap_other (by omega)).trans hdC⟩⟩
      | goto t =>
        obtain ⟨hin, hI3⟩ := hp
        have hlC := (hin.block (w.heap.size + 1) (by omega) (by omega)).trans hlB2
        have hdC := (hin.block w.heap.size (by omega) (by omega)).trans hdB2
        exact ⟨_, _, fin (some (.goto t)) C hlC, .inr ⟨rfl, .goto t, C, hI3, Out.putObj _ _ _ (by omega) (by omega) _, World.putObj_heap_same (lt_of_heap hlC), (World.putObj_heap_other (by omega)).trans hdC⟩⟩
      | panic ch => exact hp.elim
      | outgrown => exact hp.elim
/-- The same where the function is walked in the plain way. -/
theorem wp_rangeFunc_K {P : Program} {g : Operand} {ps : Array Tmp} {assign body : Code} {Q : Exit → Act → World → Prop} {a : Act} {w : World}
    {gf : Nat} {lb : Array Value} (hg : a.eval g = .func (.func gf) #[] lb) (eg : ∀ args w, (callFunc gf args).run P w = .ok (.enter gf args) w)
    {enc : α → Array Value} {Ok : Nat → World → α → Prop} {Nx : List α → α → Prop} {S Sp : List α → Prop} {Kp : World → Prop}
    (hit : ∀ W, Below w.heap.size w W → W.heap.size = w.heap.size + 2 → IterK P gf lb enc Ok Nx S Sp Kp W)
    (hKo : ∀ A B, Kp A → Out w.heap.size (w.heap.size + 2) A B → Kp B)
    (hOk : ∀ m B C x, w.heap.size + 2 ≤ m → Ok m B x → Out w.heap.size (w.heap.size + 2) B C → Ok m C x)
    (hps : ∀ x, (enc x).size = ps.size) (I : Nat → List α → World → Prop) (Ix : Code → List α → World → Prop)
    (hIK : ∀ n pre A, I n pre A → Kp A)
    (h0 : ∀ n B, Below w.heap.size w B → w.heap.size + 2 ≤ n → B.heap.size = n → I n [] B) (a₁ : α → Act)
    (hassign : ∀ (l : Nat) (x : α) (W : World) (K : Act → World → Prop), K (a₁ x) W →
      assign.wpIn (Fence.wide.inRound l) 7 P (Exit.then K (fun _ _ _ => False)) { tmps := (ps.zip (enc x)).foldl (fun t (p, v) => t.setIfInBounds p v) a.tmps, defers := [] } W)
    (hbody : ∀ (l n : Nat) (pre : List α) (x : α) (A B : World), w.heap.size + 2 ≤ n → n ≤ A.heap.size → I n pre A → Out w.heap.size n A B → Ok A.heap.size B x → Nx pre x →
      body.wpIn (Fence.wide.inRound l) 7 P (roundV w.heap.size n I Ix (pre ++ [x]) B) (a₁ x) B)
    (hdone : ∀ (n : Nat) (xs : List α) (A W : World), w.heap.size + 2 ≤ n → n ≤ A.heap.size → S xs → I n xs A → Out w.heap.size n A W → W.heap[w.heap.size]? = some (.deferred (some [])) →
      Q .normal { a with defers := { target := .collected w.heap.size, args := #[] } :: a.defers } W)
    (hstop : ∀ (c : Code) (pre : List α) (A W : World), Sp pre → Ix c pre A → Out w.heap.size (w.heap.size + 2) A W → W.heap[w.heap.size]? = some (.deferred (some [])) →
      c.wp P Q { a with defers := { target := .collected w.heap.size, args := #[] } :: a.defers } W) :
    (Code.rangeFunc g ps assign body).wp P Q a w :=
  (wpIn_wide (n := 9)).1 (wpIn_rangeFunc_K hg eg hit hKo hOk hps I Ix hIK h0 a₁ hassign hbody hdone (fun c pre A W h1 h2 h3 h4 => wpIn_wide.2 (hstop c pre A W h1 h2 h3 h4)))
end
end Go.Proofs.YtfaiehjomcgjgaaDoor

/- The hoists of a meaning, one by one: the program's iterator. -/
namespace Go.Proofs.YtfaiehjomcgjgaaDoor
set_option linter.unusedVariables false
open Go.RowKit
attribute [local go_sem] Oper.semAt_some
theorem Own.ins {k : IntKind} {e : TypeId} {w w' : World} {lo hi : Nat} {v : Value} {xs : List Int} (h : Own k e w lo hi v xs) (i : Ins lo hi w w') : Own k e w' lo hi v xs := by
  refine ⟨⟨h.row.1, ?_⟩, h.top⟩
  rcases h.row.2 with h1 | ⟨g', cap, cur, h1, h2, h3, r⟩
  · exact .inl h1
  · exact .inr ⟨g', cap, cur, h1, h2, i.heap h3 h2 (h.top g' (by rw [h1]; rfl)), r⟩
theorem OwnH.ins {w w' : World} {lo hi : Nat} {v : Value} {vs : List Value} {xss : List (List Int)} (h : OwnH w lo hi v vs xss) (i : Ins lo hi w w') : OwnH w' lo hi v vs xss := by
  refine ⟨⟨h.row.1, ?_⟩, h.top, fun j hj => ?_, h.apart, h.dist⟩
  · rcases h.row.2 with h1 | ⟨g', cap, cur, h1, h2, h3, r⟩
    · exact .inl h1
    · exact .inr ⟨g', cap, cur, h1, h2, i.heap h3 h2 (h.top g' (by rw [h1]; rfl)), r⟩
  · obtain ⟨u, hu, ho⟩ := h.each j hj
    exact ⟨u, hu, ho.ins i⟩
theorem Ins.narrow {lo hi lo' hi' : Nat} {A B : World} (h : Ins lo hi A B) (h1 : lo ≤ lo') (h2 : hi' ≤ hi) : Ins lo' hi' A B := ⟨h.size, fun k a b => h.block k (by omega) (by omega)⟩
/-- The numbers that lie in a block. -/
def intsIn (w : World) (g : Nat) : List Int := match w.heap[g]? with | some (.cells cs _ _) => cs.toList.map intOf | _ => []
theorem intsIn_ints {w : World} {g : Nat} {k : IntKind} {xs : List Int} {t : TypeId} {fr : Nat × Nat} (h : w.heap[g]? = some (.cells (kCells k xs) t fr)) : intsIn w g = xs := by
  unfold intsIn
  rw [h]
  simp only [kCells, List.map_map]
  conv => rhs; rw [← List.map_id xs]
  rfl
abbrev Yld := Value × List Int
/-- The iterator's own blocks: g holds how many choices have been tried, g + 1 what has been chosen. -/
structure It (J : Nat → List Yld → World → Prop) (n0 g : Nat) (vch : Value) (vs : List Value) (cs : List (List Int)) (pre : List Yld) (h tr : List Int) (wr : World) : Prop where
  held : ∃ A, J (g + 2) pre A ∧ g + 2 ≤ A.heap.size ∧ Out n0 (g + 2) A wr
  cho : OwnH wr n0 g vch vs cs
  b1 : wr.heap[g]? = some (.cells (kCells .i64 tr) 3 (0, 0))
  b2 : wr.heap[g + 1]? = some (.cells (kCells .i8 h) 22 (0, 0))
section
variable {J : Nat → List Yld → World → Prop} {n0 g : Nat} {vch : Value} {vs : List Value} {cs : List (List Int)} {pre : List Yld} {h tr : List Int} {wr : World}
theorem It.size (i : It J n0 g vch vs cs pre h tr wr) : g + 2 ≤ wr.heap.size := by obtain ⟨A, _, h2, h3⟩ := i.held; exact Nat.le_trans h2 h3.size
theorem It.drewN (i : It J n0 g vch vs cs pre h tr wr) (n : Nat) : It J n0 g vch vs cs pre h tr (wr.drewN n) := by
  obtain ⟨A, h1, h2, h3⟩ := i.held
  exact ⟨⟨A, h1, h2, h3.drewN n⟩, i.cho.gr ((Gr.refl wr).drewN n), i.b1, i.b2⟩
theorem It.setTr (i : It J n0 g vch vs cs pre h tr wr) (hg : n0 ≤ g) (k : Nat) (x : Int) : It J n0 g vch vs cs pre h (tr.set k x) (wr.setCell ⟨g, k, none⟩ (.int .i64 x)) := by
  obtain ⟨A, h1, h2, h3⟩ := i.held
  exact ⟨⟨A, h1, h2, h3.setCell (by dsimp only; omega) (.inl (by dsimp only; omega)) _⟩, i.cho.ins ((Ins.refl _ _ _).setCell (.inr (by dsimp only; omega)) _), heap_int_set i.b1, heap_stored (by dsimp only; omega) i.b2⟩
theorem It.setH (i : It J n0 g vch vs cs pre h tr wr) (hg : n0 ≤ g) (k : Nat) (x : Int) : It J n0 g vch vs cs pre (h.set k x) tr (wr.setCell ⟨g + 1, k, none⟩ (.int .i8 x)) := by
  obtain ⟨A, h1, h2, h3⟩ := i.held
  exact ⟨⟨A, h1, h2, h3.setCell (by dsimp only; omega) (.inl (by dsimp only; omega)) _⟩, i.cho.ins ((Ins.refl _ _ _).setCell (.inr (by dsimp only; omega)) _), heap_stored (by dsimp only; omega) i.b1, heap_int_set i.b2⟩
theorem It.next (i : It J n0 g vch vs cs pre h tr wr) (hg : n0 ≤ g) {B C : World} {x : Yld} (hB : Gr wr B) (hI : Ins n0 (g + 2) B C) (hJ : J (g + 2) (pre ++ [x]) C) : It J n0 g vch vs cs (pre ++ [x]) h tr C := by
  have hsz := i.size
  have hin : Ins n0 (g + 2) wr C := (Ins.ofBelow hB hsz).trans hI
  exact ⟨⟨C, hJ, Nat.le_trans hsz hin.size, Out.refl _ _ _⟩, i.cho.ins (hin.narrow (Nat.le_refl _) (by omega)), hin.heap i.b1 hg (by omega), hin.heap i.b2 (by omega) (by omega)⟩
end
/-- What is handed out: a hoist in a block of its own. -/
def OkH (m : Nat) (B : World) (x : Yld) : Prop := Own .i8 22 B m B.heap.size x.1 x.2
def NxH (L : List (List Int)) (pre : List Yld) (x : Yld) : Prop := ∃ rest, pre.map (·.2) ++ x.2 :: rest = L
def SH (L : List (List Int)) (xs : List Yld) : Prop := xs.map (·.2) = L
def SpH (L : List (List Int)) (pre : List Yld) : Prop := ∃ rest, pre.map (·.2) ++ rest = L
theorem OkH.keep {m lo hi : Nat} {B C : World} {x : Yld} (h : OkH m B x) (o : Out lo hi B C) (hm : hi ≤ m) : OkH m C x := by
  unfold OkH at h ⊢
  refine Own.widen (hi := B.heap.size) ?_ (Nat.le_refl _) o.size
  refine ⟨⟨h.row.1, ?_⟩, h.top⟩
  rcases h.row.2 with h1 | ⟨g', cap, cur, h1, h2, h3, r⟩
  · exact .inl h1
  · exact .inr ⟨g', cap, cur, h1, h2, o.heap h3 (.inr (by omega)), r⟩
/-- What may stand at a place is a number. -/
theorem candsL_num {m : List Int} (hv : plainH m = true) {k p : Nat} (hk : k < m.length) : (candsL m k).getD p 0 = -10 ∨ (-4 ≤ (candsL m k).getD p 0 ∧ (candsL m k).getD p 0 ≤ 39) := by
  have key : ∀ n, n ≤ 4 → ∀ x ∈ repsL m k n, -4 ≤ x ∧ x ≤ -1 := by
    intro n
    induction n with
    | zero => intro _ x hx; simp [repsL] at hx
    | succ n ih =>
      intro hn x hx
      rw [repsL] at hx
      split at hx
      · rcases List.mem_cons.1 hx with rfl | hx
        · omega
        · exact ih (by omega) x hx
      · exact ih (by omega) x hx
  by_cases hp : p < (candsL m k).length
  · have hmem : (candsL m k).getD p 0 ∈ candsL m k := by
      rw [List.getD, List.getElem?_eq_getElem hp]
      exact List.getElem_mem hp
    generalize (candsL m k).getD p 0 = x at *
    unfold candsL at hmem
    rcases List.mem_append.1 hmem with h1 | h1
    · have := key 4 (Nat.le_refl _) x h1; omega
    · rw [List.mem_singleton] at h1
      have := plain_nums hv k hk
      omega
  · rw [List.getD, List.getElem?_eq_none (by omega)]
    simp
/-- The state of the search. -/
structure Inv (J : Nat → List Yld → World → Prop) (n0 g : Nat) (vch : Value) (vs : List Value) (cs : List (List Int)) (av : Int → Int) (n : Nat) (L : List (List Int)) (pre : List Yld) (h tr : List Int) (K : Nat) (wr : World) : Prop where
  it : It J n0 g vch vs cs pre h tr wr
  hl : h.length = n
  tl : tr.length = n
  sum : pre.map (·.2) ++ remA cs av n h tr K = L
  nat : ∀ j, j < n → ∃ p : Nat, tr.getD j 0 = (p : Int) ∧ p ≤ (cs.getD j []).length
  zer : ∀ j, K ≤ j → j < n → tr.getD j 0 = 0
section
variable {J : Nat → List Yld → World → Prop} {n0 g n K k p : Nat} {vch : Value} {vs : List Value} {cs : List (List Int)} {av : Int → Int} {L : List (List Int)} {pre : List Yld} {h tr : List Int} {wr wr' : World} {x : Yld} {c : Int}
theorem Inv.nx {v : Value} (i : Inv J n0 g vch vs cs av n L pre h tr (n + 1) wr) : NxH L pre (v, h) := ⟨_, by rw [← remA_top]; exact i.sum⟩
theorem Inv.sp {v : Value} (i : Inv J n0 g vch vs cs av n L pre h tr (n + 1) wr) : SpH L (pre ++ [(v, h)]) := ⟨remA cs av n h tr n, by
  have := i.sum
  rw [remA_top] at this
  rw [List.map_append, List.append_assoc]
  exact this⟩
theorem Inv.top {v : Value} (i : Inv J n0 g vch vs cs av n L pre h tr (n + 1) wr) (it : It J n0 g vch vs cs (pre ++ [(v, h)]) h tr wr') : Inv J n0 g vch vs cs av n L (pre ++ [(v, h)]) h tr n wr' := by
  refine ⟨it, i.hl, i.tl, ?_, i.nat, fun j h1 h2 => absurd h2 (by omega)⟩
  have := i.sum
  rw [remA_top] at this
  rw [List.map_append, List.append_assoc]
  exact this
theorem Inv.done (i : Inv J n0 g vch vs cs av n L pre h tr 0 wr) : SH L pre := by
  have := i.sum
  rwa [remA, List.append_nil] at this
theorem Inv.keep (i : Inv J n0 g vch vs cs av n L pre h tr K wr) (it : It J n0 g vch vs cs pre h tr wr') : Inv J n0 g vch vs cs av n L pre h tr K wr' := ⟨it, i.hl, i.tl, i.sum, i.nat, i.zer⟩
theorem Inv.none (i : Inv J n0 g vch vs cs av n L pre h tr (k + 1) wr) (hk : k < n) (hp : tr.getD k 0 = (p : Int)) (hl : (cs.getD k []).length ≤ p) (it : It J n0 g vch vs cs pre h (tr.set k 0) wr') : Inv J n0 g vch vs cs av n L pre h (tr.set k 0) k wr' := by
  refine ⟨it, i.hl, by rw [List.length_set]; exact i.tl, ?_, fun j hj => ?_, fun j h1 h2 => ?_⟩
  · rw [← remA_none hk (by rw [hp, Int.toNat_natCast]; exact hl) 0]; exact i.sum
  · by_cases e : k = j
    · subst e; exact ⟨0, by rw [getD_set_eq (by rw [i.tl]; exact hj)]; rfl, Nat.zero_le _⟩
    · rw [getD_set_ne e]; exact i.nat j hj
  · by_cases e : k = j
    · subst e; rw [getD_set_eq (by rw [i.tl]; exact h2)]
    · rw [getD_set_ne e]; exact i.zer j (by omega) h2
theorem Inv.skip (i : Inv J n0 g vch vs cs av n L pre h tr (k + 1) wr) (hk : k < n) (hp : tr.getD k 0 = (p : Int)) (hl : p < (cs.getD k []).length) (hno : okV av (h.take k) ((cs.getD k []).getD p 0) = false)
    (it : It J n0 g vch vs cs pre h (tr.set k ((p : Int) + 1)) wr') : Inv J n0 g vch vs cs av n L pre h (tr.set k ((p : Int) + 1)) (k + 1) wr' := by
  refine ⟨it, i.hl, by rw [List.length_set]; exact i.tl, ?_, fun j hj => ?_, fun j h1 h2 => ?_⟩
  · rw [← remA_skip hk (by rw [i.tl]; exact hk) hp hl hno]; exact i.sum
  · by_cases e : k = j
    · subst e; exact ⟨p + 1, by rw [getD_set_eq (by rw [i.tl]; exact hj)]; rfl, hl⟩
    · rw [getD_set_ne e]; exact i.nat j hj
  · rw [getD_set_ne (by omega)]; exact i.zer j h1 h2
theorem Inv.take (i : Inv J n0 g vch vs cs av n L pre h tr (k + 1) wr) (hk : k < n) (hp : tr.getD k 0 = (p : Int)) (hl : p < (cs.getD k []).length) (hyes : okV av (h.take k) ((cs.getD k []).getD p 0) = true)
    (it : It J n0 g vch vs cs pre (h.set k ((cs.getD k []).getD p 0)) (tr.set k ((p : Int) + 1)) wr') : Inv J n0 g vch vs cs av n L pre (h.set k ((cs.getD k []).getD p 0)) (tr.set k ((p : Int) + 1)) (k + 2) wr' := by
  refine ⟨it, by rw [List.length_set]; exact i.hl, by rw [List.length_set]; exact i.tl, ?_, fun j hj => ?_, fun j h1 h2 => ?_⟩
  · rw [← remA_take hk i.hl i.tl hp hl (fun j h1 h2 => i.zer j h1 h2) hyes]; exact i.sum
  · by_cases e : k = j
    · subst e; exact ⟨p + 1, by rw [getD_set_eq (by rw [i.tl]; exact hj)]; rfl, hl⟩
    · rw [getD_set_ne e]; exact i.nat j hj
  · rw [getD_set_ne (by omega)]; exact i.zer j (by omega) h2
theorem Inv.start (it : It J n0 g vch vs cs [] (List.replicate n 0) (List.replicate n 0) wr) (h1 : 1 ≤ n) : Inv J n0 g vch vs cs av n (goC cs av n []) [] (List.replicate n 0) (List.replicate n 0) 1 wr := by
  have hz : ∀ j, (List.replicate n (0 : Int)).getD j 0 = 0 := fun j => by
    simp only [List.getD_eq_getElem?_getD, List.getElem?_replicate]
    split <;> rfl
  exact ⟨it, by simp, by simp, by rw [remA_start h1 (hz 0)]; rfl, fun j _ => ⟨0, hz j, Nat.zero_le _⟩, fun j _ _ => hz j⟩
theorem Inv.mu (i : Inv J n0 g vch vs cs av n L pre h tr K wr) : intsIn wr g = tr := intsIn_ints i.it.b1
end
set_option maxHeartbeats 8000000 in
set_option maxRecDepth 100000 in
theorem hoistsFor_iter (a : Option Addr) (n cap : Nat) (m : List Int) (hn : n = m.length) (hcap : n ≤ cap) (hv : plainH m = true) (av : Int → Int) (F : FuncId) (lbF : Array Value)
    (hcf : ∀ args w, (callFunc F args).run Tryd.prog w = .ok (.enter F args) w) (bm ba : Nat) (Kp : World → Prop) (W : World)
    (hst : ∀ A B k, Kp A → Out W.heap.size k A B → Kp B) (hbm : W.cell? ⟨bm, 0, none⟩ = some (.slice a n cap)) (hs : SliceOf .i8 W a m)
    (hba : ∀ V, Kp V → V.cell? ⟨ba, 0, none⟩ = some (.func (.func F) #[] lbF))
    (hav : ∀ V x, Kp V → (-4 ≤ x ∧ x ≤ 39) → Calls Tryd.prog F (#[.int .i8 x] ++ lbF) V fun e w' => e = .returned (.int .i64 (av x)) ∧ V = w') :
    IterK Tryd.prog 117 #[.pointer (some ⟨bm, 0, none⟩), .pointer (some ⟨ba, 0, none⟩)] (fun x : Yld => #[x.1]) OkH (NxH (goC (choT m n n) av n [])) (SH (goC (choT m n n) av n [])) (SpH (goC (choT m n n) av n [])) Kp W := by
  intro l J Jx hJK h0 hY
  obtain ⟨h1, h8⟩ := validH_len (plainH_valid hv)
  rw [← hn] at h1 h8
  have hmk1 := run_make_ints (P := Tryd.prog) (t := 83) (e := 3) (k := .i64) (bytes := 8) Tryd.underlying83 (by kernel_rfl) n (by omega) (by omega)
  have hmk2 := run_make_ints (P := Tryd.prog) (t := 28) (e := 22) (k := .i8) (bytes := 1) Tryd.underlying28 (by kernel_rfl) n (by omega) (by omega)
  have HCH := hid ((callsIn_wide (n := 7)).2 (choices_any a n cap m hn hcap hv W hs))
  obtain ⟨n0, hn0⟩ : ∃ n0, n0 = W.heap.size := ⟨_, rfl⟩
  obtain ⟨cs, hcs⟩ : ∃ cs, cs = choT m n n := ⟨_, rfl⟩
  have CLN := hid (show cs.length = n by rw [hcs, choT_length])
  have CGET := hid (fun k (hk : k < n) => show cs.getD k [] = candsL m k by rw [hcs, choT_get hk, if_pos hk])
  have CLEN := hid (fun k (hk : k < n) => show 1 ≤ (cs.getD k []).length ∧ (cs.getD k []).length ≤ 5 by rw [CGET.out k hk]; exact candsL_length m k)
  have CNUM := hid (fun k p (hk : k < n) => show (cs.getD k []).getD p 0 = -10 ∨ (-4 ≤ (cs.getD k []).getD p 0 ∧ (cs.getD k []).getD p 0 ≤ 39) by rw [CGET.out k hk]; exact candsL_num hv (by omega))
  rw [← hcs] at hY HCH ⊢
  obtain ⟨L, hL⟩ : ∃ L, L = goC cs av n [] := ⟨_, rfl⟩
  rw [← hL] at hY ⊢
  have HL := hid hL
  have HY := hid hY
  have H0 := hid h0
  have HJK := hid hJK
  have HST := hid hst
  have HBA := hid hba
  have HAV := hid hav
  have HBM := hid hbm
  have HN0 := hid hn0
  rw [← hn0] at HY HST
  clear hL hY h0 hJK hst hba hav hbm hs hn hv hcap hcs CGET hn0
  refine callsIn_of_wp Tryd.func117 rfl trivial ?_ rfl
  simp only [Tryd.ntmps117, List.size_toArray, List.length_cons, List.length_nil, Nat.reduceAdd, Nat.reduceSub, Array.replicate_succ, Array.replicate_zero, List.push_toArray, List.append_toArray, List.nil_append, List.cons_append]
  have hbm := HBM.out
  refine (wpIn_wide (n := 8)).2 (wp_scope_straight ((wpIn_wide (n := 8)).1 ?_))
  gi_wp2_with (apply wpIn_label)
  refine ⟨trivial, ?_⟩
  refine HCH.out.mono ?_
  rintro e W1 ⟨vch, vs, rfl, och, g1⟩
  have HG1 := hid g1
  obtain ⟨g, hg⟩ : ∃ g, g = W1.heap.size := ⟨_, rfl⟩
  obtain ⟨gl, cc, rfl⟩ : ∃ gl cc, vch = .slice (some ⟨gl, 0, none⟩) n cc := by
    rcases och.row.2 with ⟨_, h2⟩ | ⟨g', cap', cur, h1', _⟩
    · rw [CLN.out] at h2; omega
    · exact ⟨g', cap', by rw [h1', CLN.out]⟩
  rw [← hg] at och
  have HNG := hid (show n0 ≤ g by have := g1.size; have := HN0.out; omega)
  have OCH := hid och
  have HGV := hid hg
  clear g1 och hbm hg
  have hbm1 := HG1.out.cell HBM.out
  have hbm2 := ((Gr.refl W1).alloc (.cells (kCells .i64 (List.replicate n 0)) 3)).cell hbm1
  gi_wp2_with (apply wpIn_label)
  generalize hW3 : World.alloc _ _ = W3
  have INV0 : Hid (Inv J n0 g (.slice (some ⟨gl, 0, none⟩) n cc) vs cs av n L [] (List.replicate n 0) (List.replicate n 0) 1 W3) := by
    refine hid ?_
    rw [HL.out]
    refine Inv.start ⟨⟨W3, H0.out _ _ ?_ ?_, ?_, Out.refl _ _ _⟩, ?_, ?_, ?_⟩ h1
    · rw [← hW3]; exact (HG1.out.alloc _).alloc _
    · rw [← hW3, HGV.out]; simp
    · rw [← hW3, HGV.out]; simp
    · rw [← hW3, HN0.out]; exact (OCH.out.gr ((Gr.refl W1).alloc _)).gr ((Gr.refl _).alloc _)
    · rw [← hW3, HGV.out]; exact heap_kept (heap_new rfl)
    · rw [← hW3, HGV.out]; exact heap_new (by simp)
  rw [← HGV.out]
  clear hW3 hmk1 hmk2 hbm1 hbm2 OCH
  gi_loopw [7] (fun i wr => ∃ (z : Int) (pre : List Yld) (h tr : List Int), (-1 ≤ z ∧ z ≤ n) ∧ i = .int .i64 z ∧ Hid (Inv J n0 g (.slice (some ⟨gl, 0, none⟩) n cc) vs cs av n L pre h tr (z + 1).toNat wr)) (fun i wr => muA cs n (intsIn wr g) (intOf i + 1).toNat)
  case atStart => exact ⟨0, [], _, _, by omega, rfl, INV0⟩
  case round =>
    obtain ⟨z, pre, h, tr, ⟨hz0, hz1⟩, rfl, IV⟩ := hrel
    obtain ⟨M0, hM0⟩ : ∃ M0, M0 = muA cs n (intsIn wr g) (z + 1).toNat := ⟨_, rfl⟩
    have HM0 := hid hM0
    clear hM0
    rcases (show z = -1 ∨ z = n ∨ (0 ≤ z ∧ z < n) by omega) with rfl | rfl | ⟨hz2, hz3⟩
    · gi_wp2_with (apply wpIn_label)
      rw [Exit.noGoto_normal]
      go_end0
      obtain ⟨A, hJ, hA, hO⟩ := IV.out.it.held
      have hN := HNG.out
      rw [HN0.out] at hN hO
      exact ⟨⟨_, rfl⟩, .inl ⟨g + 2, pre, A, by omega, hA, IV.out.done, hJ, hO⟩⟩
    rotate_left
    · obtain ⟨k, rfl⟩ := Int.eq_ofNat_of_zero_le hz2
      have hk : k < n := by omega
      obtain ⟨wo, hwo⟩ : ∃ wo : World, wo = wr := ⟨_, rfl⟩
      obtain ⟨pre', hpre⟩ : ∃ pre', pre' = pre := ⟨_, rfl⟩
      have IVk : Hid (Inv J n0 g (.slice (some ⟨gl, 0, none⟩) n cc) vs cs av n L pre' h tr (k + 1) wo) := hid (by have := IV.out; rw [hwo, hpre]; rwa [show ((k : Int) + 1).toNat = k + 1 by omega] at this)
      have HM : Hid (muA cs n tr (k + 1) ≤ M0) := hid (by rw [HM0.out, IV.out.mu, show ((k : Int) + 1).toNat = k + 1 by omega]; exact Nat.le_refl _)
      rw [← hwo] at HM0 ⊢
      clear hwo hpre IV hz0 hz1 hz2 hz3
      gi_wp2_with (apply wpIn_label)
      --@INNER
      gi_loopw [7] (fun i wi => i = .int .i64 k ∧ ∃ tr : List Int, Hid (Inv J n0 g (.slice (some ⟨gl, 0, none⟩) n cc) vs cs av n L pre' h tr (k + 1) wi ∧ muA cs n tr (k + 1) ≤ M0)) (fun i wi => (cs.getD k []).length - ((intsIn wi g).getD k 0).toNat)
      case atStart => exact ⟨rfl, tr, hid ⟨IVk.out, HM.out⟩⟩
      case round =>
        obtain ⟨rfl, tr, IVM⟩ := hrel
        obtain ⟨p, hp, hpl⟩ := IVM.out.1.nat k hk
        have ctr := cell_ints IVM.out.1.it.b1 (i := k) (by rw [IVM.out.1.tl]; exact hk)
        rw [hp] at ctr
        obtain ⟨g', a', c', eg, cch, hvs, oin⟩ := IVM.out.1.it.cho.at_ (i := k) (by rw [CLN.out]; exact hk)
        obtain rfl : gl = g' := by simpa using eg
        have HPV := hid hp
        have hq5 := (CLEN.out k hk).2
        obtain ⟨q, hq⟩ : ∃ q, q = (cs.getD k []).length := ⟨_, rfl⟩
        rw [← hq] at cch oin hpl hq5
        have HQ := hid hq
        clear hq hp eg hvs
        by_cases hpq : p < q
        · obtain ⟨gi, ea, -, cin, -⟩ := oin.at_ (i := p) (by rw [← HQ.out]; exact hpq)
          subst ea
          have hnum := CNUM.out k p hk
          obtain ⟨c, hc⟩ : ∃ c, c = (cs.getD k []).getD p 0 := ⟨_, rfl⟩
          rw [← hc] at cin hnum
          have HC := hid hc
          have ftr : wr.frozen? ⟨g, k, none⟩ = false := frozen_of_row _ _ _ _ _ IVM.out.1.it.b1
          clear hc oin
          gi_wp2_with (apply wpIn_label)
          gi_quiet_th (fail)
          gi_wp2_with (apply wpIn_label)
          gi_quiet_th (fail)
          gi_wp2_with (apply wpIn_label)
          generalize hW5 : World.setCell _ _ _ = W5
          have IT5 : Hid (It J n0 g (.slice (some ⟨gl, 0, none⟩) n cc) vs cs pre' h (tr.set k ((p : Int) + 1)) W5) := hid (by rw [← hW5]; exact (IVM.out.1.it.drewN _).setTr HNG.out k _)
          clear hW5 ctr cch cin ftr
          have HKP : Hid (∀ n, Kp (W5.drewN n)) := hid (fun n => by
            obtain ⟨A, hJ, hA, hO⟩ := IT5.out.held
            exact HST.out A _ _ (HJK.out _ _ _ hJ) (hO.drewN n))
          have HHL := IVM.out.1.hl
          have HTK := hid (show (h.take k).length = k by rw [List.length_take, HHL]; omega)
          have HSH : Hid (SliceOf .i8 W5 (some ⟨g + 1, 0, none⟩) (h.take k)) := hid (fun i hi => by
            rw [HTK.out] at hi
            refine ⟨g + 1, 0, rfl, ?_⟩
            rw [Nat.zero_add, cell_ints IT5.out.b2 (by omega)]
            simp only [List.getD_eq_getElem?_getD, List.getElem?_take, if_pos hi])
          have ch := cell_ints IT5.out.b2 (i := k) (by rw [HHL]; exact hk)
          have fh : W5.frozen? ⟨g + 1, k, none⟩ = false := frozen_of_row _ _ _ _ _ IT5.out.b2
          generalize h.getD k 0 = hk0 at *
          clear HHL
          rcases hnum with rfl | hnum
          · have HOK := hid (show okV av (h.take k) (-10) = true by unfold okV; simp)
            refine (wpIn_wide (n := 8)).2 ?_
            go_quiet (fail)
            gi_wp2_with (apply wpIn_label)
            have IVT := IVM.out.1.take hk HPV.out (by rw [← HQ.out]; exact hpq) (by rw [← HC.out]; exact HOK.out) (by rw [← HC.out]; exact (IT5.out.drewN nq).setH HNG.out k _)
            have ez : ((k : Int) + 1 + 1).toNat = k + 2 := by omega
            refine ⟨⟨(k : Int) + 1, pre', _, _, ⟨by omega, by omega⟩, rfl, hid (by rw [ez]; exact IVT)⟩, Nat.lt_of_lt_of_eq ?_ HM0.out⟩
            rw [show (intOf (.int .i64 ((k : Int) + 1)) + 1).toNat = k + 2 from ez, IVT.mu]
            exact Nat.lt_of_lt_of_le (muA_take hk IVM.out.1.tl HPV.out (by rw [← HQ.out]; exact hpq) (fun j hj => (CLEN.out j hj).2)) IVM.out.2
          · have hne : (c == -10) = false := by simp; omega
            have hba5 := HBA.out _ (HKP.out 0)
            rw [World.drewN_zero] at hba5
            have HCO := hid (fun V (hs : SliceOf .i8 V (some ⟨g + 1, 0, none⟩) (h.take k)) => count_any (some ⟨g + 1, 0, none⟩) k n (h.take k) HTK.out.symm (by omega) c V hs)
            have HAC := hid (fun V (hV : Kp V) => HAV.out V c hV hnum)
            have HOV := hid (show okV av (h.take k) c = decide (occ (h.take k) c k < av c) by unfold okV; rw [HTK.out, decide_eq_false (by omega), Bool.false_or])
            generalize occ (h.take k) c k = o at *
            generalize av c = b at *
            by_cases hob : o < b
            · refine (wpIn_wide (n := 8)).2 ?_
              go_quiet (first | (go_at_call 120; exact Calls.quiet_of_same ((HCO.out _ (HSH.out.drewN _)).mono fun _ _ h => ⟨h.1, h.2.symm⟩)) | (exact Calls.quiet_of_same ((HAC.out _ (HKP.out _)).mono fun _ _ h => ⟨h.1, h.2.symm⟩)))
              gi_wp2_with (apply wpIn_label)
              have IVT := IVM.out.1.take hk HPV.out (by rw [← HQ.out]; exact hpq) (by rw [← HC.out]; exact HOV.out.trans (decide_eq_true hob)) (by rw [← HC.out]; exact (IT5.out.drewN nq).setH HNG.out k _)
              have ez : ((k : Int) + 1 + 1).toNat = k + 2 := by omega
              refine ⟨⟨(k : Int) + 1, pre', _, _, ⟨by omega, by omega⟩, rfl, hid (by rw [ez]; exact IVT)⟩, Nat.lt_of_lt_of_eq ?_ HM0.out⟩
              rw [show (intOf (.int .i64 ((k : Int) + 1)) + 1).toNat = k + 2 from ez, IVT.mu]
              exact Nat.lt_of_lt_of_le (muA_take hk IVM.out.1.tl HPV.out (by rw [← HQ.out]; exact hpq) (fun j hj => (CLEN.out j hj).2)) IVM.out.2
            · refine (wpIn_wide (n := 8)).2 ?_
              go_quiet (first | (go_at_call 120; exact Calls.quiet_of_same ((HCO.out _ (HSH.out.drewN _)).mono fun _ _ h => ⟨h.1, h.2.symm⟩)) | (exact Calls.quiet_of_same ((HAC.out _ (HKP.out _)).mono fun _ _ h => ⟨h.1, h.2.symm⟩)))
              gi_wp2_with (apply wpIn_label)
              have IVS := IVM.out.1.skip hk HPV.out (by rw [← HQ.out]; exact hpq) (by rw [← HC.out]; exact HOV.out.trans (decide_eq_false (by omega))) (IT5.out.drewN nq)
              have hle : muA cs n (tr.set k ((p : Int) + 1)) (k + 1) ≤ M0 := Nat.le_of_lt (Nat.lt_of_lt_of_le (muA_skip (cs := cs) hk (by rw [IVM.out.1.tl]; exact hk) HPV.out (by rw [← HQ.out]; exact hpq)) IVM.out.2)
              refine ⟨by first | exact ⟨_, hid ⟨IVS, hle⟩⟩ | exact ⟨rfl, _, hid ⟨IVS, hle⟩⟩, ?_⟩
              simp only [IVS.mu, IVM.out.1.mu, ← List.getD_eq_getElem?_getD]
              rw [getD_set_eq (by rw [IVM.out.1.tl]; exact hk), HPV.out, ← HQ.out]
              omega
        · obtain rfl : p = q := by omega
          have ftr : wr.frozen? ⟨g, k, none⟩ = false := frozen_of_row _ _ _ _ _ IVM.out.1.it.b1
          clear oin
          gi_wp2_with (apply wpIn_label)
          gi_quiet_th (fail)
          gi_wp2_with (apply wpIn_label)
          have IVN := IVM.out.1.none hk HPV.out (by rw [HQ.out]; exact Nat.le_refl _) ((IVM.out.1.it.drewN nq).setTr HNG.out k 0)
          have ez : ((k : Int) - 1 + 1).toNat = k := by omega
          refine ⟨⟨(k : Int) - 1, pre', h, tr.set k 0, ⟨by omega, by omega⟩, rfl, hid ?_⟩, Nat.lt_of_lt_of_eq ?_ HM0.out⟩
          · rw [ez]; exact IVN
          · rw [show (intOf (.int .i64 ((k : Int) - 1)) + 1).toNat = k from ez, IVN.mu]
            exact Nat.lt_of_lt_of_le (muA_none hk 0) IVM.out.2
      --@END
    · have IV1 : Hid (Inv J n0 g (.slice (some ⟨gl, 0, none⟩) n cc) vs cs av n L pre h tr (n + 1) wr) := hid (by have := IV.out; rwa [show ((n : Int) + 1).toNat = n + 1 by omega] at this)
      have HM' : Hid (muA cs n tr (n + 1) = M0) := hid (by rw [HM0.out, IV1.out.mu, show ((n : Int) + 1).toNat = n + 1 by omega])
      clear IV hz0 hz1
      gi_wp2_with (apply wpIn_label)
      refine ⟨trivial, ?_⟩
      refine ((callsIn_wide (n := 7)).2 (cloneHoist_any (some ⟨g + 1, 0, none⟩) n n h IV1.out.hl.symm h1 (by omega) wr (by have := sliceOf_block IV1.out.it.b2; exact this))).mono ?_
      rintro e B ⟨v, rfl, ow, gB⟩
      have hyd : YieldAt Fence.wide 7 Tryd.prog l #[v] B fun e C => e = .returned (.bool true) ∧ J (g + 2) (pre ++ [(v, h)]) C ∧ Ins n0 (g + 2) B C ∨ e = .returned (.bool false) ∧ Jx (pre ++ [(v, h)]) C := by
        obtain ⟨A, hJ, hA, hO⟩ := IV1.out.it.held
        have hN := HNG.out
        exact HY.out (g + 2) pre (v, h) A B (by omega) hA hJ (hO.trans (Out.ofBelow _ _ gB)) (ow.widen hO.size (Nat.le_refl _)) IV1.out.nx
      obtain ⟨fn, tmps, assign, body, hyr, hR⟩ := hyd
      have HR := hid hR
      have HGB := hid gB
      obtain ⟨k, hkn⟩ : ∃ k, n = k + 1 := ⟨n - 1, by omega⟩
      have hk : k < n := by omega
      have ek : IntKind.i64.wrap ((n : Int) - 1) = (k : Int) := (IntWalk.i64_in _ (by omega)).trans (by omega)
      clear hR gB ow
      have HKN := hid hkn
      clear hkn
      gi_wp2_with (apply wpIn_label)
      refine HR.out.mono ?_
      rintro e wo (⟨rfl, hJ, hin⟩ | ⟨rfl, hJx⟩)
      rotate_left
      · have HJX := hid hJx
        clear hJx
        gi_wp2_with (apply wpIn_label)
        rw [Exit.noGoto_ret]
        refine bodyPost_ret (results_none rfl _ _ _) rfl ?_
        exact ⟨⟨_, rfl⟩, .inr ⟨pre ++ [(v, h)], wo, IV1.out.sp, HJX.out, Below.refl _ _⟩⟩
      have IVk : Hid (Inv J n0 g (.slice (some ⟨gl, 0, none⟩) n cc) vs cs av n L (pre ++ [(v, h)]) h tr (k + 1) wo) := hid (by rw [← HKN.out]; exact IV1.out.top (IV1.out.it.next HNG.out HGB.out hin hJ))
      have HM : Hid (muA cs n tr (k + 1) ≤ M0) := hid (by have := muA_top (cs := cs) (n := n) (tr := tr); rw [HM'.out] at this; rw [← HKN.out]; omega)
      generalize pre ++ [(v, h)] = pre' at *
      clear hJ hin hyr HR HGB IV1 HM'
      gi_wp2_with (apply wpIn_label)
      --@INNER
      gi_loopw [7] (fun i wi => i = .int .i64 k ∧ ∃ tr : List Int, Hid (Inv J n0 g (.slice (some ⟨gl, 0, none⟩) n cc) vs cs av n L pre' h tr (k + 1) wi ∧ muA cs n tr (k + 1) ≤ M0)) (fun i wi => (cs.getD k []).length - ((intsIn wi g).getD k 0).toNat)
      case atStart => exact ⟨rfl, tr, hid ⟨IVk.out, HM.out⟩⟩
      case round =>
        obtain ⟨rfl, tr, IVM⟩ := hrel
        obtain ⟨p, hp, hpl⟩ := IVM.out.1.nat k hk
        have ctr := cell_ints IVM.out.1.it.b1 (i := k) (by rw [IVM.out.1.tl]; exact hk)
        rw [hp] at ctr
        obtain ⟨g', a', c', eg, cch, hvs, oin⟩ := IVM.out.1.it.cho.at_ (i := k) (by rw [CLN.out]; exact hk)
        obtain rfl : gl = g' := by simpa using eg
        have HPV := hid hp
        have hq5 := (CLEN.out k hk).2
        obtain ⟨q, hq⟩ : ∃ q, q = (cs.getD k []).length := ⟨_, rfl⟩
        rw [← hq] at cch oin hpl hq5
        have HQ := hid hq
        clear hq hp eg hvs
        by_cases hpq : p < q
        · obtain ⟨gi, ea, -, cin, -⟩ := oin.at_ (i := p) (by rw [← HQ.out]; exact hpq)
          subst ea
          have hnum := CNUM.out k p hk
          obtain ⟨c, hc⟩ : ∃ c, c = (cs.getD k []).getD p 0 := ⟨_, rfl⟩
          rw [← hc] at cin hnum
          have HC := hid hc
          have ftr : wr.frozen? ⟨g, k, none⟩ = false := frozen_of_row _ _ _ _ _ IVM.out.1.it.b1
          clear hc oin
          gi_wp2_with (apply wpIn_label)
          gi_quiet_th (fail)
          gi_wp2_with (apply wpIn_label)
          gi_quiet_th (fail)
          gi_wp2_with (apply wpIn_label)
          generalize hW5 : World.setCell _ _ _ = W5
          have IT5 : Hid (It J n0 g (.slice (some ⟨gl, 0, none⟩) n cc) vs cs pre' h (tr.set k ((p : Int) + 1)) W5) := hid (by rw [← hW5]; exact (IVM.out.1.it.drewN _).setTr HNG.out k _)
          clear hW5 ctr cch cin ftr
          have HKP : Hid (∀ n, Kp (W5.drewN n)) := hid (fun n => by
            obtain ⟨A, hJ, hA, hO⟩ := IT5.out.held
            exact HST.out A _ _ (HJK.out _ _ _ hJ) (hO.drewN n))
          have HHL := IVM.out.1.hl
          have HTK := hid (show (h.take k).length = k by rw [List.length_take, HHL]; omega)
          have HSH : Hid (SliceOf .i8 W5 (some ⟨g + 1, 0, none⟩) (h.take k)) := hid (fun i hi => by
            rw [HTK.out] at hi
            refine ⟨g + 1, 0, rfl, ?_⟩
            rw [Nat.zero_add, cell_ints IT5.out.b2 (by omega)]
            simp only [List.getD_eq_getElem?_getD, List.getElem?_take, if_pos hi])
          have ch := cell_ints IT5.out.b2 (i := k) (by rw [HHL]; exact hk)
          have fh : W5.frozen? ⟨g + 1, k, none⟩ = false := frozen_of_row _ _ _ _ _ IT5.out.b2
          generalize h.getD k 0 = hk0 at *
          clear HHL
          rcases hnum with rfl | hnum
          · have HOK := hid (show okV av (h.take k) (-10) = true by unfold okV; simp)
            refine (wpIn_wide (n := 8)).2 ?_
            go_quiet (fail)
            gi_wp2_with (apply wpIn_label)
            have IVT := IVM.out.1.take hk HPV.out (by rw [← HQ.out]; exact hpq) (by rw [← HC.out]; exact HOK.out) (by rw [← HC.out]; exact (IT5.out.drewN nq).setH HNG.out k _)
            have ez : ((k : Int) + 1 + 1).toNat = k + 2 := by omega
            refine ⟨⟨(k : Int) + 1, pre', _, _, ⟨by omega, by omega⟩, rfl, hid (by rw [ez]; exact IVT)⟩, Nat.lt_of_lt_of_eq ?_ HM0.out⟩
            rw [show (intOf (.int .i64 ((k : Int) + 1)) + 1).toNat = k + 2 from ez, IVT.mu]
            exact Nat.lt_of_lt_of_le (muA_take hk IVM.out.1.tl HPV.out (by rw [← HQ.out]; exact hpq) (fun j hj => (CLEN.out j hj).2)) IVM.out.2
          · have hne : (c == -10) = false := by simp; omega
            have hba5 := HBA.out _ (HKP.out 0)
            rw [World.drewN_zero] at hba5
            have HCO := hid (fun V (hs : SliceOf .i8 V (some ⟨g + 1, 0, none⟩) (h.take k)) => count_any (some ⟨g + 1, 0, none⟩) k n (h.take k) HTK.out.symm (by omega) c V hs)
            have HAC := hid (fun V (hV : Kp V) => HAV.out V c hV hnum)
            have HOV := hid (show okV av (h.take k) c = decide (occ (h.take k) c k < av c) by unfold okV; rw [HTK.out, decide_eq_false (by omega), Bool.false_or])
            generalize occ (h.take k) c k = o at *
            generalize av c = b at *
            by_cases hob : o < b
            · refine (wpIn_wide (n := 8)).2 ?_
              go_quiet (first | (go_at_call 120; exact Calls.quiet_of_same ((HCO.out _ (HSH.out.drewN _)).mono fun _ _ h => ⟨h.1, h.2.symm⟩)) | (exact Calls.quiet_of_same ((HAC.out _ (HKP.out _)).mono fun _ _ h => ⟨h.1, h.2.symm⟩)))
              gi_wp2_with (apply wpIn_label)
              have IVT := IVM.out.1.take hk HPV.out (by rw [← HQ.out]; exact hpq) (by rw [← HC.out]; exact HOV.out.trans (decide_eq_true hob)) (by rw [← HC.out]; exact (IT5.out.drewN nq).setH HNG.out k _)
              have ez : ((k : Int) + 1 + 1).toNat = k + 2 := by omega
              refine ⟨⟨(k : Int) + 1, pre', _, _, ⟨by omega, by omega⟩, rfl, hid (by rw [ez]; exact IVT)⟩, Nat.lt_of_lt_of_eq ?_ HM0.out⟩
              rw [show (intOf (.int .i64 ((k : Int) + 1)) + 1).toNat = k + 2 from ez, IVT.mu]
              exact Nat.lt_of_lt_of_le (muA_take hk IVM.out.1.tl HPV.out (by rw [← HQ.out]; exact hpq) (fun j hj => (CLEN.out j hj).2)) IVM.out.2
            · refine (wpIn_wide (n := 8)).2 ?_
              go_quiet (first | (go_at_call 120; exact Calls.quiet_of_same ((HCO.out _ (HSH.out.drewN _)).mono fun _ _ h => ⟨h.1, h.2.symm⟩)) | (exact Calls.quiet_of_same ((HAC.out _ (HKP.out _)).mono fun _ _ h => ⟨h.1, h.2.symm⟩)))
              gi_wp2_with (apply wpIn_label)
              have IVS := IVM.out.1.skip hk HPV.out (by rw [← HQ.out]; exact hpq) (by rw [← HC.out]; exact HOV.out.trans (decide_eq_false (by omega))) (IT5.out.drewN nq)
              have hle : muA cs n (tr.set k ((p : Int) + 1)) (k + 1) ≤ M0 := Nat.le_of_lt (Nat.lt_of_lt_of_le (muA_skip (cs := cs) hk (by rw [IVM.out.1.tl]; exact hk) HPV.out (by rw [← HQ.out]; exact hpq)) IVM.out.2)
              refine ⟨by first | exact ⟨_, hid ⟨IVS, hle⟩⟩ | exact ⟨rfl, _, hid ⟨IVS, hle⟩⟩, ?_⟩
              simp only [IVS.mu, IVM.out.1.mu]
              rw [getD_set_eq (by rw [IVM.out.1.tl]; exact hk), HPV.out, ← HQ.out]
              omega
        · obtain rfl : p = q := by omega
          have ftr : wr.frozen? ⟨g, k, none⟩ = false := frozen_of_row _ _ _ _ _ IVM.out.1.it.b1
          clear oin
          gi_wp2_with (apply wpIn_label)
          gi_quiet_th (fail)
          gi_wp2_with (apply wpIn_label)
          have IVN := IVM.out.1.none hk HPV.out (by rw [HQ.out]; exact Nat.le_refl _) ((IVM.out.1.it.drewN nq).setTr HNG.out k 0)
          have ez : ((k : Int) - 1 + 1).toNat = k := by omega
          refine ⟨⟨(k : Int) - 1, pre', h, tr.set k 0, ⟨by omega, by omega⟩, rfl, hid ?_⟩, Nat.lt_of_lt_of_eq ?_ HM0.out⟩
          · rw [ez]; exact IVN
          · rw [show (intOf (.int .i64 ((k : Int) - 1)) + 1).toNat = k from ez, IVN.mu]
            exact Nat.lt_of_lt_of_le (muA_none hk 0) IVM.out.2
      --@END
end Go.Proofs.YtfaiehjomcgjgaaDoor

/- A hoist for a meaning: the program's functions. -/
namespace Go.Proofs.YtfaiehjomcgjgaaDoor
set_option linter.unusedVariables false
open Go.RowKit
attribute [local go_sem] Oper.semAt_some
theorem results_cells_pair {P : Program} {fn : Func} {p q : Tmp} {ty tz : TypeId} (h : fn.results = #[.cell p ty, .cell q tz]) (tmps : Array Value) (w : World) {g k : Nat} {v u : Value} {d e : TypeDesc}
    (hp : tmps.getD p undef = .pointer (some ⟨g, 0, none⟩)) (hq : tmps.getD q undef = .pointer (some ⟨k, 0, none⟩)) (hv : w.cell? ⟨g, 0, none⟩ = some v) (hu : w.cell? ⟨k, 0, none⟩ = some u)
    (hty : P.underlying ty = some d) (hd : d.isRow = false) (htz : P.underlying tz = some e) (he : e.isRow = false) : (results fn tmps).run P w = .ok (.tuple #[v, u]) w := by
  have hp' : tmps[p]?.getD undef = .pointer (some ⟨g, 0, none⟩) := by simpa using hp
  have hq' : tmps[q]?.getD undef = .pointer (some ⟨k, 0, none⟩) := by simpa using hq
  simp [results, h, hp', hq', asAddr, Sem.run_bind, Result.andThen, run_loadVar_cell hv hty hd, run_loadVar_cell hu htz he]
set_option maxRecDepth 100000 in
/-- The iterator itself. -/
theorem hoistsFor_any (a : Option Addr) (n cap : Nat) (F : Fn) (lbF : Array Value) (w : World) :
    Calls Tryd.prog 101 #[.slice a n cap, .func F #[] lbF] w fun e w' => e = .returned (.func (.func 117) #[] #[.pointer (some ⟨w.heap.size, 0, none⟩), .pointer (some ⟨w.heap.size + 1, 0, none⟩)]) ∧
      w' = (w.alloc (.cells #[.slice a n cap] 59)).alloc (.cells #[.func F #[] lbF] 119) := by
  go_enter Tryd.func101, Tryd.ntmps101
  go_wp2_with fail
  go_ret
  exact ⟨rfl, rfl⟩
theorem Own.out {k : IntKind} {e : TypeId} {A B : World} {lo hi a b : Nat} {v : Value} {xs : List Int} (h : Own k e A lo hi v xs) (o : Out a b A B) (hb : b ≤ lo) : Own k e B lo hi v xs := by
  refine ⟨⟨h.row.1, ?_⟩, h.top⟩
  rcases h.row.2 with h1 | ⟨g', cap, cur, h1, h2, h3, r⟩
  · exact .inl h1
  · exact .inr ⟨g', cap, cur, h1, h2, o.heap h3 (.inr (by omega)), r⟩
theorem headL_cons (x : List Int) (R : List (List Int)) : headL (x :: R) = x := rfl
theorem spH_one {L : List (List Int)} {x : Yld} (h : SpH L ([] ++ [x])) : headL L = x.2 ∧ headC L = 0 := by
  obtain ⟨rest, rfl⟩ := h
  exact ⟨rfl, rfl⟩
set_option maxHeartbeats 4000000 in
set_option maxRecDepth 100000 in
theorem firstHoist_any (a : Option Addr) (n cap : Nat) (m : List Int) (hn : n = m.length) (hcap : n ≤ cap) (hv : plainH m = true) (av : Int → Int) (F : FuncId) (lbF : Array Value)
    (hcf : ∀ args w, (callFunc F args).run Tryd.prog w = .ok (.enter F args) w) (Kf : World → Prop) (w : World) (hs : SliceOf .i8 w a m)
    (hst : ∀ A B lo k, w.heap.size ≤ lo → Kf A → Out lo k A B → Kf B) (hk0 : Kf w)
    (hav : ∀ V x, Kf V → (-4 ≤ x ∧ x ≤ 39) → Calls Tryd.prog F (#[.int .i8 x] ++ lbF) V fun e w' => e = .returned (.int .i64 (av x)) ∧ V = w') :
    Calls Tryd.prog 87 #[.slice a n cap, .func (.func F) #[] lbF] w (RetOwn .i8 22 (withCode (headC (goC (choT m n n) av n []))) (headL (goC (choT m n n) av n [])) w) := by
  obtain ⟨L, hL⟩ : ∃ L, L = goC (choT m n n) av n [] := ⟨_, rfl⟩
  have HL := hid hL
  rw [← hL]
  clear hL
  have S := hid hs
  have HST := hid hst
  have HK0 := hid hk0
  have HAV := hid hav
  have HIT := hid (fun bm ba Kp W h1 h2 h3 h4 h5 => hoistsFor_iter a n cap m hn hcap hv av F lbF hcf bm ba Kp W h1 h2 h3 h4 h5)
  rw [← HL.out] at HIT
  clear hs hst hk0 hav hn hcap hv hcf
  refine (callsIn_wide (n := 9)).1 (callsIn_of_wp_marks Tryd.func87 rfl trivial (wpIn_wide.2 ?_) rfl)
  simp only [Tryd.ntmps87, List.size_toArray, List.length_cons, List.length_nil, Nat.reduceAdd, Nat.reduceSub, Array.replicate_succ, Array.replicate_zero, List.push_toArray, List.append_toArray, List.nil_append, List.cons_append]
  go_wp2_with fail
  refine (hoistsFor_any _ _ _ _ _ _).mono ?_
  rintro e W2 ⟨rfl, hW2⟩
  have b0 : Hid (W2.heap[w.heap.size]? = some (.cells #[.slice none 0 0] 28 (0, 0))) := hid (by rw [hW2]; exact heap_kept (heap_kept (heap_kept (heap_new rfl))))
  have b1 : Hid (W2.heap[w.heap.size + 1]? = some (.cells #[.int .i64 0] 2 (0, 0))) := hid (by rw [hW2]; exact heap_kept (heap_kept (heap_new (by simp))))
  have b2 : Hid (W2.heap[w.heap.size + 1 + 1]? = some (.cells #[.slice a n cap] 59 (0, 0))) := hid (by rw [hW2]; exact heap_kept (heap_new (by simp)))
  have b3 : Hid (W2.heap[w.heap.size + 1 + 1 + 1]? = some (.cells #[.func (.func F) #[] lbF] 119 (0, 0))) := hid (by rw [hW2]; exact heap_new (by simp))
  have gr2 : Hid (Gr w W2) := hid (by rw [hW2]; exact ((((Gr.refl _).alloc _).alloc _).alloc _).alloc _)
  have hz2 : Hid (W2.heap.size = w.heap.size + 4) := hid (by rw [hW2]; simp)
  have HZ : Hid (((w.alloc (.cells #[.slice none 0 0] 28)).alloc (.cells #[.int .i64 0] 2)).heap.size = w.heap.size + 1 + 1) := hid (by simp)
  have HK2 : Hid (Kf W2) := hid (HST.out _ _ w.heap.size 0 (Nat.le_refl _) HK0.out (Out.ofBelow _ _ gr2.out))
  clear hW2
  go_wp2_with fail
  refine wp_rangeFunc_K (lb := #[.pointer (some ⟨w.heap.size + 1 + 1, 0, none⟩), .pointer (some ⟨w.heap.size + 1 + 1 + 1, 0, none⟩)]) (gf := 117) rfl (callFunc_enter Tryd.func117 (by kernel_rfl) (by kernel_rfl))
    (Kp := fun V => Kf V ∧ V.cell? ⟨w.heap.size + 1 + 1 + 1, 0, none⟩ = some (.func (.func F) #[] lbF))
    (fun W hb hz => HIT.out _ _ _ W
      (fun A B k hK ho => ⟨HST.out A B _ k (by rw [hz, hz2.out]; omega) hK.1 ho, ho.cell hK.2 (.inl (by dsimp only; rw [hz, hz2.out]; omega))⟩)
      (by rw [cell_of_row _ _ _ _ _ _ ((hb.block _ (lt_of_heap b2.out)).trans b2.out)]; rfl) (S.out.gr (gr2.out.trans hb)) (fun V hV => hV.2) (fun V x hV hx => HAV.out V x hV.1 hx))
    (fun A B hK ho => ⟨HST.out A B _ _ gr2.out.size hK.1 ho, ho.cell hK.2 (.inl (by dsimp only; rw [hz2.out]; omega))⟩)
    (fun m B C x hm h o => h.keep o hm) (fun _ => rfl)
    (fun n pre B => (B.heap[w.heap.size]? = some (.cells #[.slice none 0 0] 28 (0, 0)) ∧ B.heap[w.heap.size + 1]? = some (.cells #[.int .i64 0] 2 (0, 0)) ∧ B.heap[w.heap.size + 1 + 1 + 1]? = some (.cells #[.func (.func F) #[] lbF] 119 (0, 0))) ∧ Gr w B ∧ Kf B ∧ pre = [])
    (fun c pre C => c = .ret ∧ ∃ v xs, pre = [] ++ [(v, xs)] ∧ C.heap[w.heap.size]? = some (.cells #[v] 28 (0, 0)) ∧ C.heap[w.heap.size + 1]? = some (.cells #[.int .i64 0] 2 (0, 0)) ∧ Own .i8 22 C (W2.heap.size + 2) C.heap.size v xs ∧ Gr w C)
    (fun n pre A ⟨⟨_, _, h3⟩, _, hk, _⟩ => ⟨hk, by rw [cell_of_row _ _ _ _ _ _ h3]; rfl⟩)
    ?init ?a1 ?assign ?body ?done ?stop
  case assign =>
    intro l x W K hK
    gi_wp2
    exact hK
  case init =>
    intro n B hb hn1 hn2
    exact ⟨⟨(hb.block _ (lt_of_heap b0.out)).trans b0.out, (hb.block _ (lt_of_heap b1.out)).trans b1.out, (hb.block _ (lt_of_heap b3.out)).trans b3.out⟩, gr2.out.trans hb, HST.out _ _ _ 0 gr2.out.size HK2.out (Out.ofBelow _ _ hb), rfl⟩
  case body =>
    rintro l n' pre ⟨v, xs⟩ A B hn1 hn2 ⟨⟨h0, h1, h3⟩, hg, hkf, rfl⟩ ho hok hnx
    have hok' : Own .i8 22 B A.heap.size B.heap.size v xs := hok
    obtain ⟨a', c', rfl⟩ := hok'.shape
    have k0 := hid (ho.heap h0 (.inl (by rw [hz2.out]; omega)))
    have k1 := hid (ho.heap h1 (.inl (by rw [hz2.out]; omega)))
    have HGB := hid (Gr_out hg ho gr2.out.size)
    have HOK := hid (hok'.widen (show W2.heap.size + 2 ≤ A.heap.size by omega) (Nat.le_refl _))
    have c0 : B.cell? ⟨w.heap.size, 0, none⟩ = some (.slice none 0 0) := by rw [cell_of_row _ _ _ _ _ _ k0.out]; rfl
    have c1 : B.cell? ⟨w.heap.size + 1, 0, none⟩ = some (.int .i64 0) := by rw [cell_of_row _ _ _ _ _ _ k1.out]; rfl
    have f0 : B.frozen? ⟨w.heap.size, 0, none⟩ = false := frozen_of_row _ _ _ _ _ k0.out
    have f1 : B.frozen? ⟨w.heap.size + 1, 0, none⟩ = false := frozen_of_row _ _ _ _ _ k1.out
    clear h0 h1 h3 hg hkf ho hok hok' hnx hn1 hn2
    generalize xs.length = q at *
    gi_wp2
    have e0 : (B.setCell ⟨w.heap.size, 0, none⟩ (.slice a' q c')).heap[w.heap.size]? = some (.cells #[.slice a' q c'] 28 (0, 0)) := by rw [heap_setCell_same B _ 0 _ _ _ k0.out]; rfl
    have e1 : (B.setCell ⟨w.heap.size, 0, none⟩ (.slice a' q c')).heap[w.heap.size + 1]? = some (.cells #[.int .i64 0] 2 (0, 0)) := heap_stored (by dsimp only; omega) k1.out
    refine ⟨((Ins.refl _ _ _).setCell (.inl (by dsimp only; rw [hz2.out]; omega)) _).setCell (.inl (by dsimp only; rw [hz2.out]; omega)) _, rfl, _, xs, rfl, heap_stored (by dsimp only; omega) e0, ?_, ?_, ?_⟩
    · rw [heap_setCell_same _ _ 0 _ _ _ e1]; rfl
    · exact (HOK.out.ins (((Ins.refl _ _ _).setCell (.inl (by dsimp only; rw [hz2.out]; omega)) _).setCell (.inl (by dsimp only; rw [hz2.out]; omega)) _)).widen (Nat.le_refl _) (by simp)
    · exact ((show Gr w B from HGB.out).setCell (p := ⟨w.heap.size, 0, none⟩) (by dsimp only; omega) _).setCell (p := ⟨w.heap.size + 1, 0, none⟩) (by dsimp only; omega) _
  case done =>
    intro n xs' A W hn1 hn2 hS hI ho hd
    obtain ⟨⟨h0, h1, -⟩, hg, -, rfl⟩ := hI
    obtain rfl : L = [] := hS.symm
    have k0 := hid (ho.heap h0 (.inl (by rw [hz2.out]; omega)))
    have k1 := hid (ho.heap h1 (.inl (by rw [hz2.out]; omega)))
    have HG := hid (Gr_out hg ho gr2.out.size)
    have HD := hid hd
    have c0 : W.cell? ⟨w.heap.size, 0, none⟩ = some (.slice none 0 0) := by rw [cell_of_row _ _ _ _ _ _ k0.out]; rfl
    have c1 : W.cell? ⟨w.heap.size + 1, 0, none⟩ = some (.int .i64 0) := by rw [cell_of_row _ _ _ _ _ _ k1.out]; rfl
    have f0 : W.frozen? ⟨w.heap.size, 0, none⟩ = false := frozen_of_row _ _ _ _ _ k0.out
    have f1 : W.frozen? ⟨w.heap.size + 1, 0, none⟩ = false := frozen_of_row _ _ _ _ _ k1.out
    clear hd h0 h1 hg ho hS hn2
    go_wp2
    have e0 : (W.setCell ⟨w.heap.size, 0, none⟩ (.slice none 0 0)).heap[w.heap.size]? = some (.cells #[.slice none 0 0] 28 (0, 0)) := by rw [heap_setCell_same W _ 0 _ _ _ k0.out]; rfl
    have e1 : (W.setCell ⟨w.heap.size, 0, none⟩ (.slice none 0 0)).heap[w.heap.size + 1]? = some (.cells #[.int .i64 0] 2 (0, 0)) := heap_stored (by dsimp only; omega) k1.out
    have e2 : ((W.setCell ⟨w.heap.size, 0, none⟩ (.slice none 0 0)).setCell ⟨w.heap.size + 1, 0, none⟩ (.int .i64 6)).heap[w.heap.size + 1]? = some (.cells #[.int .i64 6] 2 (0, 0)) := by rw [heap_setCell_same _ _ 0 _ _ _ e1]; rfl
    have e3 : ((W.setCell ⟨w.heap.size, 0, none⟩ (.slice none 0 0)).setCell ⟨w.heap.size + 1, 0, none⟩ (.int .i64 6)).heap[w.heap.size]? = some (.cells #[.slice none 0 0] 28 (0, 0)) := heap_stored (by dsimp only; omega) e0
    refine leaves_mark (heap_stored (by dsimp only; rw [hz2.out]; omega) (heap_stored (by dsimp only; rw [hz2.out]; omega) HD.out)) (results_cells_pair rfl _ _ rfl rfl (by rw [cell_of_row _ _ _ _ _ _ (heap_putObj (by rw [hz2.out]; omega) e3)]; rfl) (by rw [cell_of_row _ _ _ _ _ _ (heap_putObj (by rw [hz2.out]; omega) e2)]; rfl) Tryd.underlying28 rfl Tryd.underlying2 rfl) ⟨.slice none 0 0, rfl, Own.nil _ _ _, ?_⟩
    exact Gr_putObj (((show Gr w W from HG.out).setCell (p := ⟨w.heap.size, 0, none⟩) (by dsimp only; omega) _).setCell (p := ⟨w.heap.size + 1, 0, none⟩) (by dsimp only; omega) _) (by rw [hz2.out]; omega) _
  case stop =>
    rintro c pre A W hsp ⟨rfl, v, xs, rfl, h0, h1, ow, hg⟩ ho hd
    obtain ⟨eL, eC⟩ := spH_one hsp
    have k0 := ho.heap h0 (.inl (by rw [hz2.out]; omega))
    have k1 := ho.heap h1 (.inl (by rw [hz2.out]; omega))
    have HG := Gr_out hg ho gr2.out.size
    go_wp2
    refine leaves_mark hd (results_cells_pair rfl _ _ rfl rfl (by rw [cell_of_row _ _ _ _ _ _ (heap_putObj (by rw [hz2.out]; omega) k0)]; rfl) (by rw [cell_of_row _ _ _ _ _ _ (heap_putObj (by rw [hz2.out]; omega) k1)]; rfl) Tryd.underlying28 rfl Tryd.underlying2 rfl) ⟨v, rfl, ?_, Gr_putObj HG (by rw [hz2.out]; omega) _⟩
    exact (ow.out (ho.trans (Out.putObj _ _ W (Nat.le_refl _) (by omega) _)) (Nat.le_refl _)).widen (by rw [hz2.out]; omega) (by rw [World.putObj_size]; exact ho.size)
set_option maxRecDepth 100000 in
/-- So many there are in so many sets. -/
theorem inSets_call (S : Int) (bb : Nat) (h4 : bb ≤ 4) (ps pb : Nat) (x : Int) (hx : -128 ≤ x ∧ x ≤ 127) (V : World) (hs : V.cell? ⟨ps, 0, none⟩ = some (.int .i64 S)) (hb : V.cell? ⟨pb, 0, none⟩ = some (.int .i64 (bb : Int))) :
    Calls Tryd.prog 102 #[.int .i8 x, .pointer (some ⟨pb, 0, none⟩), .pointer (some ⟨ps, 0, none⟩)] V fun e w' => e = .returned (.int .i64 (avS S bb x)) ∧ V = w' := by
  obtain ⟨hx0, hx1⟩ := hx
  have e1 : IntKind.i64.wrap (-(bb : Int)) = -(bb : Int) := IntWalk.i64_in _ (by omega)
  by_cases h : x < -(bb : Int)
  · have e2 : avS S bb x = 0 := by unfold avS; rw [if_pos h]
    rw [e2]
    clear e2
    go_enter Tryd.func102, Tryd.ntmps102
    go_wp2_with fail
    go_ret
    exact ⟨rfl, rfl⟩
  · have e2 : avS S bb x = S := by unfold avS; rw [if_neg h]
    rw [e2]
    clear e2
    go_enter Tryd.func102, Tryd.ntmps102
    go_wp2_with fail
    go_ret
    exact ⟨rfl, rfl⟩
set_option maxRecDepth 100000 in
theorem inSets_any (S B : Int) (w : World) :
    Calls Tryd.prog 88 #[.int .i64 S, .int .i64 B] w fun e w' => e = .returned (.func (.func 102) #[] #[.pointer (some ⟨w.heap.size + 1, 0, none⟩), .pointer (some ⟨w.heap.size, 0, none⟩)]) ∧
      w' = (w.alloc (.cells #[.int .i64 S] 2)).alloc (.cells #[.int .i64 B] 2) := by
  go_enter Tryd.func88, Tryd.ntmps88
  go_wp2_with fail
  go_ret
  exact ⟨rfl, rfl⟩
set_option maxRecDepth 100000 in
set_option maxHeartbeats 1000000 in
theorem checkWish_any (a : Option Addr) (n cap : Nat) (m : List Int) (hn : n = m.length) (hm : n ≤ 1048576) (hcap : n ≤ cap) (hf : Fits .i8 m) (S B : Int) (w : World) (hs : SliceOf .i8 w a m) :
    Calls Tryd.prog 86 #[.slice a n cap, .int .i64 S, .int .i64 B] w fun e w' => e = .returned (.int .i64 (askC m S B)) ∧ Gr w w' := by
  have HP := hid (impl_ValidMeaning_cap a n cap m hn hm hcap hf w hs)
  have HA : Hid (askC m S B = if plainH m then (if betB S 1 8 && betB B 0 4 then 0 else 2) else 1) := hid rfl
  clear hs hf hn
  generalize askC m S B = c at *
  generalize plainH m = p at *
  cases p with
  | false =>
    have HC := hid (show c = 1 from HA.out)
    clear HA
    go_enter Tryd.func86, Tryd.ntmps86
    go_wp2_with fail
    refine HP.out.mono ?_
    rintro e w1 ⟨rfl, g1⟩
    have G1 := hid g1
    clear g1
    go_wp2_with fail
    go_ret
    exact ⟨ret_int HC.out.symm, G1.out⟩
  | true =>
    cases hb : betB S 1 8 with
    | false =>
      have HC := hid (show c = 2 by have := HA.out; rw [hb] at this; exact this)
      have HB := hid hb
      clear HA hb
      go_enter Tryd.func86, Tryd.ntmps86
      go_wp2_with fail
      refine HP.out.mono ?_
      rintro e w1 ⟨rfl, g1⟩
      have G1 := hid g1
      clear g1
      go_wp2_with fail
      refine (isBetween_any _ _ _ _).mono ?_
      rintro e w' ⟨rfl, rfl⟩
      rw [HB.out]
      go_wp2_with fail
      go_ret
      exact ⟨ret_int HC.out.symm, G1.out⟩
    | true =>
      cases hb2 : betB B 0 4 with
      | false =>
        have HC := hid (show c = 2 by have := HA.out; rw [hb, hb2] at this; exact this)
        have HB := hid hb
        have HB2 := hid hb2
        clear HA hb hb2
        go_enter Tryd.func86, Tryd.ntmps86
        go_wp2_with fail
        refine HP.out.mono ?_
        rintro e w1 ⟨rfl, g1⟩
        have G1 := hid g1
        clear g1
        go_wp2_with fail
        refine (isBetween_any _ _ _ _).mono ?_
        rintro e w' ⟨rfl, rfl⟩
        rw [HB.out]
        go_wp2_with fail
        refine (isBetween_any _ _ _ _).mono ?_
        rintro e w' ⟨rfl, rfl⟩
        rw [HB2.out]
        go_wp2_with fail
        go_ret
        exact ⟨ret_int HC.out.symm, G1.out⟩
      | true =>
        have HC := hid (show c = 0 by have := HA.out; rw [hb, hb2] at this; exact this)
        have HB := hid hb
        have HB2 := hid hb2
        clear HA hb hb2
        go_enter Tryd.func86, Tryd.ntmps86
        go_wp2_with fail
        refine HP.out.mono ?_
        rintro e w1 ⟨rfl, g1⟩
        have G1 := hid g1
        clear g1
        go_wp2_with fail
        refine (isBetween_any _ _ _ _).mono ?_
        rintro e w' ⟨rfl, rfl⟩
        rw [HB.out]
        go_wp2_with fail
        refine (isBetween_any _ _ _ _).mono ?_
        rintro e w' ⟨rfl, rfl⟩
        rw [HB2.out]
        go_wp2_with fail
        go_ret
        exact ⟨ret_int HC.out.symm, G1.out⟩
set_option maxRecDepth 100000 in
set_option maxHeartbeats 2000000 in
theorem impl_HoistFor_cap (a : Option Addr) (cap : Nat) (m : List Int) (hm : m.length ≤ 1048576) (hcap : m.length ≤ cap) (hf : Fits .i8 m) (S B : Int) (w : World) (hs : SliceOf .i8 w a m) :
    Calls Tryd.prog 68 #[.slice a m.length cap, .int .i64 S, .int .i64 B] w (RetOwn .i8 22 (withCode (hforC m S B)) (hforL m S B) w) := by
  have HQ := hid (checkWish_any a m.length cap m rfl hm hcap hf S B w hs)
  by_cases hc : askC m S B = 0
  · obtain ⟨hv, ⟨hS1, hS8⟩, hB0, hB4⟩ := askC_yes hc
    obtain ⟨eL, eC, _⟩ := hfor_yes hc
    rw [eL, eC]
    rw [hc] at HQ
    obtain ⟨bb, rfl⟩ := Int.eq_ofNat_of_zero_le hB0
    rw [Int.toNat_natCast]
    have hbb : bb ≤ 4 := by omega
    have HH : Hid (goC (choT m m.length m.length) (avS S bb) m.length [] = hoistsL m S bb) := hid (goC_goF hbb (fun i hi => (plain_nums hv i hi).elim .inl (fun h => .inr h.1)) m.length [] (by simp))
    have HF := hid (fun (k : Nat) (W : World) (g : Gr w W) (hk : W.heap.size ≤ k) (V : World) (gV : Gr W V) (h0 : V.cell? ⟨k, 0, none⟩ = some (.int .i64 S)) (h1 : V.cell? ⟨k + 1, 0, none⟩ = some (.int .i64 (bb : Int))) =>
      firstHoist_any a m.length cap m rfl hcap hv (avS S bb) 102 #[.pointer (some ⟨k + 1, 0, none⟩), .pointer (some ⟨k, 0, none⟩)] (callFunc_enter Tryd.func102 (by kernel_rfl) (by kernel_rfl))
        (fun V => V.cell? ⟨k, 0, none⟩ = some (.int .i64 S) ∧ V.cell? ⟨k + 1, 0, none⟩ = some (.int .i64 (bb : Int))) V (hs.gr (g.trans gV))
        (fun A B lo q hlo hK ho => ⟨ho.cell hK.1 (.inl (by dsimp only; have := World.block_lt_of_cell? V _ h0; dsimp only at this; omega)), ho.cell hK.2 (.inl (by dsimp only; have := World.block_lt_of_cell? V _ h1; dsimp only at this; omega))⟩) ⟨h0, h1⟩
        (fun V x hK hx => inSets_call S bb hbb k (k + 1) x (by omega) V hK.1 hK.2))
    rw [HH.out] at HF
    clear eL eC hs hf hv hc HH
    generalize m.length = n at *
    generalize hR : hoistsL m S bb = R at *
    clear hR
    go_enter Tryd.func68, Tryd.ntmps68
    go_wp2_with fail
    refine HQ.out.mono ?_
    rintro e w1 ⟨rfl, g1⟩
    have G1 := hid g1
    clear g1
    go_wp2_with fail
    refine (inSets_any _ _ _).mono ?_
    rintro e w2 ⟨rfl, hw2⟩
    have c0 : w2.cell? ⟨w1.heap.size, 0, none⟩ = some (.int .i64 S) := by rw [hw2, cell_of_row _ _ _ _ _ _ (heap_kept (heap_new rfl))]; rfl
    have c1 : w2.cell? ⟨w1.heap.size + 1, 0, none⟩ = some (.int .i64 (bb : Int)) := by rw [hw2, cell_of_row _ _ _ _ _ _ (heap_new (by simp))]; rfl
    have G2 := hid (show Gr w1 w2 by rw [hw2]; exact ((Gr.refl _).alloc _).alloc _)
    have HF2 := hid (HF.out w1.heap.size w1 G1.out (Nat.le_refl _) w2 G2.out c0 c1)
    clear HF hw2 c0 c1
    go_wp2_with fail
    refine HF2.out.mono ?_
    rintro e w3 ⟨v, rfl, ow, g3⟩
    have OW := hid (ow.widen (lo' := w.heap.size) (hi' := w3.heap.size) (by have := G1.out.size; have := G2.out.size; omega) (Nat.le_refl _))
    have G3 := hid (G1.out.trans (G2.out.trans g3))
    unfold withCode
    clear ow g3 HF2 G2
    obtain ⟨a', c', rfl⟩ := OW.out.shape
    go_wp2_with fail
    go_ret2
    exact ⟨_, rfl, OW.out, G3.out⟩
  · obtain ⟨eL, eC, _⟩ := hfor_no hc
    rw [eL, eC]
    have hcb : (askC m S B != 0) = true := by rw [bne_iff_ne]; exact hc
    clear eL eC hs hf hc
    generalize askC m S B = c at *
    generalize m.length = n at *
    go_enter Tryd.func68, Tryd.ntmps68
    go_wp2_with fail
    refine HQ.out.mono ?_
    rintro e w1 ⟨rfl, g1⟩
    have G1 := hid g1
    clear g1
    go_wp2_with fail
    go_ret2
    exact ret_nil G1.out _
theorem impl_HoistFor_n (a : Option Addr) (m : List Int) (hm : m.length ≤ 1048576) (hf : Fits .i8 m) (S B : Int) (w : World) (hs : SliceOf .i8 w a m) :
    Calls Tryd.prog 68 #[.slice a m.length m.length, .int .i64 S, .int .i64 B] w (RetOwn .i8 22 (withCode (hforC m S B)) (hforL m S B) w) := impl_HoistFor_cap a _ m hm (Nat.le_refl _) hf S B w hs
theorem impl_HoistFor_any (a : Option Addr) (m : List Int) (hm : m.length ≤ 1048576) (hf : Fits .i8 m) (S : Int) (_hS : (Lit.int .i64 S).wf = true) (B : Int) (_hB : (Lit.int .i64 B).wf = true) (w : World) (hs : SliceOf .i8 w a m) :
    Calls Tryd.prog 68 #[.slice a m.length m.length, .int .i64 S, .int .i64 B] w (RetOwn .i8 22 (withCode (hforC m S B)) (hforL m S B) w) := impl_HoistFor_n a m hm hf S B w hs
end Go.Proofs.YtfaiehjomcgjgaaDoor

/- The least sets for a meaning: the program's function; how long hoists are. -/
namespace Go.Proofs.YtfaiehjomcgjgaaDoor
set_option linter.unusedVariables false
open Go.RowKit
theorem goN_mem {next : List Int → List (List Int)} {m : List Int} {S : Int} {h x : List Int} {n : Nat} (hx : x ∈ goN next m S h n) : ∃ c, x ∈ next (h ++ [c]) := by
  induction n with
  | zero =>
    rw [goN] at hx
    split at hx
    · exact ⟨_, hx⟩
    · simp at hx
  | succ n ih =>
    rw [goN] at hx
    rcases List.mem_append.1 hx with h1 | h1
    · split at h1
      · exact ⟨_, h1⟩
      · simp at h1
    · exact ih h1
theorem goF_len {m : List Int} {S : Int} {B : Nat} : ∀ (f : Nat) (h x : List Int), x ∈ goF m S B f h → x.length = h.length + f := by
  intro f
  induction f with
  | zero => intro h x hx; rw [goF_zero, List.mem_singleton] at hx; rw [hx]; rfl
  | succ f ih =>
    intro h x hx
    rw [goF_succ] at hx
    obtain ⟨c, hc⟩ := goN_mem hx
    rw [ih _ _ hc, List.length_append, List.length_singleton]
    omega
theorem hforL_length (m : List Int) (S B : Int) : (hforL m S B).length ≤ 8 := by
  by_cases hc : askC m S B = 0
  · obtain ⟨eL, _, _⟩ := hfor_yes hc
    have h8 := (validH_len (plainH_valid (askC_yes hc).1)).2
    rw [eL]
    cases hR : hoistsL m S B.toNat with
    | nil => simp [headL]
    | cons x R =>
      have := goF_len (m := m) (S := S) (B := B.toNat) m.length [] x (by have := hR; unfold hoistsL at this; rw [this]; exact List.mem_cons_self)
      show x.length ≤ 8
      rw [this, List.length_nil]
      omega
  · rw [(hfor_no hc).1]; simp
theorem askC_sets {m : List Int} {S B : Int} (h : askC m 1 B = 0) (h1 : 1 ≤ S) (h8 : S ≤ 8) : askC m S B = 0 := by
  obtain ⟨hv, _, hB0, hB4⟩ := askC_yes h
  unfold askC betB
  rw [if_pos hv, if_pos (by simp; omega)]
theorem headC_six {R : List (List Int)} : headC R = 6 ↔ R = [] := by
  cases R with
  | nil => exact ⟨fun _ => rfl, fun _ => rfl⟩
  | cons x R => exact ⟨fun h => absurd (show (0 : Int) = 6 from h) (by decide), fun h => absurd h (by simp)⟩
theorem headC_ok {R : List (List Int)} (h : R ≠ []) : headC R = 0 := by
  cases R with
  | nil => exact absurd rfl h
  | cons x R => rfl
end Go.Proofs.YtfaiehjomcgjgaaDoor
