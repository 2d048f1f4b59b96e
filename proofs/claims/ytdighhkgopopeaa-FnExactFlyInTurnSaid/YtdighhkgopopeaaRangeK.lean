/- A range over a function that reads what lies in memory: the rounds keep it. -/
import Derived.Test.YtdighhkgopopeaaRange
namespace Go.Proofs.Ytdighhkgopopeaa
set_option linter.unusedVariables false
open Go.RowKit
section
variable {α : Type}
/-- WHAT AN ITERATOR PROMISES. Before it yields for the first time the heap has come to n blocks: of those that lay when it was called it turns none, and behind that it turns at most its own ones, up to n. What it yields is as told by Ok: 'Ok m B x': x in the world B, all of it at or behind block m; Nx: which one comes next. -/
def IterK (P : Program) (gf : Nat) (lb : Array Value) (enc : α → Array Value) (Ok : Nat → World → α → Prop) (Nx : List α → α → Prop) (S Sp : List α → Prop) (Kp : World → Prop) (W : World) : Prop :=
  ∀ (l : Nat) (J : Nat → List α → World → Prop) (Jx : List α → World → Prop),
    (∀ n pre A, J n pre A → Kp A) →
    (∀ n B, Below W.heap.size W B → B.heap.size = n → J n [] B) →
    (∀ n pre x A B, W.heap.size ≤ n → n ≤ A.heap.size → J n pre A → Out W.heap.size n A B → Ok A.heap.size B x → Nx pre x →
      YieldAt Fence.wide 7 P l (enc x) B fun e C => (e = .returned (.bool true) ∧ J n (pre ++ [x]) C ∧ Ins W.heap.size n B C) ∨ (e = .returned (.bool false) ∧ Jx (pre ++ [x]) C)) →
    CallsIn Fence.wide 8 P gf (#[.func (.yield l) #[] #[]] ++ lb) W fun e D => (∃ v, e = .returned v) ∧
      ((∃ n xs A, W.heap.size ≤ n ∧ n ≤ A.heap.size ∧ S xs ∧ J n xs A ∧ Out W.heap.size n A D) ∨ (∃ pre A, Sp pre ∧ Jx pre A ∧ Below A.heap.size A D))

/-- THE STATEMENT 'for .. := range g { .. }', outermost. -/
theorem wpIn_rangeFunc_K {P : Program} {g : Operand} {ps : Array Tmp} {assign body : Code} {Q : Exit → Act → World → Prop} {a : Act} {w : World}
    {gf : Nat} {lb : Array Value} (hg : a.eval g = .func (.func gf) #[] lb) (eg : ∀ args w, (callFunc gf args).run P w = .ok (.enter gf args) w)
    {enc : α → Array Value} {Ok : Nat → World → α → Prop} {Nx : List α → α → Prop} {S Sp : List α → Prop} {Kp : World → Prop}
    (hit : ∀ W, Below w.heap.size w W → W.heap.size = w.heap.size + 2 → IterK P gf lb enc Ok Nx S Sp Kp W)
    (hKo : ∀ A B, Kp A → Out w.heap.size (w.heap.size + 2) A B → Kp B)
    (hOk : ∀ m B C x, w.heap.size + 2 ≤ m → Ok m B x → Out w.heap.size (w.heap.size + 2) B C → Ok m C x)
    (hps : ∀ x, (enc x).size = ps.size) (I : Nat → List α → World → Prop) (Ix : Code → List α → World → Prop)
    (hIK : ∀ n pre A, I n pre A → Kp A)
    (h0 : ∀ n B, Below w.heap.size w B → w.heap.size + 2 ≤ n → B.heap.size = n → I n [] B) (a₁ : α → Act)
    (hassign : ∀ (l : Nat) (x : α) (W : World) (K : Act → World → Prop), K (a₁ x) W →
      assign.wpIn (Fence.wide.inRound l) 7 P (Exit.then K (fun _ _ _ => False)) { tmps := (ps.zip (enc x)).foldl (fun t (p, v) => t.setIfInBounds p v) a.tmps, defers := [] } W)
    (hbody : ∀ (l n : Nat) (pre : List α) (x : α) (A B : World), w.heap.size + 2 ≤ n → n ≤ A.heap.size → I n pre A → Out w.heap.size n A B → Ok A.heap.size B x → Nx pre x →
      body.wpIn (Fence.wide.inRound l) 7 P (roundV w.heap.size n I Ix (pre ++ [x]) B) (a₁ x) B)
    (hdone : ∀ (n : Nat) (xs : List α) (A W : World), w.heap.size + 2 ≤ n → n ≤ A.heap.size → S xs → I n xs A → Out w.heap.size n A W → W.heap[w.heap.size]? = some (.deferred (some [])) →
      Q .normal { a with defers := { target := .collected w.heap.size, args := #[] } :: a.defers } W)
    (hstop : ∀ (c : Code) (pre : List α) (A W : World), Sp pre → Ix c pre A → Out w.heap.size (w.heap.size + 2) A W → W.heap[w.heap.size]? = some (.deferred (some [])) →
      c.wpIn Fence.wide 9 P Q { a with defers := { target := .collected w.heap.size, args := #[] } :: a.defers } W) :
    (Code.rangeFunc g ps assign body).wpIn Fence.wide 9 P Q a w := by
  refine wpIn_rangeFunc ?_
  intro fn hfn
  obtain ⟨rc, hrc⟩ : ∃ rc : LoopState → Option Code → Loop, rc = fun st pe => { state := st, pending := pe, fn, tmps := a.tmps, params := ps, assign, body, defers := w.heap.size } := ⟨_, rfl⟩
  obtain ⟨W1, hW1⟩ : ∃ W1, (w.alloc (.deferred (some []))).alloc (.loop (rc .ready none)) = W1 := ⟨_, rfl⟩
  have hs1 : W1.heap.size = w.heap.size + 2 := by rw [← hW1]; simp
  have hL1 : W1.heap[w.heap.size + 1]? = some (.loop (rc .ready none)) := by rw [← hW1]; exact heap_new (by simp)
  have hD1 : W1.heap[w.heap.size]? = some (.deferred (some [])) := by rw [← hW1]; exact heap_kept (heap_new rfl)
  have hb1 : Below w.heap.size w W1 := by rw [← hW1]; exact ((Below.refl _ w).alloc (Nat.le_refl _) _).alloc (by simp) _
  refine ⟨w.heap.size + 1, [{ target := .collected w.heap.size, args := #[] }], W1, { target := .fn (.func gf) lb, args := #[.func (.yield (w.heap.size + 1)) #[] #[]] }, W1, gf,
    #[.func (.yield (w.heap.size + 1)) #[] #[]] ++ lb, W1, ?_, ?_, fun f' _ => trivial, ?_, fun _ => by omega, ?_⟩
  · rw [← hW1, hrc]; exact run_enterLoop_outer _ _ _ _ _
  · simp only [resolve, hg]
    simp [go_sem]
  · simp [invoke, go_sem, eg]
  · have hrun := hit W1 hb1 hs1 (w.heap.size + 1)
      (fun n pre A => ∃ A', I n pre A' ∧ A'.heap.size = A.heap.size ∧ Out w.heap.size (w.heap.size + 2) A' A ∧ A.heap[w.heap.size + 1]? = some (.loop (rc .ready none)) ∧ A.heap[w.heap.size]? = some (.deferred (some [])))
      (fun pre A => ∃ c A', Ix c pre A' ∧ Out w.heap.size (w.heap.size + 2) A' A ∧ A.heap[w.heap.size + 1]? = some (.loop (rc .done (some c))) ∧ A.heap[w.heap.size]? = some (.deferred (some [])))
      (fun n pre A ⟨A', hI, _, ho, _, _⟩ => hKo A' A (hIK n pre A' hI) ho)
      (fun n B hb hn => ⟨B, h0 n B ⟨hb.os.trans hb1.os, hb.tape.trans hb1.tape, hb.output.trans hb1.output, Nat.le_trans hb1.size hb.size, fun k hk => (hb.block k (by omega)).trans (hb1.block k hk)⟩ (by have := hb.size; omega) hn, rfl, Out.refl _ _ _,
        (hb.block _ (by omega)).trans hL1, (hb.block _ (by omega)).trans hD1⟩)
      ?_
    · refine hrun.mono ?_
      rintro e D ⟨⟨v, rfl⟩, (⟨n, xs, A, hn1, hn2, hS, ⟨A', hI, hz, ho', hl, hd⟩, ho⟩ | ⟨pre, A, hSp, ⟨c, A', hI, ho', hl, hd⟩, ho⟩)⟩
      · have hl' := (ho.block _ (lt_of_heap hl) (.inl (by omega))).trans hl
        have hd' := (ho.block _ (lt_of_heap hd) (.inl (by omega))).trans hd
        refine ⟨none, _, by have := run_endLoop (P := P) hl' (by rw [hrc]; simp); rw [hrc] at this; exact this, ?_⟩
        exact hdone n xs A' _ (by omega) (by omega) hS hI (((ho'.widen (Nat.le_refl _) (by omega)).trans (ho.widen (by omega) (Nat.le_refl _))).trans (Out.putObj _ _ _ (by omega) (by omega) _)) ((World.putObj_heap_other (by omega)).trans hd')
      · have hl' := (ho.block _ (lt_of_heap hl)).trans hl
        have hd' := (ho.block _ (lt_of_heap hd)).trans hd
        refine ⟨some c, _, by have := run_endLoop (P := P) hl' (by rw [hrc]; simp); rw [hrc] at this; exact this, ?_⟩
        exact hstop c pre A' _ hSp hI ((ho'.trans (Out.ofBelow _ _ ho)).trans (Out.putObj _ _ _ (by omega) (by omega) _)) ((World.putObj_heap_other (by omega)).trans hd')
    · rintro n pre x A B hn1 hn2 ⟨A', hI, hz, ho', hl, hd⟩ ho hok hnx
      have hlB := (ho.block _ (lt_of_heap hl) (.inl (by omega))).trans hl
      have hdB := (ho.block _ (lt_of_heap hd) (.inl (by omega))).trans hd
      have hltB := lt_of_heap hlB
      have hy := run_yield (P := P) (args := enc x) hlB (by rw [hrc]; exact hps x)
      rw [hrc] at hy
      refine ⟨fn, _, assign, body, hy, roundIn_of_wpIn hfn (hassign _ x B _ ⟨_, run_beginRound hlB (by rw [hrc]), ?_⟩)⟩
      obtain ⟨B2, hB2⟩ : ∃ B2, B.putObj (w.heap.size + 1) (.loop { rc .ready none with state := .busy }) = B2 := ⟨_, rfl⟩
      have e2 : ({ rc .ready none with state := .busy } : Loop) = rc .busy none := by rw [hrc]
      rw [e2] at hB2
      rw [e2, hB2]
      have hlB2 : B2.heap[w.heap.size + 1]? = some (.loop (rc .busy none)) := by rw [← hB2]; exact World.putObj_heap_same hltB
      have hdB2 : B2.heap[w.heap.size]? = some (.deferred (some [])) := by rw [← hB2]; exact (World.putObj_heap_other (by omega)).trans hdB
      have hoB2 : Out w.heap.size (w.heap.size + 2) B B2 := by rw [← hB2]; exact Out.putObj _ _ _ (by omega) (by omega) _
      have hzB2 : B2.heap.size = B.heap.size := by rw [← hB2]; simp
      have insB2 : ∀ k, k ≠ w.heap.size + 1 → B2.heap[k]? = B.heap[k]? := fun k hk => by rw [← hB2]; exact World.putObj_heap_other hk
      refine wpIn_mono (hbody _ n pre x A' B2 (by omega) (by omega) hI (((ho'.widen (Nat.le_refl _) (by omega)).trans (ho.widen (by omega) (Nat.le_refl _))).trans (hoB2.widen (Nat.le_refl _) (by omega))) (hOk _ _ _ _ (by omega) (by rw [hz]; exact hok) hoB2) hnx) ?_
      have fin : ∀ (jump : Option Code) (C : World), C.heap[w.heap.size + 1]? = some (.loop (rc .busy none)) →
          (Instr.endRound (w.heap.size + 1) jump).run P C = .ok (.bool jump.isNone) (C.putObj (w.heap.size + 1) (.loop (rc (if jump.isNone then .ready else .done) jump))) := fun jump C hC => by
        have := run_endRound (P := P) jump hC
        rw [hrc] at this ⊢
        exact this
      rintro e a3 C hp
      cases e with
      | normal =>
        obtain ⟨hin, hI3⟩ := hp
        have hlC := (hin.block (w.heap.size + 1) (by omega) (by omega)).trans hlB2
        have hdC := (hin.block w.heap.size (by omega) (by omega)).trans hdB2
        refine ⟨_, _, fin none C hlC, .inl ⟨rfl, ⟨C, hI3, by simp, Out.putObj _ _ _ (by omega) (by omega) _, World.putObj_heap_same (lt_of_heap hlC), (World.putObj_heap_other (by omega)).trans hdC⟩, ?_, ?_⟩⟩
        · have := hin.size; simp; omega
        · intro k h1 h2
          rw [World.putObj_heap_other (by omega), hin.block k (by omega) h2, insB2 k (by omega)]
      | ret =>
        obtain ⟨hin, hI3⟩ := hp
        have hlC := (hin.block (w.heap.size + 1) (by omega) (by omega)).trans hlB2
        have hdC := (hin.block w.heap.size (by omega) (by omega)).trans hdB2
        exact ⟨_, _, fin (some .ret) C hlC, .inr ⟨rfl, .ret, C, hI3, Out.putObj _ _ _ (by omega) (by omega) _, World.putObj_heap_same (lt_of_heap hlC), (World.putObj_heap_other (by omega)).trans hdC⟩⟩
      | exit id =>
        obtain ⟨hin, hI3⟩ := hp
        have hlC := (hin.block (w.heap.size + 1) (by omega) (by omega)).trans hlB2
        have hdC := (hin.block w.heap.size (by omega) (by omega)).trans hdB2
        exact ⟨_, _, fin (some (.exit id)) C hlC, .inr ⟨rfl, .exit id, C, hI3, Out.putObj _ _ _ (by omega) (by omega) _, World.putObj_heap_same (lt_of_heap hlC), (World.putObj_heap_other (by omega)).trans hdC⟩⟩
      | goto t =>
        obtain ⟨hin, hI3⟩ := hp
        have hlC := (hin.block (w.heap.size + 1) (by omega) (by omega)).trans hlB2
        have hdC := (hin.block w.heap.size (by omega) (by omega)).trans hdB2
        exact ⟨_, _, fin (some (.goto t)) C hlC, .inr ⟨rfl, .goto t, C, hI3, Out.putObj _ _ _ (by omega) (by omega) _, World.putObj_heap_same (lt_of_heap hlC), (World.putObj_heap_other (by omega)).trans hdC⟩⟩
      | panic ch => exact hp.elim
      | outgrown => exact hp.elim
/-- The same where the function is walked in the plain way. -/
theorem wp_rangeFunc_K {P : Program} {g : Operand} {ps : Array Tmp} {assign body : Code} {Q : Exit → Act → World → Prop} {a : Act} {w : World}
    {gf : Nat} {lb : Array Value} (hg : a.eval g = .func (.func gf) #[] lb) (eg : ∀ args w, (callFunc gf args).run P w = .ok (.enter gf args) w)
    {enc : α → Array Value} {Ok : Nat → World → α → Prop} {Nx : List α → α → Prop} {S Sp : List α → Prop} {Kp : World → Prop}
    (hit : ∀ W, Below w.heap.size w W → W.heap.size = w.heap.size + 2 → IterK P gf lb enc Ok Nx S Sp Kp W)
    (hKo : ∀ A B, Kp A → Out w.heap.size (w.heap.size + 2) A B → Kp B)
    (hOk : ∀ m B C x, w.heap.size + 2 ≤ m → Ok m B x → Out w.heap.size (w.heap.size + 2) B C → Ok m C x)
    (hps : ∀ x, (enc x).size = ps.size) (I : Nat → List α → World → Prop) (Ix : Code → List α → World → Prop)
    (hIK : ∀ n pre A, I n pre A → Kp A)
    (h0 : ∀ n B, Below w.heap.size w B → w.heap.size + 2 ≤ n → B.heap.size = n → I n [] B) (a₁ : α → Act)
    (hassign : ∀ (l : Nat) (x : α) (W : World) (K : Act → World → Prop), K (a₁ x) W →
      assign.wpIn (Fence.wide.inRound l) 7 P (Exit.then K (fun _ _ _ => False)) { tmps := (ps.zip (enc x)).foldl (fun t (p, v) => t.setIfInBounds p v) a.tmps, defers := [] } W)
    (hbody : ∀ (l n : Nat) (pre : List α) (x : α) (A B : World), w.heap.size + 2 ≤ n → n ≤ A.heap.size → I n pre A → Out w.heap.size n A B → Ok A.heap.size B x → Nx pre x →
      body.wpIn (Fence.wide.inRound l) 7 P (roundV w.heap.size n I Ix (pre ++ [x]) B) (a₁ x) B)
    (hdone : ∀ (n : Nat) (xs : List α) (A W : World), w.heap.size + 2 ≤ n → n ≤ A.heap.size → S xs → I n xs A → Out w.heap.size n A W → W.heap[w.heap.size]? = some (.deferred (some [])) →
      Q .normal { a with defers := { target := .collected w.heap.size, args := #[] } :: a.defers } W)
    (hstop : ∀ (c : Code) (pre : List α) (A W : World), Sp pre → Ix c pre A → Out w.heap.size (w.heap.size + 2) A W → W.heap[w.heap.size]? = some (.deferred (some [])) →
      c.wp P Q { a with defers := { target := .collected w.heap.size, args := #[] } :: a.defers } W) :
    (Code.rangeFunc g ps assign body).wp P Q a w :=
  (wpIn_wide (n := 9)).1 (wpIn_rangeFunc_K hg eg hit hKo hOk hps I Ix hIK h0 a₁ hassign hbody hdone (fun c pre A W h1 h2 h3 h4 => wpIn_wide.2 (hstop c pre A W h1 h2 h3 h4)))
end
end Go.Proofs.Ytdighhkgopopeaa
