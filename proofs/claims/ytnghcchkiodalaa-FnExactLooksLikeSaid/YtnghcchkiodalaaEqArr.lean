/- Arrays that are compared. -/
import Derived.Test.YtnghcchkiodalaaInts
import Derived.Laws.StructEq
namespace Go.Proofs.Ytnghcchkiodalaa
open Go.RowKit
theorem run_part_k {P : Program} {e : TypeId} {kd : IntKind} (hE : P.underlying e = some (.int kd)) (hi' : (P.info? e).map (·.size) = some 1) (xs : List Int) (i : Nat) (h : i < xs.length) (w : World) :
    (part e (kCells kd xs) (i * 1)).run P w = .ok (.int kd (xs.getD i 0)) w := by
  have hb := kCells_get kd xs i h
  obtain ⟨i0, hi, hs⟩ := Option.map_eq_some_iff.1 hi'
  simp [part, isAgg, run_underlying hE, hb, go_sem]
def sameFrom (xs ys : List Int) (s : Nat) : Nat → Bool
  | 0 => true
  | m + 1 => if (xs.getD s 0 == ys.getD s 0) = true then sameFrom xs ys (s + 1) m else false
theorem sameFrom_iff (xs ys : List Int) (m s : Nat) : sameFrom xs ys s m = true ↔ ∀ i, s ≤ i → i < s + m → xs.getD i 0 = ys.getD i 0 := by
  induction m generalizing s with
  | zero => simp only [sameFrom, true_iff]; intro i h1 h2; omega
  | succ m ih =>
    simp only [sameFrom]
    constructor
    · intro h i h1 h2
      split at h
      · rename_i he
        by_cases e : i = s
        · rw [e]; simpa using he
        · exact (ih (s + 1)).1 h i (by omega) (by omega)
      · cases h
    · intro h
      rw [if_pos (by simpa using h s (Nat.le_refl _) (by omega))]
      exact (ih (s + 1)).2 (fun i h1 h2 => h i (by omega) (by omega))
theorem run_equalIn_cells {P : Program} (w : World) (d : Nat) (t e : TypeId) (n : Nat) (kd : IntKind) (xs ys : List Int) (ht : P.underlying t = some (.array n e)) (hE : P.underlying e = some (.int kd)) (hi' : (P.info? e).map (·.size) = some 1) (hx : xs.length = n) (hy : ys.length = n) :
    (Op.equalIn (d + 2) t (.agg (kCells kd xs)) (.agg (kCells kd ys))).run P w = .ok (sameFrom xs ys 0 n) w := by
  have h3 := fun a b => run_equalIn_int (P := P) w d e kd kd a b hE
  show (Op.equalIn (d + 1 + 1) t _ _).run P w = _
  generalize d + 1 = D at *
  obtain ⟨i0, hi, hs⟩ := Option.map_eq_some_iff.1 hi'
  have hsz : (sizeOf e).run P w = .ok 1 w := by simp [sizeOf, typeInfo, hi, hs]
  simp only [Op.equalIn, Sem.run_bind, run_underlying ht, Result.andThen_ok, hsz]
  rw [Std.Legacy.Range.forIn_eq_forIn_range']
  simp only [Std.Legacy.Range.size, Nat.sub_zero, Nat.add_sub_cancel, Nat.div_one]
  have key : ∀ m s, s + m = n → (forIn (List.range' s m) (((none : Option Bool), ()) : Option Bool × Unit) (fun i __s => do
              let __do_lift ← part e (kCells kd xs) (i * 1)
              let __do_lift_1 ← part e (kCells kd ys) (i * 1)
              let __do_lift ← Op.equalIn D e __do_lift __do_lift_1
              if (!__do_lift) = true then pure (ForInStep.done (some false, ())) else pure (ForInStep.yield (none, ()))) : Sem (Option Bool × Unit)).run P w = .ok (if sameFrom xs ys s m = true then (none, ()) else (some false, ())) w := by
    intro m
    induction m with
    | zero => intro s _; simp [sameFrom]
    | succ m ih =>
      intro s hs'
      have h1 := run_part_k hE hi' xs s (by omega) w
      have h2 := run_part_k hE hi' ys s (by omega) w
      simp only [List.range'_succ, List.forIn_cons, Sem.run_bind, h1, h2, h3, Result.andThen_ok]
      cases hb : (xs.getD s 0 == ys.getD s 0)
      · simp only [Bool.not_false, if_true, Sem.run_pure, Result.andThen_ok, sameFrom, hb, Bool.false_eq_true, if_false]
      · simp only [Bool.not_true, Bool.false_eq_true, if_false, Sem.run_pure, Result.andThen_ok, sameFrom, hb, if_true]
        exact ih (s + 1) (by omega)
  rw [key n 0 (by omega)]
  simp only [Result.andThen_ok]
  cases sameFrom xs ys 0 n <;> simp
/-- '==' of two arrays of bytes. -/
theorem run_eql_bytes {P : Program} {t e : TypeId} {n : Nat} (ht : P.underlying t = some (.array n e)) (hE : P.underlying e = some (.int .u8)) (hi' : (P.info? e).map (·.size) = some 1) (xs ys : List Int) (hx : xs.length = n) (hy : ys.length = n) (w : World) :
    (binOp .eql t (.agg (byteCells xs)) (.agg (byteCells ys))).run P w = .ok (.bool (sameFrom xs ys 0 n)) w := by
  rw [run_eql_struct]
  have h := run_equalIn_cells (P := P) w 9998 t e n .u8 xs ys ht hE hi' hx hy
  have e1 : byteCells xs = kCells .u8 xs := rfl
  have e2 : byteCells ys = kCells .u8 ys := rfl
  rw [e1, e2, h]
  rfl
end Go.Proofs.Ytnghcchkiodalaa
