/- Logs: the flights' cells; which flight a signal belongs to, as a map. -/
import Derived.Test.YtnkoakneffjkbaaDoorFlyM
import Derived.Maps.OwnSet
namespace Go.Proofs.YtnkoakneffjkbaaDoor
set_option linter.unusedVariables false
open Go.RowKit Go.Maps
def flCells : List (Int × Int) → List Value
  | [] => []
  | p :: r => .int .i64 p.1 :: .int .i64 p.2 :: flCells r
theorem flCells_length : ∀ F, (flCells F).length = F.length * 2
  | [] => rfl
  | p :: r => by simp [flCells, flCells_length r]; omega
theorem flCells_append : ∀ F G, flCells (F ++ G) = flCells F ++ flCells G
  | [], _ => rfl
  | p :: r, G => by simp [flCells, flCells_append r G]
def flAt (F : List (Int × Int)) (i : Nat) : Int × Int := F.getD i (0, 0)
theorem flCells_set : ∀ (F : List (Int × Int)) (i : Nat) (y : Int), i < F.length → (flCells F).set (i * 2 + 1) (.int .i64 y) = flCells (F.set i ((flAt F i).1, y))
  | [], i, y, h => by simp at h
  | p :: r, 0, y, h => by simp [flCells, flAt]
  | p :: r, i + 1, y, h => by
    have e : (i + 1) * 2 + 1 = (i * 2 + 1) + 1 + 1 := by omega
    rw [e]
    simp only [flCells, List.set_cons_succ]
    rw [flCells_set r i y (by simpa using h)]
    simp [flAt]
theorem flCells_elem : ∀ (F : List (Int × Int)) (i : Nat), i < F.length → ((flCells F).drop (i * 2)).take 2 = [.int .i64 (flAt F i).1, .int .i64 (flAt F i).2]
  | [], i, h => by simp at h
  | p :: r, 0, h => by simp [flCells, flAt]
  | p :: r, i + 1, h => by
    have e : (i + 1) * 2 = i * 2 + 1 + 1 := by omega
    rw [e]
    simp only [flCells, List.drop_succ_cons]
    rw [flCells_elem r i (by simpa using h)]
    simp [flAt]
theorem flCells_get (F : List (Int × Int)) (i : Nat) (h : i < F.length) : (flCells F)[i * 2]? = some (.int .i64 (flAt F i).1) ∧ (flCells F)[i * 2 + 1]? = some (.int .i64 (flAt F i).2) := by
  have h1 := flCells_elem F i h
  have e0 : ((flCells F).drop (i * 2)).take 2 = ((flCells F).drop (i * 2)).take 2 := rfl
  have g0 := congrArg (fun l => l[0]?) h1
  have g1 := congrArg (fun l => l[1]?) h1
  simp only [List.getElem?_take, List.getElem?_drop] at g0 g1
  exact ⟨by simpa using g0, by simpa using g1⟩
/-- Which flight a signal belongs to that is up. -/
def UpMap (D : DataW Unit) (u : Int → Option Nat) : Prop := IsMap D ∧ ∀ x, has D (.int .i64 x) = (u x).isSome ∧ ∀ i, u x = some i → D.atKey (.int .i64 x) (.lit (.int .i64 0)) = .lit (.int .i64 (i : Int))
theorem key_lit (x : Int) : WideAt.IsKeyLit (.int .i64 x) := by simp [WideAt.IsKeyLit]
theorem UpMap.nil : UpMap (.map []) (fun _ => none) := ⟨isMap_empty, fun x => ⟨rfl, fun i h => by cases h⟩⟩
theorem UpMap.put {D : DataW Unit} {u : Int → Option Nat} (h : UpMap D u) (s : Int) (i : Nat) : UpMap (D.put (.int .i64 s) (.lit (.int .i64 (i : Int)))) (fun x => if x = s then some i else u x) := by
  refine ⟨h.1.put _ _, fun x => ?_⟩
  by_cases hx : x = s
  · subst hx
    refine ⟨by rw [has_put_same h.1 (key_lit x)]; simp, fun j hj => ?_⟩
    simp only [if_true, Option.some.injEq] at hj
    rw [atKey_put_same h.1 (key_lit x), hj]
  · have hne : (Lit.int .i64 x) ≠ .int .i64 s := fun e => hx (by cases e; rfl)
    refine ⟨by rw [has_put_other hne, (h.2 x).1]; simp [hx], fun j hj => ?_⟩
    simp only [if_neg hx] at hj
    rw [atKey_put_other hne]
    exact (h.2 x).2 j hj
theorem UpMap.del {D : DataW Unit} {u : Int → Option Nat} (h : UpMap D u) (s : Int) : UpMap (D.del (.int .i64 s)) (fun x => if x = s then none else u x) := by
  refine ⟨h.1.del _, fun x => ?_⟩
  by_cases hx : x = s
  · subst hx
    refine ⟨by rw [has_del_same]; simp, fun j hj => ?_⟩
    simp at hj
  · have hne : (Lit.int .i64 x) ≠ .int .i64 s := fun e => hx (by cases e; rfl)
    refine ⟨by rw [has_del_other hne, (h.2 x).1]; simp [hx], fun j hj => ?_⟩
    simp only [if_neg hx] at hj
    rw [atKey_del_other hne]
    exact (h.2 x).2 j hj
theorem flyTo_yes {es : List En} {k i : Nat} (h : (flyTo es k).u (enAt es k).s = some i) : flyTo es (k + 1) = ⟨fun x => if x = (enAt es k).s then none else (flyTo es k).u x, (flyTo es k).F.set i ((flAt (flyTo es k).F i).1, (k : Int))⟩ := by
  rw [flyTo]; unfold flyStep; rw [h]; rfl
theorem flyTo_no {es : List En} {k : Nat} (h : (flyTo es k).u (enAt es k).s = none) : flyTo es (k + 1) = ⟨fun x => if x = (enAt es k).s then some (flyTo es k).F.length else (flyTo es k).u x, (flyTo es k).F ++ [((k : Int), -1)]⟩ := by
  rw [flyTo]; unfold flyStep; rw [h]
/-- The first one that is not so. -/
def firstNo (p : Nat → Bool) : Nat → Nat
  | 0 => 0
  | n + 1 => if allTo p n = true then n else firstNo p n
theorem firstNo_eq {p : Nat → Bool} {k : Nat} (h : allTo p k = true) (hp : p k = false) : ∀ n, k < n → firstNo p n = k
  | 0, hk => by omega
  | n + 1, hk => by
    rw [firstNo]
    by_cases hkn : k = n
    · subst hkn; rw [if_pos h]
    · rw [if_neg (by rw [allTo_no (i := k) (by omega) hp]; simp)]
      exact firstNo_eq h hp n (by omega)
/-- What the panic tells. -/
def badX (es : List En) : Int := if es.length ≤ 60 then (firstNo (goodE es) es.length : Int) else 60
end Go.Proofs.YtnkoakneffjkbaaDoor
