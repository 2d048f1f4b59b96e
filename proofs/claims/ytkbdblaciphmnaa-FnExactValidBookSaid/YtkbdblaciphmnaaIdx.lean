/- Where each phrase is: the program's map. -/
import Derived.Test.YtkbdblaciphmnaaPhrS
import Derived.Maps.OwnSet
namespace Go.Proofs.Ytkbdblaciphmnaa
set_option linter.unusedVariables false
open Go.RowKit Go.Maps
theorem lawStr : Keyed Try.prog 9 := string_keyed Try.underlying9
theorem zeroInt64 (w : World) : (zeroValue 2).run Try.prog w = .ok (.int .i64 0) w := by kernel_rfl
theorem wf_small {k : Nat} (h : k ≤ 9223372036854775807) : (Lit.int .i64 (k : Int)).wf = true := by
  simp [Lit.wf, IntKind.min, IntKind.max, IntKind.signed, IntKind.bits]
  omega
def strLit (x : ByteArray) : Lit := .string x.data.toList
theorem strLit_inj {x y : ByteArray} (h : strLit x = strLit y) : x = y := by
  unfold strLit at h
  simp only [Lit.string.injEq] at h
  cases x; cases y
  simp at h
  rw [h]
theorem strLit_key (x : ByteArray) : WideAt.IsKeyLit (strLit x) := by simp [strLit, WideAt.IsKeyLit]
/-- A map of texts, as a function; how many there are. -/
structure StMap (D : DataW Unit) (u : ByteArray → Option Nat) (c : Nat) : Prop where
  map : IsMap D
  has_ : ∀ x, has D (strLit x) = (u x).isSome
  at_ : ∀ x i, u x = some i → D.atKey (strLit x) (.lit (.int .i64 0)) = .lit (.int .i64 (i : Int))
  size : Maps.size D = c
theorem StMap.nil : StMap (.map []) (fun _ => none) 0 := ⟨isMap_empty, fun _ => rfl, fun x i h => (by cases h), rfl⟩
theorem StMap.put {D : DataW Unit} {u : ByteArray → Option Nat} {c : Nat} (h : StMap D u c) (ht : Tidy D) (s : ByteArray) (i : Nat) : StMap (D.put (strLit s) (.lit (.int .i64 (i : Int)))) (fun x => if x = s then some i else u x) (if (u s).isSome then c else c + 1) := by
  refine ⟨h.map.put _ _, fun x => ?_, fun x j hj => ?_, ?_⟩
  · by_cases hx : x = s
    · subst hx
      rw [has_put_same h.map (strLit_key x)]; simp
    · have hne : strLit x ≠ strLit s := fun e => hx (strLit_inj e)
      rw [has_put_other hne, h.has_ x]; simp [hx]
  · by_cases hx : x = s
    · subst hx
      simp only [if_true, Option.some.injEq] at hj
      rw [atKey_put_same h.map (strLit_key x), hj]
    · have hne : strLit x ≠ strLit s := fun e => hx (strLit_inj e)
      simp only [if_neg hx] at hj
      rw [atKey_put_other hne]
      exact h.at_ x j hj
  · rw [size_put ht, h.has_ s, h.size]
/-- What the loop keeps. -/
structure IdxI (w : World) (ss : List ByteArray) (k : Nat) (D : DataW Unit) (wr : World) : Prop where
  map : wr.ownsMap Try.prog 9 (plainElem Try.prog 2) w.heap.size k D
  rep : StMap D (lastTo ss k) (cntD ss k)
  gr : Gr w wr
theorem IdxI.start (w : World) (ss : List ByteArray) : IdxI w ss 0 (.map []) (w.alloc (.map #[] 0)) :=
  ⟨World.ownsMap_made _ _ _ _, StMap.nil, (Gr.refl w).alloc _⟩
def IdxPost (ss : List ByteArray) (n : Nat) (w : World) (e : Ending) (w' : World) : Prop :=
  e = .returned (.map (some w.heap.size)) ∧ ∃ D, IdxI w ss n D w'
set_option maxRecDepth 100000 in
set_option maxHeartbeats 2000000 in
theorem indicesOf_any (a : Option Addr) (cap n : Nat) (ss : List ByteArray) (hl : n = ss.length) (hn : n ≤ 1048576) (hz : SizesOk ss) (w : World) (hs : StrsOf w a ss) :
    Calls Try.prog 51 #[.slice a n cap] w (IdxPost ss n w) := by
  have hmm := @run_makeMap Try.prog
  have HS := hid hs
  have HL := hid hl
  have HK := hid (fun k => show keyOf Try.prog 9 (.string (strAt ss k)) = some (strLit (strAt ss k)) from Go.WideMaps.keyOf_string_mk Try.underlying9 (by have := hz k; unfold maxLen; omega))
  clear hs hl hz
  go_enter Try.func51, Try.ntmps51
  go_wp2_with fail
  go_loopw [9] (fun i wr => ∃ (k : Nat) (D : DataW Unit), k ≤ n ∧ i = .int .i64 k ∧ Hid (IdxI w ss k D wr)) (fun i _ => n - (intOf i).toNat)
  case atStart => exact ⟨0, .map [], Nat.zero_le _, rfl, hid (IdxI.start w ss)⟩
  case round =>
    obtain ⟨k, D, hk, rfl, I⟩ := hrel
    by_cases hlt : k < n
    · obtain ⟨b0, o0, rfl, h0⟩ := HS.out k (by rw [← HL.out]; exact hlt)
      have hc0 := I.out.gr.cell h0
      have HKK := hid (HK.out k)
      have HKI := hid (show ∀ wr', wr'.ownsMap Try.prog 9 (plainElem Try.prog 2) w.heap.size (k + 1) (D.put (strLit (strAt ss k)) (.lit (.int .i64 (k : Int)))) → wr.grownBy wr' (some w.heap.size) → IdxI w ss (k + 1) (D.put (strLit (strAt ss k)) (.lit (.int .i64 (k : Int)))) wr' from fun wr' h1 h2 =>
        ⟨h1, I.out.rep.put (I.out.map.tidy lawStr) (strAt ss k) k, I.out.gr.by_ h2 (fun b e => by cases e; exact Nat.le_refl _)⟩)
      have HMP := hid I.out.map
      have HPL := hid (show plainElem (H := Unit) Try.prog 2 (.int .i64 (k : Int)) = some (.lit (.int .i64 (k : Int)), []) from plainElem_int Try.underlying2 (wf_small (by omega)))
      unfold strAt at HKK HKI
      clear h0 I
      generalize ss.getD k ByteArray.empty = v at *
      go_wp2_with (at_mapUpdate; refine wpList_mapUpdate_own _ rfl _ _ _ 72 rfl 9 2 lawStr Try.underlying72 _ w.heap.size k D rfl HMP.out (by unfold maxLen; omega) _ _ (strLit v) rfl rfl HKK.out _ [] HPL.out ?_)
      intro w1 hown1 hgrow1
      have I1 := hid (HKI.out w1 hown1 hgrow1)
      clear hown1 hgrow1
      go_wp2_with fail
      go_roundw
      case rel => exact ⟨k + 1, _, by omega, by go_num, I1⟩
      case measure => simp [intOf]; omega
    · obtain rfl : k = n := by omega
      go_wp2_with fail
      go_ret
      exact ⟨rfl, D, I.out⟩
end Go.Proofs.Ytkbdblaciphmnaa
