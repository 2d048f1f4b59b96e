/- FlagsIn, SubsIn: the functions. -/
import Derived.Test.YtdighhkgopopeaaHoistT
import Derived.Test.YtdighhkgopopeaaCols
namespace Go.Proofs.Ytdighhkgopopeaa
set_option linter.unusedVariables false
open Go.RowKit
set_option maxRecDepth 100000 in
set_option maxHeartbeats 1000000 in
theorem count_any (a : Option Addr) (n cap : Nat) (xs : List Int) (hn : n = xs.length) (hm : n ≤ 1048576) (c : Int) (w : World) (hs : SliceOf .i8 w a xs) :
    Calls Try.prog 45 #[.slice a n cap, .int .i8 c] w fun e w' => e = .returned (.int .i64 (occ xs c n)) ∧ w = w' := by
  have S := hid hs
  have HN := hid hn
  clear hs hn
  go_enter Try.func45, Try.ntmps45
  go_wp2
  go_loop [5, 10] (fun q i => ∃ k : Nat, k ≤ n ∧ i = .int .i64 k ∧ q = .int .i64 (occ xs c k)) (fun _ i => n - (intOf i).toNat)
  case atStart => exact ⟨0, Nat.zero_le _, rfl, rfl⟩
  case round =>
    obtain ⟨k, hk, rfl, rfl⟩ := hrel
    by_cases hlt : k < n
    · obtain ⟨b, off, rfl, hc⟩ := S.out k (by rw [← HN.out]; exact hlt)
      obtain ⟨b0, b1⟩ := occ_bd xs c k
      cases hx : (xs.getD k 0 == c)
      · have HO := hid (occ_no (h := xs) (c := c) (k := k) (by simpa using hx))
        generalize xs.getD k 0 = x at *
        generalize occ xs c k = q at *
        go_wp2
        go_round
        case rel => exact ⟨k + 1, by omega, by go_num, by rw [HO.out]⟩
        case measure => simp [intOf] <;> omega
      · have HO := hid (occ_yes (h := xs) (c := c) (k := k) (by simpa using hx))
        generalize xs.getD k 0 = x at *
        generalize occ xs c k = q at *
        go_wp2
        go_round
        case rel => exact ⟨k + 1, by omega, by go_num, by rw [HO.out]⟩
        case measure => simp [intOf] <;> omega
    · have hkn : k = n := by omega
      have HK := hid hkn
      clear hkn
      go_wp2
      go_ret
      exact ⟨ret_int (by rw [HK.out]), rfl⟩
/-- Which numbers a valid hoist has. -/
theorem validH_num {xs : List Int} (hv : validH xs = true) {k : Nat} (hk : k < xs.length) : xs.getD k 0 = -10 ∨ (-4 ≤ xs.getD k 0 ∧ xs.getD k 0 ≤ -1) ∨ (0 ≤ xs.getD k 0 ∧ xs.getD k 0 ≤ 39) := by
  have h := validH_at hv hk
  by_cases hb : xs.getD k 0 = -10
  · exact .inl hb
  · cases hs : subI (xs.getD k 0)
    · exact .inr (.inr (okAt_kind h hb hs))
    · exact .inr (.inl (subI_iff.1 hs))

theorem results_cells1 {P : Program} {fn : Func} {p : Tmp} {ty : TypeId} (h : fn.results = #[.cell p ty]) (tmps : Array Value) (w : World) (g : Nat) (cs : Array Value) (t e : TypeId) (n : Nat)
    (hp : tmps.getD p undef = .pointer (some ⟨g, 0, none⟩)) (hg : w.heap[g]? = some (.cells cs t (0, 0)))
    (hu : P.underlying ty = some (.array n e)) (hi : (P.info? ty).map (·.size) = some n) (hl : cs.size = n) :
    (results fn tmps).run P w = .ok (.agg cs) w :=
  results_cell_row h tmps w g t _ (0, 0) _ hp hg hu rfl (by rw [hl]; exact hi)

def zeros40 : List Int := List.replicate 40 0
def flagsF (xs : List Int) : List Int := if validH xs then colL 40 (fun c => (c : Int)) xs xs.length else zeros40
theorem flagsF_length (xs : List Int) : (flagsF xs).length = 40 := by
  unfold flagsF
  split
  · exact colL_length _ _ _ _
  · simp [zeros40]
theorem flagsF_yes {xs : List Int} (h : validH xs = true) : flagsF xs = colL 40 (fun c => (c : Int)) xs xs.length := by unfold flagsF; rw [if_pos h]
theorem flagsF_no {xs : List Int} (h : validH xs = false) : flagsF xs = zeros40 := by unfold flagsF; rw [if_neg (by rw [h]; simp)]
def zeros4 : List Int := List.replicate 4 0
def subsF (xs : List Int) : List Int := if validH xs then colL 4 (fun c => -(c : Int) - 1) xs xs.length else zeros4
theorem subsF_length (xs : List Int) : (subsF xs).length = 4 := by
  unfold subsF
  split
  · exact colL_length _ _ _ _
  · simp [zeros4]
theorem subsF_yes {xs : List Int} (h : validH xs = true) : subsF xs = colL 4 (fun c => -(c : Int) - 1) xs xs.length := by unfold subsF; rw [if_pos h]
theorem subsF_no {xs : List Int} (h : validH xs = false) : subsF xs = zeros4 := by unfold subsF; rw [if_neg (by rw [h]; simp)]
end Go.Proofs.Ytdighhkgopopeaa
