/- FlagsIn, SubsIn: the functions. -/
import Derived.Test.YtkbdblaciphmnaaHoistT
import Derived.Test.YtkbdblaciphmnaaCols
namespace Go.Proofs.Ytkbdblaciphmnaa
set_option linter.unusedVariables false
open Go.RowKit
set_option maxRecDepth 100000 in
set_option maxHeartbeats 1000000 in
theorem count_any (a : Option Addr) (n cap : Nat) (xs : List Int) (hn : n = xs.length) (hm : n ≤ 1048576) (c : Int) (w : World) (hs : SliceOf .i8 w a xs) :
    Calls Try.prog 111 #[.slice a n cap, .int .i8 c] w fun e w' => e = .returned (.int .i64 (occ xs c n)) ∧ w = w' := by
  have S := hid hs
  have HN := hid hn
  clear hs hn
  go_enter Try.func111, Try.ntmps111
  go_wp2
  go_loop [5, 10] (fun q i => ∃ k : Nat, k ≤ n ∧ i = .int .i64 k ∧ q = .int .i64 (occ xs c k)) (fun _ i => n - (intOf i).toNat)
  case atStart => exact ⟨0, Nat.zero_le _, rfl, rfl⟩
  case round =>
    obtain ⟨k, hk, rfl, rfl⟩ := hrel
    by_cases hlt : k < n
    · obtain ⟨b, off, rfl, hc⟩ := S.out k (by rw [← HN.out]; exact hlt)
      obtain ⟨b0, b1⟩ := occ_bd xs c k
      cases hx : (xs.getD k 0 == c)
      · have HO := hid (occ_no (h := xs) (c := c) (k := k) (by simpa using hx))
        generalize xs.getD k 0 = x at *
        generalize occ xs c k = q at *
        go_wp2
        go_round
        case rel => exact ⟨k + 1, by omega, by go_num, by rw [HO.out]⟩
        case measure => simp [intOf] <;> omega
      · have HO := hid (occ_yes (h := xs) (c := c) (k := k) (by simpa using hx))
        generalize xs.getD k 0 = x at *
        generalize occ xs c k = q at *
        go_wp2
        go_round
        case rel => exact ⟨k + 1, by omega, by go_num, by rw [HO.out]⟩
        case measure => simp [intOf] <;> omega
    · have hkn : k = n := by omega
      have HK := hid hkn
      clear hkn
      go_wp2
      go_ret
      exact ⟨ret_int (by rw [HK.out]), rfl⟩
/-- Which numbers a valid hoist has. -/
theorem validH_num {xs : List Int} (hv : validH xs = true) {k : Nat} (hk : k < xs.length) : xs.getD k 0 = -10 ∨ (-4 ≤ xs.getD k 0 ∧ xs.getD k 0 ≤ -1) ∨ (0 ≤ xs.getD k 0 ∧ xs.getD k 0 ≤ 39) := by
  have h := validH_at hv hk
  by_cases hb : xs.getD k 0 = -10
  · exact .inl hb
  · cases hs : subI (xs.getD k 0)
    · exact .inr (.inr (okAt_kind h hb hs))
    · exact .inr (.inl (subI_iff.1 hs))

theorem results_cells1 {P : Program} {fn : Func} {p : Tmp} {ty : TypeId} (h : fn.results = #[.cell p ty]) (tmps : Array Value) (w : World) (g : Nat) (cs : Array Value) (t e : TypeId) (n : Nat)
    (hp : tmps.getD p undef = .pointer (some ⟨g, 0, none⟩)) (hg : w.heap[g]? = some (.cells cs t (0, 0)))
    (hu : P.underlying ty = some (.array n e)) (hi : (P.info? ty).map (·.size) = some n) (hl : cs.size = n) :
    (results fn tmps).run P w = .ok (.agg cs) w :=
  results_cell_row h tmps w g t _ (0, 0) _ hp hg hu rfl (by rw [hl]; exact hi)

def zeros40 : List Int := List.replicate 40 0
theorem builtFlags : Try.prog.built 129 [] = some (kCells .i64 zeros40) := by kernel_rfl
def flagsF (xs : List Int) : List Int := if validH xs then colL 40 (fun c => (c : Int)) xs xs.length else zeros40
theorem flagsF_length (xs : List Int) : (flagsF xs).length = 40 := by
  unfold flagsF
  split
  · exact colL_length _ _ _ _
  · simp [zeros40]
theorem flagsF_yes {xs : List Int} (h : validH xs = true) : flagsF xs = colL 40 (fun c => (c : Int)) xs xs.length := by unfold flagsF; rw [if_pos h]
theorem flagsF_no {xs : List Int} (h : validH xs = false) : flagsF xs = zeros40 := by unfold flagsF; rw [if_neg (by rw [h]; simp)]
set_option maxRecDepth 100000 in
set_option maxHeartbeats 2000000 in
theorem l02Flags_any (a : Option Addr) (n cap : Nat) (xs : List Int) (hn : n = xs.length) (hv : validH xs = true) (w : World) (hs : SliceOf .i8 w a xs) :
    Calls Try.prog 112 #[.slice a n cap] w fun e w' => e = .returned (.agg (kCells .i64 (colL 40 (fun c => (c : Int)) xs n))) ∧ Gr w w' := by
  have S := hid hs
  have HN := hid hn
  have HV := hid hv
  have hm := (validH_len hv).2
  rw [← hn] at hm
  have HCL := hid (colL_length 40 (fun c => (c : Int)) xs n)
  have z1 := hid (heap_new (w := w.alloc (.cells (kCells .i64 zeros40) 129)) (o := (.cells (kCells .i64 zeros40) 129)) (n := w.heap.size + 1) (by simp))
  have b0 : Hid (((((w.alloc (.cells (kCells .i64 zeros40) 129)).alloc (.cells (kCells .i64 zeros40) 129)).setRow (w.heap.size + 1) (kCells .i64 zeros40))).heap[w.heap.size]? = some (.cells (kCells .i64 zeros40) 129 (0, 0))) := hid (heap_row_kept (by omega) (heap_kept (heap_new rfl)))
  have b1 : Hid (((((w.alloc (.cells (kCells .i64 zeros40) 129)).alloc (.cells (kCells .i64 zeros40) 129)).setRow (w.heap.size + 1) (kCells .i64 zeros40))).heap[w.heap.size + 1]? = some (.cells (kCells .i64 zeros40) 129 (0, 0))) := hid (heap_row_set z1.out)
  have gr : Hid (Gr w ((((w.alloc (.cells (kCells .i64 zeros40) 129)).alloc (.cells (kCells .i64 zeros40) 129)).setRow (w.heap.size + 1) (kCells .i64 zeros40)))) := hid ((((Gr.refl w).alloc _).alloc _).setRow (by omega) _)
  clear hs hn hv
  go_enter Try.func112, Try.ntmps112
  go_wp2_with (first | (refine wpList_build_to rfl 129 rfl builtFlags ?_) | (refine wpList_store_cells rfl 129 _ _ rfl _ (kCells .i64 (zeros40)) (kCells .i64 zeros40) rfl rfl _ 40 z1.out (by kernel_rfl) (by rw [kCells_size]; exact rfl) (by rw [kCells_size]; rfl) (kCells_one _ _) ?_))
  go_loopw [4] (fun i wr => ∃ k : Nat, k ≤ n ∧ i = .int .i64 k ∧ Hid (Gr w wr) ∧ Hid (wr.heap[w.heap.size]? = some (.cells (kCells .i64 zeros40) 129 (0, 0))) ∧ Hid (wr.heap[w.heap.size + 1]? = some (.cells (kCells .i64 (colL 40 (fun c => (c : Int)) xs k)) 129 (0, 0)))) (fun i _ => n - (intOf i).toNat)
  case atStart => exact ⟨0, Nat.zero_le _, rfl, gr, b0, hid (by rw [colL_zero]; exact b1.out)⟩
  case round =>
    clear gr b0 b1 z1
    obtain ⟨k, hk, rfl, gr, b0, b1⟩ := hrel
    by_cases hlt : k < n
    · have hlx : k < xs.length := by rw [← HN.out]; exact hlt
      obtain ⟨b, off, rfl, hc0⟩ := S.out k hlx
      have hc := gr.out.cell hc0
      have hnum := validH_num HV.out hlx
      clear hc0 hlx
      rcases hnum with hx | hx | hx
      · have HM := hid (colL_miss (n := 40) (f := (fun c => (c : Int))) (h := xs) (k := k) (fun c _ => by omega))
        rw [hx] at hc
        clear hx
        go_wp2_with fail
        go_roundw
        case rel => exact ⟨k + 1, by omega, by go_num, gr, b0, by rw [HM.out]; exact b1⟩
        case measure => simp [intOf] <;> omega
      · have HM := hid (colL_miss (n := 40) (f := (fun c => (c : Int))) (h := xs) (k := k) (fun c _ => by omega))
        obtain ⟨x0, x1⟩ := hx
        generalize xs.getD k 0 = x at *
        have hx0 : ¬ 0 ≤ x := by omega
        go_wp2_with fail
        go_roundw
        case rel => exact ⟨k + 1, by omega, by go_num, gr, b0, by rw [HM.out]; exact b1⟩
        case measure => simp [intOf] <;> omega
      · obtain ⟨v, hv⟩ : ∃ v : Nat, xs.getD k 0 = (v : Int) := ⟨(xs.getD k 0).toNat, by omega⟩
        have hv40 : v < 40 := by omega
        have HM := hid (colL_hit (n := 40) (f := (fun c => (c : Int))) (h := xs) (k := k) hv40 hv (fun _ _ e => by exact_mod_cast e))
        have hc1 := cell_ints b1.out (i := v) (by rw [colL_length]; exact hv40)
        have hf1 : wr.frozen? ⟨w.heap.size + 1, v, none⟩ = false := frozen_of_row _ _ _ _ _ b1.out
        obtain ⟨y0, y1⟩ := colL_bd 40 (fun c => (c : Int)) xs k v
        rw [hv] at hc
        clear hv hx
        generalize (colL 40 (fun c => (c : Int)) xs k).getD v 0 = y at *
        have hv0 : (0 : Int) ≤ v := by omega
        have hv1 : (v : Int) < 40 := by omega
        go_wp2_with fail
        go_roundw
        case rel => exact ⟨k + 1, by omega, by go_num, hid (gr.out.setCell (by dsimp only; omega) _), hid (heap_stored (by dsimp only; omega) b0.out), hid (by rw [← HM.out]; exact heap_int_set b1.out)⟩
        case measure => simp [intOf] <;> omega
    · have hkn : k = n := by omega
      have H1 : Hid (wr.heap[w.heap.size + 1]? = some (.cells (kCells .i64 (colL 40 (fun c => (c : Int)) xs n)) 129 (0, 0))) := by rw [hkn] at b1; exact b1
      clear b1 hkn
      go_wp2_with (first | (refine wpList_load_cells rfl 129 _ rfl _ rfl _ (kCells .i64 (colL 40 (fun c => (c : Int)) xs n)) _ 40 H1.out Try.underlying129 (by kernel_rfl) (by rw [kCells_size]; exact HCL.out) ?_) | (refine wpList_store_cells rfl 129 _ _ rfl _ (kCells .i64 (colL 40 (fun c => (c : Int)) xs n)) (kCells .i64 zeros40) rfl rfl _ 40 b0.out (by kernel_rfl) (by rw [kCells_size]; exact HCL.out) (by rw [kCells_size]; rfl) (kCells_one _ _) ?_))
      refine bodyPost_ret (results_cells1 (by rfl) _ _ _ _ _ _ _ rfl (heap_row_set b0.out) Try.underlying129 (by kernel_rfl) (by rw [kCells_size]; exact HCL.out)) rfl ⟨rfl, ?_⟩
      exact gr.out.setRow (by omega) _

def zeros4 : List Int := List.replicate 4 0
theorem builtSubs : Try.prog.built 131 [] = some (kCells .i64 zeros4) := by kernel_rfl
def subsF (xs : List Int) : List Int := if validH xs then colL 4 (fun c => -(c : Int) - 1) xs xs.length else zeros4
theorem subsF_length (xs : List Int) : (subsF xs).length = 4 := by
  unfold subsF
  split
  · exact colL_length _ _ _ _
  · simp [zeros4]
theorem subsF_yes {xs : List Int} (h : validH xs = true) : subsF xs = colL 4 (fun c => -(c : Int) - 1) xs xs.length := by unfold subsF; rw [if_pos h]
theorem subsF_no {xs : List Int} (h : validH xs = false) : subsF xs = zeros4 := by unfold subsF; rw [if_neg (by rw [h]; simp)]
set_option maxRecDepth 100000 in
set_option maxHeartbeats 2000000 in
theorem l02Subs_any (a : Option Addr) (n cap : Nat) (xs : List Int) (hn : n = xs.length) (hv : validH xs = true) (w : World) (hs : SliceOf .i8 w a xs) :
    Calls Try.prog 114 #[.slice a n cap] w fun e w' => e = .returned (.agg (kCells .i64 (colL 4 (fun c => -(c : Int) - 1) xs n))) ∧ Gr w w' := by
  have S := hid hs
  have HN := hid hn
  have HV := hid hv
  have hm := (validH_len hv).2
  rw [← hn] at hm
  have HCL := hid (colL_length 4 (fun c => -(c : Int) - 1) xs n)
  have z1 := hid (heap_new (w := w.alloc (.cells (kCells .i64 zeros4) 131)) (o := (.cells (kCells .i64 zeros4) 131)) (n := w.heap.size + 1) (by simp))
  have b0 : Hid (((((w.alloc (.cells (kCells .i64 zeros4) 131)).alloc (.cells (kCells .i64 zeros4) 131)).setRow (w.heap.size + 1) (kCells .i64 zeros4))).heap[w.heap.size]? = some (.cells (kCells .i64 zeros4) 131 (0, 0))) := hid (heap_row_kept (by omega) (heap_kept (heap_new rfl)))
  have b1 : Hid (((((w.alloc (.cells (kCells .i64 zeros4) 131)).alloc (.cells (kCells .i64 zeros4) 131)).setRow (w.heap.size + 1) (kCells .i64 zeros4))).heap[w.heap.size + 1]? = some (.cells (kCells .i64 zeros4) 131 (0, 0))) := hid (heap_row_set z1.out)
  have gr : Hid (Gr w ((((w.alloc (.cells (kCells .i64 zeros4) 131)).alloc (.cells (kCells .i64 zeros4) 131)).setRow (w.heap.size + 1) (kCells .i64 zeros4)))) := hid ((((Gr.refl w).alloc _).alloc _).setRow (by omega) _)
  clear hs hn hv
  go_enter Try.func114, Try.ntmps114
  go_wp2_with (first | (refine wpList_build_to rfl 131 rfl builtSubs ?_) | (refine wpList_store_cells rfl 131 _ _ rfl _ (kCells .i64 (zeros4)) (kCells .i64 zeros4) rfl rfl _ 4 z1.out (by kernel_rfl) (by rw [kCells_size]; exact rfl) (by rw [kCells_size]; rfl) (kCells_one _ _) ?_))
  go_loopw [4] (fun i wr => ∃ k : Nat, k ≤ n ∧ i = .int .i64 k ∧ Hid (Gr w wr) ∧ Hid (wr.heap[w.heap.size]? = some (.cells (kCells .i64 zeros4) 131 (0, 0))) ∧ Hid (wr.heap[w.heap.size + 1]? = some (.cells (kCells .i64 (colL 4 (fun c => -(c : Int) - 1) xs k)) 131 (0, 0)))) (fun i _ => n - (intOf i).toNat)
  case atStart => exact ⟨0, Nat.zero_le _, rfl, gr, b0, hid (by rw [colL_zero]; exact b1.out)⟩
  case round =>
    clear gr b0 b1 z1
    obtain ⟨k, hk, rfl, gr, b0, b1⟩ := hrel
    by_cases hlt : k < n
    · have hlx : k < xs.length := by rw [← HN.out]; exact hlt
      obtain ⟨b, off, rfl, hc0⟩ := S.out k hlx
      have hc := gr.out.cell hc0
      have hnum := validH_num HV.out hlx
      clear hc0 hlx
      rcases hnum with hx | hx | hx
      · have HM := hid (colL_miss (n := 4) (f := (fun c => -(c : Int) - 1)) (h := xs) (k := k) (fun c _ => by omega))
        rw [hx] at hc
        clear hx
        go_wp2_with fail
        go_roundw
        case rel => exact ⟨k + 1, by omega, by go_num, gr, b0, by rw [HM.out]; exact b1⟩
        case measure => simp [intOf] <;> omega
      · obtain ⟨v, hv⟩ : ∃ v : Nat, xs.getD k 0 = -(v : Int) - 1 := ⟨(-(xs.getD k 0)).toNat - 1, by omega⟩
        have hv4 : v < 4 := by omega
        have HM := hid (colL_hit (n := 4) (f := (fun c => -(c : Int) - 1)) (h := xs) (k := k) hv4 hv (fun _ _ e => by omega))
        have hc1 := cell_ints b1.out (i := v) (by rw [colL_length]; exact hv4)
        have hf1 : wr.frozen? ⟨w.heap.size + 1, v, none⟩ = false := frozen_of_row _ _ _ _ _ b1.out
        obtain ⟨y0, y1⟩ := colL_bd 4 (fun c => -(c : Int) - 1) xs k v
        rw [hv] at hc
        clear hv hx
        generalize (colL 4 (fun c => -(c : Int) - 1) xs k).getD v 0 = y at *
        have hv0 : (0 : Int) ≤ v := by omega
        have hv1 : (v : Int) < 4 := by omega
        have hb1 : (-(v : Int) - 1 == -10) = false := by rw [beq_eq_false_iff_ne]; omega
        have hb2 : (-(v : Int) - 1 != -10) = true := by rw [bne_iff_ne]; omega
        have hn0 : -(v : Int) - 1 < 0 := by omega
        have e1 : IntKind.i8.wrap (-(-(v : Int) - 1)) = (v : Int) + 1 := by rw [IntWalk.i8_in _ (by omega)]; omega
        have e2 : IntKind.i8.wrap ((v : Int) + 1 - 1) = (v : Int) := by rw [IntWalk.i8_in _ (by omega)]; omega
        have e3 : IntKind.i8.wrap (v : Int) = (v : Int) := IntWalk.i8_in _ (by omega)
        go_wp2_with fail
        clear e1 e2 e3
        go_roundw
        case rel => exact ⟨k + 1, by omega, by go_num, hid (gr.out.setCell (by dsimp only; omega) _), hid (heap_stored (by dsimp only; omega) b0.out), hid (by rw [← HM.out]; exact heap_int_set b1.out)⟩
        case measure => simp [intOf] <;> omega
      · have HM := hid (colL_miss (n := 4) (f := (fun c => -(c : Int) - 1)) (h := xs) (k := k) (fun c _ => by omega))
        obtain ⟨x0, x1⟩ := hx
        generalize xs.getD k 0 = x at *
        have hx0 : ¬ x < 0 := by omega
        go_wp2_with fail
        go_roundw
        case rel => exact ⟨k + 1, by omega, by go_num, gr, b0, by rw [HM.out]; exact b1⟩
        case measure => simp [intOf] <;> omega
    · have hkn : k = n := by omega
      have H1 : Hid (wr.heap[w.heap.size + 1]? = some (.cells (kCells .i64 (colL 4 (fun c => -(c : Int) - 1) xs n)) 131 (0, 0))) := by rw [hkn] at b1; exact b1
      clear b1 hkn
      go_wp2_with (first | (refine wpList_load_cells rfl 131 _ rfl _ rfl _ (kCells .i64 (colL 4 (fun c => -(c : Int) - 1) xs n)) _ 4 H1.out Try.underlying131 (by kernel_rfl) (by rw [kCells_size]; exact HCL.out) ?_) | (refine wpList_store_cells rfl 131 _ _ rfl _ (kCells .i64 (colL 4 (fun c => -(c : Int) - 1) xs n)) (kCells .i64 zeros4) rfl rfl _ 4 b0.out (by kernel_rfl) (by rw [kCells_size]; exact HCL.out) (by rw [kCells_size]; rfl) (kCells_one _ _) ?_))
      refine bodyPost_ret (results_cells1 (by rfl) _ _ _ _ _ _ _ rfl (heap_row_set b0.out) Try.underlying131 (by kernel_rfl) (by rw [kCells_size]; exact HCL.out)) rfl ⟨rfl, ?_⟩
      exact gr.out.setRow (by omega) _

end Go.Proofs.Ytkbdblaciphmnaa
