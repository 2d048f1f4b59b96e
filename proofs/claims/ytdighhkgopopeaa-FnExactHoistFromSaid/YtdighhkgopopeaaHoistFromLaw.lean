/- HoistFrom: the law's walk. -/
import Derived.Test.YtdighhkgopopeaaHFromS
import Derived.Test.YtdighhkgopopeaaHFromI
namespace Go.Proofs.Ytdighhkgopopeaa
set_option linter.unusedVariables false
open Go.RowKit
theorem lkN_mem {next : List Int → List Int → List (List Int)} {m h left x : List Int} {n : Nat} (hx : x ∈ lkN next m h left n) : ∃ l c, x ∈ next l (h ++ [c]) := by
  induction n with
  | zero =>
    rw [lkN] at hx
    split at hx
    · exact ⟨_, _, hx⟩
    · simp at hx
  | succ n ih =>
    rw [lkN, List.mem_append] at hx
    rcases hx with hx | hx
    · split at hx
      · exact ⟨_, _, hx⟩
      · simp at hx
    · exact ih hx
theorem lkF_len {m : List Int} : ∀ (f : Nat) (left h x : List Int), x ∈ lkF m f left h → x.length = h.length + f
  | 0, _, _, _, hx => by simp [lkF] at hx; rw [hx]; rfl
  | f + 1, left, h, x, hx => by
    by_cases hb : m.getD h.length 0 = -10
    · rw [lkF_brk hb] at hx
      rw [lkF_len f _ _ _ hx, List.length_append, List.length_singleton]
      omega
    · rw [lkF_kind hb] at hx
      obtain ⟨l, c, hx⟩ := lkN_mem hx
      rw [lkF_len f _ _ _ hx, List.length_append, List.length_singleton]
      omega
theorem hfL_length (ls m : List Int) : (hfL ls m).length ≤ 8 := by
  unfold hfL
  split
  · rename_i h
    have h2 : lockB ls = true ∧ plainH m = true := by simpa using h
    have h8 := (validH_len (plainH_valid h2.2)).2
    cases hR : fromL ls m with
    | nil => exact Nat.zero_le _
    | cons x R =>
      have := lkF_len m.length ls [] x (by have h3 : x ∈ fromL ls m := by rw [hR]; exact List.mem_cons_self
                                           exact h3)
      show x.length ≤ 8
      simp only [List.length_nil] at this
      omega
  · exact Nat.zero_le _
set_option maxHeartbeats 4000000 in
set_option maxRecDepth 100000 in
set_option linter.unusedVariables false in
theorem FnExactHoistFrom_walk (HA : LkAll) (ls : List Int) (lx : ls.length = 44) (fx : Fits .i16 ls) (a0 : Option Addr) (cap : Nat) (xs : List Int) (hm : xs.length ≤ maxLen) (hf : Fits .i8 xs) (w : World) (hs : SliceOf .i8 w a0 xs) :
    Calls Try.prog 3 #[.agg (kCells .i16 ls), .slice a0 xs.length cap] w fun e w' => e = .returned (.bool true) ∧ Gr w w' := by
  unfold maxLen at hm
  by_cases hn : xs.length ≤ 1048576
  · have hsp := fun a => spec_HoistFrom_cap HA ls lx fx a xs.length xs.length xs rfl hn hf
    have him := fun a => impl_HoistFrom_cap ls lx fx a xs.length xs.length xs rfl hn (Nat.le_refl _) hf
    have hto := fun a0 cap => toMeaning_own a0 cap xs hn
    have heq := fun a b ca cb => eqMeaning_own a b ca cb xs hn
    have hyl : (hfL ls xs).length ≤ 1048576 := by have := hfL_length ls xs; omega
    generalize hfL ls xs = r0 at *
    generalize hfC ls xs = r1 at *
    have hye := fun a b ca cb => eqHoist_own a b ca cb r0 hyl
    have HSP := hid hsp
    have HIM := hid him
    have HTO := hid hto
    have HEQ := hid heq
    have HYE := hid hye
    obtain ⟨W0, hW0⟩ : ∃ W0, w.alloc (.cells (kCells .i16 ls) 26) = W0 := ⟨_, rfl⟩
    have LB : Hid (W0.heap[w.heap.size]? = some (.cells (kCells .i16 ls) 26 (0, 0))) := hid (by rw [← hW0]; exact heap_new rfl)
    have G0 : Hid (Gr w W0) := hid (by rw [← hW0]; exact (Gr.refl _).alloc _)
    have HTX := hid (toLocker_any ls lx)
    have LX := hid lx
    have S := hid (hs.gr G0.out)
    clear hsp him hto heq hs hm hf hye lx fx HA
    have hxl : xs.length ≤ maxLen := by unfold maxLen; omega
    have HXL := hid hxl
    clear hxl
    obtain ⟨n, hxn⟩ : ∃ n, n = xs.length := ⟨_, rfl⟩
    rw [← hxn] at hn HSP HIM HTO HEQ ⊢
    have HXN := hid hxn
    clear hxn
    obtain ⟨m, hym⟩ : ∃ m, m = r0.length := ⟨_, rfl⟩
    rw [← hym] at hyl HYE
    have HYM := hid hym
    clear hym
    have gr := hid (Gr.refl W0)
    have S0 := S
    go_enter Try.func3, Try.ntmps3
    go_wp2_with (refine wpList_load_struct rfl 26 (.tmp 2) rfl w.heap.size rfl _ (kCells .i16 ls) _ (gr.out.heap LB.out) Try.underlying26 rfl (by rw [kCells_size, LX.out]; kernel_rfl) ?_)
    refine (HTX.out _).mono ?_
    rintro e V1 ⟨rfl, gv⟩
    replace gr := hid (gr.out.trans gv)
    replace S := hid (S.out.gr gv)
    have gzV1 := hid gv.size
    clear gv
    go_wp2_with fail
    refine (HTO.out _ _ _ S.out).mono ?_
    rintro e W1 ⟨rfl, h1, g1⟩
    replace gr := hid (gr.out.trans g1)
    replace S := hid (S.out.gr g1)
    have B1 := hid h1
    have gz1 := hid g1.size
    have lt1 := hid (lt_of_heap h1)
    clear h1 g1
    go_wp2_with fail
    refine (HSP.out _ _ (sliceOf_block B1.out)).mono ?_
    rintro e W2 ⟨u2, rfl, o2, g2⟩
    replace gr := hid (gr.out.trans g2)
    replace S := hid (S.out.gr g2)
    obtain ⟨p2, q2, rfl⟩ := o2.shape
    have Ow := hid o2
    have gz2 := hid g2.size
    rw [← HYM.out] at Ow ⊢
    clear o2 g2
    unfold withCode
    clear B1
    have GB := hid gr.out.size
    go_wp2_with fail
    refine (HTO.out _ _ _ S.out).mono ?_
    rintro e W3 ⟨rfl, h3, g3⟩
    replace gr := hid (gr.out.trans g3)
    replace S := hid (S.out.gr g3)
    replace Ow := hid (Ow.out.gr g3)
    have Bx := hid h3
    have gz3 := hid g3.size
    have lt3 := hid (lt_of_heap h3)
    clear h3 g3
    go_wp2_with (refine wpList_load_struct rfl 26 (.tmp 2) rfl w.heap.size rfl _ (kCells .i16 ls) _ (gr.out.heap LB.out) Try.underlying26 rfl (by rw [kCells_size, LX.out]; kernel_rfl) ?_)
    refine (HTX.out _).mono ?_
    rintro e V3 ⟨rfl, gv⟩
    replace gr := hid (gr.out.trans gv)
    replace S := hid (S.out.gr gv)
    replace Ow := hid (Ow.out.gr gv)
    replace Bx := hid (gv.heap Bx.out)
    have gzV3 := hid gv.size
    clear gv
    go_wp2_with fail
    refine (HIM.out _ _ (sliceOf_block Bx.out)).mono ?_
    rintro e W4 ⟨u4, rfl, o4, g4⟩
    replace gr := hid (gr.out.trans g4)
    replace S := hid (S.out.gr g4)
    replace Ow := hid (Ow.out.gr g4)
    replace Bx := hid (g4.heap Bx.out)
    obtain ⟨p4, q4, rfl⟩ := o4.shape
    have Og := hid o4
    have gz4 := hid g4.size
    rw [← HYM.out] at Og ⊢
    clear o4 g4
    unfold withCode
    go_wp2_with fail
    refine (HYE.out _ _ _ _ _ Og.out.reads Ow.out.reads).mono ?_
    rintro e W5 ⟨rfl, g5⟩
    replace gr := hid (gr.out.trans g5)
    replace S := hid (S.out.gr g5)
    replace Ow := hid (Ow.out.gr g5)
    replace Og := hid (Og.out.gr g5)
    replace Bx := hid (g5.heap Bx.out)
    clear g5
    go_wp2_with fail
    refine (HTO.out _ _ _ S.out).mono ?_
    rintro e W6 ⟨rfl, h6, g6⟩
    replace gr := hid (gr.out.trans g6)
    replace S := hid (S.out.gr g6)
    replace Ow := hid (Ow.out.gr g6)
    replace Og := hid (Og.out.gr g6)
    replace Bx := hid (g6.heap Bx.out)
    have Bt := hid h6
    have gz6 := hid g6.size
    have lt6 := hid (lt_of_heap h6)
    clear h6 g6
    go_wp2_with fail
    refine (HEQ.out _ _ _ _ _ (sliceOf_block Bx.out) (sliceOf_block Bt.out)).mono ?_
    rintro e W7 ⟨rfl, g7⟩
    replace gr := hid (gr.out.trans g7)
    replace S := hid (S.out.gr g7)
    replace Ow := hid (Ow.out.gr g7)
    replace Og := hid (Og.out.gr g7)
    replace Bx := hid (g7.heap Bx.out)
    clear g7 Bt
    have Ox := hid (Own.ofBlock Bx.out HXL.out)
    rw [← HXN.out] at Ox
    clear Bx
    go_wp2_with fail
    refine (markMeaning_one _ _ _ _ _ xs (by rw [← HXN.out]; exact hn) _ Ox.out).mono ?_
    rintro e W8 ⟨rfl, -, m8⟩
    have M8 := hid m8
    clear Ox m8
    have gm : Gr W0 W8 := gr.out.by_ M8.out (fun b e => by cases e; have := GB.out; omega)
    replace gr := hid gm
    replace S := hid (S0.out.gr gm)
    clear gm
    replace Ow := hid (Ow.out.by_ M8.out (fun b e => by cases e; right; exact Nat.le_refl _))
    replace Og := hid (Og.out.by_ M8.out (fun b e => by cases e; left; show W2.heap.size < V3.heap.size; have := lt3.out; have := gzV3.out; omega))
    clear M8
    go_wp2_with fail
    refine (HYE.out _ _ _ _ _ Og.out.reads Ow.out.reads).mono ?_
    rintro e W9 ⟨rfl, g9⟩
    replace gr := hid (gr.out.trans g9)
    replace S := hid (S.out.gr g9)
    replace Ow := hid (Ow.out.gr g9)
    replace Og := hid (Og.out.gr g9)
    clear g9
    go_wp2_with fail
    refine (markHoist_one _ _ _ _ _ r0 (by rw [← HYM.out]; exact hyl) _ Og.out).mono ?_
    rintro e W10 ⟨rfl, o10, m10⟩
    have M10 := hid m10
    have rl := Og.out.row.lt
    have gm : Gr W0 W10 := gr.out.by_ M10.out (fun b e => by have := (rl b e).1; have := GB.out; have := gz3.out; have := gzV3.out; omega)
    replace gr := hid gm
    replace S := hid (S0.out.gr gm)
    clear gm
    replace Ow := hid (Ow.out.by_ M10.out (fun b e => by right; have := (rl b e).1; have := gz3.out; have := gzV3.out; omega))
    replace Og := hid o10
    clear M10 o10 m10 rl
    go_wp2_with fail
    refine (heldHoist_one _ _ _ hyl _ Og.out.reads).mono ?_
    rintro e W11 ⟨rfl, g11⟩
    replace gr := hid (gr.out.trans g11)
    replace S := hid (S.out.gr g11)
    replace Ow := hid (Ow.out.gr g11)
    replace Og := hid (Og.out.gr g11)
    clear g11
    go_wp2_with (refine wpList_load_struct rfl 26 (.tmp 2) rfl w.heap.size rfl _ (kCells .i16 ls) _ (gr.out.heap LB.out) Try.underlying26 rfl (by rw [kCells_size, LX.out]; kernel_rfl) ?_)
    refine (HTX.out _).mono ?_
    rintro e V12 ⟨rfl, gv⟩
    replace gr := hid (gr.out.trans gv)
    replace S := hid (S.out.gr gv)
    replace Ow := hid (Ow.out.gr gv)
    replace Og := hid (Og.out.gr gv)
    have gzV12 := hid gv.size
    clear gv
    go_wp2_with fail
    refine (HTO.out _ _ _ S.out).mono ?_
    rintro e W12 ⟨rfl, h12, g12⟩
    replace gr := hid (gr.out.trans g12)
    replace S := hid (S.out.gr g12)
    replace Ow := hid (Ow.out.gr g12)
    replace Og := hid (Og.out.gr g12)
    have B2 := hid h12
    have gz12 := hid g12.size
    have lt12 := hid (lt_of_heap h12)
    clear h12 g12
    go_wp2_with fail
    refine (HIM.out _ _ (sliceOf_block B2.out)).mono ?_
    rintro e W13 ⟨u13, rfl, o13, g13⟩
    replace gr := hid (gr.out.trans g13)
    replace S := hid (S.out.gr g13)
    replace Ow := hid (Ow.out.gr g13)
    replace Og := hid (Og.out.gr g13)
    obtain ⟨p13, q13, rfl⟩ := o13.shape
    have Oh := hid o13
    have gz13 := hid g13.size
    rw [← HYM.out] at Oh ⊢
    clear o13 g13
    unfold withCode
    clear B2
    go_wp2_with fail
    refine (HYE.out _ _ _ _ _ Oh.out.reads Ow.out.reads).mono ?_
    rintro e W14 ⟨rfl, g14⟩
    replace gr := hid (gr.out.trans g14)
    replace S := hid (S.out.gr g14)
    replace Ow := hid (Ow.out.gr g14)
    replace Og := hid (Og.out.gr g14)
    replace Oh := hid (Oh.out.gr g14)
    clear g14
    go_wp2_with fail
    refine (heldHoist_one _ _ _ hyl _ Og.out.reads).mono ?_
    rintro e W15 ⟨rfl, g15⟩
    replace gr := hid (gr.out.trans g15)
    replace S := hid (S.out.gr g15)
    replace Ow := hid (Ow.out.gr g15)
    replace Og := hid (Og.out.gr g15)
    replace Oh := hid (Oh.out.gr g15)
    clear g15
    go_wp2_with fail
    go_ret
    exact ⟨rfl, G0.out.trans gr.out⟩
  · have hn' : 1048576 < xs.length := by omega
    clear hn hs hf lx fx HA
    generalize xs.length = n at *
    go_enter Try.func3, Try.ntmps3
    go_wp2_with fail
    go_ret
    exact ⟨rfl, (Gr.refl _).alloc _⟩
end Go.Proofs.Ytdighhkgopopeaa
