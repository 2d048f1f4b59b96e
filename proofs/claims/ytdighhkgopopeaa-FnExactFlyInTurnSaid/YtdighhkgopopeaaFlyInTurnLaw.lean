/- FlyInTurn: the law's walk. -/
import Derived.Test.YtdighhkgopopeaaTurnT
import Derived.Test.YtdighhkgopopeaaGTi
import Derived.Test.YtdighhkgopopeaaGTm
namespace Go.Proofs.Ytdighhkgopopeaa
set_option linter.unusedVariables false
open Go.RowKit
theorem MnAt.lt {g hi : Nat} {w : World} {xss : List (List Int)} (h : MnAt w g hi xss) : g < w.heap.size := by
  obtain ⟨vs, _, h2, _⟩ := h
  exact lt_of_heap h2
theorem fitC_length (ls : List Int) (mss : List (List Int)) : (fitC ls mss).length ≤ 6 := by
  unfold fitC
  by_cases h : mtC ls mss = 0
  · rw [if_pos h]; have h1 := flyO_length ls mss mss.length; have h2 := (mtC_zero h).2.2; omega
  · rw [if_neg h]; exact Nat.zero_le _
set_option maxHeartbeats 4000000 in
set_option maxRecDepth 100000 in
set_option linter.unusedVariables false in
theorem FnExactFlyInTurn_walk (ls : List Int) (lx : ls.length = 44) (fx : Fits .i16 ls) (a0 : Option Addr) (cap n : Nat) (xss : List (List Int)) (hl : n = xss.length) (hm : n ≤ 9223372036854775807) (hsz : ∀ i, (xss.getD i []).length ≤ 9223372036854775807) (hf : ∀ i, Fits .i8 (xss.getD i [])) (w : World) (hs : SlicesOf .i8 w a0 xss) :
    Calls Try.prog 4 #[.agg (kCells .i16 ls), .slice a0 n cap] w fun e w' => e = .returned (.bool true) ∧ Gr w w' := by
    have hsp := fun (h : n ≤ 1048576) (hz : ∀ i, i < n → (xss.getD i []).length ≤ 1048576) a V sa => spec_FlyInTurn_any ls lx fx a n n xss hl h hz hf V sa
    have him := fun (h : n ≤ 1048576) (hz : ∀ i, i < n → (xss.getD i []).length ≤ 1048576) a V sa => impl_FlyInTurn_any ls lx fx a n n xss hl h hz hf V sa
    have hto := fun (h : n ≤ 1048576) (hz : ∀ i, i < n → (xss.getD i []).length ≤ 1048576) a0 cap V sa => toMeaningS_at a0 cap n xss hl h hz V sa
    have heq := fun (h : n ≤ 1048576) (hz : ∀ i, i < n → (xss.getD i []).length ≤ 1048576) a b ca cb V sa sb => eqMeaningS_mn a b ca cb n xss hl h hz V sa sb
    have hmk := fun (h : n ≤ 1048576) (hz : ∀ i, i < n → (xss.getD i []).length ≤ 1048576) g hi V sa => markMeaningS_bet g hi n xss hl h hz V sa
    have HMK := hid hmk
    have hyl0 := fitC_length ls xss
    have hyl : (fitC ls xss).length ≤ 1048576 := by omega
    generalize fitC ls xss = r0 at *
    generalize mtC ls xss = r1 at *
    have hye := fun a b ca cb => eqInt64S_own a b ca cb r0 hyl
    have HSP := hid hsp
    have HIM := hid him
    have HTO := hid hto
    have HEQ := hid heq
    have HYE := hid hye
    obtain ⟨W0, hW0⟩ : ∃ W0, w.alloc (.cells (kCells .i16 ls) 26) = W0 := ⟨_, rfl⟩
    have LB : Hid (W0.heap[w.heap.size]? = some (.cells (kCells .i16 ls) 26 (0, 0))) := hid (by rw [← hW0]; exact heap_new rfl)
    have G0 : Hid (Gr w W0) := hid (by rw [← hW0]; exact (Gr.refl _).alloc _)
    have HTX := hid (toLocker_any ls lx)
    have LX := hid lx
    have S := hid (hs.gr G0.out)
    have HSZ := hid (szMeaningS_mn a0 cap n 1048576 xss hl hm (Nat.le_refl _) hsz W0 (hs.gr G0.out))
    clear hsp him hto heq hs hf hye lx fx hmk hsz hyl0 hl
    obtain ⟨m, hym⟩ : ∃ m, m = r0.length := ⟨_, rfl⟩
    rw [← hym] at hyl HYE
    have HYM := hid hym
    clear hym
    have gr := hid (Gr.refl W0)
    have S0 := S
    go_enter Try.func4, Try.ntmps4
    go_wp2_with fail
    try rw [hW0]
    refine HSZ.out.mono ?_
    rintro e w' ⟨r, rfl, hr, rfl⟩
    rcases hr with rfl | ⟨h0, h1, h2, h3⟩
    · go_wp2_with fail
      go_ret
      exact ⟨rfl, G0.out⟩
    have hn0 : ¬ r < 0 := by omega
    have HN := hid h2
    have HZ := hid h3
    replace HSP := hid (HSP.out HN.out HZ.out)
    replace HIM := hid (HIM.out HN.out HZ.out)
    replace HTO := hid (HTO.out HN.out HZ.out)
    replace HEQ := hid (HEQ.out HN.out HZ.out)
    replace HMK := hid (HMK.out HN.out HZ.out)
    clear h0 h1 h2 h3 HSZ
    go_wp2_with (refine wpList_load_struct rfl 26 (.tmp 2) rfl w.heap.size rfl _ (kCells .i16 ls) _ (gr.out.heap LB.out) Try.underlying26 rfl (by rw [kCells_size, LX.out]; kernel_rfl) ?_)
    refine (HTX.out _).mono ?_
    rintro e V1 ⟨rfl, gv⟩
    replace gr := hid (gr.out.trans gv)
    replace S := hid (S.out.gr gv)
    have gzV1 := hid gv.size
    clear gv
    go_wp2_with fail
    refine (HTO.out _ _ _ S.out).mono ?_
    rintro e W1 ⟨rfl, h1, g1⟩
    replace gr := hid (gr.out.trans g1)
    replace S := hid (S.out.gr g1)
    have B1 := hid h1
    have gz1 := hid g1.size
    have lt1 := hid (show _ from h1.lt)
    clear h1 g1
    go_wp2_with fail
    refine (HSP.out _ _ B1.out.reads).mono ?_
    rintro e W2 ⟨u2, rfl, o2, g2⟩
    replace gr := hid (gr.out.trans g2)
    replace S := hid (S.out.gr g2)
    obtain ⟨p2, q2, rfl⟩ := o2.shape
    have Ow := hid o2
    have gz2 := hid g2.size
    rw [← HYM.out] at Ow ⊢
    clear o2 g2
    unfold withCode
    clear B1
    have GB := hid gr.out.size
    go_wp2_with fail
    refine (HTO.out _ _ _ S.out).mono ?_
    rintro e W3 ⟨rfl, h3, g3⟩
    replace gr := hid (gr.out.trans g3)
    replace S := hid (S.out.gr g3)
    replace Ow := hid (Ow.out.gr g3)
    have Bx := hid h3
    have gz3 := hid g3.size
    have lt3 := hid (show _ from h3.lt)
    clear h3 g3
    go_wp2_with (refine wpList_load_struct rfl 26 (.tmp 2) rfl w.heap.size rfl _ (kCells .i16 ls) _ (gr.out.heap LB.out) Try.underlying26 rfl (by rw [kCells_size, LX.out]; kernel_rfl) ?_)
    refine (HTX.out _).mono ?_
    rintro e V3 ⟨rfl, gv⟩
    replace gr := hid (gr.out.trans gv)
    replace S := hid (S.out.gr gv)
    replace Ow := hid (Ow.out.gr gv)
    replace Bx := hid (Bx.out.gr gv)
    have gzV3 := hid gv.size
    clear gv
    go_wp2_with fail
    refine (HIM.out _ _ Bx.out.reads).mono ?_
    rintro e W4 ⟨u4, rfl, o4, g4⟩
    replace gr := hid (gr.out.trans g4)
    replace S := hid (S.out.gr g4)
    replace Ow := hid (Ow.out.gr g4)
    replace Bx := hid (Bx.out.gr g4)
    obtain ⟨p4, q4, rfl⟩ := o4.shape
    have Og := hid o4
    have gz4 := hid g4.size
    rw [← HYM.out] at Og ⊢
    clear o4 g4
    unfold withCode
    go_wp2_with fail
    refine (HYE.out _ _ _ _ _ Og.out.reads Ow.out.reads).mono ?_
    rintro e W5 ⟨rfl, g5⟩
    replace gr := hid (gr.out.trans g5)
    replace S := hid (S.out.gr g5)
    replace Ow := hid (Ow.out.gr g5)
    replace Og := hid (Og.out.gr g5)
    replace Bx := hid (Bx.out.gr g5)
    clear g5
    go_wp2_with fail
    refine (HTO.out _ _ _ S.out).mono ?_
    rintro e W6 ⟨rfl, h6, g6⟩
    replace gr := hid (gr.out.trans g6)
    replace S := hid (S.out.gr g6)
    replace Ow := hid (Ow.out.gr g6)
    replace Og := hid (Og.out.gr g6)
    replace Bx := hid (Bx.out.gr g6)
    have Bt := hid h6
    have gz6 := hid g6.size
    have lt6 := hid (show _ from h6.lt)
    clear h6 g6
    go_wp2_with fail
    refine (HEQ.out _ _ _ _ _ Bx.out.reads.of Bt.out.reads.of).mono ?_
    rintro e W7 ⟨rfl, g7⟩
    replace gr := hid (gr.out.trans g7)
    replace S := hid (S.out.gr g7)
    replace Ow := hid (Ow.out.gr g7)
    replace Og := hid (Og.out.gr g7)
    replace Bx := hid (Bx.out.gr g7)
    clear g7 Bt
    go_wp2_with fail
    refine (HMK.out _ _ _ Bx.out).mono ?_
    rintro e W8 ⟨⟨r8, rfl⟩, m8⟩
    have M8 := hid m8
    clear Bx m8
    have hr8 : ¬ (r8 : Int) < 0 := by omega
    have gm : Gr W0 W8 := M8.out.gr gr.out GB.out
    replace gr := hid gm
    replace S := hid (S0.out.gr gm)
    clear gm
    replace Ow := hid (Ow.out.bet M8.out (.inl (Nat.le_refl _)))
    replace Og := hid (Og.out.bet M8.out (.inr gzV3.out))
    clear M8
    go_wp2_with fail
    refine (HYE.out _ _ _ _ _ Og.out.reads Ow.out.reads).mono ?_
    rintro e W9 ⟨rfl, g9⟩
    replace gr := hid (gr.out.trans g9)
    replace S := hid (S.out.gr g9)
    replace Ow := hid (Ow.out.gr g9)
    replace Og := hid (Og.out.gr g9)
    clear g9
    go_wp2_with fail
    refine (markInt64S_one _ _ _ _ _ r0 (by rw [← HYM.out]; exact hyl) _ Og.out).mono ?_
    rintro e W10 ⟨rfl, o10, m10⟩
    have M10 := hid m10
    have rl := Og.out.row.lt
    have gm : Gr W0 W10 := gr.out.by_ M10.out (fun b e => by have := (rl b e).1; have := GB.out; have := gz3.out; have := gzV3.out; omega)
    replace gr := hid gm
    replace S := hid (S0.out.gr gm)
    clear gm
    replace Ow := hid (Ow.out.by_ M10.out (fun b e => by right; have := (rl b e).1; have := gz3.out; have := gzV3.out; omega))
    replace Og := hid o10
    clear M10 o10 m10 rl
    go_wp2_with fail
    refine (heldInt64S_one _ _ _ hyl _ Og.out.reads).mono ?_
    rintro e W11 ⟨rfl, g11⟩
    replace gr := hid (gr.out.trans g11)
    replace S := hid (S.out.gr g11)
    replace Ow := hid (Ow.out.gr g11)
    replace Og := hid (Og.out.gr g11)
    clear g11
    go_wp2_with (refine wpList_load_struct rfl 26 (.tmp 2) rfl w.heap.size rfl _ (kCells .i16 ls) _ (gr.out.heap LB.out) Try.underlying26 rfl (by rw [kCells_size, LX.out]; kernel_rfl) ?_)
    refine (HTX.out _).mono ?_
    rintro e V12 ⟨rfl, gv⟩
    replace gr := hid (gr.out.trans gv)
    replace S := hid (S.out.gr gv)
    replace Ow := hid (Ow.out.gr gv)
    replace Og := hid (Og.out.gr gv)
    have gzV12 := hid gv.size
    clear gv
    go_wp2_with fail
    refine (HTO.out _ _ _ S.out).mono ?_
    rintro e W12 ⟨rfl, h12, g12⟩
    replace gr := hid (gr.out.trans g12)
    replace S := hid (S.out.gr g12)
    replace Ow := hid (Ow.out.gr g12)
    replace Og := hid (Og.out.gr g12)
    have B2 := hid h12
    have gz12 := hid g12.size
    have lt12 := hid (show _ from h12.lt)
    clear h12 g12
    go_wp2_with fail
    refine (HIM.out _ _ B2.out.reads).mono ?_
    rintro e W13 ⟨u13, rfl, o13, g13⟩
    replace gr := hid (gr.out.trans g13)
    replace S := hid (S.out.gr g13)
    replace Ow := hid (Ow.out.gr g13)
    replace Og := hid (Og.out.gr g13)
    obtain ⟨p13, q13, rfl⟩ := o13.shape
    have Oh := hid o13
    have gz13 := hid g13.size
    rw [← HYM.out] at Oh ⊢
    clear o13 g13
    unfold withCode
    clear B2
    go_wp2_with fail
    refine (HYE.out _ _ _ _ _ Oh.out.reads Ow.out.reads).mono ?_
    rintro e W14 ⟨rfl, g14⟩
    replace gr := hid (gr.out.trans g14)
    replace S := hid (S.out.gr g14)
    replace Ow := hid (Ow.out.gr g14)
    replace Og := hid (Og.out.gr g14)
    replace Oh := hid (Oh.out.gr g14)
    clear g14
    go_wp2_with fail
    refine (heldInt64S_one _ _ _ hyl _ Og.out.reads).mono ?_
    rintro e W15 ⟨rfl, g15⟩
    replace gr := hid (gr.out.trans g15)
    replace S := hid (S.out.gr g15)
    replace Ow := hid (Ow.out.gr g15)
    replace Og := hid (Og.out.gr g15)
    replace Oh := hid (Oh.out.gr g15)
    clear g15
    go_wp2_with fail
    go_ret
    exact ⟨rfl, G0.out.trans gr.out⟩
end Go.Proofs.Ytdighhkgopopeaa
