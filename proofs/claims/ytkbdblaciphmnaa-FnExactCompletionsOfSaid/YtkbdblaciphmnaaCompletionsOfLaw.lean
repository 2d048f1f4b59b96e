/- CompletionsOf: the law's walk. -/
import Derived.Test.YtkbdblaciphmnaaCompletionsOf
import Derived.Test.YtkbdblaciphmnaaGBk
import Derived.Test.YtkbdblaciphmnaaGHst
namespace Go.Proofs.Ytkbdblaciphmnaa
set_option linter.unusedVariables false
open Go.RowKit
set_option maxHeartbeats 8000000 in
set_option maxRecDepth 100000 in
theorem FnExactCompletionsOf_walk (k l s : Int) (hw : Wf3 k l s) (a : Option Addr) (ca n : Nat) (ss : List ByteArray) (hl : n = ss.length) (hm : n ≤ 9223372036854775807) (hz : SizesOk ss) (a1 : Option Addr) (cap1 : Nat) (xs1 : List Int) (hm1 : xs1.length ≤ maxLen) (hf1 : Fits .i8 xs1) (w : World) (hs : StrsOf w a ss) (hs1 : SliceOf .i8 w a1 xs1) :
    Calls Try.prog 9 #[bookV k l s (.slice a n ca), .slice a1 xs1.length cap1] w fun e w' => e = .returned (.bool true) ∧ Gr w w' := by
  unfold maxLen at hm1
  by_cases hn1 : xs1.length ≤ 1048576
  case neg =>
    have gr0 : Gr w (w.alloc (.cells (bookC k l s (.slice a n ca)) 25)) := (Gr.refl w).alloc _
    have GR0 := hid gr0
    have hbig : 1048576 < xs1.length := by omega
    have hbig' : (1048576 : Int) < ((xs1.length : Nat) : Int) := by omega
    obtain ⟨m1, hm1'⟩ : ∃ m, m = xs1.length := ⟨_, rfl⟩
    rw [← hm1'] at hbig hbig' ⊢
    clear hm1'
    clear gr0 hs hz hl hs1 hf1
    go_enter Try.func9, Try.ntmps9
    go_wp2_with fail
    go_ret
    exact ⟨rfl, GR0.out⟩
  have HZ1 : Hid (∀ (V : World), Gr w V → Calls Try.prog 11 #[bookV k l s (.slice a n ca), .int .i64 1048576] V fun e w' => (∃ r : Int, e = .returned (.int .i64 r) ∧ (r = -1 ∨ (0 ≤ r ∧ r ≤ 1048576 ∧ n ≤ 1048576))) ∧ Gr V w') := hid (fun V g => szBook_any k l s a ca n 1048576 ss hl hm (Nat.le_refl _) hz V (hs.gr g))
  have HTA := hid (fun (h : n ≤ 1048576) (V : World) (g : Gr w V) => toBook_any k l s a ca n ss hl h V (hs.gr g))
  have HSP := hid (fun (hn : n ≤ 1048576) (p : Option Addr) (b1 : Option Addr) (V : World) (sa : StrsOf V p ss) (s1 : SliceOf .i8 V b1 xs1) => spec_CompletionsOf_any k l s hw p n n ss hl hn hz b1 xs1.length xs1 hn1 (Nat.le_refl _) hf1 V sa s1)
  have HIM := hid (fun (hn : n ≤ 1048576) (p : Option Addr) (b1 : Option Addr) (V : World) (sa : StrsOf V p ss) (s1 : SliceOf .i8 V b1 xs1) => impl_CompletionsOf_any k l s hw p n n ss hl hn hz b1 xs1.length xs1 hn1 (Nat.le_refl _) hf1 V sa s1)
  have HEA := hid (fun (h : n ≤ 1048576) (p q : Option Addr) (V : World) (sa : StrsOf V p ss) (sb : StrsOf V q ss) => eqBook_same k l s p q n n n ss hl h V sa sb)
  have hyl : (compL k l s ss xs1).length ≤ 1048576 := compL_len k l s ss xs1
  generalize compL k l s ss xs1 = r0 at *
  generalize compC k l s ss xs1 = r1 at *
  have HYE := hid (fun a b ca cb => eqInt64S_own a b ca cb r0 hyl)
  have HMB := hid (fun (h : n ≤ 1048576) (g : Nat) (V : World) (hb : V.heap[g]? = some (.cells (strCells ss) 9 (0, 0))) => markBook_any k l s g n ss hl h V hb)
  have HTO1 := hid (fun a0 cap => toMeaning_own a0 cap xs1 hn1)
  have HEQ1 := hid (fun a b ca cb => eqMeaning_own a b ca cb xs1 hn1)
  have S1 := hid hs1
  have Z1 := S1
  have hxl1 : xs1.length ≤ maxLen := by unfold maxLen; omega
  have HXL1 := hid hxl1
  clear hl hz hs hw hs1 hf1 hxl1
  obtain ⟨n1, hx1⟩ : ∃ m, m = xs1.length := ⟨_, rfl⟩
  rw [← hx1] at hn1 hm1 HSP HIM HTO1 HEQ1 ⊢
  have HXN1 := hid hx1
  clear hx1
  obtain ⟨m, hym⟩ : ∃ m, m = r0.length := ⟨_, rfl⟩
  rw [← hym] at hyl HYE
  have HYM := hid hym
  clear hym
  go_enter Try.func9, Try.ntmps9
  go_wp2_with fail
  have b0 := hid (heap_new (w := w) (o := .cells (bookC k l s (.slice a n ca)) 25) rfl)
  have G := hid ((Gr.refl w).alloc (.cells (bookC k l s (.slice a n ca)) 25))
  obtain ⟨W, hW⟩ : ∃ W, W = (w.alloc (.cells (bookC k l s (.slice a n ca)) 25)) := ⟨_, rfl⟩
  rw [← hW] at b0 G ⊢
  clear hW
  have HD0 := hid (fun V (g : Gr W V) => bk_cells (g.heap b0.out))
  replace S1 := hid (S1.out.gr G.out)
  refine (HZ1.out W G.out).mono ?_
  rintro e W1 ⟨⟨r1', rfl, hr1⟩, g1⟩
  have gr := hid g1
  replace S1 := hid (S1.out.gr g1)
  clear g1
  rcases hr1 with rfl | ⟨h0, h1, hn1'⟩
  · go_wp2_with fail
    go_ret
    exact ⟨rfl, G.out.trans gr.out⟩
  have hn0 : ¬ r1' < 0 := by omega
  have HN := hid (show n ≤ 1048576 from hn1')
  obtain ⟨p0, p1, p2, p3⟩ := HD0.out _ gr.out
  go_wp2_with fail
  clear p0 p1 p2 p3
  refine (HTA.out HN.out _ (G.out.trans gr.out)).mono ?_
  rintro e W2 ⟨rfl, h2, g2⟩
  replace gr := hid (gr.out.trans g2)
  replace S1 := hid (S1.out.gr g2)
  have SA := hid (strsOf_block h2)
  have gz2 := hid g2.size
  clear h2 g2
  go_wp2_with fail
  refine (HTO1.out _ _ _ S1.out).mono ?_
  rintro e W3 ⟨rfl, h3, g3⟩
  replace gr := hid (gr.out.trans g3)
  replace S1 := hid (S1.out.gr g3)
  replace SA := hid (SA.out.gr g3)
  have Bs1 := hid h3
  have gz3 := hid g3.size
  clear h3 g3
  go_wp2_with fail
  refine (HSP.out HN.out _ _ _ SA.out (sliceOf_block Bs1.out)).mono ?_
  rintro e W4 ⟨u4, rfl, o4, g4⟩
  replace gr := hid (gr.out.trans g4)
  replace S1 := hid (S1.out.gr g4)
  replace SA := hid (SA.out.gr g4)
  replace Bs1 := hid (g4.heap Bs1.out)
  obtain ⟨p4, q4, rfl⟩ := o4.shape
  have Ow := hid o4
  have gz4 := hid g4.size
  rw [← HYM.out] at Ow ⊢
  clear o4 g4
  unfold withCode
  clear SA
  clear Bs1
  have GB := hid gr.out.size
  obtain ⟨p0, p1, p2, p3⟩ := HD0.out _ gr.out
  go_wp2_with fail
  clear p0 p1 p2 p3
  refine (HTA.out HN.out _ (G.out.trans gr.out)).mono ?_
  rintro e W5 ⟨rfl, h5, g5⟩
  replace gr := hid (gr.out.trans g5)
  replace S1 := hid (S1.out.gr g5)
  replace Ow := hid (Ow.out.gr g5)
  have SX := hid (strsOf_block h5)
  have RSX := hid h5
  have gz5 := hid g5.size
  clear h5 g5
  have NX := hid (heap_new (w := W5) (o := .cells (bookC 0 0 0 (.slice none 0 0)) 29) rfl)
  have BX := hid (heap_row_set (cs := (bookC k l s (.slice (some ⟨W4.heap.size + 3, 0, none⟩) n n))) NX.out)
  have GL := hid (((Gr.refl W5).alloc (.cells (bookC 0 0 0 (.slice none 0 0)) 29)).setRow (Nat.le_refl _) (bookC k l s (.slice (some ⟨W4.heap.size + 3, 0, none⟩) n n)))
  have gzx := hid (lt_of_heap BX.out)
  obtain ⟨q0, q1', q2, q3⟩ := bk_cells BX.out
  obtain ⟨p0, p1, p2, p3⟩ := HD0.out _ (gr.out.trans GL.out)
  go_wp2_with (refine wpList_store_cells rfl 29 _ _ rfl _ (bookC k l s (.slice (some ⟨W4.heap.size + 3, 0, none⟩) n n)) (bookC 0 0 0 (.slice none 0 0)) rfl rfl _ 4 NX.out (by kernel_rfl) rfl rfl (by simp [Value.oneCell']) ?_)
  clear p0 p1 p2 p3 q0 q1' q2 q3 NX
  obtain ⟨W6, hW6⟩ : ∃ V, V = (W5.alloc (.cells (bookC 0 0 0 (.slice none 0 0)) 29)).setRow W5.heap.size (bookC k l s (.slice (some ⟨W4.heap.size + 3, 0, none⟩) n n)) := ⟨_, rfl⟩
  rw [← hW6] at BX GL gzx ⊢
  clear hW6
  replace gr := hid (gr.out.trans GL.out)
  replace S1 := hid (S1.out.gr GL.out)
  replace Ow := hid (Ow.out.gr GL.out)
  replace SX := hid (SX.out.gr GL.out)
  replace RSX := hid (GL.out.heap RSX.out)
  clear GL
  have LTB1 := hid (lt_of_heap RSX.out)
  have GBX1 := hid gr.out.size
  go_wp2_with fail
  refine (HTO1.out _ _ _ S1.out).mono ?_
  rintro e W7 ⟨rfl, h7, g7⟩
  replace gr := hid (gr.out.trans g7)
  replace S1 := hid (S1.out.gr g7)
  replace Ow := hid (Ow.out.gr g7)
  replace SX := hid (SX.out.gr g7)
  replace RSX := hid (g7.heap RSX.out)
  replace BX := hid (g7.heap BX.out)
  have Bx1 := hid h7
  have gz7 := hid g7.size
  clear h7 g7
  obtain ⟨q0, q1', q2, q3⟩ := bk_cells BX.out
  go_wp2_with fail
  clear q0 q1' q2 q3
  have GBo := hid gr.out.size
  have LTX := hid (lt_of_heap RSX.out)
  have LTX1 := hid (lt_of_heap Bx1.out)
  go_wp2_with fail
  refine (HIM.out HN.out _ _ _ SX.out (sliceOf_block Bx1.out)).mono ?_
  rintro e W8 ⟨u8, rfl, o8, g8⟩
  replace gr := hid (gr.out.trans g8)
  replace S1 := hid (S1.out.gr g8)
  replace Ow := hid (Ow.out.gr g8)
  replace SX := hid (SX.out.gr g8)
  replace RSX := hid (g8.heap RSX.out)
  replace BX := hid (g8.heap BX.out)
  replace Bx1 := hid (g8.heap Bx1.out)
  obtain ⟨p8, q8, rfl⟩ := o8.shape
  have Og := hid o8
  have gz8 := hid g8.size
  rw [← HYM.out] at Og ⊢
  clear o8 g8
  unfold withCode
  go_wp2_with fail
  refine (HYE.out _ _ _ _ _ Og.out.reads Ow.out.reads).mono ?_
  rintro e W9 ⟨rfl, g9⟩
  replace gr := hid (gr.out.trans g9)
  replace S1 := hid (S1.out.gr g9)
  replace Ow := hid (Ow.out.gr g9)
  replace Og := hid (Og.out.gr g9)
  replace SX := hid (SX.out.gr g9)
  replace RSX := hid (g9.heap RSX.out)
  replace BX := hid (g9.heap BX.out)
  replace Bx1 := hid (g9.heap Bx1.out)
  clear g9
  have HX0 := hid (fun V (g : Gr W9 V) => bk_cells (g.heap BX.out))
  have HGX := hid gr.out
  have SXX := SX
  go_wp2_with fail
  have gd : Gr W9 W9.drew := (Gr.refl W9).drew
  obtain ⟨p0, p1, p2, p3⟩ := HD0.out _ (HGX.out.trans gd)
  obtain ⟨q0, q1', q2, q3⟩ := HX0.out _ gd
  go_region_held3 (fun V => V.cell? ⟨w.heap.size, 0, none⟩ = some (.int .i8 k) ∧ V.cell? ⟨w.heap.size, 1, none⟩ = some (.int .i8 l) ∧ V.cell? ⟨w.heap.size, 2, none⟩ = some (.int .i8 s) ∧ V.cell? ⟨w.heap.size, 3, none⟩ = some (.slice a n ca) ∧ V.cell? ⟨W5.heap.size, 0, none⟩ = some (.int .i8 k) ∧ V.cell? ⟨W5.heap.size, 1, none⟩ = some (.int .i8 l) ∧ V.cell? ⟨W5.heap.size, 2, none⟩ = some (.int .i8 s) ∧ V.cell? ⟨W5.heap.size, 3, none⟩ = some (.slice (some ⟨W4.heap.size + 3, 0, none⟩) n n) ∧ Gr W9 V)
    (first | exact ⟨p0, p1, p2, p3, q0, q1', q2, q3, gd⟩ | exact bk_keep (HD0.out _ (HGX.out.trans gWx)) (HX0.out _ gWx) gWx | go_keep)
    ((first | ((with_reducible refine (HTA.out HN.out _ (G.out.trans (HGX.out.trans (by assumption)))).mono ?_); rintro e V ⟨rfl, hA, gV⟩; have gWx : Gr W9 V := Gr.trans (by assumption) gV; have sA9 := strsOf_block hA; have sX9 := SXX.out.gr gWx; (try simp only [World.size_drew] at sA9)) | ((with_reducible refine (HEA.out HN.out _ _ _ sX9 sA9).mono ?_); rintro e V9 ⟨rfl, gV⟩; have gWx : Gr W9 V9 := Gr.trans (by assumption) gV)))
  have g9 : Gr W9 V9 := gWx
  clear p0 p1 p2 p3 q0 q1' q2 q3 gd
  replace gr := hid (gr.out.trans g9)
  replace S1 := hid (S1.out.gr g9)
  replace Ow := hid (Ow.out.gr g9)
  replace Og := hid (Og.out.gr g9)
  replace SX := hid (SX.out.gr g9)
  replace RSX := hid (g9.heap RSX.out)
  replace BX := hid (g9.heap BX.out)
  replace Bx1 := hid (g9.heap Bx1.out)
  clear g9
  go_wp2_with fail
  refine (HTO1.out _ _ _ S1.out).mono ?_
  rintro e W10 ⟨rfl, h10, g10⟩
  replace gr := hid (gr.out.trans g10)
  replace S1 := hid (S1.out.gr g10)
  replace Ow := hid (Ow.out.gr g10)
  replace Og := hid (Og.out.gr g10)
  replace SX := hid (SX.out.gr g10)
  replace RSX := hid (g10.heap RSX.out)
  replace BX := hid (g10.heap BX.out)
  replace Bx1 := hid (g10.heap Bx1.out)
  have Bt := hid h10
  have gz10 := hid g10.size
  clear h10 g10
  go_wp2_with fail
  refine (HEQ1.out _ _ _ _ _ (sliceOf_block Bx1.out) (sliceOf_block Bt.out)).mono ?_
  rintro e W11 ⟨rfl, g11⟩
  replace gr := hid (gr.out.trans g11)
  replace S1 := hid (S1.out.gr g11)
  replace Ow := hid (Ow.out.gr g11)
  replace Og := hid (Og.out.gr g11)
  replace SX := hid (SX.out.gr g11)
  replace RSX := hid (g11.heap RSX.out)
  replace BX := hid (g11.heap BX.out)
  replace Bx1 := hid (g11.heap Bx1.out)
  replace Bt := hid (g11.heap Bt.out)
  clear Bt
  clear g11
  obtain ⟨q0, q1', q2, q3⟩ := bk_cells BX.out
  go_wp2_with fail
  clear q0 q1' q2 q3
  refine (HMB.out HN.out _ _ RSX.out).mono ?_
  rintro e W12 ⟨rfl, m12⟩
  have M12 := hid m12
  clear m12
  have gm : Gr W W12 := gr.out.by_ M12.out (fun b e => by cases e; have := GB.out; omega)
  replace gr := hid gm
  replace S1 := hid (Z1.out.gr (G.out.trans gm))
  clear gm
  replace Ow := hid (Ow.out.by_ M12.out (fun b e => by cases e; right; omega))
  replace Og := hid (Og.out.by_ M12.out (fun b e => by cases e; left; exact LTX.out))
  replace Bx1 := hid ((M12.out.block _ (lt_of_heap Bx1.out) (by simp only [ne_eq, Option.some.injEq]; have := LTB1.out; omega)).trans Bx1.out)
  clear M12
  clear RSX
  clear BX
  clear SX
  have Ox := hid (Own.ofBlock Bx1.out HXL1.out)
  rw [← HXN1.out] at Ox
  clear Bx1
  go_wp2_with fail
  refine (markMeaning_on _ _ _ _ _ n xs1 (by rw [← HXN1.out]; exact hn1) HN.out _ Ox.out).mono ?_
  rintro e W13 ⟨rfl, -, m13⟩
  have M13 := hid m13
  clear m13 Ox
  have gm : Gr W W13 := gr.out.by_ M13.out (fun b e => by cases e; exact GBX1.out)
  replace gr := hid gm
  replace S1 := hid (Z1.out.gr (G.out.trans gm))
  clear gm
  replace Ow := hid (Ow.out.by_ M13.out (fun b e => by cases e; right; have := LTB1.out; dsimp only; omega))
  replace Og := hid (Og.out.by_ M13.out (fun b e => by cases e; left; exact LTX1.out))
  clear M13
  go_wp2_with fail
  refine (HYE.out _ _ _ _ _ Og.out.reads Ow.out.reads).mono ?_
  rintro e W14 ⟨rfl, g14⟩
  replace gr := hid (gr.out.trans g14)
  replace S1 := hid (S1.out.gr g14)
  replace Ow := hid (Ow.out.gr g14)
  replace Og := hid (Og.out.gr g14)
  clear g14
  go_wp2_with fail
  refine (markInt64S_one _ _ _ _ _ r0 (by rw [← HYM.out]; exact hyl) _ Og.out).mono ?_
  rintro e W15 ⟨rfl, o15, m15⟩
  have M15 := hid m15
  have rl := Og.out.row.lt
  have gm : Gr W W15 := gr.out.by_ M15.out (fun b e => by have := (rl b e).1; have := GBo.out; omega)
  replace gr := hid gm
  replace S1 := hid (Z1.out.gr (G.out.trans gm))
  clear gm
  replace Ow := hid (Ow.out.by_ M15.out (fun b e => by right; have := (rl b e).1; have := LTX.out; omega))
  replace Og := hid o15
  clear M15 o15 m15 rl
  go_wp2_with fail
  refine (heldInt64S_one _ _ _ hyl _ Og.out.reads).mono ?_
  rintro e W16 ⟨rfl, g16⟩
  replace gr := hid (gr.out.trans g16)
  replace S1 := hid (S1.out.gr g16)
  replace Ow := hid (Ow.out.gr g16)
  replace Og := hid (Og.out.gr g16)
  clear g16
  obtain ⟨p0, p1, p2, p3⟩ := HD0.out _ gr.out
  go_wp2_with fail
  clear p0 p1 p2 p3
  refine (HTA.out HN.out _ (G.out.trans gr.out)).mono ?_
  rintro e W17 ⟨rfl, h17, g17⟩
  replace gr := hid (gr.out.trans g17)
  replace S1 := hid (S1.out.gr g17)
  replace Ow := hid (Ow.out.gr g17)
  replace Og := hid (Og.out.gr g17)
  have S2 := hid (strsOf_block h17)
  have gz17 := hid g17.size
  clear h17 g17
  go_wp2_with fail
  refine (HTO1.out _ _ _ S1.out).mono ?_
  rintro e W18 ⟨rfl, h18, g18⟩
  replace gr := hid (gr.out.trans g18)
  replace S1 := hid (S1.out.gr g18)
  replace Ow := hid (Ow.out.gr g18)
  replace Og := hid (Og.out.gr g18)
  replace S2 := hid (S2.out.gr g18)
  have By1 := hid h18
  have gz18 := hid g18.size
  clear h18 g18
  go_wp2_with fail
  refine (HIM.out HN.out _ _ _ S2.out (sliceOf_block By1.out)).mono ?_
  rintro e W19 ⟨u19, rfl, o19, g19⟩
  replace gr := hid (gr.out.trans g19)
  replace S1 := hid (S1.out.gr g19)
  replace Ow := hid (Ow.out.gr g19)
  replace Og := hid (Og.out.gr g19)
  replace S2 := hid (S2.out.gr g19)
  replace By1 := hid (g19.heap By1.out)
  obtain ⟨p19, q19, rfl⟩ := o19.shape
  have Oh := hid o19
  have gz19 := hid g19.size
  rw [← HYM.out] at Oh ⊢
  clear o19 g19
  unfold withCode
  clear S2
  go_wp2_with fail
  refine (HYE.out _ _ _ _ _ Oh.out.reads Ow.out.reads).mono ?_
  rintro e W20 ⟨rfl, g20⟩
  replace gr := hid (gr.out.trans g20)
  replace S1 := hid (S1.out.gr g20)
  replace Ow := hid (Ow.out.gr g20)
  replace Og := hid (Og.out.gr g20)
  replace Oh := hid (Oh.out.gr g20)
  replace By1 := hid (g20.heap By1.out)
  clear g20
  go_wp2_with fail
  refine (heldInt64S_one _ _ _ hyl _ Og.out.reads).mono ?_
  rintro e W21 ⟨rfl, g21⟩
  replace gr := hid (gr.out.trans g21)
  replace S1 := hid (S1.out.gr g21)
  replace Ow := hid (Ow.out.gr g21)
  replace Og := hid (Og.out.gr g21)
  replace Oh := hid (Oh.out.gr g21)
  replace By1 := hid (g21.heap By1.out)
  clear g21
  go_wp2_with fail
  go_ret
  exact ⟨rfl, G.out.trans gr.out⟩
end Go.Proofs.Ytkbdblaciphmnaa
