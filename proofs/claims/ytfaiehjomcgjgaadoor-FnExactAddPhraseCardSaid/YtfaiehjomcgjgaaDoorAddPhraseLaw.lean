/- AddPhrase: the law's walk. -/
import Derived.Test.YtfaiehjomcgjgaaDoorAddPhrase
import Derived.Test.YtfaiehjomcgjgaaDoorOwnT
namespace Go.Proofs.YtfaiehjomcgjgaaDoor
set_option linter.unusedVariables false
open Go.RowKit
set_option maxHeartbeats 8000000 in
set_option maxRecDepth 100000 in
theorem FnExactAddPhrase_walk (k l s : Int) (hw : Wf3 k l s) (a : Option Addr) (ca n : Nat) (ss : List ByteArray) (hl : n = ss.length) (hm : n ≤ 9223372036854775807) (hz : SizesOk ss) (t1 : ByteArray) (z1 : t1.size ≤ 9223372036854775807) (b0' b1' b2' : Addr) (w : World) (hS : SentAt w b0' b1' b2') (hs : StrsOf w a ss) :
    Calls Tryd.prog 7 #[bookV k l s (.slice a n ca), .string t1] w fun e w' => e = .returned (.bool true) ∧ Gr w w' := by
  by_cases hn1 : t1.size ≤ 1048576
  case neg =>
    have gr0 : Gr w (w.alloc (.cells (bookC k l s (.slice a n ca)) 25)) := (Gr.refl w).alloc _
    have GR0 := hid gr0
    have hbig : 1048576 < t1.size := by omega
    have hbig' : (1048576 : Int) < ((t1.size : Nat) : Int) := by omega
    clear gr0 hs hz hl
    go_enter Tryd.func7, Tryd.ntmps7
    go_wp2_with fail
    go_ret
    exact ⟨rfl, GR0.out⟩
  have HZ1 : Hid (∀ (V : World), Gr w V → Calls Tryd.prog 10 #[bookV k l s (.slice a n ca), .int .i64 1048576] V fun e w' => (∃ r : Int, e = .returned (.int .i64 r) ∧ (r = -1 ∨ (0 ≤ r ∧ r ≤ 1048576 ∧ n ≤ 1048576))) ∧ Gr V w') := hid (fun V g => szBook_any k l s a ca n 1048576 ss hl hm (Nat.le_refl _) hz V (hs.gr g))
  have HTA := hid (fun (h : n ≤ 1048576) (V : World) (g : Gr w V) => toBook_any k l s a ca n ss hl h V (hs.gr g))
  have HSP := hid (fun (hn : n ≤ 1048576) (p : Nat) (V : World) (hb : V.heap[p]? = some (.cells (strCells ss) 9 (0, 0))) => spec_AddPhrase_any k l s hw p n ss hl hn hz t1 z1 V hb)
  have HIM := hid (fun (hn : n ≤ 1048576) (p : Nat) (V : World) (gv : Gr w V) (hb : V.heap[p]? = some (.cells (strCells ss) 9 (0, 0))) => impl_AddPhrase_any k l s hw p n ss hl hn hz t1 z1 b0' b1' b2' V hb (hS.gr gv))
  have HEA := hid (fun (h : n ≤ 1048576) (p q : Option Addr) (V : World) (sa : StrsOf V p ss) (sb : StrsOf V q ss) => eqBook_same k l s p q n n n ss hl h V sa sb)
  have HMB := hid (fun (h : n ≤ 1048576) (g : Nat) (V : World) (hb : V.heap[g]? = some (.cells (strCells ss) 9 (0, 0))) => markBook_any k l s g n ss hl h V hb)
  have HYL := hid (fun (h : n ≤ 1048576) => (addL_len (by rw [← hl]; exact h) : (addL k l s ss t1).length ≤ 1048576))
  generalize addL k l s ss t1 = rs at *
  generalize keepI (addC k l s ss t1) k = kk at *
  generalize keepI (addC k l s ss t1) l = ll at *
  generalize keepI (addC k l s ss t1) s = sb at *
  generalize addC k l s ss t1 = cc at *
  unfold RetBook at HSP HIM
  clear hl hz hs hw hS
  obtain ⟨m, hym⟩ : ∃ m, m = rs.length := ⟨_, rfl⟩
  have HYM := hid hym
  rw [← hym] at HYL
  clear hym
  go_enter Tryd.func7, Tryd.ntmps7
  go_wp2_with fail
  have b0 := hid (heap_new (w := w) (o := .cells (bookC k l s (.slice a n ca)) 25) rfl)
  have G := hid ((Gr.refl w).alloc (.cells (bookC k l s (.slice a n ca)) 25))
  obtain ⟨W, hW⟩ : ∃ W, W = (w.alloc (.cells (bookC k l s (.slice a n ca)) 25)) := ⟨_, rfl⟩
  rw [← hW] at b0 G ⊢
  clear hW
  have HD0 := hid (fun V (g : Gr W V) => bk_cells (g.heap b0.out))
  refine (HZ1.out W G.out).mono ?_
  rintro e W1 ⟨⟨r1', rfl, hr1⟩, g1⟩
  have gr := hid g1
  clear g1
  rcases hr1 with rfl | ⟨h0, h1, hn1'⟩
  · go_wp2_with fail
    go_ret
    exact ⟨rfl, G.out.trans gr.out⟩
  have hn0 : ¬ r1' < 0 := by omega
  have HN := hid (show n ≤ 1048576 from hn1')
  have hym9 := HYL.out HN.out
  have HYB := hid hym9
  obtain ⟨p0, p1, p2, p3⟩ := HD0.out _ gr.out
  go_wp2_with fail
  clear p0 p1 p2 p3
  refine (HTA.out HN.out _ (G.out.trans gr.out)).mono ?_
  rintro e W2 ⟨rfl, h2, g2⟩
  replace gr := hid (gr.out.trans g2)
  have SA := hid h2
  have GZ2 := hid g2.size
  clear h2 g2
  go_wp2_with fail
  refine (HSP.out HN.out _ _ SA.out).mono ?_
  rintro e W3 ⟨u3, rfl, o3, g3⟩
  replace gr := hid (gr.out.trans g3)
  replace SA := hid (g3.heap SA.out)
  obtain ⟨POw, COw, rfl⟩ := o3.shape
  have Ow := hid o3
  have GZ3 := hid g3.size
  rw [← HYM.out] at Ow ⊢
  clear o3 g3
  clear SA
  have GZw := hid (Nat.le_refl W3.heap.size)
  have NX := hid (heap_new (w := W3) (o := .cells (bookC 0 0 0 (.slice none 0 0)) 31) rfl)
  have BW := hid (heap_row_set (cs := (bookC kk ll sb (.slice POw m COw))) NX.out)
  have GL := hid (((Gr.refl W3).alloc (.cells (bookC 0 0 0 (.slice none 0 0)) 31)).setRow (Nat.le_refl _) (bookC kk ll sb (.slice POw m COw)))
  have LTBW := hid (lt_of_heap BW.out)
  obtain ⟨p0, p1, p2, p3⟩ := HD0.out _ (gr.out.trans GL.out)
  go_wp2_with (refine wpList_store_cells rfl 31 _ _ rfl _ (bookC kk ll sb (.slice POw m COw)) (bookC 0 0 0 (.slice none 0 0)) rfl rfl _ 4 NX.out (by kernel_rfl) rfl rfl (by simp [Value.oneCell']) ?_)
  clear NX p0 p1 p2 p3
  obtain ⟨W4, hW4⟩ : ∃ V, V = (W3.alloc (.cells (bookC 0 0 0 (.slice none 0 0)) 31)).setRow W3.heap.size (bookC kk ll sb (.slice POw m COw)) := ⟨_, rfl⟩
  rw [← hW4] at BW GL LTBW ⊢
  clear hW4
  replace gr := hid (gr.out.trans GL.out)
  replace Ow := hid (Ow.out.gr GL.out)
  have GZ4 := hid GL.out.size
  clear GL
  have LTW := hid (lt_of_heap BW.out)
  have GRX := hid gr.out.size
  obtain ⟨p0, p1, p2, p3⟩ := HD0.out _ gr.out
  go_wp2_with fail
  clear p0 p1 p2 p3
  refine (HTA.out HN.out _ (G.out.trans gr.out)).mono ?_
  rintro e W5 ⟨rfl, h5, g5⟩
  replace gr := hid (gr.out.trans g5)
  replace Ow := hid (Ow.out.gr g5)
  replace BW := hid (g5.heap BW.out)
  have RSX := hid h5
  have GZ5 := hid g5.size
  clear h5 g5
  have LTR := hid (lt_of_heap RSX.out)
  have GBX := hid (Nat.le_refl W4.heap.size)
  have NX := hid (heap_new (w := W5) (o := .cells (bookC 0 0 0 (.slice none 0 0)) 31) rfl)
  have BX := hid (heap_row_set (cs := (bookC k l s (.slice (some ⟨W4.heap.size + 3, 0, none⟩) n n))) NX.out)
  have GL := hid (((Gr.refl W5).alloc (.cells (bookC 0 0 0 (.slice none 0 0)) 31)).setRow (Nat.le_refl _) (bookC k l s (.slice (some ⟨W4.heap.size + 3, 0, none⟩) n n)))
  have LTBX := hid (lt_of_heap BX.out)
  obtain ⟨q0, q1', q2, q3⟩ := bk_cells BX.out
  go_wp2_with (refine wpList_store_cells rfl 31 _ _ rfl _ (bookC k l s (.slice (some ⟨W4.heap.size + 3, 0, none⟩) n n)) (bookC 0 0 0 (.slice none 0 0)) rfl rfl _ 4 NX.out (by kernel_rfl) rfl rfl (by simp [Value.oneCell']) ?_)
  clear NX q0 q1' q2 q3
  obtain ⟨W6, hW6⟩ : ∃ V, V = (W5.alloc (.cells (bookC 0 0 0 (.slice none 0 0)) 31)).setRow W5.heap.size (bookC k l s (.slice (some ⟨W4.heap.size + 3, 0, none⟩) n n)) := ⟨_, rfl⟩
  rw [← hW6] at BX GL LTBX ⊢
  clear hW6
  replace gr := hid (gr.out.trans GL.out)
  replace Ow := hid (Ow.out.gr GL.out)
  replace BW := hid (GL.out.heap BW.out)
  replace RSX := hid (GL.out.heap RSX.out)
  have GZ6 := hid GL.out.size
  clear GL
  obtain ⟨q0, q1', q2, q3⟩ := bk_cells BX.out
  go_wp2_with fail
  clear q0 q1' q2 q3
  refine (HIM.out HN.out _ _ (G.out.trans gr.out) RSX.out).mono ?_
  rintro e W7 ⟨u7, rfl, o7, g7⟩
  replace gr := hid (gr.out.trans g7)
  replace Ow := hid (Ow.out.gr g7)
  replace BW := hid (g7.heap BW.out)
  replace RSX := hid (g7.heap RSX.out)
  replace BX := hid (g7.heap BX.out)
  obtain ⟨POg, COg, rfl⟩ := o7.shape
  have Og := hid o7
  have GZ7 := hid g7.size
  rw [← HYM.out] at Og ⊢
  clear o7 g7
  have TOG := hid (show ∀ b, (Value.slice POg m COg).ownBlock = some b → W6.heap.size ≤ b ∧ b < W7.heap.size from fun b e => ⟨(Og.out.row.lt b e).1, Og.out.top b e⟩)
  have NX := hid (heap_new (w := W7) (o := .cells (bookC 0 0 0 (.slice none 0 0)) 31) rfl)
  have BG := hid (heap_row_set (cs := (bookC kk ll sb (.slice POg m COg))) NX.out)
  have GL := hid (((Gr.refl W7).alloc (.cells (bookC 0 0 0 (.slice none 0 0)) 31)).setRow (Nat.le_refl _) (bookC kk ll sb (.slice POg m COg)))
  have LTBG := hid (lt_of_heap BG.out)
  obtain ⟨q0, q1', q2, q3⟩ := bk_cells BG.out
  obtain ⟨q4, q5, q6, q7⟩ := bk_cells (GL.out.heap BW.out)
  go_wp2_with (refine wpList_store_cells rfl 31 _ _ rfl _ (bookC kk ll sb (.slice POg m COg)) (bookC 0 0 0 (.slice none 0 0)) rfl rfl _ 4 NX.out (by kernel_rfl) rfl rfl (by simp [Value.oneCell']) ?_)
  clear NX q0 q1' q2 q3 q4 q5 q6 q7
  obtain ⟨W8, hW8⟩ : ∃ V, V = (W7.alloc (.cells (bookC 0 0 0 (.slice none 0 0)) 31)).setRow W7.heap.size (bookC kk ll sb (.slice POg m COg)) := ⟨_, rfl⟩
  rw [← hW8] at BG GL LTBG ⊢
  clear hW8
  replace gr := hid (gr.out.trans GL.out)
  replace Ow := hid (Ow.out.gr GL.out)
  replace Og := hid (Og.out.gr GL.out)
  replace BW := hid (GL.out.heap BW.out)
  replace RSX := hid (GL.out.heap RSX.out)
  replace BX := hid (GL.out.heap BX.out)
  have GZ8 := hid GL.out.size
  clear GL
  obtain ⟨q0, q1', q2, q3⟩ := bk_cells BG.out
  obtain ⟨q4, q5, q6, q7⟩ := bk_cells BW.out
  go_wp2_with fail
  clear q0 q1' q2 q3 q4 q5 q6 q7
  refine (eqBook_same kk ll sb _ _ _ _ m rs HYM.out HYB.out _ Og.out.reads Ow.out.reads).mono ?_
  rintro e W9 ⟨rfl, g9⟩
  replace gr := hid (gr.out.trans g9)
  replace Ow := hid (Ow.out.gr g9)
  replace Og := hid (Og.out.gr g9)
  replace BW := hid (g9.heap BW.out)
  replace RSX := hid (g9.heap RSX.out)
  replace BX := hid (g9.heap BX.out)
  replace BG := hid (g9.heap BG.out)
  clear g9
  have HX0 := hid (fun V (g : Gr W9 V) => bk_cells (g.heap BX.out))
  have HGX := hid gr.out
  have SXX := hid (strsOf_block RSX.out)
  go_wp2_with fail
  have gd : Gr W9 W9.drew := (Gr.refl W9).drew
  obtain ⟨p0, p1, p2, p3⟩ := HD0.out _ (HGX.out.trans gd)
  obtain ⟨q0, q1', q2, q3⟩ := HX0.out _ gd
  go_region_held3 (fun V => V.cell? ⟨w.heap.size, 0, none⟩ = some (.int .i8 k) ∧ V.cell? ⟨w.heap.size, 1, none⟩ = some (.int .i8 l) ∧ V.cell? ⟨w.heap.size, 2, none⟩ = some (.int .i8 s) ∧ V.cell? ⟨w.heap.size, 3, none⟩ = some (.slice a n ca) ∧ V.cell? ⟨W5.heap.size, 0, none⟩ = some (.int .i8 k) ∧ V.cell? ⟨W5.heap.size, 1, none⟩ = some (.int .i8 l) ∧ V.cell? ⟨W5.heap.size, 2, none⟩ = some (.int .i8 s) ∧ V.cell? ⟨W5.heap.size, 3, none⟩ = some (.slice (some ⟨W4.heap.size + 3, 0, none⟩) n n) ∧ Gr W9 V)
    (first | exact ⟨p0, p1, p2, p3, q0, q1', q2, q3, gd⟩ | exact bk_keep (HD0.out _ (HGX.out.trans gWx)) (HX0.out _ gWx) gWx | go_keep)
    ((first | ((with_reducible refine (HTA.out HN.out _ (G.out.trans (HGX.out.trans (by assumption)))).mono ?_); rintro e V ⟨rfl, hA, gV⟩; have gWx : Gr W9 V := Gr.trans (by assumption) gV; have sA9 := strsOf_block hA; have sX9 := SXX.out.gr gWx; (try simp only [World.size_drew] at sA9)) | ((with_reducible refine (HEA.out HN.out _ _ _ sX9 sA9).mono ?_); rintro e V9 ⟨rfl, gV⟩; have gWx : Gr W9 V9 := Gr.trans (by assumption) gV)))
  have g9 : Gr W9 V9 := gWx
  clear p0 p1 p2 p3 q0 q1' q2 q3 gd SXX HX0 HGX
  replace gr := hid (gr.out.trans g9)
  replace Ow := hid (Ow.out.gr g9)
  replace Og := hid (Og.out.gr g9)
  replace BW := hid (g9.heap BW.out)
  replace RSX := hid (g9.heap RSX.out)
  replace BX := hid (g9.heap BX.out)
  replace BG := hid (g9.heap BG.out)
  clear g9
  obtain ⟨q0, q1', q2, q3⟩ := bk_cells BX.out
  go_wp2_with fail
  clear q0 q1' q2 q3
  refine (HMB.out HN.out _ _ RSX.out).mono ?_
  rintro e W10 ⟨rfl, m10⟩
  have M := hid m10
  clear m10
  clear RSX
  clear BX
  replace gr := hid (gr.out.by_ M.out (fun b e => by cases e; have := GRX.out; omega))
  replace Ow := hid (Ow.out.by_ M.out (fun b e => by cases e; right; have h1 := LTW.out; have h2 := LTR.out; have h3 := LTBX.out; have h4 := LTBG.out; have z4 := GZ4.out; have z5 := GZ5.out; have z6 := GZ6.out; have z7 := GZ7.out; have z8 := GZ8.out; have zw := GZw.out; omega))
  replace Og := hid (Og.out.by_ M.out (fun b e => by cases e; left; have h1 := LTW.out; have h2 := LTR.out; have h3 := LTBX.out; have h4 := LTBG.out; have z4 := GZ4.out; have z5 := GZ5.out; have z6 := GZ6.out; have z7 := GZ7.out; have z8 := GZ8.out; have zw := GZw.out; omega))
  replace BW := hid ((M.out.block _ (lt_of_heap BW.out) (by simp only [ne_eq, Option.some.injEq]; have h1 := LTW.out; have h2 := LTR.out; have h3 := LTBX.out; have h4 := LTBG.out; have z4 := GZ4.out; have z5 := GZ5.out; have z6 := GZ6.out; have z7 := GZ7.out; have z8 := GZ8.out; have zw := GZw.out; omega)).trans BW.out)
  replace BG := hid ((M.out.block _ (lt_of_heap BG.out) (by simp only [ne_eq, Option.some.injEq]; have h1 := LTW.out; have h2 := LTR.out; have h3 := LTBX.out; have h4 := LTBG.out; have z4 := GZ4.out; have z5 := GZ5.out; have z6 := GZ6.out; have z7 := GZ7.out; have z8 := GZ8.out; have zw := GZw.out; omega)).trans BG.out)
  clear M
  obtain ⟨q0, q1', q2, q3⟩ := bk_cells BG.out
  obtain ⟨q4, q5, q6, q7⟩ := bk_cells BW.out
  go_wp2_with fail
  clear q0 q1' q2 q3 q4 q5 q6 q7
  refine (eqBook_same kk ll sb _ _ _ _ m rs HYM.out HYB.out _ Og.out.reads Ow.out.reads).mono ?_
  rintro e W11 ⟨rfl, g11⟩
  replace gr := hid (gr.out.trans g11)
  replace Ow := hid (Ow.out.gr g11)
  replace Og := hid (Og.out.gr g11)
  replace BW := hid (g11.heap BW.out)
  replace BG := hid (g11.heap BG.out)
  clear g11
  obtain ⟨q0, q1', q2, q3⟩ := bk_cells BG.out
  have SCU := hid (show W7.heap.size ≤ W11.heap.size from by have := lt_of_heap BG.out; omega)
  go_wp2_with fail
  clear q0 q1' q2 q3
  refine (markBook_own kk ll sb _ _ _ _ _ rs HYB.out _ SCU.out Og.out).mono ?_
  rintro e W12 ⟨rfl, o12, m12⟩
  have M := hid m12
  clear m12 SCU
  replace gr := hid (gr.out.by_ M.out (fun b e => by have h9 := TOG.out b e; have := GRX.out; have h1 := LTW.out; have h2 := LTR.out; have h3 := LTBX.out; have h4 := LTBG.out; have z4 := GZ4.out; have z5 := GZ5.out; have z6 := GZ6.out; have z7 := GZ7.out; have z8 := GZ8.out; have zw := GZw.out; omega))
  replace Ow := hid (Ow.out.by_ M.out (fun b e => by right; have h9 := TOG.out b e; have h1 := LTW.out; have h2 := LTR.out; have h3 := LTBX.out; have h4 := LTBG.out; have z4 := GZ4.out; have z5 := GZ5.out; have z6 := GZ6.out; have z7 := GZ7.out; have z8 := GZ8.out; have zw := GZw.out; omega))
  have Om := hid o12
  clear o12
  replace BW := hid ((M.out.block _ (lt_of_heap BW.out) (fun e => by have h9 := TOG.out _ e.symm; have h1 := LTW.out; have h2 := LTR.out; have h3 := LTBX.out; have h4 := LTBG.out; have z4 := GZ4.out; have z5 := GZ5.out; have z6 := GZ6.out; have z7 := GZ7.out; have z8 := GZ8.out; have zw := GZw.out; omega)).trans BW.out)
  replace BG := hid ((M.out.block _ (lt_of_heap BG.out) (fun e => by have h9 := TOG.out _ e.symm; have h1 := LTW.out; have h2 := LTR.out; have h3 := LTBX.out; have h4 := LTBG.out; have z4 := GZ4.out; have z5 := GZ5.out; have z6 := GZ6.out; have z7 := GZ7.out; have z8 := GZ8.out; have zw := GZw.out; omega)).trans BG.out)
  clear Og M
  obtain ⟨q0, q1', q2, q3⟩ := bk_cells BG.out
  go_wp2_with fail
  clear q0 q1' q2 q3
  refine (heldBook_own kk ll sb _ m _ HYB.out _ Om.out.reads).mono ?_
  rintro e W13 ⟨rfl, g13⟩
  replace gr := hid (gr.out.trans g13)
  replace Ow := hid (Ow.out.gr g13)
  replace Om := hid (Om.out.gr g13)
  replace BW := hid (g13.heap BW.out)
  replace BG := hid (g13.heap BG.out)
  clear g13
  obtain ⟨p0, p1, p2, p3⟩ := HD0.out _ gr.out
  go_wp2_with fail
  clear p0 p1 p2 p3
  refine (HTA.out HN.out _ (G.out.trans gr.out)).mono ?_
  rintro e W14 ⟨rfl, h14, g14⟩
  replace gr := hid (gr.out.trans g14)
  replace Ow := hid (Ow.out.gr g14)
  replace Om := hid (Om.out.gr g14)
  replace BW := hid (g14.heap BW.out)
  replace BG := hid (g14.heap BG.out)
  have S2 := hid h14
  have GZ14 := hid g14.size
  clear h14 g14
  go_wp2_with fail
  refine (HIM.out HN.out _ _ (G.out.trans gr.out) S2.out).mono ?_
  rintro e W15 ⟨u15, rfl, o15, g15⟩
  replace gr := hid (gr.out.trans g15)
  replace Ow := hid (Ow.out.gr g15)
  replace Om := hid (Om.out.gr g15)
  replace BW := hid (g15.heap BW.out)
  replace BG := hid (g15.heap BG.out)
  replace S2 := hid (g15.heap S2.out)
  obtain ⟨POh, COh, rfl⟩ := o15.shape
  have Oh := hid o15
  have GZ15 := hid g15.size
  rw [← HYM.out] at Oh ⊢
  clear o15 g15
  clear S2
  have NX := hid (heap_new (w := W15) (o := .cells (bookC 0 0 0 (.slice none 0 0)) 31) rfl)
  have BH := hid (heap_row_set (cs := (bookC kk ll sb (.slice POh m COh))) NX.out)
  have GL := hid (((Gr.refl W15).alloc (.cells (bookC 0 0 0 (.slice none 0 0)) 31)).setRow (Nat.le_refl _) (bookC kk ll sb (.slice POh m COh)))
  have LTBH := hid (lt_of_heap BH.out)
  obtain ⟨q0, q1', q2, q3⟩ := bk_cells BH.out
  obtain ⟨q4, q5, q6, q7⟩ := bk_cells (GL.out.heap BW.out)
  go_wp2_with (refine wpList_store_cells rfl 31 _ _ rfl _ (bookC kk ll sb (.slice POh m COh)) (bookC 0 0 0 (.slice none 0 0)) rfl rfl _ 4 NX.out (by kernel_rfl) rfl rfl (by simp [Value.oneCell']) ?_)
  clear NX q0 q1' q2 q3 q4 q5 q6 q7
  obtain ⟨W16, hW16⟩ : ∃ V, V = (W15.alloc (.cells (bookC 0 0 0 (.slice none 0 0)) 31)).setRow W15.heap.size (bookC kk ll sb (.slice POh m COh)) := ⟨_, rfl⟩
  rw [← hW16] at BH GL LTBH ⊢
  clear hW16
  replace gr := hid (gr.out.trans GL.out)
  replace Ow := hid (Ow.out.gr GL.out)
  replace Om := hid (Om.out.gr GL.out)
  replace Oh := hid (Oh.out.gr GL.out)
  replace BW := hid (GL.out.heap BW.out)
  replace BG := hid (GL.out.heap BG.out)
  have GZ16 := hid GL.out.size
  clear GL
  obtain ⟨q0, q1', q2, q3⟩ := bk_cells BH.out
  obtain ⟨q4, q5, q6, q7⟩ := bk_cells BW.out
  go_wp2_with fail
  clear q0 q1' q2 q3 q4 q5 q6 q7
  refine (eqBook_same kk ll sb _ _ _ _ m rs HYM.out HYB.out _ Oh.out.reads Ow.out.reads).mono ?_
  rintro e W17 ⟨rfl, g17⟩
  replace gr := hid (gr.out.trans g17)
  replace Ow := hid (Ow.out.gr g17)
  replace Om := hid (Om.out.gr g17)
  replace Oh := hid (Oh.out.gr g17)
  replace BW := hid (g17.heap BW.out)
  replace BG := hid (g17.heap BG.out)
  replace BH := hid (g17.heap BH.out)
  clear g17
  clear BH
  obtain ⟨q0, q1', q2, q3⟩ := bk_cells BG.out
  go_wp2_with fail
  clear q0 q1' q2 q3
  refine (heldBook_own kk ll sb _ m _ HYB.out _ Om.out.reads).mono ?_
  rintro e W18 ⟨rfl, g18⟩
  replace gr := hid (gr.out.trans g18)
  replace Ow := hid (Ow.out.gr g18)
  replace Om := hid (Om.out.gr g18)
  replace Oh := hid (Oh.out.gr g18)
  replace BW := hid (g18.heap BW.out)
  replace BG := hid (g18.heap BG.out)
  clear g18
  go_wp2_with fail
  go_ret
  exact ⟨rfl, G.out.trans gr.out⟩
end Go.Proofs.YtfaiehjomcgjgaaDoor
