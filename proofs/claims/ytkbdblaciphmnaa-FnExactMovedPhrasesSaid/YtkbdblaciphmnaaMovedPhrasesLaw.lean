/- MovedPhrases: the law's walk. -/
import Derived.Test.YtkbdblaciphmnaaMovedPhrases
import Derived.Test.YtkbdblaciphmnaaMarkB2
import Derived.Test.YtkbdblaciphmnaaGBk
import Derived.Test.YtkbdblaciphmnaaGHst
namespace Go.Proofs.Ytkbdblaciphmnaa
set_option linter.unusedVariables false
open Go.RowKit
set_option maxHeartbeats 8000000 in
set_option maxRecDepth 100000 in
theorem FnExactMovedPhrases_walk (k l s : Int) (hw : Wf3 k l s) (a : Option Addr) (ca n : Nat) (ss : List ByteArray) (hl : n = ss.length) (hm : n ≤ 9223372036854775807) (hz : SizesOk ss) (k' l' s' : Int) (hw' : Wf3 k' l' s') (a' : Option Addr) (ca' n' : Nat) (tt : List ByteArray) (hl' : n' = tt.length) (hm' : n' ≤ 9223372036854775807) (hz' : SizesOk tt) (w : World) (hs : StrsOf w a ss) (hs' : StrsOf w a' tt) :
    Calls Try.prog 10 #[bookV k l s (.slice a n ca), bookV k' l' s' (.slice a' n' ca')] w fun e w' => e = .returned (.bool true) ∧ Gr w w' := by
  have HZ1 := hid (fun (V : World) (g : Gr w V) => szBook_any k l s a ca n 1048576 ss hl hm (Nat.le_refl _) hz V (hs.gr g))
  have HZ2 := hid (fun (j : Nat) (hj : j ≤ 1048576) (V : World) (g : Gr w V) => szBook_any k' l' s' a' ca' n' j tt hl' hm' hj hz' V (hs'.gr g))
  have HTA := hid (fun (h : n ≤ 1048576) (V : World) (g : Gr w V) => toBook_any k l s a ca n ss hl h V (hs.gr g))
  have HTB := hid (fun (h : n' ≤ 1048576) (V : World) (g : Gr w V) => toBook_any k' l' s' a' ca' n' tt hl' h V (hs'.gr g))
  have HSP := hid (fun (hn : n ≤ 1048576) (hn' : n' ≤ 1048576) (p p' : Option Addr) (V : World) (sa : StrsOf V p ss) (sb : StrsOf V p' tt) => spec_MovedPhrases_any k l s hw p n n ss hl hn hz k' l' s' hw' p' n' n' tt hl' hn' hz' V sa sb)
  have HIM := hid (fun (hn : n ≤ 1048576) (hn' : n' ≤ 1048576) (p p' : Option Addr) (V : World) (sa : StrsOf V p ss) (sb : StrsOf V p' tt) => impl_MovedPhrases_any k l s hw p n n ss hl hn hz k' l' s' hw' p' n' n' tt hl' hn' hz' V sa sb)
  have HEA := hid (fun (h : n ≤ 1048576) (p q : Option Addr) (V : World) (sa : StrsOf V p ss) (sb : StrsOf V q ss) => eqBook_same k l s p q n n n ss hl h V sa sb)
  have HEB := hid (fun (h : n' ≤ 1048576) (p q : Option Addr) (V : World) (sa : StrsOf V p tt) (sb : StrsOf V q tt) => eqBook_same k' l' s' p q n' n' n' tt hl' h V sa sb)
  have hyl : (movL k l s ss k' l' s' tt).length ≤ 1048576 := movL_len k l s ss k' l' s' tt
  generalize movL k l s ss k' l' s' tt = r0 at *
  generalize movC k l s ss k' l' s' tt = r1 at *
  have HYE := hid (fun a b ca cb => eqInt64S_own a b ca cb r0 hyl)
  have HMA := hid (fun (h : n ≤ 1048576) (g : Nat) (V : World) (hb : V.heap[g]? = some (.cells (strCells ss) 9 (0, 0))) => markBook_any k l s g n ss hl h V hb)
  have HMB := hid (fun (h0 : n ≤ 1048576) (h : n' ≤ 1048576) (g : Nat) (V : World) (hb : V.heap[g]? = some (.cells (strCells tt) 9 (0, 0))) => markBook_on k' l' s' g n' n tt hl' h h0 V hb)
  clear hl hz hs hw hl' hz' hs' hw'
  obtain ⟨m, hym⟩ : ∃ m, m = r0.length := ⟨_, rfl⟩
  rw [← hym] at hyl HYE
  have HYM := hid hym
  clear hym
  obtain ⟨W, hW⟩ : ∃ W, W = (w.alloc (.cells (bookC k l s (.slice a n ca)) 25)).alloc (.cells (bookC k' l' s' (.slice a' n' ca')) 25) := ⟨_, rfl⟩
  have G := hid (show Gr w W by rw [hW]; exact ((Gr.refl w).alloc _).alloc _)
  have b0 := hid (show W.heap[w.heap.size]? = some (.cells (bookC k l s (.slice a n ca)) 25 (0, 0)) by rw [hW]; exact heap_kept (heap_new rfl))
  have b1 := hid (show W.heap[w.heap.size + 1]? = some (.cells (bookC k' l' s' (.slice a' n' ca')) 25 (0, 0)) by rw [hW]; exact heap_new (by simp))
  have HW := hid hW
  clear hW
  have HD0 := hid (fun V (g : Gr W V) => bk_cells (g.heap b0.out))
  have HD1 := hid (fun V (g : Gr W V) => bk_cells (g.heap b1.out))
  go_enter Try.func10, Try.ntmps10
  go_wp2_with fail
  rw [← HW.out]
  obtain ⟨p0, p1, p2, p3⟩ := HD0.out W (Gr.refl W)
  go_wp2_with fail
  refine (HZ1.out W G.out).mono ?_
  rintro e W1 ⟨⟨r1', rfl, hr1⟩, g1⟩
  have gr := hid g1
  clear g1 p0 p1 p2 p3
  rcases hr1 with rfl | ⟨h0, h1, hn1'⟩
  · go_wp2_with fail
    go_ret
    exact ⟨rfl, G.out.trans gr.out⟩
  obtain ⟨j, rfl⟩ : ∃ j : Nat, r1' = j := ⟨r1'.toNat, by omega⟩
  have hj : j ≤ 1048576 := by omega
  have HN := hid (show n ≤ 1048576 from hn1')
  clear h0 h1 hn1'
  obtain ⟨q0, q1, q2, q3⟩ := HD1.out _ gr.out
  go_wp2_with fail
  refine (HZ2.out j hj W1 (G.out.trans gr.out)).mono ?_
  rintro e W2 ⟨⟨r2', rfl, hr2⟩, g2⟩
  replace gr := hid (gr.out.trans g2)
  clear g2 q0 q1 q2 q3
  rcases hr2 with rfl | ⟨h0, h1, hn2'⟩
  · go_wp2_with fail
    go_ret
    exact ⟨rfl, G.out.trans gr.out⟩
  have hn0 : ¬ r2' < 0 := by omega
  have HN' := hid (show n' ≤ 1048576 by omega)
  clear h1 hn2' hj
  have HGX := hid gr.out
  go_wp2_with fail
  have gd : Gr W2 W2.drew := (Gr.refl W2).drew
  obtain ⟨p0, p1, p2, p3⟩ := HD0.out _ (HGX.out.trans gd)
  obtain ⟨q0, q1, q2, q3⟩ := HD1.out _ (HGX.out.trans gd)
  go_region_held3 (fun V => V.cell? ⟨w.heap.size, 0, none⟩ = some (.int .i8 k) ∧ V.cell? ⟨w.heap.size, 1, none⟩ = some (.int .i8 l) ∧ V.cell? ⟨w.heap.size, 2, none⟩ = some (.int .i8 s) ∧ V.cell? ⟨w.heap.size, 3, none⟩ = some (.slice a n ca) ∧ V.cell? ⟨w.heap.size + 1, 0, none⟩ = some (.int .i8 k') ∧ V.cell? ⟨w.heap.size + 1, 1, none⟩ = some (.int .i8 l') ∧ V.cell? ⟨w.heap.size + 1, 2, none⟩ = some (.int .i8 s') ∧ V.cell? ⟨w.heap.size + 1, 3, none⟩ = some (.slice a' n' ca') ∧ Gr W2 V)
    (first | exact ⟨p0, p1, p2, p3, q0, q1, q2, q3, gd⟩ | exact bk_keep (HD0.out _ (HGX.out.trans gWx)) (HD1.out _ (HGX.out.trans gWx)) gWx | go_keep)
    ((first | ((with_reducible refine (HTA.out HN.out _ (G.out.trans (HGX.out.trans (by assumption)))).mono ?_); rintro e V ⟨rfl, hA, gV⟩; have gWx : Gr W2 V := Gr.trans (by assumption) gV; have sA9 := strsOf_block hA; (try simp only [World.size_drew] at sA9)) | ((with_reducible refine (HTB.out HN'.out _ (G.out.trans (HGX.out.trans gWx))).mono ?_); rintro e V8 ⟨rfl, hB, gV8⟩; have gW8 : Gr W2 V8 := gWx.trans gV8; have sA8 := sA9.gr gV8; have sB8 := strsOf_block hB; have gWx := gW8) | ((with_reducible refine (HSP.out HN.out HN'.out _ _ _ sA8 sB8).mono ?_); rintro e V9 ⟨v9, rfl, o9, g9⟩; obtain ⟨x9, y9, rfl⟩ := o9.shape; have gW9 : Gr W2 V9 := gWx.trans g9; have gWx := gW9; unfold withCode)))
  have g10 : Gr W2 V9 := gWx
  have Ow := hid (o9.widen gW8.size (Nat.le_refl _))
  rw [← HYM.out] at Ow ⊢
  generalize V9 = W3 at *
  clear gd p0 p1 p2 p3 q0 q1 q2 q3 o9 g9 gW9 gV8 gW8 gV gWx hA hB sA9 sA8 sB8
  replace gr := hid (gr.out.trans g10)
  clear g10
  obtain ⟨p0, p1, p2, p3⟩ := HD0.out _ gr.out
  go_wp2_with fail
  clear p0 p1 p2 p3
  have GBRSA := hid gr.out.size
  refine (HTA.out HN.out _ (G.out.trans gr.out)).mono ?_
  rintro e W4 ⟨rfl, h9, g9⟩
  replace gr := hid (gr.out.trans g9)
  replace Ow := hid (Ow.out.gr g9)
  have RSA := hid h9
  have gzRSA := hid g9.size
  clear h9 g9
  have NX := hid (heap_new (w := W4) (o := .cells (bookC 0 0 0 (.slice none 0 0)) 29) rfl)
  have BXA := hid (heap_row_set (cs := (bookC k l s (.slice (some ⟨W3.heap.size + 3, 0, none⟩) n n))) NX.out)
  have GL := hid (((Gr.refl W4).alloc (.cells (bookC 0 0 0 (.slice none 0 0)) 29)).setRow (Nat.le_refl _) (bookC k l s (.slice (some ⟨W3.heap.size + 3, 0, none⟩) n n)))
  obtain ⟨q0, q1, q2, q3⟩ := bk_cells BXA.out
  obtain ⟨p0, p1, p2, p3⟩ := HD0.out _ (gr.out.trans GL.out)
  obtain ⟨u0, u1, u2, u3⟩ := HD1.out _ (gr.out.trans GL.out)
  go_wp2_with (refine wpList_store_cells rfl 29 _ _ rfl _ (bookC k l s (.slice (some ⟨W3.heap.size + 3, 0, none⟩) n n)) (bookC 0 0 0 (.slice none 0 0)) rfl rfl _ 4 NX.out (by kernel_rfl) rfl rfl (by simp [Value.oneCell']) ?_)
  clear p0 p1 p2 p3 q0 q1 q2 q3 u0 u1 u2 u3 NX
  obtain ⟨W5, hWb⟩ : ∃ V, V = (W4.alloc (.cells (bookC 0 0 0 (.slice none 0 0)) 29)).setRow W4.heap.size (bookC k l s (.slice (some ⟨W3.heap.size + 3, 0, none⟩) n n)) := ⟨_, rfl⟩
  rw [← hWb] at BXA GL ⊢
  clear hWb
  replace gr := hid (gr.out.trans GL.out)
  replace Ow := hid (Ow.out.gr GL.out)
  replace RSA := hid (GL.out.heap RSA.out)
  clear GL
  obtain ⟨p0, p1, p2, p3⟩ := HD1.out _ gr.out
  go_wp2_with fail
  clear p0 p1 p2 p3
  have LT45 := hid (lt_of_heap RSA.out)
  have GBRSB := hid gr.out.size
  refine (HTB.out HN'.out _ (G.out.trans gr.out)).mono ?_
  rintro e W6 ⟨rfl, h9, g9⟩
  replace gr := hid (gr.out.trans g9)
  replace Ow := hid (Ow.out.gr g9)
  replace RSA := hid (g9.heap RSA.out)
  replace BXA := hid (g9.heap BXA.out)
  have RSB := hid h9
  have gzRSB := hid g9.size
  clear h9 g9
  have NX := hid (heap_new (w := W6) (o := .cells (bookC 0 0 0 (.slice none 0 0)) 29) rfl)
  have BXB := hid (heap_row_set (cs := (bookC k' l' s' (.slice (some ⟨W5.heap.size + 3, 0, none⟩) n' n'))) NX.out)
  have GL := hid (((Gr.refl W6).alloc (.cells (bookC 0 0 0 (.slice none 0 0)) 29)).setRow (Nat.le_refl _) (bookC k' l' s' (.slice (some ⟨W5.heap.size + 3, 0, none⟩) n' n')))
  obtain ⟨q0, q1, q2, q3⟩ := bk_cells BXB.out
  obtain ⟨p0, p1, p2, p3⟩ := HD0.out _ (gr.out.trans GL.out)
  obtain ⟨u0, u1, u2, u3⟩ := HD1.out _ (gr.out.trans GL.out)
  obtain ⟨t0, t1, t2, t3⟩ := bk_cells (GL.out.heap BXA.out)
  go_wp2_with (refine wpList_store_cells rfl 29 _ _ rfl _ (bookC k' l' s' (.slice (some ⟨W5.heap.size + 3, 0, none⟩) n' n')) (bookC 0 0 0 (.slice none 0 0)) rfl rfl _ 4 NX.out (by kernel_rfl) rfl rfl (by simp [Value.oneCell']) ?_)
  clear p0 p1 p2 p3 q0 q1 q2 q3 u0 u1 u2 u3 NX t0 t1 t2 t3
  obtain ⟨W7, hWb⟩ : ∃ V, V = (W6.alloc (.cells (bookC 0 0 0 (.slice none 0 0)) 29)).setRow W6.heap.size (bookC k' l' s' (.slice (some ⟨W5.heap.size + 3, 0, none⟩) n' n')) := ⟨_, rfl⟩
  rw [← hWb] at BXB GL ⊢
  clear hWb
  replace gr := hid (gr.out.trans GL.out)
  replace Ow := hid (Ow.out.gr GL.out)
  replace RSA := hid (GL.out.heap RSA.out)
  replace BXA := hid (GL.out.heap BXA.out)
  replace RSB := hid (GL.out.heap RSB.out)
  clear GL
  obtain ⟨q0, q1, q2, q3⟩ := bk_cells BXA.out
  obtain ⟨u0, u1, u2, u3⟩ := bk_cells BXB.out
  have GBo := hid gr.out.size
  have LTA := hid (lt_of_heap RSA.out)
  have LTB := hid (lt_of_heap RSB.out)
  go_wp2_with fail
  clear q0 q1 q2 q3 u0 u1 u2 u3
  refine (HIM.out HN.out HN'.out _ _ _ (strsOf_block RSA.out) (strsOf_block RSB.out)).mono ?_
  rintro e W8 ⟨v8, rfl, o8, g8⟩
  replace gr := hid (gr.out.trans g8)
  replace Ow := hid (Ow.out.gr g8)
  replace RSA := hid (g8.heap RSA.out)
  replace BXA := hid (g8.heap BXA.out)
  replace RSB := hid (g8.heap RSB.out)
  replace BXB := hid (g8.heap BXB.out)
  obtain ⟨x8, y8, rfl⟩ := o8.shape
  have Og := hid o8
  rw [← HYM.out] at Og ⊢
  clear o8 g8
  unfold withCode
  go_wp2_with fail
  refine (HYE.out _ _ _ _ _ Og.out.reads Ow.out.reads).mono ?_
  rintro e W9 ⟨rfl, g9⟩
  replace gr := hid (gr.out.trans g9)
  replace Ow := hid (Ow.out.gr g9)
  replace Og := hid (Og.out.gr g9)
  replace RSA := hid (g9.heap RSA.out)
  replace BXA := hid (g9.heap BXA.out)
  replace RSB := hid (g9.heap RSB.out)
  replace BXB := hid (g9.heap BXB.out)
  clear g9
  have HX0 := hid (fun V (g : Gr W9 V) => bk_cells (g.heap BXA.out))
  have HGX := hid gr.out
  have SXX := hid (strsOf_block RSA.out)
  go_wp2_with fail
  have gd : Gr W9 W9.drew := (Gr.refl W9).drew
  obtain ⟨p0, p1, p2, p3⟩ := HD0.out _ (HGX.out.trans gd)
  obtain ⟨q0, q1, q2, q3⟩ := HX0.out _ gd
  go_region_held3 (fun V => V.cell? ⟨w.heap.size, 0, none⟩ = some (.int .i8 k) ∧ V.cell? ⟨w.heap.size, 1, none⟩ = some (.int .i8 l) ∧ V.cell? ⟨w.heap.size, 2, none⟩ = some (.int .i8 s) ∧ V.cell? ⟨w.heap.size, 3, none⟩ = some (.slice a n ca) ∧ V.cell? ⟨W4.heap.size, 0, none⟩ = some (.int .i8 k) ∧ V.cell? ⟨W4.heap.size, 1, none⟩ = some (.int .i8 l) ∧ V.cell? ⟨W4.heap.size, 2, none⟩ = some (.int .i8 s) ∧ V.cell? ⟨W4.heap.size, 3, none⟩ = some (.slice (some ⟨W3.heap.size + 3, 0, none⟩) n n) ∧ Gr W9 V)
    (first | exact ⟨p0, p1, p2, p3, q0, q1, q2, q3, gd⟩ | exact bk_keep (HD0.out _ (HGX.out.trans gWx)) (HX0.out _ gWx) gWx | go_keep)
    ((first | ((with_reducible refine (HTA.out HN.out _ (G.out.trans (HGX.out.trans (by assumption)))).mono ?_); rintro e V ⟨rfl, hA, gV⟩; have gWx : Gr W9 V := Gr.trans (by assumption) gV; have sA9 := strsOf_block hA; have sX9 := SXX.out.gr gWx; (try simp only [World.size_drew] at sA9)) | ((with_reducible refine (HEA.out HN.out _ _ _ sX9 sA9).mono ?_); rintro e V9 ⟨rfl, gV⟩; have gWx : Gr W9 V9 := Gr.trans (by assumption) gV)))
  have g9 : Gr W9 V9 := gWx
  generalize V9 = W10 at *
  clear p0 p1 p2 p3 q0 q1 q2 q3 gd HX0 SXX
  replace gr := hid (gr.out.trans g9)
  replace Ow := hid (Ow.out.gr g9)
  replace Og := hid (Og.out.gr g9)
  replace RSA := hid (g9.heap RSA.out)
  replace BXA := hid (g9.heap BXA.out)
  replace RSB := hid (g9.heap RSB.out)
  replace BXB := hid (g9.heap BXB.out)
  clear g9
  have HX0 := hid (fun V (g : Gr W10 V) => bk_cells (g.heap BXB.out))
  have HGX := hid gr.out
  have SXX := hid (strsOf_block RSB.out)
  go_wp2_with fail
  have gd : Gr W10 W10.drew := (Gr.refl W10).drew
  obtain ⟨p0, p1, p2, p3⟩ := HD1.out _ (HGX.out.trans gd)
  obtain ⟨q0, q1, q2, q3⟩ := HX0.out _ gd
  go_region_held3 (fun V => V.cell? ⟨w.heap.size + 1, 0, none⟩ = some (.int .i8 k') ∧ V.cell? ⟨w.heap.size + 1, 1, none⟩ = some (.int .i8 l') ∧ V.cell? ⟨w.heap.size + 1, 2, none⟩ = some (.int .i8 s') ∧ V.cell? ⟨w.heap.size + 1, 3, none⟩ = some (.slice a' n' ca') ∧ V.cell? ⟨W6.heap.size, 0, none⟩ = some (.int .i8 k') ∧ V.cell? ⟨W6.heap.size, 1, none⟩ = some (.int .i8 l') ∧ V.cell? ⟨W6.heap.size, 2, none⟩ = some (.int .i8 s') ∧ V.cell? ⟨W6.heap.size, 3, none⟩ = some (.slice (some ⟨W5.heap.size + 3, 0, none⟩) n' n') ∧ Gr W10 V)
    (first | exact ⟨p0, p1, p2, p3, q0, q1, q2, q3, gd⟩ | exact bk_keep (HD1.out _ (HGX.out.trans gWx)) (HX0.out _ gWx) gWx | go_keep)
    ((first | ((with_reducible refine (HTB.out HN'.out _ (G.out.trans (HGX.out.trans (by assumption)))).mono ?_); rintro e V ⟨rfl, hA, gV⟩; have gWx : Gr W10 V := Gr.trans (by assumption) gV; have sA9 := strsOf_block hA; have sX9 := SXX.out.gr gWx; (try simp only [World.size_drew] at sA9)) | ((with_reducible refine (HEB.out HN'.out _ _ _ sX9 sA9).mono ?_); rintro e V9 ⟨rfl, gV⟩; have gWx : Gr W10 V9 := Gr.trans (by assumption) gV)))
  have g9 : Gr W10 V9 := gWx
  generalize V9 = W11 at *
  clear p0 p1 p2 p3 q0 q1 q2 q3 gd HX0 SXX
  replace gr := hid (gr.out.trans g9)
  replace Ow := hid (Ow.out.gr g9)
  replace Og := hid (Og.out.gr g9)
  replace RSA := hid (g9.heap RSA.out)
  replace BXA := hid (g9.heap BXA.out)
  replace RSB := hid (g9.heap RSB.out)
  replace BXB := hid (g9.heap BXB.out)
  clear g9
  obtain ⟨q0, q1, q2, q3⟩ := bk_cells BXA.out
  go_wp2_with fail
  clear q0 q1 q2 q3
  refine (HMA.out HN.out _ _ RSA.out).mono ?_
  rintro e W12 ⟨rfl, m12⟩
  have M12 := hid m12
  clear m12
  have gm : Gr W W12 := gr.out.by_ M12.out (fun b e => by cases e; have := GBRSA.out; omega)
  replace gr := hid gm
  clear gm
  replace Ow := hid (Ow.out.by_ M12.out (fun b e => by cases e; right; omega))
  replace Og := hid (Og.out.by_ M12.out (fun b e => by cases e; left; exact LTA.out))
  have neB : W5.heap.size + 3 ≠ W3.heap.size + 3 := by have := gzRSA.out; have := LT45.out; omega
  have neX : W6.heap.size ≠ W3.heap.size + 3 := by have := gzRSA.out; have := LT45.out; have := gzRSB.out; omega
  replace RSB := hid ((M12.out.block _ (lt_of_heap RSB.out) (by simp only [ne_eq, Option.some.injEq]; exact neB)).trans RSB.out)
  replace BXB := hid ((M12.out.block _ (lt_of_heap BXB.out) (by simp only [ne_eq, Option.some.injEq]; exact neX)).trans BXB.out)
  clear M12 RSA BXA
  obtain ⟨q0, q1, q2, q3⟩ := bk_cells BXB.out
  go_wp2_with fail
  clear q0 q1 q2 q3
  refine (HMB.out HN.out HN'.out _ _ RSB.out).mono ?_
  rintro e W13 ⟨rfl, m13⟩
  have M13 := hid m13
  clear m13
  have gm : Gr W W13 := gr.out.by_ M13.out (fun b e => by cases e; have := GBRSB.out; omega)
  replace gr := hid gm
  clear gm
  replace Ow := hid (Ow.out.by_ M13.out (fun b e => by cases e; right; have := gzRSA.out; have := LT45.out; omega))
  replace Og := hid (Og.out.by_ M13.out (fun b e => by cases e; left; exact LTB.out))
  clear M13 RSB BXB
  go_wp2_with fail
  refine (HYE.out _ _ _ _ _ Og.out.reads Ow.out.reads).mono ?_
  rintro e W14 ⟨rfl, g9⟩
  replace gr := hid (gr.out.trans g9)
  replace Ow := hid (Ow.out.gr g9)
  replace Og := hid (Og.out.gr g9)
  clear g9
  go_wp2_with fail
  refine (markInt64S_one _ _ _ _ _ r0 (by rw [← HYM.out]; exact hyl) _ Og.out).mono ?_
  rintro e W15 ⟨rfl, o15, m15⟩
  have M15 := hid m15
  have rl := Og.out.row.lt
  have gm : Gr W W15 := gr.out.by_ M15.out (fun b e => by have := (rl b e).1; have := GBo.out; omega)
  replace gr := hid gm
  clear gm
  replace Ow := hid (Ow.out.by_ M15.out (fun b e => by right; have := (rl b e).1; have := LTA.out; omega))
  replace Og := hid o15
  clear M15 o15 m15 rl
  go_wp2_with fail
  refine (heldInt64S_one _ _ _ hyl _ Og.out.reads).mono ?_
  rintro e W16 ⟨rfl, g9⟩
  replace gr := hid (gr.out.trans g9)
  replace Ow := hid (Ow.out.gr g9)
  replace Og := hid (Og.out.gr g9)
  clear g9
  have HGX := hid gr.out
  go_wp2_with fail
  have gd : Gr W16 W16.drew := (Gr.refl W16).drew
  obtain ⟨p0, p1, p2, p3⟩ := HD0.out _ (HGX.out.trans gd)
  obtain ⟨q0, q1, q2, q3⟩ := HD1.out _ (HGX.out.trans gd)
  go_region_held3 (fun V => V.cell? ⟨w.heap.size, 0, none⟩ = some (.int .i8 k) ∧ V.cell? ⟨w.heap.size, 1, none⟩ = some (.int .i8 l) ∧ V.cell? ⟨w.heap.size, 2, none⟩ = some (.int .i8 s) ∧ V.cell? ⟨w.heap.size, 3, none⟩ = some (.slice a n ca) ∧ V.cell? ⟨w.heap.size + 1, 0, none⟩ = some (.int .i8 k') ∧ V.cell? ⟨w.heap.size + 1, 1, none⟩ = some (.int .i8 l') ∧ V.cell? ⟨w.heap.size + 1, 2, none⟩ = some (.int .i8 s') ∧ V.cell? ⟨w.heap.size + 1, 3, none⟩ = some (.slice a' n' ca') ∧ Gr W16 V)
    (first | exact ⟨p0, p1, p2, p3, q0, q1, q2, q3, gd⟩ | exact bk_keep (HD0.out _ (HGX.out.trans gWx)) (HD1.out _ (HGX.out.trans gWx)) gWx | go_keep)
    ((first | ((with_reducible refine (HTA.out HN.out _ (G.out.trans (HGX.out.trans (by assumption)))).mono ?_); rintro e V ⟨rfl, hA, gV⟩; have gWx : Gr W16 V := Gr.trans (by assumption) gV; have sA9 := strsOf_block hA; (try simp only [World.size_drew] at sA9)) | ((with_reducible refine (HTB.out HN'.out _ (G.out.trans (HGX.out.trans gWx))).mono ?_); rintro e V8 ⟨rfl, hB, gV8⟩; have gW8 : Gr W16 V8 := gWx.trans gV8; have sA8 := sA9.gr gV8; have sB8 := strsOf_block hB; have gWx := gW8) | ((with_reducible refine (HIM.out HN.out HN'.out _ _ _ sA8 sB8).mono ?_); rintro e V9 ⟨v9, rfl, o9, g9⟩; obtain ⟨x9, y9, rfl⟩ := o9.shape; have gW9 : Gr W16 V9 := gWx.trans g9; have gWx := gW9; unfold withCode)))
  have g10 : Gr W16 V9 := gWx
  have Oh := hid (o9.widen gW8.size (Nat.le_refl _))
  rw [← HYM.out] at Oh ⊢
  generalize V9 = W17 at *
  clear gd p0 p1 p2 p3 q0 q1 q2 q3 o9 g9 gW9 gV8 gW8 gV gWx hA hB sA9 sA8 sB8
  replace gr := hid (gr.out.trans g10)
  replace Ow := hid (Ow.out.gr g10)
  replace Og := hid (Og.out.gr g10)
  clear g10
  go_wp2_with fail
  refine (HYE.out _ _ _ _ _ Oh.out.reads Ow.out.reads).mono ?_
  rintro e W18 ⟨rfl, g9⟩
  replace gr := hid (gr.out.trans g9)
  replace Ow := hid (Ow.out.gr g9)
  replace Og := hid (Og.out.gr g9)
  replace Oh := hid (Oh.out.gr g9)
  clear g9
  go_wp2_with fail
  refine (heldInt64S_one _ _ _ hyl _ Og.out.reads).mono ?_
  rintro e W19 ⟨rfl, g9⟩
  replace gr := hid (gr.out.trans g9)
  replace Ow := hid (Ow.out.gr g9)
  replace Og := hid (Og.out.gr g9)
  replace Oh := hid (Oh.out.gr g9)
  clear g9
  go_wp2_with fail
  go_ret
  exact ⟨rfl, G.out.trans gr.out⟩
end Go.Proofs.Ytkbdblaciphmnaa
