/- HoistOf: the law's walk. -/
import Derived.Test.YtfaiehjomcgjgaaDoorHoistOf
import Derived.Test.YtfaiehjomcgjgaaDoorGBk
import Derived.Test.YtfaiehjomcgjgaaDoorGHst
namespace Go.Proofs.YtfaiehjomcgjgaaDoor
set_option linter.unusedVariables false
open Go.RowKit
set_option maxHeartbeats 8000000 in
set_option maxRecDepth 100000 in
theorem FnExactHoistOf_walk (k l s : Int) (hw : Wf3 k l s) (a : Option Addr) (ca n : Nat) (ss : List ByteArray) (hl : n = ss.length) (hm : n ≤ 9223372036854775807) (hz : SizesOk ss) (c1 : Int) (v1 : (Lit.int .i64 c1).wf = true) (b0' b1' b2' : Addr) (w : World) (hS : SentAt w b0' b1' b2') (hs : StrsOf w a ss) :
    Calls Tryd.prog 3 #[bookV k l s (.slice a n ca), .int .i64 c1] w fun e w' => e = .returned (.bool true) ∧ Gr w w' := by
  have HZ1 : Hid (∀ (V : World), Gr w V → Calls Tryd.prog 10 #[bookV k l s (.slice a n ca), .int .i64 1048576] V fun e w' => (∃ r : Int, e = .returned (.int .i64 r) ∧ (r = -1 ∨ (0 ≤ r ∧ r ≤ 1048576 ∧ n ≤ 1048576))) ∧ Gr V w') := hid (fun V g => szBook_any k l s a ca n 1048576 ss hl hm (Nat.le_refl _) hz V (hs.gr g))
  have HTA := hid (fun (h : n ≤ 1048576) (V : World) (g : Gr w V) => toBook_any k l s a ca n ss hl h V (hs.gr g))
  have HSP := hid (fun (hn : n ≤ 1048576) (p : Option Addr) (V : World) (sa : StrsOf V p ss) => spec_HoistOf_any k l s hw p n n ss hl hn hz c1 v1 V sa)
  have HIM := hid (fun (hn : n ≤ 1048576) (p : Option Addr) (V : World) (gv : Gr w V) (sa : StrsOf V p ss) => impl_HoistOf_any k l s hw p n n ss hl hn hz c1 v1 b0' b1' b2' V sa (hS.gr gv))
  have HEA := hid (fun (h : n ≤ 1048576) (p q : Option Addr) (V : World) (sa : StrsOf V p ss) (sb : StrsOf V q ss) => eqBook_same k l s p q n n n ss hl h V sa sb)
  have hyl : (hoL k l s ss c1).length ≤ 1048576 := hoL_len k l s ss c1
  generalize hoL k l s ss c1 = r0 at *
  generalize thereC k l s ss c1 = r1 at *
  have HYE := hid (fun a b ca cb => eqHoist_own a b ca cb r0 hyl)
  have HMB := hid (fun (h : n ≤ 1048576) (g : Nat) (V : World) (hb : V.heap[g]? = some (.cells (strCells ss) 9 (0, 0))) => markBook_any k l s g n ss hl h V hb)
  clear hS
  clear hl hz hs hw v1
  obtain ⟨m, hym⟩ : ∃ m, m = r0.length := ⟨_, rfl⟩
  rw [← hym] at hyl HYE
  have HYM := hid hym
  clear hym
  go_enter Tryd.func3, Tryd.ntmps3
  go_wp2_with fail
  have b0 := hid (heap_new (w := w) (o := .cells (bookC k l s (.slice a n ca)) 25) rfl)
  have G := hid ((Gr.refl w).alloc (.cells (bookC k l s (.slice a n ca)) 25))
  obtain ⟨W, hW⟩ : ∃ W, W = (w.alloc (.cells (bookC k l s (.slice a n ca)) 25)) := ⟨_, rfl⟩
  rw [← hW] at b0 G ⊢
  clear hW
  have HD0 := hid (fun V (g : Gr W V) => bk_cells (g.heap b0.out))
  refine (HZ1.out W G.out).mono ?_
  rintro e W1 ⟨⟨r1', rfl, hr1⟩, g1⟩
  have gr := hid g1
  clear g1
  rcases hr1 with rfl | ⟨h0, h1, hn1'⟩
  · go_wp2_with fail
    go_ret
    exact ⟨rfl, G.out.trans gr.out⟩
  have hn0 : ¬ r1' < 0 := by omega
  have HN := hid (show n ≤ 1048576 from hn1')
  obtain ⟨p0, p1, p2, p3⟩ := HD0.out _ gr.out
  go_wp2_with fail
  clear p0 p1 p2 p3
  refine (HTA.out HN.out _ (G.out.trans gr.out)).mono ?_
  rintro e W2 ⟨rfl, h2, g2⟩
  replace gr := hid (gr.out.trans g2)
  have SA := hid (strsOf_block h2)
  have gz2 := hid g2.size
  clear h2 g2
  go_wp2_with fail
  refine (HSP.out HN.out _ _ SA.out).mono ?_
  rintro e W3 ⟨u3, rfl, o3, g3⟩
  replace gr := hid (gr.out.trans g3)
  replace SA := hid (SA.out.gr g3)
  obtain ⟨p3, q3, rfl⟩ := o3.shape
  have Ow := hid o3
  have gz3 := hid g3.size
  rw [← HYM.out] at Ow ⊢
  clear o3 g3
  unfold withCode
  clear SA
  have GB := hid gr.out.size
  obtain ⟨p0, p1, p2, p3⟩ := HD0.out _ gr.out
  go_wp2_with fail
  clear p0 p1 p2 p3
  refine (HTA.out HN.out _ (G.out.trans gr.out)).mono ?_
  rintro e W4 ⟨rfl, h4, g4⟩
  replace gr := hid (gr.out.trans g4)
  replace Ow := hid (Ow.out.gr g4)
  have SX := hid (strsOf_block h4)
  have RSX := hid h4
  have gz4 := hid g4.size
  clear h4 g4
  have NX := hid (heap_new (w := W4) (o := .cells (bookC 0 0 0 (.slice none 0 0)) 31) rfl)
  have BX := hid (heap_row_set (cs := (bookC k l s (.slice (some ⟨W3.heap.size + 3, 0, none⟩) n n))) NX.out)
  have GL := hid (((Gr.refl W4).alloc (.cells (bookC 0 0 0 (.slice none 0 0)) 31)).setRow (Nat.le_refl _) (bookC k l s (.slice (some ⟨W3.heap.size + 3, 0, none⟩) n n)))
  have gzx := hid (lt_of_heap BX.out)
  obtain ⟨q0, q1', q2, q3⟩ := bk_cells BX.out
  obtain ⟨p0, p1, p2, p3⟩ := HD0.out _ (gr.out.trans GL.out)
  go_wp2_with (refine wpList_store_cells rfl 31 _ _ rfl _ (bookC k l s (.slice (some ⟨W3.heap.size + 3, 0, none⟩) n n)) (bookC 0 0 0 (.slice none 0 0)) rfl rfl _ 4 NX.out (by kernel_rfl) rfl rfl (by simp [Value.oneCell']) ?_)
  clear p0 p1 p2 p3 q0 q1' q2 q3 NX
  obtain ⟨W5, hW5⟩ : ∃ V, V = (W4.alloc (.cells (bookC 0 0 0 (.slice none 0 0)) 31)).setRow W4.heap.size (bookC k l s (.slice (some ⟨W3.heap.size + 3, 0, none⟩) n n)) := ⟨_, rfl⟩
  rw [← hW5] at BX GL gzx ⊢
  clear hW5
  replace gr := hid (gr.out.trans GL.out)
  replace Ow := hid (Ow.out.gr GL.out)
  replace SX := hid (SX.out.gr GL.out)
  replace RSX := hid (GL.out.heap RSX.out)
  clear GL
  have GBo := hid gr.out.size
  have LTX := hid (lt_of_heap RSX.out)
  go_wp2_with fail
  refine (HIM.out HN.out _ _ (G.out.trans gr.out) SX.out).mono ?_
  rintro e W6 ⟨u6, rfl, o6, g6⟩
  replace gr := hid (gr.out.trans g6)
  replace Ow := hid (Ow.out.gr g6)
  replace SX := hid (SX.out.gr g6)
  replace RSX := hid (g6.heap RSX.out)
  replace BX := hid (g6.heap BX.out)
  obtain ⟨p6, q6, rfl⟩ := o6.shape
  have Og := hid o6
  have gz6 := hid g6.size
  rw [← HYM.out] at Og ⊢
  clear o6 g6
  unfold withCode
  go_wp2_with fail
  refine (HYE.out _ _ _ _ _ Og.out.reads Ow.out.reads).mono ?_
  rintro e W7 ⟨rfl, g7⟩
  replace gr := hid (gr.out.trans g7)
  replace Ow := hid (Ow.out.gr g7)
  replace Og := hid (Og.out.gr g7)
  replace SX := hid (SX.out.gr g7)
  replace RSX := hid (g7.heap RSX.out)
  replace BX := hid (g7.heap BX.out)
  clear g7
  have HX0 := hid (fun V (g : Gr W7 V) => bk_cells (g.heap BX.out))
  have HGX := hid gr.out
  have SXX := SX
  go_wp2_with fail
  have gd : Gr W7 W7.drew := (Gr.refl W7).drew
  obtain ⟨p0, p1, p2, p3⟩ := HD0.out _ (HGX.out.trans gd)
  obtain ⟨q0, q1', q2, q3⟩ := HX0.out _ gd
  go_region_held3 (fun V => V.cell? ⟨w.heap.size, 0, none⟩ = some (.int .i8 k) ∧ V.cell? ⟨w.heap.size, 1, none⟩ = some (.int .i8 l) ∧ V.cell? ⟨w.heap.size, 2, none⟩ = some (.int .i8 s) ∧ V.cell? ⟨w.heap.size, 3, none⟩ = some (.slice a n ca) ∧ V.cell? ⟨W4.heap.size, 0, none⟩ = some (.int .i8 k) ∧ V.cell? ⟨W4.heap.size, 1, none⟩ = some (.int .i8 l) ∧ V.cell? ⟨W4.heap.size, 2, none⟩ = some (.int .i8 s) ∧ V.cell? ⟨W4.heap.size, 3, none⟩ = some (.slice (some ⟨W3.heap.size + 3, 0, none⟩) n n) ∧ Gr W7 V)
    (first | exact ⟨p0, p1, p2, p3, q0, q1', q2, q3, gd⟩ | exact bk_keep (HD0.out _ (HGX.out.trans gWx)) (HX0.out _ gWx) gWx | go_keep)
    ((first | ((with_reducible refine (HTA.out HN.out _ (G.out.trans (HGX.out.trans (by assumption)))).mono ?_); rintro e V ⟨rfl, hA, gV⟩; have gWx : Gr W7 V := Gr.trans (by assumption) gV; have sA9 := strsOf_block hA; have sX9 := SXX.out.gr gWx; (try simp only [World.size_drew] at sA9)) | ((with_reducible refine (HEA.out HN.out _ _ _ sX9 sA9).mono ?_); rintro e V9 ⟨rfl, gV⟩; have gWx : Gr W7 V9 := Gr.trans (by assumption) gV)))
  have g9 : Gr W7 V9 := gWx
  clear p0 p1 p2 p3 q0 q1' q2 q3 gd
  replace gr := hid (gr.out.trans g9)
  replace Ow := hid (Ow.out.gr g9)
  replace Og := hid (Og.out.gr g9)
  replace SX := hid (SX.out.gr g9)
  replace RSX := hid (g9.heap RSX.out)
  replace BX := hid (g9.heap BX.out)
  clear g9
  obtain ⟨q0, q1', q2, q3⟩ := bk_cells BX.out
  go_wp2_with fail
  clear q0 q1' q2 q3
  refine (HMB.out HN.out _ _ RSX.out).mono ?_
  rintro e W8 ⟨rfl, m8⟩
  have M8 := hid m8
  clear m8
  have gm : Gr W W8 := gr.out.by_ M8.out (fun b e => by cases e; have := GB.out; omega)
  replace gr := hid gm
  clear gm
  replace Ow := hid (Ow.out.by_ M8.out (fun b e => by cases e; right; omega))
  replace Og := hid (Og.out.by_ M8.out (fun b e => by cases e; left; exact LTX.out))
  clear M8
  clear RSX
  clear BX
  clear SX
  go_wp2_with fail
  refine (HYE.out _ _ _ _ _ Og.out.reads Ow.out.reads).mono ?_
  rintro e W9 ⟨rfl, g9⟩
  replace gr := hid (gr.out.trans g9)
  replace Ow := hid (Ow.out.gr g9)
  replace Og := hid (Og.out.gr g9)
  clear g9
  go_wp2_with fail
  refine (markHoist_one _ _ _ _ _ r0 (by rw [← HYM.out]; exact hyl) _ Og.out).mono ?_
  rintro e W10 ⟨rfl, o10, m10⟩
  have M10 := hid m10
  have rl := Og.out.row.lt
  have gm : Gr W W10 := gr.out.by_ M10.out (fun b e => by have := (rl b e).1; have := GBo.out; omega)
  replace gr := hid gm
  clear gm
  replace Ow := hid (Ow.out.by_ M10.out (fun b e => by right; have := (rl b e).1; have := LTX.out; omega))
  replace Og := hid o10
  clear M10 o10 m10 rl
  go_wp2_with fail
  refine (heldHoist_one _ _ _ hyl _ Og.out.reads).mono ?_
  rintro e W11 ⟨rfl, g11⟩
  replace gr := hid (gr.out.trans g11)
  replace Ow := hid (Ow.out.gr g11)
  replace Og := hid (Og.out.gr g11)
  clear g11
  obtain ⟨p0, p1, p2, p3⟩ := HD0.out _ gr.out
  go_wp2_with fail
  clear p0 p1 p2 p3
  refine (HTA.out HN.out _ (G.out.trans gr.out)).mono ?_
  rintro e W12 ⟨rfl, h12, g12⟩
  replace gr := hid (gr.out.trans g12)
  replace Ow := hid (Ow.out.gr g12)
  replace Og := hid (Og.out.gr g12)
  have S2 := hid (strsOf_block h12)
  have gz12 := hid g12.size
  clear h12 g12
  go_wp2_with fail
  refine (HIM.out HN.out _ _ (G.out.trans gr.out) S2.out).mono ?_
  rintro e W13 ⟨u13, rfl, o13, g13⟩
  replace gr := hid (gr.out.trans g13)
  replace Ow := hid (Ow.out.gr g13)
  replace Og := hid (Og.out.gr g13)
  replace S2 := hid (S2.out.gr g13)
  obtain ⟨p13, q13, rfl⟩ := o13.shape
  have Oh := hid o13
  have gz13 := hid g13.size
  rw [← HYM.out] at Oh ⊢
  clear o13 g13
  unfold withCode
  clear S2
  go_wp2_with fail
  refine (HYE.out _ _ _ _ _ Oh.out.reads Ow.out.reads).mono ?_
  rintro e W14 ⟨rfl, g14⟩
  replace gr := hid (gr.out.trans g14)
  replace Ow := hid (Ow.out.gr g14)
  replace Og := hid (Og.out.gr g14)
  replace Oh := hid (Oh.out.gr g14)
  clear g14
  go_wp2_with fail
  refine (heldHoist_one _ _ _ hyl _ Og.out.reads).mono ?_
  rintro e W15 ⟨rfl, g15⟩
  replace gr := hid (gr.out.trans g15)
  replace Ow := hid (Ow.out.gr g15)
  replace Og := hid (Og.out.gr g15)
  replace Oh := hid (Oh.out.gr g15)
  clear g15
  go_wp2_with fail
  go_ret
  exact ⟨rfl, G.out.trans gr.out⟩
end Go.Proofs.YtfaiehjomcgjgaaDoor
