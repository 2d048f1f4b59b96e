/- FlagsFor: the law's walk. -/
import Derived.Test.YtfaiehjomcgjgaaDoorFlagsFor
import Derived.Test.YtfaiehjomcgjgaaDoorGBk
import Derived.Test.YtfaiehjomcgjgaaDoorGHst
namespace Go.Proofs.YtfaiehjomcgjgaaDoor
set_option linter.unusedVariables false
open Go.RowKit
set_option maxHeartbeats 8000000 in
set_option maxRecDepth 100000 in
theorem FnExactFlagsFor_walk (k l s : Int) (hw : Wf3 k l s) (a : Option Addr) (ca n : Nat) (ss : List ByteArray) (hl : n = ss.length) (hm : n ≤ 9223372036854775807) (hz : SizesOk ss) (a1 : Option Addr) (cap1 : Nat) (xs1 : List Int) (hm1 : xs1.length ≤ maxLen) (hf1 : Fits .i64 xs1) (b0' b1' b2' : Addr) (w : World) (hS : SentAt w b0' b1' b2') (hs : StrsOf w a ss) (hs1 : SliceOf .i64 w a1 xs1) :
    Calls Tryd.prog 4 #[bookV k l s (.slice a n ca), .slice a1 xs1.length cap1] w fun e w' => e = .returned (.bool true) ∧ Gr w w' := by
  unfold maxLen at hm1
  by_cases hn1 : xs1.length ≤ 1048576
  case neg =>
    have gr0 : Gr w (w.alloc (.cells (bookC k l s (.slice a n ca)) 25)) := (Gr.refl w).alloc _
    have GR0 := hid gr0
    have hbig : 1048576 < xs1.length := by omega
    have hbig' : (1048576 : Int) < ((xs1.length : Nat) : Int) := by omega
    obtain ⟨m1, hm1'⟩ : ∃ m, m = xs1.length := ⟨_, rfl⟩
    rw [← hm1'] at hbig hbig' ⊢
    clear hm1'
    clear gr0 hs hz hl hs1 hf1
    go_enter Tryd.func4, Tryd.ntmps4
    go_wp2_with fail
    go_ret
    exact ⟨rfl, GR0.out⟩
  have HZ1 : Hid (∀ (V : World), Gr w V → Calls Tryd.prog 10 #[bookV k l s (.slice a n ca), .int .i64 1048576] V fun e w' => (∃ r : Int, e = .returned (.int .i64 r) ∧ (r = -1 ∨ (0 ≤ r ∧ r ≤ 1048576 ∧ n ≤ 1048576))) ∧ Gr V w') := hid (fun V g => szBook_any k l s a ca n 1048576 ss hl hm (Nat.le_refl _) hz V (hs.gr g))
  have HTA := hid (fun (h : n ≤ 1048576) (V : World) (g : Gr w V) => toBook_any k l s a ca n ss hl h V (hs.gr g))
  have HSP := hid (fun (hn : n ≤ 1048576) (p : Option Addr) (b1 : Option Addr) (V : World) (sa : StrsOf V p ss) (s1 : SliceOf .i64 V b1 xs1) => spec_FlagsFor_any k l s hw p n n ss hl hn hz b1 xs1.length xs1 hn1 (Nat.le_refl _) hf1 V sa s1)
  have HIM := hid (fun (hn : n ≤ 1048576) (p : Option Addr) (b1 : Option Addr) (V : World) (gv : Gr w V) (sa : StrsOf V p ss) (s1 : SliceOf .i64 V b1 xs1) => impl_FlagsFor_any k l s hw p n n ss hl hn hz b1 xs1.length xs1 hn1 (Nat.le_refl _) hf1 b0' b1' b2' V sa s1 (hS.gr gv))
  have HEA := hid (fun (h : n ≤ 1048576) (p q : Option Addr) (V : World) (sa : StrsOf V p ss) (sb : StrsOf V q ss) => eqBook_same k l s p q n n n ss hl h V sa sb)
  generalize flagsV k l s ss xs1 = r0 at *
  generalize usesC k l s ss xs1 = r1 at *
  have HTO1 := hid (fun a0 cap => toInt64S_own a0 cap xs1 hn1)
  have HEQ1 := hid (fun a b ca cb => eqInt64S_own a b ca cb xs1 hn1)
  have S1 := hid hs1
  have Z1 := S1
  have hxl1 : xs1.length ≤ maxLen := by unfold maxLen; omega
  have HXL1 := hid hxl1
  clear hS
  clear hl hz hs hw hs1 hf1 hxl1
  obtain ⟨n1, hx1⟩ : ∃ m, m = xs1.length := ⟨_, rfl⟩
  rw [← hx1] at hn1 hm1 HSP HIM HTO1 HEQ1 ⊢
  have HXN1 := hid hx1
  clear hx1
  go_enter Tryd.func4, Tryd.ntmps4
  go_wp2_with fail
  have b0 := hid (heap_new (w := w) (o := .cells (bookC k l s (.slice a n ca)) 25) rfl)
  have G := hid ((Gr.refl w).alloc (.cells (bookC k l s (.slice a n ca)) 25))
  obtain ⟨W, hW⟩ : ∃ W, W = (w.alloc (.cells (bookC k l s (.slice a n ca)) 25)) := ⟨_, rfl⟩
  rw [← hW] at b0 G ⊢
  clear hW
  have HD0 := hid (fun V (g : Gr W V) => bk_cells (g.heap b0.out))
  replace S1 := hid (S1.out.gr G.out)
  refine (HZ1.out W G.out).mono ?_
  rintro e W1 ⟨⟨r1', rfl, hr1⟩, g1⟩
  have gr := hid g1
  replace S1 := hid (S1.out.gr g1)
  clear g1
  rcases hr1 with rfl | ⟨h0, h1, hn1'⟩
  · go_wp2_with fail
    go_ret
    exact ⟨rfl, G.out.trans gr.out⟩
  have hn0 : ¬ r1' < 0 := by omega
  have HN := hid (show n ≤ 1048576 from hn1')
  obtain ⟨p0, p1, p2, p3⟩ := HD0.out _ gr.out
  go_wp2_with fail
  clear p0 p1 p2 p3
  refine (HTA.out HN.out _ (G.out.trans gr.out)).mono ?_
  rintro e W2 ⟨rfl, h2, g2⟩
  replace gr := hid (gr.out.trans g2)
  replace S1 := hid (S1.out.gr g2)
  have SA := hid (strsOf_block h2)
  have gz2 := hid g2.size
  clear h2 g2
  go_wp2_with fail
  refine (HTO1.out _ _ _ S1.out).mono ?_
  rintro e W3 ⟨rfl, h3, g3⟩
  replace gr := hid (gr.out.trans g3)
  replace S1 := hid (S1.out.gr g3)
  replace SA := hid (SA.out.gr g3)
  have Bs1 := hid h3
  have gz3 := hid g3.size
  clear h3 g3
  go_wp2_with fail
  refine (HSP.out HN.out _ _ _ SA.out (sliceOf_block Bs1.out)).mono ?_
  rintro e W4 ⟨rfl, g4⟩
  replace gr := hid (gr.out.trans g4)
  replace S1 := hid (S1.out.gr g4)
  replace SA := hid (SA.out.gr g4)
  replace Bs1 := hid (g4.heap Bs1.out)
  clear g4
  clear SA
  clear Bs1
  obtain ⟨p0, p1, p2, p3⟩ := HD0.out _ gr.out
  go_wp2_with fail
  clear p0 p1 p2 p3
  refine (HTA.out HN.out _ (G.out.trans gr.out)).mono ?_
  rintro e W5 ⟨rfl, h5, g5⟩
  replace gr := hid (gr.out.trans g5)
  replace S1 := hid (S1.out.gr g5)
  have SX := hid (strsOf_block h5)
  have gz5 := hid g5.size
  clear h5 g5
  have NX := hid (heap_new (w := W5) (o := .cells (bookC 0 0 0 (.slice none 0 0)) 31) rfl)
  have BX := hid (heap_row_set (cs := (bookC k l s (.slice (some ⟨W4.heap.size + 3, 0, none⟩) n n))) NX.out)
  have GL := hid (((Gr.refl W5).alloc (.cells (bookC 0 0 0 (.slice none 0 0)) 31)).setRow (Nat.le_refl _) (bookC k l s (.slice (some ⟨W4.heap.size + 3, 0, none⟩) n n)))
  have gzx := hid (lt_of_heap BX.out)
  obtain ⟨q0, q1', q2, q3⟩ := bk_cells BX.out
  obtain ⟨p0, p1, p2, p3⟩ := HD0.out _ (gr.out.trans GL.out)
  go_wp2_with (refine wpList_store_cells rfl 31 _ _ rfl _ (bookC k l s (.slice (some ⟨W4.heap.size + 3, 0, none⟩) n n)) (bookC 0 0 0 (.slice none 0 0)) rfl rfl _ 4 NX.out (by kernel_rfl) rfl rfl (by simp [Value.oneCell']) ?_)
  clear p0 p1 p2 p3 q0 q1' q2 q3 NX
  obtain ⟨W6, hW6⟩ : ∃ V, V = (W5.alloc (.cells (bookC 0 0 0 (.slice none 0 0)) 31)).setRow W5.heap.size (bookC k l s (.slice (some ⟨W4.heap.size + 3, 0, none⟩) n n)) := ⟨_, rfl⟩
  rw [← hW6] at BX GL gzx ⊢
  clear hW6
  replace gr := hid (gr.out.trans GL.out)
  replace S1 := hid (S1.out.gr GL.out)
  replace SX := hid (SX.out.gr GL.out)
  clear GL
  go_wp2_with fail
  refine (HTO1.out _ _ _ S1.out).mono ?_
  rintro e W7 ⟨rfl, h7, g7⟩
  replace gr := hid (gr.out.trans g7)
  replace S1 := hid (S1.out.gr g7)
  replace SX := hid (SX.out.gr g7)
  replace BX := hid (g7.heap BX.out)
  have Bx1 := hid h7
  have gz7 := hid g7.size
  clear h7 g7
  obtain ⟨q0, q1', q2, q3⟩ := bk_cells BX.out
  go_wp2_with fail
  clear q0 q1' q2 q3
  go_wp2_with fail
  refine (HIM.out HN.out _ _ _ (G.out.trans gr.out) SX.out (sliceOf_block Bx1.out)).mono ?_
  rintro e W8 ⟨rfl, g8⟩
  replace gr := hid (gr.out.trans g8)
  replace S1 := hid (S1.out.gr g8)
  replace SX := hid (SX.out.gr g8)
  replace BX := hid (g8.heap BX.out)
  replace Bx1 := hid (g8.heap Bx1.out)
  clear g8
  have HX0 := hid (fun V (g : Gr W8 V) => bk_cells (g.heap BX.out))
  have HGX := hid gr.out
  have SXX := SX
  go_wp2_with fail
  have gd : Gr W8 W8.drew := (Gr.refl W8).drew
  obtain ⟨p0, p1, p2, p3⟩ := HD0.out _ (HGX.out.trans gd)
  obtain ⟨q0, q1', q2, q3⟩ := HX0.out _ gd
  go_region_held3 (fun V => V.cell? ⟨w.heap.size, 0, none⟩ = some (.int .i8 k) ∧ V.cell? ⟨w.heap.size, 1, none⟩ = some (.int .i8 l) ∧ V.cell? ⟨w.heap.size, 2, none⟩ = some (.int .i8 s) ∧ V.cell? ⟨w.heap.size, 3, none⟩ = some (.slice a n ca) ∧ V.cell? ⟨W5.heap.size, 0, none⟩ = some (.int .i8 k) ∧ V.cell? ⟨W5.heap.size, 1, none⟩ = some (.int .i8 l) ∧ V.cell? ⟨W5.heap.size, 2, none⟩ = some (.int .i8 s) ∧ V.cell? ⟨W5.heap.size, 3, none⟩ = some (.slice (some ⟨W4.heap.size + 3, 0, none⟩) n n) ∧ Gr W8 V)
    (first | exact ⟨p0, p1, p2, p3, q0, q1', q2, q3, gd⟩ | exact bk_keep (HD0.out _ (HGX.out.trans gWx)) (HX0.out _ gWx) gWx | go_keep)
    ((first | ((with_reducible refine (HTA.out HN.out _ (G.out.trans (HGX.out.trans (by assumption)))).mono ?_); rintro e V ⟨rfl, hA, gV⟩; have gWx : Gr W8 V := Gr.trans (by assumption) gV; have sA9 := strsOf_block hA; have sX9 := SXX.out.gr gWx; (try simp only [World.size_drew] at sA9)) | ((with_reducible refine (HEA.out HN.out _ _ _ sX9 sA9).mono ?_); rintro e V9 ⟨rfl, gV⟩; have gWx : Gr W8 V9 := Gr.trans (by assumption) gV)))
  have g9 : Gr W8 V9 := gWx
  clear p0 p1 p2 p3 q0 q1' q2 q3 gd
  replace gr := hid (gr.out.trans g9)
  replace S1 := hid (S1.out.gr g9)
  replace SX := hid (SX.out.gr g9)
  replace BX := hid (g9.heap BX.out)
  replace Bx1 := hid (g9.heap Bx1.out)
  clear g9
  go_wp2_with fail
  refine (HTO1.out _ _ _ S1.out).mono ?_
  rintro e W9 ⟨rfl, h9, g9⟩
  replace gr := hid (gr.out.trans g9)
  replace S1 := hid (S1.out.gr g9)
  replace SX := hid (SX.out.gr g9)
  replace BX := hid (g9.heap BX.out)
  replace Bx1 := hid (g9.heap Bx1.out)
  have Bt := hid h9
  have gz9 := hid g9.size
  clear h9 g9
  go_wp2_with fail
  refine (HEQ1.out _ _ _ _ _ (sliceOf_block Bx1.out) (sliceOf_block Bt.out)).mono ?_
  rintro e W10 ⟨rfl, g10⟩
  replace gr := hid (gr.out.trans g10)
  replace S1 := hid (S1.out.gr g10)
  replace SX := hid (SX.out.gr g10)
  replace BX := hid (g10.heap BX.out)
  replace Bx1 := hid (g10.heap Bx1.out)
  replace Bt := hid (g10.heap Bt.out)
  clear Bt
  clear g10
  go_wp2_with fail
  go_ret
  exact ⟨rfl, G.out.trans gr.out⟩
end Go.Proofs.YtfaiehjomcgjgaaDoor
