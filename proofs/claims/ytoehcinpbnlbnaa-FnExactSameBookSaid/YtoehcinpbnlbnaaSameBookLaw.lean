/- SameBook: the law's walk. -/
import Derived.Test.YtoehcinpbnlbnaaSameBook
namespace Go.Proofs.Ytoehcinpbnlbnaa
open Go.RowKit
set_option maxHeartbeats 8000000 in
set_option maxRecDepth 100000 in
theorem FnExactSameBook_walk (k l s : Int) (a : Option Addr) (ca n : Nat) (xs : List ByteArray) (k' l' s' : Int) (b : Option Addr) (cb m : Nat) (ys : List ByteArray) (hx : n = xs.length) (hy : m = ys.length)
    (hn : n ≤ 9223372036854775807) (hm : m ≤ 9223372036854775807) (hzx : ∀ i, (xs.getD i ByteArray.empty).size ≤ 9223372036854775807) (hzy : ∀ i, (ys.getD i ByteArray.empty).size ≤ 9223372036854775807) (w : World) (ha : StrsOf w a xs) (hb : StrsOf w b ys) :
    Calls Try.prog 4 #[bookV k l s (.slice a n ca), bookV k' l' s' (.slice b m cb)] w fun e w' => e = .returned (.bool true) ∧ Gr w w' := by
  have HZ1 : Hid (∀ (V : World), Gr w V → Calls Try.prog 20 #[bookV k l s (.slice a n ca), .int .i64 1048576] V fun e w' => (∃ r : Int, e = .returned (.int .i64 r) ∧ (r = -1 ∨ (0 ≤ r ∧ r ≤ 1048576 ∧ n ≤ 1048576))) ∧ Gr V w') := hid (fun V g => szBook_any k l s a ca n 1048576 xs hx hn (Nat.le_refl _) hzx V (ha.gr g))
  have HZ2 := hid (fun (r : Nat) (hr : r ≤ 1048576) (V : World) (g : Gr w V) => szBook_any k' l' s' b cb m r ys hy hm hr hzy V (hb.gr g))
  have HTA := hid (fun (h : n ≤ 1048576) (V : World) (g : Gr w V) => toBook_any k l s a ca n xs hx h V (ha.gr g))
  have HTB := hid (fun (h : m ≤ 1048576) (V : World) (g : Gr w V) => toBook_any k' l' s' b cb m ys hy h V (hb.gr g))
  have HSP := hid (fun (h1 : n ≤ 1048576) (h2 : m ≤ 1048576) (p q : Option Addr) (V : World) (sa : StrsOf V p xs) (sb : StrsOf V q ys) => spec_SameBook_any k l s k' l' s' p q n m n m xs ys hx hy h1 h2 V sa sb)
  have HIM := hid (fun (h1 : n ≤ 1048576) (h2 : m ≤ 1048576) (p q : Option Addr) (V : World) (sa : StrsOf V p xs) (sb : StrsOf V q ys) => impl_SameBook_any k l s k' l' s' p q n m n m xs ys hx hy h1 h2 V sa sb)
  have HEA := hid (fun (h : n ≤ 1048576) (p q : Option Addr) (V : World) (sa : StrsOf V p xs) (sb : StrsOf V q xs) => eqBook_same k l s p q n n n xs hx h V sa sb)
  have HEB := hid (fun (h : m ≤ 1048576) (p q : Option Addr) (V : World) (sa : StrsOf V p ys) (sb : StrsOf V q ys) => eqBook_same k' l' s' p q m m m ys hy h V sa sb)
  generalize sameBk k l s k' l' s' xs ys = r at *
  clear hx hy hzx hzy ha hb
  go_enter Try.func4, Try.ntmps4
  go_wp2_with fail
  have b0 := hid (heap_kept (o := .cells (bookC k' l' s' (.slice b m cb)) 36) (heap_new (w := w) (o := .cells (bookC k l s (.slice a n ca)) 36) rfl))
  have b1 := hid (heap_new (w := w.alloc (.cells (bookC k l s (.slice a n ca)) 36)) (o := .cells (bookC k' l' s' (.slice b m cb)) 36) (n := w.heap.size + 1) (by simp))
  have G := hid (((Gr.refl w).alloc (.cells (bookC k l s (.slice a n ca)) 36)).alloc (.cells (bookC k' l' s' (.slice b m cb)) 36))
  obtain ⟨W, hW⟩ : ∃ W, W = ((w.alloc (.cells (bookC k l s (.slice a n ca)) 36)).alloc (.cells (bookC k' l' s' (.slice b m cb)) 36)) := ⟨_, rfl⟩
  rw [← hW] at b0 b1 G ⊢
  clear hW
  have HD0 := hid (fun V (g : Gr W V) => book_cells (g.heap b0.out))
  have HD1 := hid (fun V (g : Gr W V) => book_cells (g.heap b1.out))
  refine (HZ1.out W G.out).mono ?_
  rintro e W1 ⟨⟨r1, rfl, hr1⟩, g1⟩
  have G1 := hid g1
  clear g1
  rcases hr1 with rfl | ⟨h0, h1, hn1⟩
  · go_wp2_with fail
    go_ret
    exact ⟨rfl, G.out.trans G1.out⟩
  · obtain ⟨q1, rfl⟩ := Int.eq_ofNat_of_zero_le h0
    have hq1 : q1 ≤ 1048576 := by omega
    have hn0 : ¬ (q1 : Int) < 0 := by omega
    obtain ⟨p0, p1, p2, p3⟩ := HD1.out _ G1.out
    go_wp2_with fail
    refine (HZ2.out q1 hq1 W1 (G.out.trans G1.out)).mono ?_
    rintro e W2 ⟨⟨r2, rfl, hr2⟩, g2⟩
    have G2 := hid (G1.out.trans g2)
    clear g2 p0 p1 p2 p3
    rcases hr2 with rfl | ⟨h2, h3, hm1⟩
    · go_wp2_with fail
      go_ret
      exact ⟨rfl, G.out.trans G2.out⟩
    · have hn2 : ¬ r2 < 0 := by omega
      have HN := hid (show n ≤ 1048576 from hn1)
      have HM := hid (show m ≤ 1048576 by omega)
      have gd : Gr W W2.drew := G2.out.drew
      obtain ⟨p0, p1, p2, p3⟩ := HD0.out _ gd
      obtain ⟨q0, q1', q2, q3⟩ := HD1.out _ gd
      go_wp2_with fail
      go_region_held3 (fun V => V.cell? ⟨w.heap.size, 0, none⟩ = some (.int .i8 k) ∧ V.cell? ⟨w.heap.size, 1, none⟩ = some (.int .i8 l) ∧ V.cell? ⟨w.heap.size, 2, none⟩ = some (.int .i8 s) ∧ V.cell? ⟨w.heap.size, 3, none⟩ = some (.slice a n ca) ∧ V.cell? ⟨w.heap.size + 1, 0, none⟩ = some (.int .i8 k') ∧ V.cell? ⟨w.heap.size + 1, 1, none⟩ = some (.int .i8 l') ∧ V.cell? ⟨w.heap.size + 1, 2, none⟩ = some (.int .i8 s') ∧ V.cell? ⟨w.heap.size + 1, 3, none⟩ = some (.slice b m cb) ∧ Gr W V)
        (first | exact ⟨p0, p1, p2, p3, q0, q1', q2, q3, gd⟩ | exact book_keep (HD0.out _ gW) (HD1.out _ gW) gW | go_keep)
        ((first | ((with_reducible refine (HTA.out HN.out _ (G.out.trans (by assumption))).mono ?_); rintro e V ⟨rfl, hA, gV⟩; have gW : Gr W V := Gr.trans (by assumption) gV; have sA := strsOf_block hA; (try simp only [World.size_drew] at sA)) | ((with_reducible refine (HTB.out HM.out _ (G.out.trans (by assumption))).mono ?_); rintro e V ⟨rfl, hB, gV⟩; have gW : Gr W V := Gr.trans (by assumption) gV; have sB := strsOf_block hB; have sA2 := sA.gr gV) | ((with_reducible refine (HSP.out HN.out HM.out _ _ _ sA2 sB).mono ?_); rintro e V3 ⟨rfl, gV⟩; have gW : Gr W V3 := Gr.trans (by assumption) gV)))
      have G3 := hid (show Gr W V3 from gW)
      clear p0 p1 p2 p3 q0 q1' q2 q3 gd
      obtain ⟨p0, p1, p2, p3⟩ := HD0.out _ G3.out
      go_wp2_with fail
      clear p0 p1 p2 p3
      refine (HTA.out HN.out _ (G.out.trans G3.out)).mono ?_
      rintro e V4 ⟨rfl, hA4, gV4⟩
      have G4 := hid (G3.out.trans gV4)
      have SX := hid (strsOf_block hA4)
      have NX := hid (heap_new (w := V4) (o := .cells (bookC 0 0 0 (.slice none 0 0)) 39) rfl)
      have BX := hid (heap_row_set (cs := bookC k l s (.slice (some ⟨V3.heap.size + 3, 0, none⟩) n n)) NX.out)
      have GL := hid (((Gr.refl V4).alloc (.cells (bookC 0 0 0 (.slice none 0 0)) 39)).setRow (Nat.le_refl _) (bookC k l s (.slice (some ⟨V3.heap.size + 3, 0, none⟩) n n)))
      obtain ⟨p0, p1, p2, p3⟩ := HD1.out _ (G4.out.trans GL.out)
      clear hA4 gV4
      go_wp2_with (refine wpList_store_cells rfl 39 _ _ rfl _ (bookC k l s (.slice (some ⟨V3.heap.size + 3, 0, none⟩) n n)) (bookC 0 0 0 (.slice none 0 0)) rfl rfl _ 4 NX.out (by kernel_rfl) rfl rfl (by simp [Value.oneCell']) ?_)
      clear p0 p1 p2 p3 NX
      obtain ⟨V5, hV5⟩ : ∃ V5, V5 = (V4.alloc (.cells (bookC 0 0 0 (.slice none 0 0)) 39)).setRow V4.heap.size (bookC k l s (.slice (some ⟨V3.heap.size + 3, 0, none⟩) n n)) := ⟨_, rfl⟩
      rw [← hV5] at BX GL ⊢
      clear hV5
      have G5 := hid (G4.out.trans GL.out)
      have SX5 := hid (SX.out.gr GL.out)
      clear GL SX
      refine (HTB.out HM.out _ (G.out.trans G5.out)).mono ?_
      rintro e V6 ⟨rfl, hB6, gV6⟩
      have G6 := hid (G5.out.trans gV6)
      have SX6 := hid (SX5.out.gr gV6)
      have BX6 := hid (gV6.heap BX.out)
      have SY := hid (strsOf_block hB6)
      have NY := hid (heap_new (w := V6) (o := .cells (bookC 0 0 0 (.slice none 0 0)) 39) rfl)
      have BY := hid (heap_row_set (cs := bookC k' l' s' (.slice (some ⟨V5.heap.size + 3, 0, none⟩) m m)) NY.out)
      have GL := hid (((Gr.refl V6).alloc (.cells (bookC 0 0 0 (.slice none 0 0)) 39)).setRow (Nat.le_refl _) (bookC k' l' s' (.slice (some ⟨V5.heap.size + 3, 0, none⟩) m m)))
      have BX7 := hid (GL.out.heap BX6.out)
      obtain ⟨p0, p1, p2, p3⟩ := book_cells BX7.out
      obtain ⟨q0, q1', q2, q3⟩ := book_cells BY.out
      clear hB6 gV6 BX BX6 SX5
      go_wp2_with (refine wpList_store_cells rfl 39 _ _ rfl _ (bookC k' l' s' (.slice (some ⟨V5.heap.size + 3, 0, none⟩) m m)) (bookC 0 0 0 (.slice none 0 0)) rfl rfl _ 4 NY.out (by kernel_rfl) rfl rfl (by simp [Value.oneCell']) ?_)
      clear p0 p1 p2 p3 q0 q1' q2 q3 NY
      obtain ⟨V7, hV7⟩ : ∃ V7, V7 = (V6.alloc (.cells (bookC 0 0 0 (.slice none 0 0)) 39)).setRow V6.heap.size (bookC k' l' s' (.slice (some ⟨V5.heap.size + 3, 0, none⟩) m m)) := ⟨_, rfl⟩
      rw [← hV7] at BX7 BY GL ⊢
      clear hV7
      have G7 := hid (G6.out.trans GL.out)
      have SX7 := hid (SX6.out.gr GL.out)
      have SY7 := hid (SY.out.gr GL.out)
      clear GL SX6 SY
      refine (HIM.out HN.out HM.out _ _ V7 SX7.out SY7.out).mono ?_
      rintro e V8 ⟨rfl, gV8⟩
      have G8 := hid (G7.out.trans gV8)
      have HX0 := hid (fun V (g : Gr V8 V) => book_cells ((gV8.trans g).heap BX7.out))
      have HY0 := hid (fun V (g : Gr V8 V) => book_cells ((gV8.trans g).heap BY.out))
      have SX8 := hid (SX7.out.gr gV8)
      have SY8 := hid (SY7.out.gr gV8)
      clear gV8 SX7 SY7 BX7 BY
      go_wp2_with fail
      have gd : Gr V8 V8.drew := (Gr.refl V8).drew
      obtain ⟨p0, p1, p2, p3⟩ := HD0.out _ (G8.out.trans gd)
      obtain ⟨q0, q1', q2, q3⟩ := HX0.out _ gd
      go_region_held3 (fun V => V.cell? ⟨w.heap.size, 0, none⟩ = some (.int .i8 k) ∧ V.cell? ⟨w.heap.size, 1, none⟩ = some (.int .i8 l) ∧ V.cell? ⟨w.heap.size, 2, none⟩ = some (.int .i8 s) ∧ V.cell? ⟨w.heap.size, 3, none⟩ = some (.slice a n ca) ∧ V.cell? ⟨V4.heap.size, 0, none⟩ = some (.int .i8 k) ∧ V.cell? ⟨V4.heap.size, 1, none⟩ = some (.int .i8 l) ∧ V.cell? ⟨V4.heap.size, 2, none⟩ = some (.int .i8 s) ∧ V.cell? ⟨V4.heap.size, 3, none⟩ = some (.slice (some ⟨V3.heap.size + 3, 0, none⟩) n n) ∧ Gr V8 V)
        (first | exact ⟨p0, p1, p2, p3, q0, q1', q2, q3, gd⟩ | exact book_keep (HD0.out _ (G8.out.trans gW8)) (HX0.out _ gW8) gW8 | go_keep)
        ((first | ((with_reducible refine (HTA.out HN.out _ (G.out.trans (G8.out.trans (by assumption)))).mono ?_); rintro e V ⟨rfl, hA, gV⟩; have gW8 : Gr V8 V := Gr.trans (by assumption) gV; have sA9 := strsOf_block hA; have sX9 := SX8.out.gr gW8; (try simp only [World.size_drew] at sA9)) | ((with_reducible refine (HEA.out HN.out _ _ _ sX9 sA9).mono ?_); rintro e V9 ⟨rfl, gV⟩; have gW8 : Gr V8 V9 := Gr.trans (by assumption) gV)))
      have G9 := hid (show Gr V8 V9 from gW8)
      clear p0 p1 p2 p3 q0 q1' q2 q3 gd
      go_wp2_with fail
      have gd : Gr V8 V9.drew := G9.out.drew
      obtain ⟨p0, p1, p2, p3⟩ := HD1.out _ (G8.out.trans gd)
      obtain ⟨q0, q1', q2, q3⟩ := HY0.out _ gd
      go_region_held3 (fun V => V.cell? ⟨w.heap.size + 1, 0, none⟩ = some (.int .i8 k') ∧ V.cell? ⟨w.heap.size + 1, 1, none⟩ = some (.int .i8 l') ∧ V.cell? ⟨w.heap.size + 1, 2, none⟩ = some (.int .i8 s') ∧ V.cell? ⟨w.heap.size + 1, 3, none⟩ = some (.slice b m cb) ∧ V.cell? ⟨V6.heap.size, 0, none⟩ = some (.int .i8 k') ∧ V.cell? ⟨V6.heap.size, 1, none⟩ = some (.int .i8 l') ∧ V.cell? ⟨V6.heap.size, 2, none⟩ = some (.int .i8 s') ∧ V.cell? ⟨V6.heap.size, 3, none⟩ = some (.slice (some ⟨V5.heap.size + 3, 0, none⟩) m m) ∧ Gr V8 V)
        (first | exact ⟨p0, p1, p2, p3, q0, q1', q2, q3, gd⟩ | exact book_keep (HD1.out _ (G8.out.trans gWa)) (HY0.out _ gWa) gWa | go_keep)
        ((first | ((with_reducible refine (HTB.out HM.out _ (G.out.trans (G8.out.trans (by assumption)))).mono ?_); rintro e V ⟨rfl, hA, gV⟩; have gWa : Gr V8 V := Gr.trans (by assumption) gV; have sAa := strsOf_block hA; have sXa := SY8.out.gr gWa; (try simp only [World.size_drew] at sAa)) | ((with_reducible refine (HEB.out HM.out _ _ _ sXa sAa).mono ?_); rintro e Va ⟨rfl, gV⟩; have gWa : Gr V8 Va := Gr.trans (by assumption) gV)))
      have GA := hid (show Gr V8 Va from gWa)
      clear p0 p1 p2 p3 q0 q1' q2 q3 gd
      go_wp2_with fail
      go_ret
      exact ⟨rfl, G.out.trans (G8.out.trans GA.out)⟩
end Go.Proofs.Ytoehcinpbnlbnaa
