/- HoistOf: both functions. -/
import Derived.Test.YtfaiehjomcgjgaaDoorThere
import Derived.Test.YtfaiehjomcgjgaaDoorMeanIn
import Derived.Test.YtfaiehjomcgjgaaDoorCompletionsOf
namespace Go.Proofs.YtfaiehjomcgjgaaDoor
set_option linter.unusedVariables false
open Go.RowKit
def hoL (k l s : Int) (ss : List ByteArray) (i : Int) : List Int := if thereC k l s ss i = 0 then hforL ((meansOf k l s).getD i.toNat []) 1 s else []
theorem bk_keepA {A B C D I : Prop} (h : A ∧ B ∧ C ∧ D) (i : I) : A ∧ B ∧ C ∧ D ∧ I := ⟨h.1, h.2.1, h.2.2.1, h.2.2.2, i⟩
theorem hoL_no {k l s : Int} {ss : List ByteArray} {i : Int} (h : ¬ thereC k l s ss i = 0) : hoL k l s ss i = [] := by unfold hoL; rw [if_neg h]
theorem hoL_at {k l s : Int} {ss : List ByteArray} {j : Nat} (h : thereC k l s ss (j : Int) = 0) : hoL k l s ss (j : Int) = hforL ((meansOf k l s).getD j []) 1 s := by unfold hoL; rw [if_pos h, Int.toNat_natCast]
theorem hoL_len (k l s : Int) (ss : List ByteArray) (i : Int) : (hoL k l s ss i).length ≤ 1048576 := by
  by_cases h : thereC k l s ss i = 0
  · unfold hoL; rw [if_pos h]
    have := hforL_length ((meansOf k l s).getD i.toNat []) 1 s
    omega
  · rw [hoL_no h]; simp
theorem book_at_kind {K L B j : Nat} (hj : j < (bookL K B L).length) : ∃ q, 1 ≤ q ∧ q ≤ L ∧ (bookL K B L).getD j [] ∈ kindsS K q ∧ canH B ((bookL K B L).getD j []) = true := by
  have hm : (bookL K B L).getD j [] ∈ bookL K B L := by
    have : (bookL K B L).getD j [] = (bookL K B L)[j] := by simp [List.getD, List.getElem?_eq_getElem hj]
    rw [this]; exact List.getElem_mem hj
  exact mem_bookL hm
set_option maxRecDepth 100000 in
set_option maxHeartbeats 2000000 in
theorem spec_HoistOf_any (k l s : Int) (hw : Wf3 k l s) (a : Option Addr) (cap n : Nat) (ss : List ByteArray) (hl : n = ss.length) (hn : n ≤ 1048576) (hz : SizesOk ss) (i : Int) (_hi : (Lit.int .i64 i).wf = true) (w : World) (hs : StrsOf w a ss) :
    Calls Tryd.prog 11 #[bookV k l s (.slice a n cap), .int .i64 i] w (RetOwn .i8 22 (withCode (thereC k l s ss i)) (hoL k l s ss i) w) := by
  have gr : Gr w (w.alloc (.cells (bookC k l s (.slice a n cap)) 31)) := (Gr.refl _).alloc _
  have hb := bookAt_block (heap_new (w := w) (o := .cells (bookC k l s (.slice a n cap)) 31) rfl) hl (hs.gr gr)
  have HB := hid (l03There_any w.heap.size k l s a n cap ss hw hn hz i _ hb)
  have GR := hid gr
  by_cases h : thereC k l s ss i = 0
  · obtain ⟨hv, j, rfl, hj⟩ := there_yes h
    rw [hoL_at h]
    obtain ⟨K, L, B, rfl, rfl, rfl, k1, k2, l1, l2, b2⟩ := sizedB_yes (validBk_sizedT hv)
    obtain ⟨-, -, e3⟩ := room_yes (validBk_sizedT hv)
    have hnl := validBk_lens hv
    rw [h] at HB ⊢
    rw [e3] at hnl ⊢
    have hjX : j < (bookL K B L).length := by omega
    have HM := hid (fun V (g : Gr (w.alloc (.cells (bookC K L B (.slice a n cap)) 31)) V) => l03Meanings_any w.heap.size K L B a n cap ss k2 l2 b2 V (hb.gr g))
    have HC := hid (fun V (g : Gr (w.alloc (.cells (bookC K L B (.slice a n cap)) 31)) V) => (hb.gr g).c2)
    obtain ⟨q, q1, q2, q3, q4⟩ := book_at_kind (K := K) (B := B) hjX
    have hlq := (mem_kindsS.1 q3).1
    have hBW : IntKind.i64.wrap (B : Int) = (B : Int) := IntWalk.i64_in _ (by omega)
    have HF := hid (fun (g c : Nat) (V : World) (hc : ((bookL K B L).getD j []).length ≤ c) (hr : SliceOf .i8 V (some ⟨g, 0, none⟩) ((bookL K B L).getD j [])) => by
      have := spec_HoistFor_cap (some ⟨g, 0, none⟩) c ((bookL K B L).getD j []) (by omega) hc (kinds_fits (by omega) q3) 1 (by decide) (B : Int) (wf_small (by omega)) V hr
      rwa [kinds_code (by omega) q1 (by omega) b2 q3, q4, if_pos rfl] at this)
    have HJ := hid hjX
    clear h hv hs hl gr hz hw hb e3 hnl hj q3 q4 q1 q2 hlq
    generalize bookL K B L = xss at *
    go_enter Tryd.func11, Tryd.ntmps11
    go_wp2_with fail
    refine HB.out.mono ?_
    rintro e w2 ⟨rfl, g2⟩
    have GB2 := hid g2
    have G2 := hid (GR.out.trans g2)
    clear g2
    have HM2 := hid (HM.out _ GB2.out)
    clear HM
    go_wp2_with fail
    refine HM2.out.mono ?_
    rintro e w3 ⟨g, cc, vs, rfl, hrow, g3⟩
    have G3 := hid (G2.out.trans g3)
    have c2 := HC.out _ (GB2.out.trans g3)
    obtain ⟨g0, g', c', e0, hcc, ho⟩ := hrow.at_ HJ.out
    simp only [Option.some.injEq, Addr.mk.injEq, and_true] at e0
    subst e0
    have HF3 := hid (fun V (gv : Gr w3 V) => HF.out g' c' V (row_cap ho) ((row_reads ho rfl).gr gv))
    clear hrow g3 ho HM2 HF HC
    generalize xss.getD j [] = x at *
    have HFX := hid (hforL_length x 1 (B : Int))
    generalize hforL x 1 (B : Int) = y at *
    generalize x.length = p at *
    have hjx := HJ.out
    obtain ⟨p0, hp0⟩ : ∃ p0, p0 = xss.length := ⟨_, rfl⟩
    rw [← hp0] at hjx ⊢
    clear hp0
    go_wp2_with fail
    have gd : Gr w3 w3.drew := (Gr.refl w3).drew
    have p0 := gd.cell c2
    have p1 := gd.cell hcc
    go_region_held3 (fun V => V.cell? ⟨w.heap.size, 2, none⟩ = some (.int .i8 (B : Int)) ∧ V.cell? ⟨g, j, none⟩ = some (.slice (some ⟨g', 0, none⟩) p c') ∧ Gr w3 V)
      (first | exact ⟨p0, p1, gd⟩ | exact ⟨gW.cell c2, gW.cell hcc, gW⟩ | go_keep)
      (((with_reducible refine (HF3.out _ (by assumption)).mono ?_); rintro e V ⟨v, rfl, o, gV⟩; obtain ⟨pm, cm, rfl⟩ := o.shape; simp only [withCode]; have gW : Gr w3 V := Gr.trans (by assumption) gV; have gS := Gr.size (show Gr w3 _ by assumption)))
    have O := hid o
    have G4 := hid (G3.out.trans gW)
    clear o gV HF3
    go_wp2_with fail
    go_ret2
    exact ⟨_, rfl, O.out.widen (by have := G3.out.size; have := gd.size; omega) (Nat.le_refl _), G4.out⟩
  · rw [hoL_no h]
    have hcb : (thereC k l s ss i != 0) = true := by rw [bne_iff_ne]; exact h
    clear h hs hl gr hz hw hb
    generalize thereC k l s ss i = c at *
    go_enter Tryd.func11, Tryd.ntmps11
    go_wp2_with fail
    refine HB.out.mono ?_
    rintro e w2 ⟨rfl, g2⟩
    have G2 := hid (GR.out.trans g2)
    clear g2
    go_wp2_with fail
    go_ret2
    exact ret_empty G2.out _
set_option maxRecDepth 100000 in
set_option maxHeartbeats 1000000 in
/-- A meaning that can be hoisted: its hoist, in a block of its own. -/
theorem hoist_own (K L B j : Nat) (m : List Int) (hK : K ≤ 10) (h1 : 1 ≤ j) (h3 : j ≤ 3) (hB : B ≤ 4) (hm : m ∈ kindsS K j) (hc : canH B m = true) (a : Option Addr) (n cap : Nat) (hn : n = m.length) (hcap : n ≤ cap) (w : World) (hs : SliceOf .i8 w a m) :
    Calls Tryd.prog 43 #[.agg (schC K L B), .slice a n cap] w (RetOwn .i8 22 (fun v => .tuple #[v, .bool true]) (hforL m 1 (B : Int)) w) := by
  subst hn
  have hl := (mem_kindsS.1 hm).1
  have HF := hid (fun V (g : Gr w V) => by
    have := impl_HoistFor_cap a cap m (by omega) hcap (kinds_fits (by omega) hm) 1 (B : Int) V (hs.gr g)
    rwa [kinds_code (by omega) h1 (by omega) hB hm, hc, if_pos rfl] at this)
  have GR := hid ((Gr.refl w).alloc (.cells (schC K L B) 67))
  clear hs hl hm hc
  generalize hforL m 1 (B : Int) = X at *
  generalize m.length = n at *
  go_enter Tryd.func43, Tryd.ntmps43
  go_wp2_with fail
  refine (HF.out _ GR.out).mono ?_
  rintro e w1 ⟨v, rfl, ow, g1⟩
  have G1 := hid (GR.out.trans g1)
  obtain ⟨a', c', rfl⟩ := ow.shape
  have O := hid (ow.widen GR.out.size (Nat.le_refl _))
  unfold withCode
  clear g1 ow
  generalize X.length = q at *
  go_wp2_with fail
  go_ret2
  exact ⟨_, rfl, O.out, G1.out⟩
set_option maxRecDepth 100000 in
set_option maxHeartbeats 2000000 in
theorem impl_HoistOf_any (k l s : Int) (hw : Wf3 k l s) (a : Option Addr) (cap n : Nat) (ss : List ByteArray) (hl : n = ss.length) (hn : n ≤ 1048576) (hz : SizesOk ss) (i : Int) (_hi : (Lit.int .i64 i).wf = true) (b0 b1 b2 : Addr) (w : World) (hs : StrsOf w a ss) (hS : SentAt w b0 b1 b2) :
    Calls Tryd.prog 13 #[bookV k l s (.slice a n cap), .int .i64 i] w (RetOwn .i8 22 (withCode (thereC k l s ss i)) (hoL k l s ss i) w) := by
  obtain ⟨W, hW⟩ : ∃ W, W = w.alloc (.cells (bookC k l s (.slice a n cap)) 31) := ⟨_, rfl⟩
  have G0 : Hid (Gr w W) := hid (by rw [hW]; exact (Gr.refl w).alloc _)
  have B0 : Hid (W.heap[w.heap.size]? = some (.cells (bookC k l s (.slice a n cap)) 31 (0, 0))) := hid (by rw [hW]; exact heap_new rfl)
  have HD := hid (fun V (g : Gr W V) => bk_cells (k := k) (l := l) (s := s) (v := .slice a n cap) (g.heap B0.out))
  have HCI := hid (fun V (g : Gr W V) => checkIndex_any k l s hw a cap n ss hl hn hz i b0 b1 b2 V (hs.gr (G0.out.trans g)) (hS.gr (G0.out.trans g)))
  have HSE := hid (fun V (g : Gr W V) => hS.gr (G0.out.trans g))
  have HW := hid hW
  clear hW hS
  by_cases h : thereC k l s ss i = 0
  · obtain ⟨hv, j, rfl, hj⟩ := there_yes h
    rw [hoL_at h]
    obtain ⟨K, L, B, rfl, rfl, rfl, k1, k2, l1, l2, b2'⟩ := sizedB_yes (validBk_sizedT hv)
    obtain ⟨-, -, e3⟩ := room_yes (validBk_sizedT hv)
    have hnl := validBk_lens hv
    rw [h] at HCI ⊢
    rw [errE_zero] at HCI
    rw [e3, ← hl] at hnl
    rw [← hl] at hj
    rw [e3]
    have hjX : j < (bookL K B L).length := by omega
    have HSO := hid (fun V => book_schemeOf (K : Int) (L : Int) (B : Int) (.slice a n cap) V)
    have HM := hid (fun V => meaningsIn_any K L B k1 k2 l2 b2' a cap n hnl.2 V)
    obtain ⟨q, q1, q2, q3, q4⟩ := book_at_kind (K := K) (B := B) hjX
    have HF := hid (fun (g c : Nat) (V : World) (hc : ((bookL K B L).getD j []).length ≤ c) (hr : SliceOf .i8 V (some ⟨g, 0, none⟩) ((bookL K B L).getD j [])) =>
      hoist_own K L B q ((bookL K B L).getD j []) k2 q1 (by omega) b2' q3 q4 (some ⟨g, 0, none⟩) _ c rfl hc V hr)
    have HTK : Hid (((bookL K B L).take n).getD j [] = (bookL K B L).getD j []) := hid (by simp [List.getD, hj])
    have HTL : Hid (j < ((bookL K B L).take n).length) := hid (by rw [List.length_take]; omega)
    clear h hv hs hl hz hw e3 hnl q3 q4 q1 q2 hjX
    generalize bookL K B L = X at *
    generalize hx : X.getD j [] = x at *
    have HFX := hid (hforL_length x 1 (B : Int))
    generalize hforL x 1 (B : Int) = y at *
    obtain ⟨p, hp⟩ : ∃ p, p = x.length := ⟨_, rfl⟩
    rw [← hp] at HF
    have HP := hid hp
    clear hx hp
    go_enter Tryd.func13, Tryd.ntmps13
    go_wp2_with fail
    rw [← HW.out]
    obtain ⟨d0, d1, d2, d3⟩ := HD.out _ (Gr.refl W)
    go_wp2_with fail
    refine (HCI.out _ (Gr.refl W)).mono ?_
    rintro e w2 ⟨rfl, g2⟩
    have GB2 := hid g2
    have G2 := hid (G0.out.trans g2)
    clear d0 d1 d2 d3 g2
    go_wp2_with fail
    refine wp_region_held_drew (S := fun V => V.heap[w.heap.size]? = some (.cells (bookC (K : Int) (L : Int) (B : Int) (.slice a n cap)) 31 (0, 0)) ∧ Gr W V) (by kernel_rfl) ⟨(GB2.out.drew).heap B0.out, GB2.out.drew⟩ (fun hH => ?_)
    have HH := hid hH
    clear hH
    refine wpAnyH_take (i := 0) (v := bookV (K : Int) (L : Int) (B : Int) (.slice a n cap)) rfl (by kernel_rfl) (by kernel_rfl) (by kernel_rfl) (fun _ _ _ h => h) (yields_row (by rfl) 31 (.tmp 2) rfl w.heap.size rfl _ (bookC (K : Int) (L : Int) (B : Int) (.slice a n cap)) _ (fun V hV => hV.1) Tryd.underlying31 rfl (by kernel_rfl)) HH.out ?_
    simp only [Act.put, List.getElem_toArray, List.getElem_cons_zero, List.setIfInBounds_toArray, List.set_cons_zero, List.set_cons_succ]
    refine wpAnyH_take (i := 2) (v := bookV (K : Int) (L : Int) (B : Int) (.slice a n cap)) rfl (by kernel_rfl) (by kernel_rfl) (by kernel_rfl) (fun _ _ _ h => h) (yields_row (by rfl) 31 (.tmp 2) rfl w.heap.size rfl _ (bookC (K : Int) (L : Int) (B : Int) (.slice a n cap)) _ (fun V hV => hV.1) Tryd.underlying31 rfl (by kernel_rfl)) HH.out ?_
    simp only [Act.put, List.getElem_toArray, List.getElem_cons_zero, List.getElem_cons_succ, List.setIfInBounds_toArray, List.set_cons_zero, List.set_cons_succ]
    refine wpAnyH_take (i := 4) (v := .int .i64 (j : Int)) rfl (by kernel_rfl) (by kernel_rfl) (by kernel_rfl) (fun _ _ _ h => h) (Or.inl ⟨by rfl, fun _ _ => by first | rfl | (go_simp; done) | (go_simp; rfl) | (go_simp; intro h; exfalso; omega)⟩) HH.out ?_
    simp only [Act.put, List.getElem_toArray, List.getElem_cons_zero, List.getElem_cons_succ, List.setIfInBounds_toArray, List.set_cons_zero, List.set_cons_succ]
    refine wpAnyH_ready (rs := [1]) (by kernel_rfl) (by simp) (AllReadyH.cons rfl (fun KK hKK => ?_) AllReadyH.nil)
    rw [if_pos (by rfl)]
    go_simp
    refine (HSO.out _).mono ?_
    rintro e V3 ⟨rfl, g3⟩
    dsimp only
    refine hKK.out _ _ ⟨g3.heap HH.out.1, HH.out.2.trans g3⟩ (fun hH => ?_)
    clear g3
    clear HH hKK KK
    have HH := hid hH
    clear hH
    refine wpAnyH_ready (rs := [3]) (by kernel_rfl) (by simp) (AllReadyH.cons rfl (fun KK hKK => ?_) AllReadyH.nil)
    rw [if_pos (by rfl)]
    go_simp
    refine (HM.out _).mono ?_
    rintro e V4 ⟨aa, c, vs, rfl, hrow, g4⟩
    dsimp only
    obtain ⟨g0, g', c', rfl, hcc, ho⟩ := hrow.at_ HTL.out
    rw [HTK.out, ← HP.out] at hcc
    rw [HTK.out] at ho
    refine hKK.out _ _ ⟨g4.heap HH.out.1, HH.out.2.trans g4⟩ (fun hH => ?_)
    clear g4 hrow
    clear HH hKK KK
    have HH := hid hH
    clear hH
    refine wpAnyH_take (i := 5) (v := .pointer (some ⟨g0, j, none⟩)) rfl (by kernel_rfl) (by kernel_rfl) (by kernel_rfl) (fun _ _ _ h => h) (Or.inl ⟨by rfl, fun _ _ => by first | rfl | (go_simp; done) | (go_simp; rfl) | (go_simp; intro h; exfalso; omega)⟩) HH.out ?_
    simp only [Act.put, List.getElem_toArray, List.getElem_cons_zero, List.getElem_cons_succ, List.setIfInBounds_toArray, List.set_cons_zero, List.set_cons_succ]
    refine wpAnyH_ready (rs := [6]) (by kernel_rfl) (by simp) (AllReadyH.cons rfl (fun KK hKK => ?_) AllReadyH.nil)
    rw [if_pos (by rfl)]
    go_simp
    refine hKK.out _ _ HH.out (fun hH => ?_)
    clear HH hKK KK
    have HH := hid hH
    clear hH
    refine wpAnyH_ready (rs := [7]) (by kernel_rfl) (by simp) (AllReadyH.cons rfl (fun KK hKK => ?_) AllReadyH.nil)
    rw [if_pos (by rfl)]
    go_simp
    refine (HF.out _ _ _ (by rw [HP.out]; exact row_cap ho) (row_reads ho rfl)).mono ?_
    rintro e V5 ⟨v, rfl, o, g5⟩
    dsimp only
    obtain ⟨pm, cm, rfl⟩ := o.shape
    have gS := HH.out.2.size
    refine hKK.out _ _ ⟨g5.heap HH.out.1, HH.out.2.trans g5⟩ (fun hH => ?_)
    clear g5
    clear HH hKK KK
    have HH := hid hH
    clear hH
    refine wpAnyH_take (i := 8) (v := .tuple #[.slice pm y.length cm, .bool true]) rfl (by kernel_rfl) (by kernel_rfl) (by kernel_rfl) (fun _ _ _ h => h) (Or.inl ⟨by rfl, fun _ _ => by first | rfl | (go_simp; done) | (go_simp; rfl) | (go_simp; intro h; exfalso; omega)⟩) HH.out ?_
    simp only [Act.put, List.getElem_toArray, List.getElem_cons_zero, List.getElem_cons_succ, List.setIfInBounds_toArray, List.set_cons_zero, List.set_cons_succ]
    refine wpAnyH_take (i := 9) (v := .slice pm y.length cm) rfl (by kernel_rfl) (by kernel_rfl) (by kernel_rfl) (fun _ _ _ h => h) (Or.inl ⟨by rfl, fun _ _ => by first | rfl | (go_simp; done) | (go_simp; rfl) | (go_simp; intro h; exfalso; omega)⟩) HH.out ?_
    simp only [Act.put, List.getElem_toArray, List.getElem_cons_zero, List.getElem_cons_succ, List.setIfInBounds_toArray, List.set_cons_zero, List.set_cons_succ]
    refine wpAnyH_take (i := 10) (v := .bool true) rfl (by kernel_rfl) (by kernel_rfl) (by kernel_rfl) (fun _ _ _ h => h) (Or.inl ⟨by rfl, fun _ _ => by first | rfl | (go_simp; done) | (go_simp; rfl) | (go_simp; intro h; exfalso; omega)⟩) HH.out ?_
    simp only [Act.put, List.getElem_toArray, List.getElem_cons_zero, List.getElem_cons_succ, List.setIfInBounds_toArray, List.set_cons_zero, List.set_cons_succ]
    refine wpAnyH_take (i := 11) (v := .slice pm y.length cm) rfl (by kernel_rfl) (by kernel_rfl) (by kernel_rfl) (fun _ _ _ h => h) (Or.inl ⟨by rfl, fun _ _ => by first | rfl | (go_simp; done) | (go_simp; rfl) | (go_simp; intro h; exfalso; omega)⟩) HH.out ?_
    simp only [Act.put, List.getElem_toArray, List.getElem_cons_zero, List.getElem_cons_succ, List.setIfInBounds_toArray, List.set_cons_zero, List.set_cons_succ]
    refine wpAnyH_take (i := 12) (v := .bool true) rfl (by kernel_rfl) (by kernel_rfl) (by kernel_rfl) (fun _ _ _ h => h) (Or.inl ⟨by rfl, fun _ _ => by first | rfl | (go_simp; done) | (go_simp; rfl) | (go_simp; intro h; exfalso; omega)⟩) HH.out ?_
    simp only [Act.put, List.getElem_toArray, List.getElem_cons_zero, List.getElem_cons_succ, List.setIfInBounds_toArray, List.set_cons_zero, List.set_cons_succ]
    refine wpAnyH_done (by kernel_rfl) ?_ _
    have O := hid o
    have G5 := hid (G0.out.trans HH.out.2)
    clear o hcc ho
    go_wp2_with fail
    go_ret2
    exact ⟨_, rfl, O.out.widen (by have := G0.out.size; omega) (Nat.le_refl _), G5.out⟩
  · rw [hoL_no h]
    have hc3 : thereC k l s ss i = 1 ∨ thereC k l s ss i = 2 ∨ thereC k l s ss i = 4 := (there_cases k l s ss i).elim (fun e => absurd e h) (fun e => e.elim .inl (fun e => .inr (.inl e)))
    rw [errE_ne h] at HCI
    have HCO := hid (fun V (g : Gr W V) => codeOf_any b0 b1 b2 _ hc3 V (HSE.out V g))
    clear h hs hl hz hw hc3 HSE
    generalize thereC k l s ss i = c at *
    generalize errB b0 b1 b2 c = eb at *
    unfold sentV at HCI HCO
    go_enter Tryd.func13, Tryd.ntmps13
    go_wp2_with fail
    rw [← HW.out]
    obtain ⟨d0, d1, d2, d3⟩ := HD.out _ (Gr.refl W)
    go_wp2_with fail
    refine (HCI.out _ (Gr.refl W)).mono ?_
    rintro e w2 ⟨rfl, g2⟩
    have GB2 := hid g2
    have G2 := hid (G0.out.trans g2)
    clear g2 d0 d1 d2 d3
    go_wp2_with fail
    refine (HCO.out _ GB2.out).mono ?_
    rintro e w3 ⟨rfl, rfl⟩
    go_wp2_with fail
    go_ret2
    exact ret_nil G2.out _
end Go.Proofs.YtfaiehjomcgjgaaDoor
