/- The accounts with which a story can go on: the program's function. -/
import Derived.Test.YtlgfibiggiknjaaDoorAcct
import Derived.Test.YtlgfibiggiknjaaDoorStillMid
import Derived.Deep.DeepCutAuto
namespace Go.Proofs.YtlgfibiggiknjaaDoor
set_option linter.unusedVariables false
open Go.RowKit
theorem infoAc : (Tryd.prog.info? 128).map (fun i => (i.zero, i.size, i.bytes)) = some (some .nilIface, 1, 16) := by kernel_rfl
/-- Two logs that lie where they lie. -/
structure Logs2 (w : World) (a b : Option Addr) (n m : Nat) (es fs : List En) : Prop where
  fst : CellsOf w a (enCells es)
  snd : CellsOf w b (enCells fs)
  n_ : n = es.length
  m_ : m = fs.length
  n60 : n ≤ 1048576
  m60 : m ≤ 1048576
theorem Logs2.gr {W w : World} {a b : Option Addr} {n m : Nat} {es fs : List En} (h : Logs2 W a b n m es fs) (g : Gr W w) : Logs2 w a b n m es fs := ⟨h.fst.gr g, h.snd.gr g, h.n_, h.m_, h.n60, h.m60⟩
def sidesC (a b : Option Addr) (n m ca cb : Nat) : Array Value := #[.slice a n ca, .slice b m cb]
def acVals (l : List Acct) : List Value := l.map Acct.val
def sdO (a b : Option Addr) (n m ca cb : Nat) : Obj := .cells #[.slice a n ca, .slice b m cb] 115
/-- The list so far. -/
structure AcRel (w : World) (a b : Option Addr) (n m ca cb : Nat) (L : List Acct) (v : Value) (wx : World) : Prop where
  own : OwnV 128 1 wx (w.heap.size + 1) wx.heap.size v L.length (acVals L)
  gr : Gr (w.alloc (sdO a b n m ca cb)) wx
theorem AcRel.box {w wx : World} {a b : Option Addr} {n m ca cb : Nat} {L : List Acct} {v : Value} (h : AcRel w a b n m ca cb L v wx) : wx.cell? ⟨w.heap.size, 0, none⟩ = some (.slice a n ca) ∧ wx.cell? ⟨w.heap.size, 1, none⟩ = some (.slice b m cb) := by
  have h1 := h.gr.heap (heap_new (w := w) (o := sdO a b n m ca cb) rfl)
  exact ⟨by rw [cell_of_row _ _ _ _ _ _ h1]; rfl, by rw [cell_of_row _ _ _ _ _ _ h1]; rfl⟩
theorem AcRel.grw {w wx : World} {a b : Option Addr} {n m ca cb : Nat} {L : List Acct} {v : Value} (h : AcRel w a b n m ca cb L v wx) : Gr w wx := ((Gr.refl w).alloc _).trans h.gr
theorem AcRel.start {w wx : World} {a b : Option Addr} {n m ca cb : Nat} (g : Gr (w.alloc (sdO a b n m ca cb)) wx) : AcRel w a b n m ca cb [] (.slice none 0 0) wx :=
  ⟨(OwnV.nil _ _ _), g⟩
theorem AcRel.turn {w wx wy : World} {a b : Option Addr} {n m ca cb : Nat} {L : List Acct} {v : Value} (h : AcRel w a b n m ca cb L v wx) (g : Gr wx wy) : AcRel w a b n m ca cb L v wy :=
  ⟨(h.own.gr g).widen (Nat.le_refl _) g.size, h.gr.trans g⟩
theorem news_ac {w : World} {x : Value} {T : TypeId} {fr : Nat × Nat} {b : Nat} (h : w.heap[b]? = some (.cells #[x] T fr)) : ∀ j u, [x][j]? = some u → w.cell? ((⟨b, 0, none⟩ : Addr).add j) = some u := by
  intro j u hu
  rw [Addr.add_mid, Nat.zero_add, cell_of_row w b j _ T fr h]
  simpa using hu
theorem rangeAt_vals {w : World} {b : Nat} {vs : List Value} {t : TypeId} {fr : Nat × Nat} (h : w.heap[b]? = some (.cells vs.toArray t fr)) : w.rangeAt b 0 vs := by
  intro j v hv
  rw [Nat.zero_add, cell_of_row w b j _ t fr h]
  simpa using hv
theorem AcRel.snoc {w wx wy : World} {a b : Option Addr} {n m ca cb : Nat} {L : List Acct} {v v2 : Value} {x : Acct} {lo : Nat} (h : AcRel w a b n m ca cb L v wx) (hlo : w.heap.size + 1 ≤ lo)
    (ho : wy.ownsRow lo 128 1 v2 (L.length + 1) (acVals L ++ [x.val])) (hg : (wx.alloc (.cells #[x.val] 128)).grownBy wy v.ownBlock) : AcRel w a b n m ca cb (L ++ [x]) v2 wy := by
  refine ⟨?_, (h.gr.alloc _).by_ hg (fun k e => by rw [World.size_alloc]; exact (h.own.row.lt k e).1)⟩
  rw [show acVals (L ++ [x]) = acVals L ++ [x.val] by simp [acVals], show (L ++ [x]).length = L.length + 1 by simp]
  exact (OwnV.ofRow ho).widen hlo (Nat.le_refl _)
theorem accs_of {es fs : List En} {n m : Nat} (hn : n = es.length) (hm : m = fs.length) (i k : Nat) : accs es fs i k = (if i < n ∧ k < m then bothA (enAt es i) (enAt fs k) i k else []) ++ ((if i < n then [.drop i] else []) ++ (if k < m then [.extra k] else [])) := by
  subst hn; subst hm; rfl
set_option maxRecDepth 100000 in
set_option maxHeartbeats 2000000 in
theorem accounts_both (a b : Option Addr) (n m ca cb : Nat) (es fs : List En) (i k : Nat) (hi : i < n) (hk : k < m) (w : World) (h2 : Logs2 w a b n m es fs) :
    Calls Tryd.prog 108 #[.agg (sidesC a b n m ca cb), .int .i64 i, .int .i64 k] w (fun e w' => ∃ v, e = .returned v ∧ OwnV 128 1 w' w.heap.size w'.heap.size v (accs es fs i k).length (acVals (accs es fs i k)) ∧ Gr w w') := by
  obtain ⟨i0, hi0, hz0, hz1, hz2⟩ := info_parts infoAc
  have HR := hid (show accs es fs i k = bothA (enAt es i) (enAt fs k) i k ++ [.drop i, .extra k] by rw [accs_of h2.n_ h2.m_]; simp [hi, hk])
  have HBA := hid (show bothA (enAt es i) (enAt fs k) i k = if agE (enAt es i) (enAt fs k) = true then [.right i k] else if (enAt es i).d = (enAt fs k).d then [.mis i k] else [] from rfl)
  have HBL := hid (show (bothA (enAt es i) (enAt fs k) i k).length ≤ 1 by rw [bothA_eq]; split; simp; split <;> simp)
  obtain ⟨b0, o0, rfl, p0, p1, p2⟩ := en_at h2.fst (i := i) (by rw [← h2.n_]; exact hi)
  obtain ⟨b1, o1, rfl, q0, q1, q2⟩ := en_at h2.snd (i := k) (by rw [← h2.m_]; exact hk)
  have HAG := hid (fun V => agrees_any (enAt es i) (enAt fs k) V)
  generalize enAt es i = x at *
  generalize enAt fs k = y at *
  have hn0 := h2.n60
  have hm0 := h2.m60
  have hb0 : (0 : Int) ≤ i := by omega
  have hb1 : (i : Int) < n := by omega
  have hc0 : (0 : Int) ≤ k := by omega
  have hc1 : (k : Int) < m := by omega
  have HRG0 := hid (range3 ⟨p0, p1, p2⟩)
  have HRG1 := hid (range3 ⟨q0, q1, q2⟩)
  have HP := hid p2
  have HQ := hid q2
  unfold enV at HAG
  generalize agE x y = ag at *
  obtain ⟨x0, x1, x2⟩ := x
  obtain ⟨y0, y1, y2⟩ := y
  simp only at HRG0 HRG1 HAG HBA HP HQ
  clear p0 p1 p2 q0 q1 q2
  unfold sidesC
  clear h2
  obtain ⟨W1, hW1⟩ : ∃ W1, W1 = ((w.alloc (.cells #[.slice (some ⟨b0, o0, none⟩) n ca, .slice (some ⟨b1, o1, none⟩) m cb] 115)).alloc (.cells #[.int .i64 i, .int .i64 k] 112)).drew := ⟨_, rfl⟩
  have G1 := hid (show Gr (w.alloc (sdO (some ⟨b0, o0, none⟩) (some ⟨b1, o1, none⟩) n m ca cb)) W1 by rw [hW1]; exact ((Gr.refl _).alloc _).drew)
  have B8 := hid (show W1.heap[w.heap.size + 1]? = some (.cells #[.int .i64 i, .int .i64 k] 112 (0, 0)) by rw [hW1]; exact heap_drawn (heap_new (by simp)))
  have GW := hid (show Gr w W1 by rw [hW1]; exact (((Gr.refl w).alloc _).alloc _).drew)
  have HW1 := hid hW1
  clear hW1
  go_enter Tryd.func108, Tryd.ntmps108
  go_upto_if 20 with (fail)
  go_cut [7] (fun v wx => Hid (AcRel w (some ⟨b0, o0, none⟩) (some ⟨b1, o1, none⟩) n m ca cb (bothA ⟨x0, x1, x2⟩ ⟨y0, y1, y2⟩ i k) v wx))
  case first =>
    go_wp2_with fail
    refine wp_region_still_tail 10 (by kernel_rfl) (by kernel_rfl) ?_
    simp only [List.take_succ_cons, List.take_zero, List.drop_succ_cons, List.drop_zero]
    change wpStill _ _ (((w.alloc (.cells #[.slice (some ⟨b0, o0, none⟩) n ca, .slice (some ⟨b1, o1, none⟩) m cb] 115)).alloc (.cells #[.int .i64 i, .int .i64 k] 112)).drew) _ _ _
    rw [← HW1.out]
    obtain ⟨c0, c1⟩ := (AcRel.start G1.out).box
    have RG0 : Hid (W1.rangeAt b0 (o0 + i * 3) [.int .i64 x0, .int .i64 x1, .bool x2]) := hid (fun j v hv => GW.out.cell (HRG0.out j v hv))
    have RG1 : Hid (W1.rangeAt b1 (o1 + k * 3) [.int .i64 y0, .int .i64 y1, .bool y2]) := hid (fun j v hv => GW.out.cell (HRG1.out j v hv))
    repeat still_step
    refine wpStill_load_mid rfl 70 (.tmp 27) rfl b0 (o0 + i * 3) rfl _ _ RG0.out Tryd.underlying70 rfl sizeEn ?_
    simp only [Act.put, List.setIfInBounds_toArray, List.set_cons_zero, List.set_cons_succ]
    repeat still_step
    refine wpStill_load_mid rfl 70 (.tmp 32) rfl b1 (o1 + k * 3) rfl _ _ RG1.out Tryd.underlying70 rfl sizeEn ?_
    simp only [Act.put, List.setIfInBounds_toArray, List.set_cons_zero, List.set_cons_succ]
    refine wpStill_nil ?_
    go_wp2_with fail
    refine (HAG.out _).mono ?_
    rintro e w2 ⟨rfl, g2⟩
    replace g2 : Gr W1 w2 := by rw [HW1.out]; exact g2
    have A2 := hid ((AcRel.start G1.out).turn g2)
    have GW2 := hid (GW.out.trans g2)
    have B2 := hid (g2.heap B8.out)
    have HB8 := hid (show w2.rangeAt (w.heap.size + 1) 0 [.int .i64 i, .int .i64 k] from rangeAt_vals B2.out)
    clear g2 c0 c1 RG0 RG1
    obtain ⟨c0, c1⟩ := A2.out.box
    have O2 := hid (show w2.ownsRow (w.heap.size + 1) 128 1 (.slice none 0 0) 0 [] from A2.out.own.row)
    have SZ := hid (show w.heap.size + 1 ≤ w2.heap.size from by have := A2.out.gr.size; simpa using this)
    cases ag
    · have d0 : w2.cell? ⟨b0, o0 + i * 3 + 2, none⟩ = some (.bool x2) := GW2.out.cell HP.out
      have d1 : w2.cell? ⟨b1, o1 + k * 3 + 2, none⟩ = some (.bool y2) := GW2.out.cell HQ.out
      cases hxy : (x2 == y2)
      · have HBA1 := hid (show bothA ⟨x0, x1, x2⟩ ⟨y0, y1, y2⟩ i k = [] by rw [HBA.out, if_neg (by simp), if_neg (by simpa using hxy)])
        clear HBA
        go_wp2_with fail
        go_quiet (fail)
        go_wp2_with fail
        go_meet
        case rel => rw [HBA1.out]; exact hid (A2.out.turn (by first | exact (Gr.refl _).drewN _ | exact (Gr.refl _).drew))
      · have HBA1 := hid (show bothA ⟨x0, x1, x2⟩ ⟨y0, y1, y2⟩ i k = [.mis i k] by rw [HBA.out, if_neg (by simp), if_pos (by simpa using hxy)])
        clear HBA
        go_wp2_with fail
        go_quiet (fail)
        generalize hw3 : w2.drewN _ = w3 at *
        have A3 := hid (show AcRel w (some ⟨b0, o0, none⟩) (some ⟨b1, o1, none⟩) n m ca cb [] (.slice none 0 0) w3 from A2.out.turn (by rw [← hw3]; exact (Gr.refl _).drewN _))
        have HB9 := hid (show w3.rangeAt (w.heap.size + 1) 0 [.int .i64 i, .int .i64 k] from by rw [← hw3]; exact HB8.out)
        clear hw3 d0 d1 c0 c1
        obtain ⟨c0, c1⟩ := A3.out.box
        have O3 := hid (show w3.ownsRow (w.heap.size + 1) 128 1 (.slice none 0 0) 0 [] from A3.out.own.row)
        have SZ3 := hid (show w.heap.size + 1 ≤ w3.heap.size from by have := A3.out.gr.size; simpa using this)
        go_wp2_with (first
          | (refine wpList_load_mid rfl 112 _ rfl (w.heap.size + 1) 0 rfl _ _ HB9.out Tryd.underlying112 rfl (by kernel_rfl) ?_)
          | (at_builtin; refine wpList_append_own _ rfl _ _ 125 rfl (w.heap.size + 1) 128 i0 .nilIface 1 16 Tryd.underlying125 hi0 hz0 hz1 hz2 rfl (by decide) _ _ _ rfl (O3.out.alloc _) ⟨w3.heap.size, 0, none⟩ 1 1 [.iface 144 (.agg #[.int .i64 i, .int .i64 k])] rfl rfl (news_ac (heap_new rfl)) (by simp [Value.oneCell']) (by unfold maxLen; omega) (by omega) (by have := SZ3.out; simp <;> omega) ?_; intro v5 w5 hown_w5 hgrow_w5 _))
        have A_w5 := hid (A3.out.snoc (x := .mis i k) (Nat.le_refl _) hown_w5 hgrow_w5)
        go_meet
        case rel => rw [HBA1.out]; exact A_w5
    · have HBA1 := hid (show bothA ⟨x0, x1, x2⟩ ⟨y0, y1, y2⟩ i k = [.right i k] from HBA.out)
      clear HBA
      go_wp2_with (first
        | (refine wpList_load_mid rfl 112 _ rfl (w.heap.size + 1) 0 rfl _ _ HB8.out Tryd.underlying112 rfl (by kernel_rfl) ?_)
        | (at_builtin; refine wpList_append_own _ rfl _ _ 125 rfl (w.heap.size + 1) 128 i0 .nilIface 1 16 Tryd.underlying125 hi0 hz0 hz1 hz2 rfl (by decide) _ _ _ rfl (O2.out.alloc _) ⟨w2.heap.size, 0, none⟩ 1 1 [.iface 190 (.agg #[.int .i64 i, .int .i64 k])] rfl rfl (news_ac (heap_new rfl)) (by simp [Value.oneCell']) (by unfold maxLen; omega) (by omega) (by have := SZ.out; simp <;> omega) ?_; intro v5 w5 hown_w5 hgrow_w5 _))
      have A_w5 := hid (A2.out.snoc (x := .right i k) (Nat.le_refl _) hown_w5 hgrow_w5)
      go_meet
      case rel => rw [HBA1.out]; exact A_w5
  case rest =>
    have A1 := hcut
    clear hcut HBA HAG G1 B8 GW HW1
    generalize bothA ⟨x0, x1, x2⟩ ⟨y0, y1, y2⟩ i k = L at *
    obtain ⟨av, cv, rfl⟩ := A1.out.own.shape
    obtain ⟨c0, c1⟩ := A1.out.box
    have hll := HBL.out
    have O1 := hid A1.out.own.row
    have SZ1 := hid (show w.heap.size + 1 ≤ wc.heap.size from by have := A1.out.gr.size; simpa using this)
    go_upto_region 10 with (at_builtin; refine wpList_append_own _ rfl _ _ 125 rfl (w.heap.size + 1) 128 i0 .nilIface 1 16 Tryd.underlying125 hi0 hz0 hz1 hz2 rfl (by decide) _ _ _ rfl (O1.out.alloc _) ⟨wc.heap.size, 0, none⟩ 1 1 [.iface 142 (.int .i64 i)] rfl rfl (news_ac (heap_new rfl)) (by simp [Value.oneCell']) (by unfold maxLen; omega) (by omega) (by have := SZ1.out; simp <;> omega) ?_; intro v5 w5 hown_w5 hgrow_w5 _)
    have A_w5 := hid (A1.out.snoc (x := .drop i) (Nat.le_refl _) hown_w5 hgrow_w5)
    clear hown_w5 hgrow_w5 c0 c1
    obtain ⟨c0, c1⟩ := A_w5.out.box
    obtain ⟨av5, cv5, rfl⟩ := A_w5.out.own.shape
    have O5 := hid A_w5.out.own.row
    have SZ5 := hid (show w.heap.size + 1 ≤ w5.heap.size from by have := A_w5.out.gr.size; simpa using this)
    have hl5 : (L ++ [Acct.drop i]).length ≤ 2 := by simp; omega
    have HL5 := hid (show L ++ [.drop i, .extra k] = L ++ [.drop i] ++ [.extra k] by simp)
    generalize L ++ [Acct.drop i] = L5 at *
    go_wp2_with (at_builtin; refine wpList_append_own _ rfl _ _ 125 rfl (w.heap.size + 1) 128 i0 .nilIface 1 16 Tryd.underlying125 hi0 hz0 hz1 hz2 rfl (by decide) _ _ _ rfl (O5.out.alloc _) ⟨w5.heap.size, 0, none⟩ 1 1 [.iface 191 (.int .i64 k)] rfl rfl (news_ac (heap_new rfl)) (by simp [Value.oneCell']) (by unfold maxLen; omega) (by omega) (by have := SZ5.out; simp <;> omega) ?_; intro v6 w6 hown_w6 hgrow_w6 _)
    have A_w6 := hid (A_w5.out.snoc (x := .extra k) (Nat.le_refl _) hown_w6 hgrow_w6)
    go_ret
    exact ⟨_, rfl, by rw [HR.out, HL5.out]; exact A_w6.out.own.widen (Nat.le_succ _) (Nat.le_refl _), A_w6.out.grw⟩
set_option maxRecDepth 100000 in
set_option maxHeartbeats 2000000 in
theorem accounts_i (a b : Option Addr) (n m ca cb : Nat) (es fs : List En) (i k : Nat) (hi : i < n) (hk : ¬ k < m) (hk2 : k ≤ 1048576) (w : World) (h2 : Logs2 w a b n m es fs) :
    Calls Tryd.prog 108 #[.agg (sidesC a b n m ca cb), .int .i64 i, .int .i64 k] w (fun e w' => ∃ v, e = .returned v ∧ OwnV 128 1 w' w.heap.size w'.heap.size v (accs es fs i k).length (acVals (accs es fs i k)) ∧ Gr w w') := by
  obtain ⟨i0, hi0, hz0, hz1, hz2⟩ := info_parts infoAc
  have HR := hid (show accs es fs i k = [Acct.drop i] by rw [accs_of h2.n_ h2.m_]; simp [hi, hk])
  have hn0 := h2.n60
  have hm0 := h2.m60
  unfold sidesC
  clear h2
  have A0 := hid (AcRel.start (w := w) (ca := ca) (cb := cb) (Gr.refl (w.alloc (sdO a b n m ca cb))))
  have O0 := hid (show (w.alloc (.cells #[.slice a n ca, .slice b m cb] 115)).ownsRow (w.heap.size + 1) 128 1 (.slice none 0 0) 0 [] from A0.out.own.row)
  have SZ := hid (show w.heap.size + 1 ≤ (w.alloc (.cells #[.slice a n ca, .slice b m cb] 115)).heap.size from by simp)
  go_enter Tryd.func108, Tryd.ntmps108
  go_upto_region 10 with (at_builtin; refine wpList_append_own _ rfl _ _ 125 rfl (w.heap.size + 1) 128 i0 .nilIface 1 16 Tryd.underlying125 hi0 hz0 hz1 hz2 rfl (by decide) _ _ _ rfl (O0.out.alloc _) ⟨w.heap.size + 1, 0, none⟩ 1 1 [.iface 142 (.int .i64 i)] rfl rfl (news_ac (heap_new (by simp))) (by simp [Value.oneCell']) (by unfold maxLen; omega) (by omega) (by have := SZ.out; simp <;> omega) ?_; intro v5 w5 hown_w5 hgrow_w5 _)
  have A_w5 := hid (A0.out.snoc (x := .drop i) (Nat.le_refl _) hown_w5 hgrow_w5)
  clear hown_w5 hgrow_w5
  obtain ⟨c0, c1⟩ := A_w5.out.box
  obtain ⟨av5, cv5, rfl⟩ := A_w5.out.own.shape
  go_wp2_with fail
  go_ret
  exact ⟨_, rfl, by rw [HR.out]; exact A_w5.out.own.widen (Nat.le_succ _) (Nat.le_refl _), A_w5.out.grw⟩
set_option maxRecDepth 100000 in
set_option maxHeartbeats 2000000 in
theorem accounts_k (a b : Option Addr) (n m ca cb : Nat) (es fs : List En) (i k : Nat) (hi : ¬ i < n) (hk : k < m) (hi2 : i ≤ 1048576) (w : World) (h2 : Logs2 w a b n m es fs) :
    Calls Tryd.prog 108 #[.agg (sidesC a b n m ca cb), .int .i64 i, .int .i64 k] w (fun e w' => ∃ v, e = .returned v ∧ OwnV 128 1 w' w.heap.size w'.heap.size v (accs es fs i k).length (acVals (accs es fs i k)) ∧ Gr w w') := by
  obtain ⟨i0, hi0, hz0, hz1, hz2⟩ := info_parts infoAc
  have HR := hid (show accs es fs i k = [Acct.extra k] by rw [accs_of h2.n_ h2.m_]; simp [hi, hk])
  have hn0 := h2.n60
  have hm0 := h2.m60
  unfold sidesC
  clear h2
  have A0 := hid (AcRel.start (w := w) (ca := ca) (cb := cb) (Gr.refl (w.alloc (sdO a b n m ca cb))))
  have O0 := hid (show (w.alloc (.cells #[.slice a n ca, .slice b m cb] 115)).ownsRow (w.heap.size + 1) 128 1 (.slice none 0 0) 0 [] from A0.out.own.row)
  have SZ := hid (show w.heap.size + 1 ≤ (w.alloc (.cells #[.slice a n ca, .slice b m cb] 115)).heap.size from by simp)
  go_enter Tryd.func108, Tryd.ntmps108
  go_wp2_with (at_builtin; refine wpList_append_own _ rfl _ _ 125 rfl (w.heap.size + 1) 128 i0 .nilIface 1 16 Tryd.underlying125 hi0 hz0 hz1 hz2 rfl (by decide) _ _ _ rfl (O0.out.alloc _) ⟨w.heap.size + 1, 0, none⟩ 1 1 [.iface 191 (.int .i64 k)] rfl rfl (news_ac (heap_new (by simp))) (by simp [Value.oneCell']) (by unfold maxLen; omega) (by omega) (by have := SZ.out; simp <;> omega) ?_; intro v5 w5 hown_w5 hgrow_w5 _)
  have A_w5 := hid (A0.out.snoc (x := .extra k) (Nat.le_refl _) hown_w5 hgrow_w5)
  clear hown_w5 hgrow_w5
  go_ret
  exact ⟨_, rfl, by rw [HR.out]; exact A_w5.out.own.widen (Nat.le_succ _) (Nat.le_refl _), A_w5.out.grw⟩
set_option maxRecDepth 100000 in
set_option maxHeartbeats 2000000 in
theorem accounts_no (a b : Option Addr) (n m ca cb : Nat) (es fs : List En) (i k : Nat) (hi : ¬ i < n) (hk : ¬ k < m) (hi2 : i ≤ 1048576) (hk2 : k ≤ 1048576) (w : World) (h2 : Logs2 w a b n m es fs) :
    Calls Tryd.prog 108 #[.agg (sidesC a b n m ca cb), .int .i64 i, .int .i64 k] w (fun e w' => ∃ v, e = .returned v ∧ OwnV 128 1 w' w.heap.size w'.heap.size v (accs es fs i k).length (acVals (accs es fs i k)) ∧ Gr w w') := by
  have HR := hid (show accs es fs i k = [] by rw [accs_of h2.n_ h2.m_]; simp [hi, hk])
  have hn0 := h2.n60
  have hm0 := h2.m60
  unfold sidesC
  clear h2
  have A0 := hid (AcRel.start (w := w) (ca := ca) (cb := cb) (Gr.refl (w.alloc (sdO a b n m ca cb))))
  have O0 := hid (show (w.alloc (.cells #[.slice a n ca, .slice b m cb] 115)).ownsRow (w.heap.size + 1) 128 1 (.slice none 0 0) 0 [] from A0.out.own.row)
  have SZ := hid (show w.heap.size + 1 ≤ (w.alloc (.cells #[.slice a n ca, .slice b m cb] 115)).heap.size from by simp)
  go_enter Tryd.func108, Tryd.ntmps108
  go_wp2_with fail
  go_ret
  exact ⟨_, rfl, by rw [HR.out]; exact A0.out.own.widen (Nat.le_succ _) (Nat.le_refl _), A0.out.grw⟩
theorem accounts_any (a b : Option Addr) (n m ca cb : Nat) (es fs : List En) (i k : Nat) (hi2 : i ≤ 1048576) (hk2 : k ≤ 1048576) (w : World) (h2 : Logs2 w a b n m es fs) :
    Calls Tryd.prog 108 #[.agg (sidesC a b n m ca cb), .int .i64 i, .int .i64 k] w (fun e w' => ∃ v, e = .returned v ∧ OwnV 128 1 w' w.heap.size w'.heap.size v (accs es fs i k).length (acVals (accs es fs i k)) ∧ Gr w w') := by
  by_cases hi : i < n
  · by_cases hk : k < m
    · exact accounts_both a b n m ca cb es fs i k hi hk w h2
    · exact accounts_i a b n m ca cb es fs i k hi hk hk2 w h2
  · by_cases hk : k < m
    · exact accounts_k a b n m ca cb es fs i k hi hk hi2 w h2
    · exact accounts_no a b n m ca cb es fs i k hi hk hi2 hk2 w h2
end Go.Proofs.YtlgfibiggiknjaaDoor
