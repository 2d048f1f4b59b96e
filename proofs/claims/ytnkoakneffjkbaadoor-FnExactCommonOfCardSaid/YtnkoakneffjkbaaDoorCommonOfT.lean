/- CommonOf: what is told. -/
import Derived.Test.YtnkoakneffjkbaaDoorCommonI
import Derived.Test.YtnkoakneffjkbaaDoorUpAt
import Derived.Test.YtnkoakneffjkbaaDoorReplySteps
import Derived.Test.YtnkoakneffjkbaaDoorCode2
import Derived.Test.YtnkoakneffjkbaaDoorStepX
namespace Go.Proofs.YtnkoakneffjkbaaDoor
set_option linter.unusedVariables false
open Go.RowKit
theorem news_sq {w : World} {x y : Int} {T : TypeId} {fr : Nat × Nat} {b : Nat} (h : w.heap[b]? = some (.cells #[.int .i64 x, .int .i64 y] T fr)) : ∀ j u, [Value.int .i64 x, .int .i64 y][j]? = some u → w.cell? ((⟨b, 0, none⟩ : Addr).add j) = some u := by
  intro j u hu
  rw [Addr.add_mid, Nat.zero_add, cell_of_row w b j _ T fr h]
  simpa using hu
theorem com_yesI {es fs : List En} {i f : Nat} (h : firstFrom (takeB es fs i (comTo es fs i).2) fs.length (comTo es fs i).2 = f) (hf : f < fs.length) : comTo es fs (i + 1) = ((comTo es fs i).1 ++ [((i : Int), (f : Int))], f + 1) := by rw [comTo, h, if_pos hf]
theorem com_noI {es fs : List En} {i : Nat} (h : firstFrom (takeB es fs i (comTo es fs i).2) fs.length (comTo es fs i).2 = fs.length) : comTo es fs (i + 1) = comTo es fs i := by rw [comTo, h, if_neg (Nat.lt_irrefl _)]
set_option maxRecDepth 100000 in
set_option maxHeartbeats 1000000 in
theorem CommonOfTell_pan (a b : Option Addr) (n m ca cb : Nat) (es fs : List En) (hf : EnFits es) (hg : EnFits fs) (hv : valid2 es fs = false) (lp tp : Addr) (w : World) (hlp : w.cell? lp = some (.slice a n ca)) (htp : w.cell? tp = some (.slice b m cb)) (h2 : Logs2 w a b n m es fs) :
    Calls Tryd.prog 35 #[.pointer (some lp), .pointer (some tp)] w fun e w' => e = .panicked [{ v := .iface 144 (.int .i64 (bad2 es fs)), recovered := false }] ∧ Gr w w' := by
  have HS := hid (sidesOf_any a b n m ca cb es fs hf hg w h2)
  rw [hv] at HS
  clear h2 hf hg hv
  go_enter Tryd.func35, Tryd.ntmps35
  go_wp2_with fail
  refine HS.out.mono ?_
  rintro e w1 (⟨h, -⟩ | ⟨-, rfl, g1⟩)
  · cases h
  · have G1 := hid g1
    clear g1
    go_wp2_with fail
    exact ⟨rfl, rfl, G1.out⟩
/-- Where a log lies from there on. -/
def subA (b : Option Addr) (cb j : Nat) : Option Addr := if cb = j then b else b.map (·.add (j * 3))
theorem slice_log (b : Option Addr) (m cb j : Nat) (hj : j ≤ m) (V : World) : (Instr.slice 28 (.slice b m cb) (some (.int .i64 (j : Int))) none none).run Tryd.prog V = .ok (.slice (subA b cb j) (m - j) (cb - j)) V := by
  have h := run_slice_l (P := Tryd.prog) (w := V) 28 b m cb (by kernel_rfl) .i64 (j : Int) (by omega) (by omega)
  rw [h]
  have hs : ∀ W : World, (sizeOf (Tryd.prog.elem 28)).run Tryd.prog W = .ok 3 W := fun W => by kernel_rfl
  rw [hs]
  simp [sliced, subA, Result.andThen]
set_option maxRecDepth 100000 in
set_option maxHeartbeats 4000000 in
theorem CommonOfTell_ok (a b : Option Addr) (n m ca cb : Nat) (es fs : List En) (hf : EnFits es) (hg : EnFits fs) (hv : valid2 es fs = true) (hcb : m ≤ cb) (lp tp : Addr) (w : World) (hlp : w.cell? lp = some (.slice a n ca)) (htp : w.cell? tp = some (.slice b m cb)) (h2 : Logs2 w a b n m es fs) :
    Calls Tryd.prog 35 #[.pointer (some lp), .pointer (some tp)] w (RetV 60 2 (fun u => .tuple #[u, .nilIface]) (commonV es fs).length (flCells (commonV es fs)) w) := by
  obtain ⟨i0, hi0, hz0, hz1, hz2⟩ := info_parts infoStep
  have HS := hid (sidesOf_any a b n m ca cb es fs hf hg w h2)
  rw [hv] at HS
  have h60 := valid2_60 hv
  have hn6 : n ≤ 60 := by rw [h2.n_]; exact h60.1
  have hm6 : m ≤ 60 := by rw [h2.m_]; exact h60.2
  have HN := hid h2.n_
  have HM := hid h2.m_
  have HO := hid (fun V (g : Gr w V) => longestCommon_any a b n m ca cb es fs hn6 hm6 V (h2.gr g))
  have H2 := hid h2
  have HTPV := hid (fun V (g : Gr w V) => g.cell htp)
  have HLPV := hid (fun V (g : Gr w V) => g.cell hlp)
  have HSND := hid (comTo_snd es fs)
  have HLEN := hid (comTo_length es fs)
  have HBD := hid (fun i k => lcT_bd es fs i k h60.1 h60.2)
  have HYES := hid (fun i f => com_yesI (es := es) (fs := fs) (i := i) (f := f))
  have HNO := hid (fun i => com_noI (es := es) (fs := fs) (i := i))
  have HCF := hid (fun i (hi : i < n) => com_first es fs (i := i) (j := (comTo es fs i).2) (by rw [← h2.n_]; exact hi) (comTo_snd es fs i))
  have HCB := hid hcb
  rw [show commonV es fs = (comTo es fs es.length).1 by unfold commonV; rw [hv]; rfl]
  clear h2 hf hg hv h60 hcb
  unfold sidesC at HS HO
  go_enter Tryd.func35, Tryd.ntmps35
  go_wp2_with fail
  refine HS.out.mono ?_
  rintro e w1 (⟨-, rfl, g1⟩ | ⟨h, -⟩)
  · have G1 := hid g1
    have N1 : Hid ((w1.alloc (.cells #[.slice none 0 0, .slice none 0 0] 67)).heap[w1.heap.size]? = some (.cells #[.slice none 0 0, .slice none 0 0] 67 (0, 0))) := hid (heap_new rfl)
    clear g1 hlp htp
    go_wp2_with (first | (refine wpList_load_mid rfl 67 (.tmp 4) rfl w1.heap.size 0 rfl _ _ RB.out Tryd.underlying67 rfl (by kernel_rfl) ?_) | (refine wpList_store_cells rfl 67 _ _ rfl w1.heap.size (#[.slice a n ca, .slice b m cb]) (#[.slice none 0 0, .slice none 0 0]) rfl rfl _ 2 N1.out (by kernel_rfl) rfl rfl (by simp [Value.oneCell']) ?_; generalize hW : World.setRow _ _ _ = W5; have RB := hid (rangeAt_vals (vs := [.slice a n ca, .slice b m cb]) (w := W5) (b := w1.heap.size) (t := 67) (fr := (0, 0)) (by rw [← hW]; exact heap_row_set N1.out)); have G5 := hid (show Gr w W5 by rw [← hW]; exact (G1.out.alloc _).setRow G1.out.size _); clear hW))
    refine (HO.out _ G5.out).mono ?_
    rintro e w6 ⟨tb, rb, rfl, t6, g6⟩
    have T6 := hid t6
    have G6 := hid (G5.out.trans g6)
    have c6 := HLPV.out w6 G6.out
    clear t6 g6 HO RB N1
    go_wp2_with fail
    clear c6
    go_loopw [6, 7, 8, 9, 10, 18] (fun v jv _ _ _ iv wr => ∃ q : Nat, q ≤ n ∧ iv = .int .i64 q ∧ jv = .int .i64 ((comTo es fs q).2 : Nat) ∧ Hid (OwnV 60 2 wr w6.heap.size wr.heap.size v (comTo es fs q).1.length (flCells (comTo es fs q).1)) ∧ Hid (Gr w6 wr)) (fun _ _ _ _ _ iv _ => n - (intOf iv).toNat)
    case atStart => exact ⟨0, Nat.zero_le _, rfl, rfl, hid (OwnV.nil _ _ _), hid (Gr.refl _)⟩
    case round =>
      obtain ⟨q, hq, rfl, rfl, ho, hgr⟩ := hrel
      obtain ⟨sa, scap, rfl⟩ := ho.out.shape
      by_cases hlt : q < n
      · have hj := HSND.out q
        have hfl := HLEN.out q
        have HY := hid (HYES.out q)
        have HNN := hid (HNO.out q)
        have HC := hid (HCF.out q hlt)
        rw [← HM.out] at hj HY HNN HC
        obtain ⟨ba, oa, rfl, p0, p1, p2⟩ := en_at H2.out.fst (i := q) (by have := HN.out; omega)
        have hgw := hid (G6.out.trans hgr.out)
        have HR0 := hid (range3 (w := wr) ⟨hgw.out.cell p0, hgw.out.cell p1, hgw.out.cell p2⟩)
        have HSL := hid (fun V => slice_log b m cb (comTo es fs q).2 hj V)
        have HIX := hid (fun V (g : Gr w V) => indexEn_any (enAt es q) fs m (comTo es fs q).2 (cb - (comTo es fs q).2) (m - (comTo es fs q).2) HM.out (by omega) (by omega) (subA b cb (comTo es fs q).2) V (fun t ht => by
          obtain ⟨b1, o1, eb, q0, q1, q2⟩ := en_at H2.out.snd (i := (comTo es fs q).2 + t) (by have := HM.out; omega)
          refine ⟨b1, o1 + (comTo es fs q).2 * 3, ?_, fun U gU => ?_⟩
          · unfold subA; rw [if_neg (by have := HCB.out; omega), eb]; simp [Addr.add]
          · have e : o1 + (comTo es fs q).2 * 3 + t * 3 = o1 + ((comTo es fs q).2 + t) * 3 := by omega
            rw [e]
            exact range3 ⟨(g.trans gU).cell q0, (g.trans gU).cell q1, (g.trans gU).cell q2⟩))
        have TW := hid (T6.out.gr hgr.out)
        have HROW := hid (fun V (g : Gr wr V) => And.intro ((TW.out.gr g).row (r := q + 1) (Nat.zero_le _) (by omega)) ((TW.out.gr g).row (r := q) (Nat.zero_le _) (by omega)))
        have HCEL := hid (fun V (g : Gr wr V) (f : Nat) (hf : f < m) => And.intro ((TW.out.gr g).cell (r := q + 1) (c := f + 1) (Nat.zero_le _) (by omega) (by omega) (by omega)) ((TW.out.gr g).cell (r := q) (c := (comTo es fs q).2) (Nat.zero_le _) (by omega) (by omega) (by omega)))
        have bdj := HBD.out q (comTo es fs q).2
        have HBQ := hid (fun f => HBD.out (q + 1) f)
        have HXV := hid (show idxV (fun k => agE (enAt es q) (enAt fs k)) m (comTo es fs q).2 = if firstFrom (fun k => agE (enAt es q) (enAt fs k)) m (comTo es fs q).2 < m then (firstFrom (fun k => agE (enAt es q) (enAt fs k)) m (comTo es fs q).2 : Int) - ((comTo es fs q).2 : Nat) else -1 from rfl)
        have hfx := firstFrom_spec (fun k => agE (enAt es q) (enAt fs k)) m _ (comTo es fs q).2 rfl
        have hfx2 : firstFrom (fun k => agE (enAt es q) (enAt fs k)) m (comTo es fs q).2 < m → (comTo es fs q).2 ≤ firstFrom (fun k => agE (enAt es q) (enAt fs k)) m (comTo es fs q).2 := fun h => (hfx.2.2 h).1
        generalize idxV (fun k => agE (enAt es q) (enAt fs k)) m (comTo es fs q).2 = ix at *
        clear hfx p0 p1 p2 HYES HNO HCF
        generalize firstFrom (fun k => agE (enAt es q) (enAt fs k)) m (comTo es fs q).2 = f at *
        generalize firstFrom (takeB es fs q (comTo es fs q).2) m (comTo es fs q).2 = ft at *
        generalize lcT es fs q (comTo es fs q).2 = lj at *
        generalize hF : (comTo es fs q).1 = F at *
        generalize hjj : (comTo es fs q).2 = j at *
        have HOF := hid ho.out
        generalize hflen : F.length = fl at *
        have HFL := hid hflen
        have HPF := hid hF
        have HPJ := hid hjj
        generalize enAt es q = x at *
        obtain ⟨xt, xs, xd⟩ := x
        unfold enV at HIX
        simp only at HR0 HIX
        have N7 : Hid ((wr.alloc (.cells #[.int .i64 0, .int .i64 0, .bool false] 58)).heap[wr.heap.size]? = some (.cells #[.int .i64 0, .int .i64 0, .bool false] 58 (0, 0))) := hid (heap_new rfl)
        generalize rb (q + 1) = g1 at *
        generalize rb q = g0 at *
        have hq0 : (0 : Int) ≤ q := by omega
        have hq1 : (q : Int) < n := by omega
        have hq3 : (q : Int) + 1 < (n + 1 : Nat) := by omega
        have hq4 : (q : Int) < (n + 1 : Nat) := by omega
        have hj0 : (0 : Int) ≤ j := by omega
        have hj3 : (j : Int) < (m + 1 : Nat) := by omega
        have e1 : IntKind.i64.wrap ((q : Int) + 1) = (q : Int) + 1 := IntWalk.i64_in _ (by omega)
        clear hF hjj hflen ho
        obtain ⟨nx, hnx⟩ : ∃ nx, nx = (j : Int) + ix := ⟨_, rfl⟩
        have hix : -1 ≤ ix ∧ ix ≤ 60 := by rw [HXV.out]; split <;> omega
        have e6 : IntKind.i64.wrap ((j : Int) + ix) = nx := by rw [IntWalk.i64_in _ (by omega)]; exact hnx.symm
        by_cases hfm : f < m
        · have hnf : nx = (f : Int) := by rw [hnx, HXV.out, if_pos hfm]; omega
          subst hnf
          have hjf := hfx2 hfm
          have x3b := HBQ.out (f + 1)
          have HCF2 := hid (fun V (g : Gr wr V) => HCEL.out V g f hfm)
          have HC3 := hid (show ft = if 1 + lcT es fs (q + 1) (f + 1) = lj then f else m by rw [HC.out]; simp only [hfm, true_and])
          generalize lcT es fs (q + 1) (f + 1) = x3 at *
          have e2 : IntKind.i64.wrap ((f : Int) + 1) = (f : Int) + 1 := IntWalk.i64_in _ (by omega)
          have e3 : IntKind.i64.wrap (1 + x3) = 1 + x3 := IntWalk.i64_in _ (by omega)
          have hf0 : (0 : Int) ≤ f := by omega
          have hf3 : (f : Int) + 1 < (m + 1 : Nat) := by omega
          have t1 : decide ((j : Int) ≤ (f : Int)) = true := by rw [decide_eq_true_iff]; omega
          have t2 : decide (j ≤ f) = true := decide_eq_true hjf
          clear hnx hfx2 HCEL HBQ HC HXV hix
          cases heq : (1 + x3 == lj) with
          | false =>
            have HCE := hid (HNN.out (by rw [HC3.out, if_neg (beq_eq_false_iff_ne.1 heq)]))
            go_wp2_with (first | (refine wpList_load_mid rfl 58 (.tmp 21) rfl ba (oa + q * 3) rfl _ _ HR0.out Tryd.underlying58 rfl sizeEn ?_) | (refine wpList_store_cells rfl 58 _ _ rfl wr.heap.size (#[.int .i64 xt, .int .i64 xs, .bool xd]) (#[.int .i64 0, .int .i64 0, .bool false]) rfl rfl _ 3 N7.out (by kernel_rfl) rfl rfl (by simp [Value.oneCell']) ?_; generalize hW : World.setRow _ _ _ = W7; have B7 := hid (show W7.heap[wr.heap.size]? = some (.cells #[.int .i64 xt, .int .i64 xs, .bool xd] 58 (0, 0)) by rw [← hW]; exact heap_row_set N7.out); have G7 := hid (show Gr wr W7 by rw [← hW]; exact ((Gr.refl wr).alloc _).setRow (Nat.le_refl _) _); have hgw7 := hid (hgw.out.trans G7.out); clear hW))
            refine wp_region_held_drew (S := (fun V => Gr W7 V)) (by kernel_rfl) (Gr.refl _).drew (fun hH => ?_)
            have HH := hid hH
            clear hH
            refine wpAnyH_take (i := 0) (v := .int .i64 (j : Int)) rfl (by kernel_rfl) (by kernel_rfl) (by kernel_rfl) (fun _ _ _ h => h) (Or.inl ⟨by rfl, fun _ _ => by first | rfl | (go_simp; done) | (go_simp; rfl) | (go_simp; intro h; exfalso; omega)⟩) HH.out ?_
            simp only [Act.put, List.getElem_toArray, List.getElem_cons_zero, List.setIfInBounds_toArray, List.set_cons_zero, List.set_cons_succ]
            refine wpAnyH_take (i := 1) (v := .slice b m cb) rfl (by kernel_rfl) (by kernel_rfl) (by kernel_rfl) (fun _ _ _ h => h) (Or.inl ⟨by rfl, fun V hV => by have hc := HTPV.out V (hgw7.out.trans hV); first | (go_simp; done) | (go_simp; rfl)⟩) HH.out ?_
            simp only [Act.put, List.getElem_toArray, List.getElem_cons_zero, List.getElem_cons_succ, List.setIfInBounds_toArray, List.set_cons_zero, List.set_cons_succ]
            refine wpAnyH_take (i := 2) (v := .int .i64 (j : Int)) rfl (by kernel_rfl) (by kernel_rfl) (by kernel_rfl) (fun _ _ _ h => h) (Or.inl ⟨by rfl, fun _ _ => by first | rfl | (go_simp; done) | (go_simp; rfl) | (go_simp; intro h; exfalso; omega)⟩) HH.out ?_
            simp only [Act.put, List.getElem_toArray, List.getElem_cons_zero, List.getElem_cons_succ, List.setIfInBounds_toArray, List.set_cons_zero, List.set_cons_succ]
            refine wpAnyH_take (i := 3) (v := .slice (subA b cb j) (m - j) (cb - j)) rfl (by kernel_rfl) (by kernel_rfl) (by kernel_rfl) (fun _ _ _ h => h) (Or.inl ⟨by rfl, fun V hV => by have hs := HSL.out V; first | exact hs | (go_simp; done) | (go_simp; rfl)⟩) HH.out ?_
            simp only [Act.put, List.getElem_toArray, List.getElem_cons_zero, List.getElem_cons_succ, List.setIfInBounds_toArray, List.set_cons_zero, List.set_cons_succ]
            refine wpAnyH_take (i := 4) (v := .agg #[.int .i64 xt, .int .i64 xs, .bool xd]) rfl (by kernel_rfl) (by kernel_rfl) (by kernel_rfl) (fun _ _ _ h => h) (yieldsIf_load_mid rfl 58 (.tmp 9) rfl wr.heap.size (0) rfl [.int .i64 xt, .int .i64 xs, .bool xd] _ (fun V hV => rangeAt_vals (vs := [.int .i64 xt, .int .i64 xs, .bool xd]) (hV.heap B7.out)) Tryd.underlying58 rfl sizeEn) HH.out ?_
            simp only [Act.put, List.getElem_toArray, List.getElem_cons_zero, List.getElem_cons_succ, List.setIfInBounds_toArray, List.set_cons_zero, List.set_cons_succ]
            refine wpAnyH_take (i := 5) (v := .func (.func 39) #[.agg #[.int .i64 xt, .int .i64 xs, .bool xd]] #[]) rfl (by kernel_rfl) (by kernel_rfl) (by kernel_rfl) (fun _ _ _ h => h) (Or.inl ⟨by rfl, fun _ _ => by first | rfl | (go_simp; done) | (go_simp; rfl) | (go_simp; intro h; exfalso; omega)⟩) HH.out ?_
            simp only [Act.put, List.getElem_toArray, List.getElem_cons_zero, List.getElem_cons_succ, List.setIfInBounds_toArray, List.set_cons_zero, List.set_cons_succ]
            refine wpAnyH_ready (rs := [6]) (by kernel_rfl) (by simp) (AllReadyH.cons rfl (fun KK hKK => ?_) AllReadyH.nil)
            rw [if_pos (by rfl)]
            go_simp
            refine (HIX.out _ (hgw7.out.trans HH.out)).mono ?_
            rintro e V ⟨rfl, gV⟩
            dsimp only
            refine hKK.out _ _ (HH.out.trans gV) (fun hH => ?_)
            clear HH hKK KK
            have HH := hid hH
            clear hH
            refine wpAnyH_take (i := 7) (v := .int .i64 (f : Int)) rfl (by kernel_rfl) (by kernel_rfl) (by kernel_rfl) (fun _ _ _ h => h) (Or.inl ⟨by rfl, fun _ _ => by first | rfl | (go_simp; done) | (go_simp; rfl) | (go_simp; intro h; exfalso; omega)⟩) HH.out ?_
            simp only [Act.put, List.getElem_toArray, List.getElem_cons_zero, List.getElem_cons_succ, List.setIfInBounds_toArray, List.set_cons_zero, List.set_cons_succ]
            refine wpAnyH_take (i := 8) (v := .int .i64 (f : Int)) rfl (by kernel_rfl) (by kernel_rfl) (by kernel_rfl) (fun _ _ _ h => h) (Or.inl ⟨by rfl, fun _ _ => by first | rfl | (go_simp; done) | (go_simp; rfl) | (go_simp; intro h; exfalso; omega)⟩) HH.out ?_
            simp only [Act.put, List.getElem_toArray, List.getElem_cons_zero, List.getElem_cons_succ, List.setIfInBounds_toArray, List.set_cons_zero, List.set_cons_succ]
            refine wpAnyH_done (by kernel_rfl) ?_ _
            have GV := hid (G7.out.trans HH.out)
            have G8 := hid (hgr.out.trans GV.out)
            have O8 := hid ((HOF.out.gr GV.out).widen (lo' := w6.heap.size) (Nat.le_refl _) GV.out.size)
            obtain ⟨r1, r0⟩ := HROW.out _ GV.out
            obtain ⟨d1, d0⟩ := HCF2.out _ GV.out
            go_wp2_with fail
            go_quiet (fail)
            go_wp2_with fail
            go_roundw
            case rel => exact ⟨q + 1, by omega, by go_num, by rw [HCE.out, HPJ.out], hid (by rw [HCE.out, HPF.out, HFL.out]; exact (O8.out.gr ((Gr.refl _).drewN _))), hid (G8.out.drewN _)⟩
            case measure => simp [intOf]; omega
          | true =>
            have HCE := hid (HY.out f (by rw [HC3.out, if_pos (beq_iff_eq.1 heq)]) hfm)
            go_wp2_with (first | (refine wpList_load_mid rfl 58 (.tmp 21) rfl ba (oa + q * 3) rfl _ _ HR0.out Tryd.underlying58 rfl sizeEn ?_) | (refine wpList_store_cells rfl 58 _ _ rfl wr.heap.size (#[.int .i64 xt, .int .i64 xs, .bool xd]) (#[.int .i64 0, .int .i64 0, .bool false]) rfl rfl _ 3 N7.out (by kernel_rfl) rfl rfl (by simp [Value.oneCell']) ?_; generalize hW : World.setRow _ _ _ = W7; have B7 := hid (show W7.heap[wr.heap.size]? = some (.cells #[.int .i64 xt, .int .i64 xs, .bool xd] 58 (0, 0)) by rw [← hW]; exact heap_row_set N7.out); have G7 := hid (show Gr wr W7 by rw [← hW]; exact ((Gr.refl wr).alloc _).setRow (Nat.le_refl _) _); have hgw7 := hid (hgw.out.trans G7.out); clear hW))
            refine wp_region_held_drew (S := (fun V => Gr W7 V)) (by kernel_rfl) (Gr.refl _).drew (fun hH => ?_)
            have HH := hid hH
            clear hH
            refine wpAnyH_take (i := 0) (v := .int .i64 (j : Int)) rfl (by kernel_rfl) (by kernel_rfl) (by kernel_rfl) (fun _ _ _ h => h) (Or.inl ⟨by rfl, fun _ _ => by first | rfl | (go_simp; done) | (go_simp; rfl) | (go_simp; intro h; exfalso; omega)⟩) HH.out ?_
            simp only [Act.put, List.getElem_toArray, List.getElem_cons_zero, List.setIfInBounds_toArray, List.set_cons_zero, List.set_cons_succ]
            refine wpAnyH_take (i := 1) (v := .slice b m cb) rfl (by kernel_rfl) (by kernel_rfl) (by kernel_rfl) (fun _ _ _ h => h) (Or.inl ⟨by rfl, fun V hV => by have hc := HTPV.out V (hgw7.out.trans hV); first | (go_simp; done) | (go_simp; rfl)⟩) HH.out ?_
            simp only [Act.put, List.getElem_toArray, List.getElem_cons_zero, List.getElem_cons_succ, List.setIfInBounds_toArray, List.set_cons_zero, List.set_cons_succ]
            refine wpAnyH_take (i := 2) (v := .int .i64 (j : Int)) rfl (by kernel_rfl) (by kernel_rfl) (by kernel_rfl) (fun _ _ _ h => h) (Or.inl ⟨by rfl, fun _ _ => by first | rfl | (go_simp; done) | (go_simp; rfl) | (go_simp; intro h; exfalso; omega)⟩) HH.out ?_
            simp only [Act.put, List.getElem_toArray, List.getElem_cons_zero, List.getElem_cons_succ, List.setIfInBounds_toArray, List.set_cons_zero, List.set_cons_succ]
            refine wpAnyH_take (i := 3) (v := .slice (subA b cb j) (m - j) (cb - j)) rfl (by kernel_rfl) (by kernel_rfl) (by kernel_rfl) (fun _ _ _ h => h) (Or.inl ⟨by rfl, fun V hV => by have hs := HSL.out V; first | exact hs | (go_simp; done) | (go_simp; rfl)⟩) HH.out ?_
            simp only [Act.put, List.getElem_toArray, List.getElem_cons_zero, List.getElem_cons_succ, List.setIfInBounds_toArray, List.set_cons_zero, List.set_cons_succ]
            refine wpAnyH_take (i := 4) (v := .agg #[.int .i64 xt, .int .i64 xs, .bool xd]) rfl (by kernel_rfl) (by kernel_rfl) (by kernel_rfl) (fun _ _ _ h => h) (yieldsIf_load_mid rfl 58 (.tmp 9) rfl wr.heap.size (0) rfl [.int .i64 xt, .int .i64 xs, .bool xd] _ (fun V hV => rangeAt_vals (vs := [.int .i64 xt, .int .i64 xs, .bool xd]) (hV.heap B7.out)) Tryd.underlying58 rfl sizeEn) HH.out ?_
            simp only [Act.put, List.getElem_toArray, List.getElem_cons_zero, List.getElem_cons_succ, List.setIfInBounds_toArray, List.set_cons_zero, List.set_cons_succ]
            refine wpAnyH_take (i := 5) (v := .func (.func 39) #[.agg #[.int .i64 xt, .int .i64 xs, .bool xd]] #[]) rfl (by kernel_rfl) (by kernel_rfl) (by kernel_rfl) (fun _ _ _ h => h) (Or.inl ⟨by rfl, fun _ _ => by first | rfl | (go_simp; done) | (go_simp; rfl) | (go_simp; intro h; exfalso; omega)⟩) HH.out ?_
            simp only [Act.put, List.getElem_toArray, List.getElem_cons_zero, List.getElem_cons_succ, List.setIfInBounds_toArray, List.set_cons_zero, List.set_cons_succ]
            refine wpAnyH_ready (rs := [6]) (by kernel_rfl) (by simp) (AllReadyH.cons rfl (fun KK hKK => ?_) AllReadyH.nil)
            rw [if_pos (by rfl)]
            go_simp
            refine (HIX.out _ (hgw7.out.trans HH.out)).mono ?_
            rintro e V ⟨rfl, gV⟩
            dsimp only
            refine hKK.out _ _ (HH.out.trans gV) (fun hH => ?_)
            clear HH hKK KK
            have HH := hid hH
            clear hH
            refine wpAnyH_take (i := 7) (v := .int .i64 (f : Int)) rfl (by kernel_rfl) (by kernel_rfl) (by kernel_rfl) (fun _ _ _ h => h) (Or.inl ⟨by rfl, fun _ _ => by first | rfl | (go_simp; done) | (go_simp; rfl) | (go_simp; intro h; exfalso; omega)⟩) HH.out ?_
            simp only [Act.put, List.getElem_toArray, List.getElem_cons_zero, List.getElem_cons_succ, List.setIfInBounds_toArray, List.set_cons_zero, List.set_cons_succ]
            refine wpAnyH_take (i := 8) (v := .int .i64 (f : Int)) rfl (by kernel_rfl) (by kernel_rfl) (by kernel_rfl) (fun _ _ _ h => h) (Or.inl ⟨by rfl, fun _ _ => by first | rfl | (go_simp; done) | (go_simp; rfl) | (go_simp; intro h; exfalso; omega)⟩) HH.out ?_
            simp only [Act.put, List.getElem_toArray, List.getElem_cons_zero, List.getElem_cons_succ, List.setIfInBounds_toArray, List.set_cons_zero, List.set_cons_succ]
            refine wpAnyH_done (by kernel_rfl) ?_ _
            have GV := hid (G7.out.trans HH.out)
            have G8 := hid (hgr.out.trans GV.out)
            have O8 := hid ((HOF.out.gr GV.out).widen (lo' := w6.heap.size) (Nat.le_refl _) GV.out.size)
            obtain ⟨r1, r0⟩ := HROW.out _ GV.out
            obtain ⟨d1, d0⟩ := HCF2.out _ GV.out
            go_wp2_with fail
            go_quiet (fail)
            go_wp2_with (at_builtin; refine wpList_append_own _ rfl _ _ 24 rfl w6.heap.size 60 i0 (.agg #[.int .i64 0, .int .i64 0]) 2 16 Tryd.underlying24 hi0 hz0 hz1 hz2 rfl (by decide) _ _ _ rfl ((O8.out.gr ((Gr.refl _).drewN _)).row.alloc _) ⟨V.heap.size, 0, none⟩ 1 1 [.int .i64 (q : Int), .int .i64 (f : Int)] rfl rfl (news_sq (heap_new rfl)) (fl_oneCell _ _) (by unfold maxLen; omega) (by omega) (by have := G8.out.size; simp <;> omega) ?_; intro v5 w5 hown5 hgrow5 _)
            have G9 := hid ((((hgr.out.trans GV.out).drewN _).alloc (.cells #[.int .i64 (q : Int), .int .i64 (f : Int)] 60)).by_ hgrow5 (fun b e => (O8.out.row.lt b e).1))
            have O9 := hid (show OwnV 60 2 w5 w6.heap.size w5.heap.size v5 (fl + 1) (flCells (F ++ [((q : Int), (f : Int))])) from by rw [flCells_append]; exact OwnV.ofRow hown5)
            clear hown5 hgrow5
            go_wp2_with fail
            go_roundw
            case rel => exact ⟨q + 1, by omega, by go_num, by rw [HCE.out]; rfl, hid (by rw [HCE.out]; show OwnV 60 2 w5 w6.heap.size w5.heap.size v5 (F ++ [((q : Int), (f : Int))]).length _; rw [List.length_append, List.length_singleton, HFL.out]; exact O9.out), G9⟩
            case measure => simp [intOf]; omega
        · have hnf : nx = (j : Int) - 1 := by rw [hnx, HXV.out, if_neg hfm]; omega
          have HCE := hid (HNN.out (by rw [HC.out]; simp [hfm]))
          have t1 : decide ((j : Int) ≤ nx) = false := by rw [decide_eq_false_iff_not]; omega
          clear hnf hnx hfx2 HCEL HBQ HC HXV hix
          go_wp2_with (first | (refine wpList_load_mid rfl 58 (.tmp 21) rfl ba (oa + q * 3) rfl _ _ HR0.out Tryd.underlying58 rfl sizeEn ?_) | (refine wpList_store_cells rfl 58 _ _ rfl wr.heap.size (#[.int .i64 xt, .int .i64 xs, .bool xd]) (#[.int .i64 0, .int .i64 0, .bool false]) rfl rfl _ 3 N7.out (by kernel_rfl) rfl rfl (by simp [Value.oneCell']) ?_; generalize hW : World.setRow _ _ _ = W7; have B7 := hid (show W7.heap[wr.heap.size]? = some (.cells #[.int .i64 xt, .int .i64 xs, .bool xd] 58 (0, 0)) by rw [← hW]; exact heap_row_set N7.out); have G7 := hid (show Gr wr W7 by rw [← hW]; exact ((Gr.refl wr).alloc _).setRow (Nat.le_refl _) _); have hgw7 := hid (hgw.out.trans G7.out); clear hW))
          refine wp_region_held_drew (S := (fun V => Gr W7 V)) (by kernel_rfl) (Gr.refl _).drew (fun hH => ?_)
          have HH := hid hH
          clear hH
          refine wpAnyH_take (i := 0) (v := .int .i64 (j : Int)) rfl (by kernel_rfl) (by kernel_rfl) (by kernel_rfl) (fun _ _ _ h => h) (Or.inl ⟨by rfl, fun _ _ => by first | rfl | (go_simp; done) | (go_simp; rfl) | (go_simp; intro h; exfalso; omega)⟩) HH.out ?_
          simp only [Act.put, List.getElem_toArray, List.getElem_cons_zero, List.setIfInBounds_toArray, List.set_cons_zero, List.set_cons_succ]
          refine wpAnyH_take (i := 1) (v := .slice b m cb) rfl (by kernel_rfl) (by kernel_rfl) (by kernel_rfl) (fun _ _ _ h => h) (Or.inl ⟨by rfl, fun V hV => by have hc := HTPV.out V (hgw7.out.trans hV); first | (go_simp; done) | (go_simp; rfl)⟩) HH.out ?_
          simp only [Act.put, List.getElem_toArray, List.getElem_cons_zero, List.getElem_cons_succ, List.setIfInBounds_toArray, List.set_cons_zero, List.set_cons_succ]
          refine wpAnyH_take (i := 2) (v := .int .i64 (j : Int)) rfl (by kernel_rfl) (by kernel_rfl) (by kernel_rfl) (fun _ _ _ h => h) (Or.inl ⟨by rfl, fun _ _ => by first | rfl | (go_simp; done) | (go_simp; rfl) | (go_simp; intro h; exfalso; omega)⟩) HH.out ?_
          simp only [Act.put, List.getElem_toArray, List.getElem_cons_zero, List.getElem_cons_succ, List.setIfInBounds_toArray, List.set_cons_zero, List.set_cons_succ]
          refine wpAnyH_take (i := 3) (v := .slice (subA b cb j) (m - j) (cb - j)) rfl (by kernel_rfl) (by kernel_rfl) (by kernel_rfl) (fun _ _ _ h => h) (Or.inl ⟨by rfl, fun V hV => by have hs := HSL.out V; first | exact hs | (go_simp; done) | (go_simp; rfl)⟩) HH.out ?_
          simp only [Act.put, List.getElem_toArray, List.getElem_cons_zero, List.getElem_cons_succ, List.setIfInBounds_toArray, List.set_cons_zero, List.set_cons_succ]
          refine wpAnyH_take (i := 4) (v := .agg #[.int .i64 xt, .int .i64 xs, .bool xd]) rfl (by kernel_rfl) (by kernel_rfl) (by kernel_rfl) (fun _ _ _ h => h) (yieldsIf_load_mid rfl 58 (.tmp 9) rfl wr.heap.size (0) rfl [.int .i64 xt, .int .i64 xs, .bool xd] _ (fun V hV => rangeAt_vals (vs := [.int .i64 xt, .int .i64 xs, .bool xd]) (hV.heap B7.out)) Tryd.underlying58 rfl sizeEn) HH.out ?_
          simp only [Act.put, List.getElem_toArray, List.getElem_cons_zero, List.getElem_cons_succ, List.setIfInBounds_toArray, List.set_cons_zero, List.set_cons_succ]
          refine wpAnyH_take (i := 5) (v := .func (.func 39) #[.agg #[.int .i64 xt, .int .i64 xs, .bool xd]] #[]) rfl (by kernel_rfl) (by kernel_rfl) (by kernel_rfl) (fun _ _ _ h => h) (Or.inl ⟨by rfl, fun _ _ => by first | rfl | (go_simp; done) | (go_simp; rfl) | (go_simp; intro h; exfalso; omega)⟩) HH.out ?_
          simp only [Act.put, List.getElem_toArray, List.getElem_cons_zero, List.getElem_cons_succ, List.setIfInBounds_toArray, List.set_cons_zero, List.set_cons_succ]
          refine wpAnyH_ready (rs := [6]) (by kernel_rfl) (by simp) (AllReadyH.cons rfl (fun KK hKK => ?_) AllReadyH.nil)
          rw [if_pos (by rfl)]
          go_simp
          refine (HIX.out _ (hgw7.out.trans HH.out)).mono ?_
          rintro e V ⟨rfl, gV⟩
          dsimp only
          refine hKK.out _ _ (HH.out.trans gV) (fun hH => ?_)
          clear HH hKK KK
          have HH := hid hH
          clear hH
          refine wpAnyH_take (i := 7) (v := .int .i64 nx) rfl (by kernel_rfl) (by kernel_rfl) (by kernel_rfl) (fun _ _ _ h => h) (Or.inl ⟨by rfl, fun _ _ => by first | rfl | (go_simp; done) | (go_simp; rfl) | (go_simp; intro h; exfalso; omega)⟩) HH.out ?_
          simp only [Act.put, List.getElem_toArray, List.getElem_cons_zero, List.getElem_cons_succ, List.setIfInBounds_toArray, List.set_cons_zero, List.set_cons_succ]
          refine wpAnyH_take (i := 8) (v := .int .i64 nx) rfl (by kernel_rfl) (by kernel_rfl) (by kernel_rfl) (fun _ _ _ h => h) (Or.inl ⟨by rfl, fun _ _ => by first | rfl | (go_simp; done) | (go_simp; rfl) | (go_simp; intro h; exfalso; omega)⟩) HH.out ?_
          simp only [Act.put, List.getElem_toArray, List.getElem_cons_zero, List.getElem_cons_succ, List.setIfInBounds_toArray, List.set_cons_zero, List.set_cons_succ]
          refine wpAnyH_done (by kernel_rfl) ?_ _
          have GV := hid (G7.out.trans HH.out)
          have G8 := hid (hgr.out.trans GV.out)
          have O8 := hid ((HOF.out.gr GV.out).widen (lo' := w6.heap.size) (Nat.le_refl _) GV.out.size)
          go_wp2_with fail
          go_quiet (fail)
          go_wp2_with fail
          go_roundw
          case rel => exact ⟨q + 1, by omega, by go_num, by rw [HCE.out, HPJ.out], hid (by rw [HCE.out, HPF.out, HFL.out]; exact (O8.out.gr ((Gr.refl _).drewN _))), hid (G8.out.drewN _)⟩
          case measure => simp [intOf]; omega
      · have hin : q = n := by omega
        have HIN := hid hin
        have OF := hid (show OwnV 60 2 wr w6.heap.size wr.heap.size (.slice sa (comTo es fs q).1.length scap) (comTo es fs es.length).1.length (flCells (comTo es fs es.length).1) by rw [← HN.out, ← HIN.out]; exact ho.out)
        clear ho hin
        generalize (comTo es fs q).1.length = fl at *
        generalize (comTo es fs q).2 = j at *
        go_wp2_with fail
        go_ret2
        exact ⟨_, rfl, OF.out.widen G6.out.size (Nat.le_refl _), G6.out.trans hgr.out⟩
  · cases h
end Go.Proofs.YtnkoakneffjkbaaDoor
