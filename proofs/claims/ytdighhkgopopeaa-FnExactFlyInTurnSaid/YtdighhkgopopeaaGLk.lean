/- The model's search for hoists out of a locker: what its loop over the substitutes adds, number by number. -/
import Derived.Test.YtdighhkgopopeaaLkB
namespace Go.Proofs.Ytdighhkgopopeaa
set_option linter.unusedVariables false
open Go.RowKit
section
variable {next : List Int → List Int → List (List Int)} {m h left : List Int} {q : Nat}
theorem lkN_skip (hr : (repB m h.length (q + 1) && !(left.getD (40 + q) 0 == 0)) = false) : lkN next m h left (q + 1) = lkN next m h left q := by
  rw [lkN, hr, if_neg (by simp), List.nil_append]
theorem lkN_take (hr : (repB m h.length (q + 1) && !(left.getD (40 + q) 0 == 0)) = true) : lkN next m h left (q + 1) = next (less left (40 + q)) (h ++ [-((q + 1 : Nat) : Int)]) ++ lkN next m h left q := by
  rw [lkN, hr, if_pos rfl]
theorem lkN_zero (h0 : 0 < left.getD (pIdx (m.getD h.length 0)) 0) : lkN next m h left 0 = next (less left (pIdx (m.getD h.length 0))) (h ++ [m.getD h.length 0]) := by
  rw [lkN, if_pos h0]
theorem lkN_none (h0 : ¬ 0 < left.getD (pIdx (m.getD h.length 0)) 0) : lkN next m h left 0 = [] := by
  rw [lkN, if_neg h0]
end
/-- A cell of a locker's row that has one piece less. -/
theorem heap_less {w : World} {b p : Nat} {left : List Int} {t : TypeId} (h : w.heap[b]? = some (.cells (kCells .i16 left) t (0, 0))) :
    (w.setCell ⟨b, p, none⟩ (.int .i16 (left.getD p 0 - 1))).heap[b]? = some (.cells (kCells .i16 (less left p)) t (0, 0)) := heap_int_set h
theorem less_bd {left : List Int} {p : Nat} (hl : left.length = 44) (hb : ∀ q, 0 ≤ left.getD q 0 ∧ left.getD q 0 ≤ 20) (hp : p < 44) (h0 : 0 < left.getD p 0) : ∀ q, 0 ≤ (less left p).getD q 0 ∧ (less left p).getD q 0 ≤ 20 := by
  intro q
  rw [less_get (by rw [hl]; exact hp)]
  have h1 := hb q
  have h2 := hb p
  split <;> omega
/-- What the rounds of the search keep: out, and what has been made. -/
structure LkR (wA : World) (lo zb : Nat) (vo : Value) (left : List Int) (t : TypeId) (xss D : List (List Int)) (v : Value) (vs : List Value) (V : World) : Prop where
  own : OwnH V lo V.heap.size v vs (xss ++ D)
  grow : wA.grownBy V vo.ownBlock
  one : OneB vo v wA.heap.size
  box : V.heap[zb]? = some (.cells (kCells .i16 left) t (0, 0))
/-- A further call keeps it. -/
theorem LkR.more {wA V V' : World} {lo zb : Nat} {vo v v' : Value} {left : List Int} {t : TypeId} {xss D R : List (List Int)} {vs vs' : List Value} (h : LkR wA lo zb vo left t xss D v vs V) (hz : zb < wA.heap.size) (hne : vo.ownBlock ≠ some zb)
    (ow : OwnH V' lo V'.heap.size v' vs' ((xss ++ D) ++ R)) (gb : V.grownBy V' v.ownBlock) (ob : OneB v v' V.heap.size) : LkR wA lo zb vo left t xss (D ++ R) v' vs' V' := by
  refine ⟨by rw [← List.append_assoc]; exact ow, grb h.grow gb (fun k e => h.one k e), fun b e => ?_, ?_⟩
  · rcases ob b e with h1 | h1
    · exact h.one b h1
    · exact .inr (Nat.le_trans h.grow.size h1)
  · rw [gb.block zb (Nat.lt_of_lt_of_le hz h.grow.size) (fun e => ?_)]
    · exact h.box
    · rcases h.one zb e.symm with h1 | h1
      · exact hne h1
      · omega
/-- What only makes new memory keeps it. -/
theorem LkR.gr {wA V V' : World} {lo zb : Nat} {vo v : Value} {left : List Int} {t : TypeId} {xss D : List (List Int)} {vs : List Value} (h : LkR wA lo zb vo left t xss D v vs V) (g : Gr V V') : LkR wA lo zb vo left t xss D v vs V' :=
  ⟨(h.own.gr g).widen g.size, grb_gr h.grow g, h.one, g.heap h.box⟩
end Go.Proofs.Ytdighhkgopopeaa

/- The model's search for hoists out of a locker: a kind. -/
namespace Go.Proofs.Ytdighhkgopopeaa
set_option linter.unusedVariables false
open Go.RowKit
theorem SliceOf.grb {k : IntKind} {w w' : World} {b o : Nat} {r : Option Nat} {xs : List Int} (h : SliceOf k w (some ⟨b, o, none⟩) xs) (g : w.grownBy w' r) (hne : r ≠ some b) : SliceOf k w' (some ⟨b, o, none⟩) xs := by
  intro i hi
  obtain ⟨b0, o0, e, hc⟩ := h i hi
  simp only [Option.some.injEq, Addr.mk.injEq, and_true] at e
  obtain ⟨rfl, rfl⟩ := e
  exact ⟨b, o, rfl, (World.cell?_of_block (w := w) (a := ⟨b, o + i, none⟩) (g.block b (World.block_lt_of_cell? w _ hc) (fun e' => hne e'.symm))).trans hc⟩
/-- The call for what goes on with one more number. -/
theorem lk_step {lo bm om cm n : Nat} {m : List Int} {f : Nat} (hn8 : n ≤ 8) (ih : LkOk lo bm om cm n m f) {h left : List Int} (hl : h.length + (f + 1) = n) (hN : NumN h) (hll : left.length = 44) (hlb : ∀ q, 0 ≤ left.getD q 0 ∧ left.getD q 0 ≤ 20) (hb : ¬ m.getD h.length 0 = -10)
    {x : Int} (hx : (-4 ≤ x ∧ x ≤ -1) ∨ (0 ≤ x ∧ x ≤ 39)) {p : Nat} (hp : p < 44) (h0 : 0 < left.getD p 0) {wA wr V : World} {zb : Nat} {vo v : Value} {t : TypeId} {xss D : List (List Int)} {vs : List Value} (hlo : lo ≤ wA.heap.size) (hm : SliceOf .i8 V (some ⟨bm, om, none⟩) m) (hbm : bm < lo)
    (hc : xss.length + D.length + 5 ^ f ≤ 1000000) (R : LkR wA lo zb vo left t xss D v vs wr) (g : Gr wr V) {g2 c2 : Nat} (hs : SliceOf .i8 V (some ⟨g2, 0, none⟩) (h ++ [x])) (hg : wr.heap.size ≤ g2) :
    Calls Try.prog 38 #[v, .agg (kCells .i16 (less left p)), .slice (some ⟨bm, om, none⟩) n cm, .slice (some ⟨g2, 0, none⟩) (h.length + 1 : Nat) c2, .int .i64 (startOf m h.length : Nat)] V (LkPost lo v (xss ++ D) (lkF m f (less left p) (h ++ [x])) V) := by
  obtain ⟨a', n', c', rfl⟩ : ∃ a n c, v = .slice a n c := by rcases R.own.row.2 with ⟨h1, _⟩ | ⟨_, _, _, h1, _⟩ <;> exact ⟨_, _, _, h1⟩
  have e1 : (h ++ [x]).length = h.length + 1 := by rw [List.length_append, List.length_singleton]
  have := ih (h ++ [x]) (less left p) (by omega) (hN.snoc (by omega) (.inr hx)) ((less_length _ _).trans hll) (less_bd hll hlb hp h0) a' n' c' vs (xss ++ D) g2 0 c2 (startOf m h.length) V (by rw [e1, startOf_no hb]) (Nat.le_trans hlo (Nat.le_trans R.grow.size g.size)) (by rw [List.length_append]; exact hc) ((R.own.gr g).widen g.size) hm hbm hs
    (fun e => by have h1 := R.own.top _ e; omega)
  rw [e1] at this
  exact this
set_option maxHeartbeats 8000000 in
set_option maxRecDepth 100000 in
theorem lk04_kind (lo bm om cm n : Nat) (m : List Int) (f : Nat) (hn : n = m.length) (hn8 : n ≤ 8) (hnum : ∀ i, i < n → m.getD i 0 = -10 ∨ (0 ≤ m.getD i 0 ∧ m.getD i 0 ≤ 39)) (ih : LkOk lo bm om cm n m f)
    (h left : List Int) (hl : h.length + (f + 1) = n) (hN : NumN h) (hll : left.length = 44) (hlb : ∀ q, 0 ≤ left.getD q 0 ∧ left.getD q 0 ≤ 20) (hb : ¬ m.getD h.length 0 = -10) (ao : Option Addr) (no co : Nat) (vs : List Value) (xss : List (List Int)) (bh oh ch : Nat) (w : World)
    (hlo : lo ≤ w.heap.size) (hc : xss.length + 5 ^ (f + 1) ≤ 1000000) (ho : OwnH w lo w.heap.size (.slice ao no co) vs xss) (hm : SliceOf .i8 w (some ⟨bm, om, none⟩) m) (hbm : bm < lo) (hh : SliceOf .i8 w (some ⟨bh, oh, none⟩) h) (hne : (Value.slice ao no co).ownBlock ≠ some bh) :
    Calls Try.prog 38 #[.slice ao no co, .agg (kCells .i16 left), .slice (some ⟨bm, om, none⟩) n cm, .slice (some ⟨bh, oh, none⟩) h.length ch, .int .i64 (startOf m h.length : Nat)] w (LkPost lo (.slice ao no co) xss (lkF m (f + 1) left h) w) := by
  rw [lkF_kind hb]
  obtain ⟨wA, hwA⟩ : ∃ wA, w.alloc (.cells (kCells .i16 left) 31) = wA := ⟨_, rfl⟩
  have GW : Hid (Gr w wA) := hid (by rw [← hwA]; exact (Gr.refl w).alloc _)
  obtain ⟨zb, hzb⟩ : ∃ zb, zb = w.heap.size := ⟨_, rfl⟩
  have HZB := hid hzb
  have ZA : Hid (wA.heap[zb]? = some (.cells (kCells .i16 left) 31 (0, 0))) := hid (by rw [← hwA, hzb]; exact heap_new rfl)
  obtain ⟨vo, hvo⟩ : ∃ vo, vo = Value.slice ao no co := ⟨_, rfl⟩
  rw [← hvo] at hne ho ⊢
  have VLT := hid (show ∀ b, vo.ownBlock = some b → b < w.heap.size from ho.top)
  have VLO := hid (show vo.ownBlock ≠ some bm from fun e => by have := (ho.row.lt _ e).1; omega)
  have VNE := hid hne
  have RA : Hid (LkR wA lo zb vo left 31 xss [] vo vs wA) := hid ⟨by rw [List.append_nil]; exact (ho.gr GW.out).widen GW.out.size, grb_refl _ _, OneB.refl _ _, ZA.out⟩
  have HMA := hid (hm.gr GW.out)
  have HHA := hid (hh.gr GW.out)
  have ZLTA := hid (lt_of_heap ZA.out)
  have ZNEO : Hid (vo.ownBlock ≠ some zb) := hid (fun e => by have := VLT.out _ e; omega)
  have HST := hid (fun (x : Int) (hx : (-4 ≤ x ∧ x ≤ -1) ∨ (0 ≤ x ∧ x ≤ 39)) (p : Nat) (hp : p < 44) (h0 : 0 < left.getD p 0) (wr V : World) (v : Value) (D : List (List Int)) (vs : List Value) (hc' : D.length + 5 ^ f ≤ 5 * 5 ^ f) (R : LkR wA lo zb vo left 31 xss D v vs wr) (g : Gr wr V) (g2 c2 : Nat) (hs : SliceOf .i8 V (some ⟨g2, 0, none⟩) (h ++ [x])) (hg : wr.heap.size ≤ g2) =>
    lk_step hn8 ih hl hN hll hlb hb hx hp h0 (Nat.le_trans hlo GW.out.size) ((HMA.out.grb R.grow VLO.out).gr g) hbm (by rw [Nat.pow_succ] at hc; omega) R g hs (c2 := c2) hg)
  have HSK := hid (fun q hr => lkN_skip (next := lkF m f) (m := m) (h := h) (left := left) (q := q) hr)
  have HTK := hid (fun q hr => lkN_take (next := lkF m f) (m := m) (h := h) (left := left) (q := q) hr)
  have HZ0 := hid (fun h0 => lkN_zero (next := lkF m f) (m := m) (h := h) (left := left) h0)
  have HZ1 := hid (fun h0 => lkN_none (next := lkF m f) (m := m) (h := h) (left := left) h0)
  have HPL := hid (fun l g => lkF_length m f l g)
  have HLB := hid hlb
  have LLF := hid hll
  have HLS := hid (fun p => (less_length left p).trans hll)
  have HREP := hid (fun q => show repB m h.length q = (decide (startOf m h.length + q ≤ h.length) && (m.getD (startOf m h.length + q - 1) 0 == m.getD h.length 0)) from rfl)
  have hst := startOf_le m h.length
  have hkd := (hnum h.length (by omega)).resolve_left hb
  obtain ⟨kn, hkn⟩ : ∃ kn : Nat, m.getD h.length 0 = (kn : Int) := ⟨(m.getD h.length 0).toNat, by omega⟩
  have hkn39 : kn ≤ 39 := by omega
  have HKI := hid (show pIdx (m.getD h.length 0) = kn by rw [pIdx_kind hkd.1, hkn]; rfl)
  rw [HKI.out] at HZ0 HZ1
  have hbx : ((kn : Int) == -10) = false := beq_eq_false_iff_ne.2 (by omega)
  rw [hkn] at HZ0 HREP
  generalize hP : 5 ^ f = P at *
  generalize hG : lkN (lkF m f) m h left 4 = G at *
  have HG := hid hG
  obtain ⟨k, hk⟩ : ∃ k, k = h.length := ⟨_, rfl⟩
  have HLA := hid (fun (x : Int) => show (h ++ [x]).length = k + 1 by rw [List.length_append, List.length_singleton, hk])
  have HCM := hid (fun V (hs : SliceOf .i8 V (some ⟨bm, om, none⟩) m) => show V.cell? ⟨bm, om + k, none⟩ = some (.int .i8 (kn : Int)) by
    obtain ⟨b', o', e', cm0⟩ := hs k (by omega)
    simp only [Option.some.injEq, Addr.mk.injEq, and_true] at e'
    obtain ⟨rfl, rfl⟩ := e'
    rw [hk, hkn, ← hk] at cm0
    exact cm0)
  rw [← hk] at HST HSK HTK HREP hl hst ⊢
  generalize hstv : startOf m k = st at *
  have HK := hid hk
  have HN := hid hn
  have hk8 : k + 1 ≤ 8 := by omega
  have hkn' : ((k : Int) == (n : Int)) = false := beq_eq_false_iff_ne.2 (by omega)
  have hk0 : (0 : Int) ≤ (k : Int) := by omega
  have hk1 : (k : Int) < (n : Int) := by omega
  have cm1 := HCM.out wA HMA.out
  have hl' : k < n := by omega
  have HKN := hid hkn
  clear hm hh hk hb ih hc hN ho hne hlb hll hvo hn hnum hkd hkn hP hG hstv hzb hlo
  obtain ⟨i0, hi, hz0, hz1, hz2⟩ := info_parts infoI8
  go_enter Try.func38, Try.ntmps38
  go_wp2_with fail
  try rw [hwA]
  rw [← HZB.out]
  go_loopw [0, 12, 13] (fun s0 s12 _ wr => ∃ (c : Nat) (D : List (List Int)) (vs' : List Value), c ≤ 4 ∧ s12 = .int .i64 c ∧ Hid (D ++ lkN (lkF m f) m h left c = G) ∧ Hid (D.length + (c + 1) * P ≤ 5 * P) ∧ Hid (LkR wA lo zb vo left 31 xss D s0 vs' wr)) (fun _ s12 _ _ => (intOf s12).toNat)
  case atStart => exact ⟨4, [], vs, Nat.le_refl _, rfl, hid (by rw [List.nil_append]; exact HG.out), hid (by simp), RA⟩
  case round =>
    obtain ⟨c, D, vs2, hc4, rfl, hD, hDL, hR⟩ := hrel
    have ZR := hid hR.out.box
    have HMR := hid (HMA.out.grb hR.out.grow VLO.out)
    have CMr := HCM.out wr HMR.out
    have GRA := hid (fun j => ((Gr.refl wr).drewN j).alloc (.cells (kCells .i16 zeros44) 31))
    by_cases hc1 : 1 ≤ c
    · obtain ⟨q, hq⟩ : ∃ q, c = q + 1 := ⟨c - 1, by omega⟩
      have HCQ := hid hq
      have hq4 : q < 4 := by omega
      have t0 : decide ((1 : Int) ≤ (c : Int)) = true := by rw [decide_eq_true_iff]; omega
      have HP1 : Hid (P ≤ (c + 1) * P) := hid (Nat.le_mul_of_pos_left _ (by omega))
      have e1 : IntKind.i64.wrap (-(c : Int)) = -(c : Int) := IntWalk.i64_in _ (by omega)
      have e2 : IntKind.i8.wrap (-(c : Int)) = -(c : Int) := IntWalk.i8_in _ (by omega)
      have e3 : IntKind.i64.wrap ((st : Int) + (c : Int)) = (st : Int) + (c : Int) := IntWalk.i64_in _ (by omega)
      obtain ⟨p, hp⟩ : ∃ p, p = st + q := ⟨_, rfl⟩
      have e4 : IntKind.i64.wrap ((st : Int) + (c : Int) - 1) = (p : Int) := by rw [IntWalk.i64_in _ (by omega)]; omega
      have e5 : IntKind.i64.wrap ((c : Int) - 1) = (q : Int) := by rw [IntWalk.i64_in _ (by omega)]; omega
      have hq0 : (0 : Int) ≤ (q : Int) := by omega
      have hq1 : (q : Int) < 4 := by omega
      have hrep := HREP.out (q + 1)
      rw [show st + (q + 1) - 1 = p by omega, show st + (q + 1) = p + 1 by omega] at hrep
      have cz := cell_ints ZR.out (i := 40 + q) (by rw [LLF.out]; omega)
      have HX := hid hp
      have YB := HLB.out (40 + q)
      clear hp hq
      by_cases hpk : k ≤ p
      · have t1 : decide ((k : Int) ≤ (p : Int)) = true := by rw [decide_eq_true_iff]; omega
        have hrepA := hid (show repB m k (q + 1) = false by rw [hrep, decide_eq_false (by omega), Bool.false_and])
        clear hrep
        go_wp2_with fail
        go_quiet (fail)
        go_wp2_with fail
        go_roundw
        case rel => exact ⟨q, D, vs2, by omega, by go_num, hid (by rw [← HSK.out q (by rw [hrepA.out, Bool.false_and]), ← HCQ.out]; exact hD.out), hid (by have := hDL.out; rw [HCQ.out, Nat.succ_mul] at this; omega), hid (hR.out.gr (by first | exact (Gr.refl _).drewN _ | exact (Gr.refl _).drew))⟩
        case measure => have h9 := HCQ.out; simp [intOf] <;> omega
      · have t1 : decide ((k : Int) ≤ (p : Int)) = false := by rw [decide_eq_false_iff_not]; omega
        have t2 : decide (k ≤ p) = false := decide_eq_false hpk
        obtain ⟨b2, o2, e6, cp0⟩ := HMR.out p (by rw [← HN.out]; omega)
        simp only [Option.some.injEq, Addr.mk.injEq, and_true] at e6
        obtain ⟨rfl, rfl⟩ := e6
        have hp0 : (0 : Int) ≤ (p : Int) := by omega
        have hp1 : (p : Int) < (n : Int) := by omega
        rw [decide_eq_true (by omega), Bool.true_and] at hrep
        generalize m.getD p 0 = y at *
        cases hy : (y == (kn : Int)) with
        | false =>
          have hrepA := hid (show repB m k (q + 1) = false by rw [hrep, hy])
          have hy' : (y != (kn : Int)) = true := by rw [bne, hy]; rfl
          clear hrep
          go_wp2_with fail
          go_quiet (fail)
          go_wp2_with fail
          go_roundw
          case rel => exact ⟨q, D, vs2, by omega, by go_num, hid (by rw [← HSK.out q (by rw [hrepA.out, Bool.false_and]), ← HCQ.out]; exact hD.out), hid (by have := hDL.out; rw [HCQ.out, Nat.succ_mul] at this; omega), hid (hR.out.gr (by first | exact (Gr.refl _).drewN _ | exact (Gr.refl _).drew))⟩
          case measure => have h9 := HCQ.out; simp [intOf] <;> omega
        | true =>
          have hrepA := hid (show repB m k (q + 1) = true by rw [hrep, hy])
          have hy' : (y != (kn : Int)) = false := by rw [bne, hy]; rfl
          obtain ⟨lv, hlv⟩ : ∃ lv, lv = left.getD (40 + q) 0 := ⟨_, rfl⟩
          have YV := hid hlv
          rw [← hlv] at cz YB
          cases hz : (lv == 0) with
          | true =>
            have hzA := hid (show (left.getD (40 + q) 0 == 0) = true by rw [← hlv]; exact hz)
            clear hlv
            clear hrep
            go_wp2_with fail
            go_quiet (fail)
            go_wp2_with fail
            go_roundw
            case rel => exact ⟨q, D, vs2, by omega, by go_num, hid (by rw [← HSK.out q (by rw [hrepA.out, hzA.out]; rfl), ← HCQ.out]; exact hD.out), hid (by have := hDL.out; rw [HCQ.out, Nat.succ_mul] at this; omega), hid (hR.out.gr (by first | exact (Gr.refl _).drewN _ | exact (Gr.refl _).drew))⟩
            case measure => have h9 := HCQ.out; simp [intOf] <;> omega
          | false =>
            have hzA := hid (show (left.getD (40 + q) 0 == 0) = false by rw [← hlv]; exact hz)
            have Y0 : Hid (0 < left.getD (40 + q) 0) := hid (by have := beq_eq_false_iff_ne.1 hz; omega)
            have e7 : IntKind.i16.wrap (lv - 1) = lv - 1 := IntWalk.i16_in _ (by omega)
            have HT := HTK.out q (by rw [hrepA.out, hzA.out]; rfl)
            rw [show (-((q + 1 : Nat) : Int)) = -(c : Int) by rw [HCQ.out]] at HT
            replace HT := hid HT
            clear hrep hlv hpk
            go_wp2_with fail
            go_quiet (fail)
            have N4 := hid (fun (j : Nat) => (heap_new rfl : ((wr.drewN j).alloc (.cells (kCells .i16 zeros44) 31)).heap[wr.heap.size]? = some (.cells (kCells .i16 zeros44) 31 (0, 0))))
            go_wp2_with (first | (refine wpList_load_struct rfl 31 (.tmp 6) rfl zb rfl _ (kCells .i16 left) _ ZR.out Try.underlying31 rfl (by rw [kCells_size, LLF.out]; kernel_rfl) ?_) | (refine wpList_store_cells rfl 31 _ _ rfl wr.heap.size (kCells .i16 left) (kCells .i16 zeros44) rfl rfl _ 44 (N4.out _) (by kernel_rfl) (by rw [kCells_size, LLF.out]) rfl (kCells_one _ _) ?_; generalize hW : World.setRow _ _ (kCells .i16 left) = W5; have B5 : W5.heap[wr.heap.size]? = some (.cells (kCells .i16 left) 31 (0, 0)) := (by rw [← hW]; exact heap_row_set (N4.out _)); have G5 : Gr wr W5 := (by rw [← hW]; exact (GRA.out _).setRow (Nat.le_refl _) _); have c5 := cell_ints B5 (i := 40 + q) (by rw [LLF.out]; omega); have f5 : W5.frozen? ⟨wr.heap.size, 40 + q, none⟩ = false := frozen_of_row _ _ _ _ _ B5; have c6 := G5.cell CMr; replace B5 := hid B5; replace G5 := hid G5; rw [← YV.out] at c5; clear hW))
            generalize hW6 : World.setCell W5 _ _ = W6
            have B6 : Hid (W6.heap[wr.heap.size]? = some (.cells (kCells .i16 (less left (40 + q))) 31 (0, 0))) := hid (by rw [← hW6, YV.out]; exact heap_less B5.out)
            have G6 : Hid (Gr wr W6) := hid (by rw [← hW6]; exact G5.out.setCell (by exact Nat.le_refl _) _)
            have LL6 := hid (HLS.out (40 + q))
            clear hW6 B5 G5 c5 f5 c6
            have RQ := hid (hR.out.gr G6.out)
            have HHr := hid ((HHA.out.grb hR.out.grow VNE.out).gr G6.out)
            have HMr := hid ((HMA.out.grb hR.out.grow VLO.out).gr G6.out)
            have ZLT : Hid (wr.heap.size < W6.heap.size) := hid (lt_of_heap B6.out)
            have ZNE : Hid (some wr.heap.size ≠ u0.ownBlock) := hid (fun e => by have := hR.out.own.top _ e.symm; omega)
            have HIX := hid (fun (g2 c2 : Nat) (V : World) (g : Gr W6 V) (hs : SliceOf .i8 V (some ⟨g2, 0, none⟩) (h ++ [-(c : Int)])) (hg : W6.heap.size ≤ g2) => HST.out (-(c : Int)) (.inl ⟨by omega, by omega⟩) (40 + q) (by omega) Y0.out wr V u0 D vs2 (by have := hDL.out; have := HP1.out; omega) hR.out (G6.out.trans g) g2 c2 hs (Nat.le_trans G6.out.size hg))
            have HL9 := HPL.out (less left (40 + q)) (h ++ [-(c : Int)])
            generalize hR1 : lkF m f (less left (40 + q)) (h ++ [-(c : Int)]) = R1 at *
            generalize less left (40 + q) = lq at *
            obtain ⟨zq, hzq⟩ : ∃ zq, zq = wr.heap.size := ⟨_, rfl⟩
            rw [← hzq] at B6 ZLT ZNE ⊢
            clear hR1
            refine wp_region_held_drew (S := fun V => W6.grownBy V u0.ownBlock) (by kernel_rfl) (gr_grb ((Gr.refl W6).drew) _) (fun hH => ?_)
            have HH := hid hH
            clear hH
            have GX := hid ((Gr.refl W6).drew)
            refine wpAnyH_take (i := 0) (v := u0) rfl (by kernel_rfl) (by kernel_rfl) (by kernel_rfl) (fun _ _ _ h => h) (Or.inl ⟨by rfl, fun _ _ => by first | rfl | (go_simp; done) | (go_simp; rfl) | (go_simp; intro h; exfalso; omega)⟩) HH.out ?_
            try simp only [Act.put, List.getElem_toArray, List.getElem_cons_zero, List.setIfInBounds_toArray, List.set_cons_zero, List.set_cons_succ]
            refine wpAnyH_take (i := 1) (v := .agg (kCells .i16 lq)) rfl (by kernel_rfl) (by kernel_rfl) (by kernel_rfl) (fun _ _ _ h => h) (yields_struct rfl 31 (.tmp 13) rfl zq rfl 31 _ _ (fun V hV => (World.grownBy.block hV zq ZLT.out ZNE.out).trans B6.out) Try.underlying31 rfl (by rw [kCells_size, LL6.out]; kernel_rfl)) HH.out ?_
            try simp only [Act.put, List.getElem_toArray, List.getElem_cons_zero, List.getElem_cons_succ, List.setIfInBounds_toArray, List.set_cons_zero, List.set_cons_succ]
            refine wpAnyH_take (i := 2) (v := .slice (some ⟨bm, om, none⟩) n cm) rfl (by kernel_rfl) (by kernel_rfl) (by kernel_rfl) (fun _ _ _ h => h) (Or.inl ⟨by rfl, fun _ _ => by first | rfl | (go_simp; done) | (go_simp; rfl) | (go_simp; intro h; exfalso; omega)⟩) HH.out ?_
            try simp only [Act.put, List.getElem_toArray, List.getElem_cons_zero, List.getElem_cons_succ, List.setIfInBounds_toArray, List.set_cons_zero, List.set_cons_succ]
            refine wpAnyH_take (i := 4) (v := .slice (some ⟨bh, oh, none⟩) k ch) rfl (by kernel_rfl) (by kernel_rfl) (by kernel_rfl) (fun _ _ _ h => h) (Or.inl ⟨by rfl, fun _ _ => by first | rfl | (go_simp; done) | (go_simp; rfl) | (go_simp; intro h; exfalso; omega)⟩) HH.out ?_
            try simp only [Act.put, List.getElem_toArray, List.getElem_cons_zero, List.getElem_cons_succ, List.setIfInBounds_toArray, List.set_cons_zero, List.set_cons_succ]
            refine wpAnyH_take (i := 6) (v := .int .i64 (c : Int)) rfl (by kernel_rfl) (by kernel_rfl) (by kernel_rfl) (fun _ _ _ h => h) (Or.inl ⟨by rfl, fun _ _ => by first | rfl | (go_simp; done) | (go_simp; rfl) | (go_simp; intro h; exfalso; omega)⟩) HH.out ?_
            try simp only [Act.put, List.getElem_toArray, List.getElem_cons_zero, List.getElem_cons_succ, List.setIfInBounds_toArray, List.set_cons_zero, List.set_cons_succ]
            refine wpAnyH_take (i := 7) (v := .int .i64 (-(c : Int))) rfl (by kernel_rfl) (by kernel_rfl) (by kernel_rfl) (fun _ _ _ h => h) (Or.inl ⟨by rfl, fun _ _ => by first | rfl | (go_simp; done) | (go_simp; rfl) | (go_simp; intro h; exfalso; omega)⟩) HH.out ?_
            try simp only [Act.put, List.getElem_toArray, List.getElem_cons_zero, List.getElem_cons_succ, List.setIfInBounds_toArray, List.set_cons_zero, List.set_cons_succ]
            refine wpAnyH_take (i := 8) (v := .int .i8 (-(c : Int))) rfl (by kernel_rfl) (by kernel_rfl) (by kernel_rfl) (fun _ _ _ h => h) (Or.inl ⟨by rfl, fun _ _ => by first | rfl | (go_simp; done) | (go_simp; rfl) | (go_simp; intro h; exfalso; omega)⟩) HH.out ?_
            try simp only [Act.put, List.getElem_toArray, List.getElem_cons_zero, List.getElem_cons_succ, List.setIfInBounds_toArray, List.set_cons_zero, List.set_cons_succ]
            refine wpAnyH_take (i := 11) (v := .int .i64 (st : Int)) rfl (by kernel_rfl) (by kernel_rfl) (by kernel_rfl) (fun _ _ _ h => h) (Or.inl ⟨by rfl, fun _ _ => by first | rfl | (go_simp; done) | (go_simp; rfl) | (go_simp; intro h; exfalso; omega)⟩) HH.out ?_
            try simp only [Act.put, List.getElem_toArray, List.getElem_cons_zero, List.getElem_cons_succ, List.setIfInBounds_toArray, List.set_cons_zero, List.set_cons_succ]
            refine wpAnyH_ready (rs := [3, 9]) (by kernel_rfl) (by simp) (AllReadyH.cons rfl (fun KK hKK => ?_) (AllReadyH.cons rfl (fun KK hKK => ?_) AllReadyH.nil))
            · rw [if_pos (by rfl)]
              go_simp
              have GN := hid (GX.out.alloc (.cells #[] 59))
              refine hKK.out _ _ (gr_grb GN.out _) (fun hH => ?_)
              clear HH hKK KK
              have HH := hid hH
              clear hH
              clear GX
              have GX := hid GN.out
              clear GN
              refine wpAnyH_ready (rs := [5, 9]) (by kernel_rfl) (by simp) (AllReadyH.cons rfl (fun KK hKK => ?_) (AllReadyH.cons rfl (fun KK hKK => ?_) AllReadyH.nil))
              · rw [if_pos (by rfl)]
                have ROW0 := hid (show World.ownsRow (W6.drew.alloc (.cells #[] 59)) W6.heap.size 59 1 (.slice (some ⟨W6.heap.size, 0, none⟩) 0 0) 0 [] from ((Own.new (k := .i8) (e := 59) (W6.drew) [] (by simp)).row))
                refine wp_append_own _ _ _ 28 rfl W6.heap.size 59 i0 (.int .i8 0) 1 1 Try.underlying28 hi hz0 hz1 hz2 rfl (by decide) _ _ _ rfl ROW0.out ⟨bh, oh, none⟩ k ch (h.map (Value.int .i8)) rfl (by rw [List.length_map, Nat.mul_one]; exact HK.out.symm) (news_of_slice (HHr.out.gr GX.out)) (by simp [Value.oneCell']) (by unfold maxLen; simp; omega) (by simp; omega) (by first | exact GX.out.size | (have := GX.out.size; omega)) ?_
                intro v1 w1 hown hgrow _
                have OV := hid (Own.ofRow (k := .i8) (xs := h) hown (by simp) (by have := HK.out; omega))
                have GN := hid (GX.out.by_ hgrow (fun b e => (ROW0.out.lt b e).1))
                have HG1 := hid hgrow
                clear hown hgrow
                obtain ⟨av, cv, hv1'⟩ := OV.out.shape
                rw [← HK.out] at hv1'
                subst hv1'
                refine hKK.out _ _ (gr_grb GN.out _) (fun hH => ?_)
                clear HH hKK KK
                have HH := hid hH
                clear hH
                clear GX
                have GX := hid GN.out
                clear GN
                refine wpAnyH_ready (rs := [9]) (by kernel_rfl) (by simp) (AllReadyH.cons rfl (fun KK hKK => ?_) AllReadyH.nil)
                rw [if_pos (by rfl)]
                go_simp
                have GN := hid (GX.out.alloc (.cells #[.int .i8 (-(c : Int))] 59))
                refine hKK.out _ _ (gr_grb GN.out _) (fun hH => ?_)
                clear HH hKK KK
                have HH := hid hH
                clear hH
                clear GX
                have GX := hid GN.out
                clear GN
                refine wpAnyH_ready (rs := [10]) (by kernel_rfl) (by simp) (AllReadyH.cons rfl (fun KK hKK => ?_) AllReadyH.nil)
                rw [if_pos (by rfl)]
                have ROW1 := hid OV.out.row
                rw [← HK.out] at ROW1
                refine wp_append_own _ _ _ 28 rfl W6.heap.size 59 i0 (.int .i8 0) 1 1 Try.underlying28 hi hz0 hz1 hz2 rfl (by decide) _ _ _ rfl (ROW1.out.alloc _) ⟨w1.heap.size, 0, none⟩ 1 1 [.int .i8 (-(c : Int))] rfl rfl (cell_l1 _ _ _) (by simp [Value.oneCell']) (by unfold maxLen; simp; omega) (by simp; omega) (by first | exact GX.out.size | (have := GX.out.size; omega)) ?_
                intro v2 w2 hown2 hgrow2 _
                obtain ⟨g2, c2, rfl, hg2, _⟩ := hown2.form (by omega)
                have OX := hid (Own.ofRow (k := .i8) (xs := h ++ [-(c : Int)]) hown2 (by simp) (by rw [HLA.out])).reads
                have GN := hid (GX.out.by_ hgrow2 (fun b e => (ROW1.out.lt b e).1))
                have HG2 := hid hg2
                clear hown2 hgrow2 hg2
                refine hKK.out _ _ (gr_grb GN.out _) (fun hH => ?_)
                clear HH hKK KK
                have HH := hid hH
                clear hH
                clear GX
                have GX := hid GN.out
                clear GN
                refine wpAnyH_ready (rs := [12]) (by kernel_rfl) (by simp) (AllReadyH.cons rfl (fun KK hKK => ?_) AllReadyH.nil)
                rw [if_pos (by rfl)]
                go_simp
                (with_reducible refine (HIX.out g2 c2 _ GX.out OX.out HG2.out).mono ?_)
                rintro e w4 ⟨v4, vs4, rfl, ow4, gb4, ob4⟩
                have GB4 := hid (grb (gr_grb GX.out u0.ownBlock) gb4 (fun k e => .inl e))
                have OW4 := hid ow4
                have OB4 := hid (show OneB u0 v4 W6.heap.size from fun b e => (ob4 b e).elim .inl (fun h => .inr (Nat.le_trans GX.out.size h)))
                clear ow4 gb4 ob4
                dsimp only
                refine hKK.out _ _ GB4.out (fun hH => ?_)
                clear HH hKK KK
                have HH := hid hH
                clear hH
                refine wpAnyH_take (i := 13) (v := v4) rfl (by kernel_rfl) (by kernel_rfl) (by kernel_rfl) (fun _ _ _ h => h) (Or.inl ⟨by rfl, fun _ _ => by first | rfl | (go_simp; done) | (go_simp; rfl) | (go_simp; intro h; exfalso; omega)⟩) HH.out ?_
                try simp only [Act.put, List.getElem_toArray, List.getElem_cons_zero, List.getElem_cons_succ, List.setIfInBounds_toArray, List.set_cons_zero]
                refine wpAnyH_done (by kernel_rfl) ?_ _
                have RN := hid (RQ.out.more ZLTA.out ZNEO.out OW4.out GB4.out OB4.out)
                go_wp2_with fail
                go_roundw
                case rel => exact ⟨q, D ++ R1, vs4, by omega, by go_num, hid (by rw [List.append_assoc, ← HT.out, ← HCQ.out]; exact hD.out), hid (by have h1 := hDL.out; rw [HCQ.out, Nat.succ_mul] at h1; rw [List.length_append]; omega), RN⟩
                case measure => have h9 := HCQ.out; simp [intOf] <;> omega
              · rw [if_pos (by rfl)]
                go_simp
                have GN := hid (GX.out.alloc (.cells #[.int .i8 (-(c : Int))] 59))
                refine hKK.out _ _ (gr_grb GN.out _) (fun hH => ?_)
                clear HH hKK KK
                have HH := hid hH
                clear hH
                clear GX
                have GX := hid GN.out
                clear GN
                refine wpAnyH_ready (rs := [5]) (by kernel_rfl) (by simp) (AllReadyH.cons rfl (fun KK hKK => ?_) AllReadyH.nil)
                rw [if_pos (by rfl)]
                have ROW0 := hid ((show World.ownsRow (W6.drew.alloc (.cells #[] 59)) W6.heap.size 59 1 (.slice (some ⟨W6.heap.size, 0, none⟩) 0 0) 0 [] from ((Own.new (k := .i8) (e := 59) (W6.drew) [] (by simp)).row)).alloc (.cells #[.int .i8 (-(c : Int))] 59))
                refine wp_append_own _ _ _ 28 rfl W6.heap.size 59 i0 (.int .i8 0) 1 1 Try.underlying28 hi hz0 hz1 hz2 rfl (by decide) _ _ _ rfl ROW0.out ⟨bh, oh, none⟩ k ch (h.map (Value.int .i8)) rfl (by rw [List.length_map, Nat.mul_one]; exact HK.out.symm) (news_of_slice (HHr.out.gr GX.out)) (by simp [Value.oneCell']) (by unfold maxLen; simp; omega) (by simp; omega) (by first | exact GX.out.size | (have := GX.out.size; omega)) ?_
                intro v1 w1 hown hgrow _
                have OV := hid (Own.ofRow (k := .i8) (xs := h) hown (by simp) (by have := HK.out; omega))
                have GN := hid (GX.out.by_ hgrow (fun b e => (ROW0.out.lt b e).1))
                have HG1 := hid hgrow
                clear hown hgrow
                obtain ⟨av, cv, hv1'⟩ := OV.out.shape
                rw [← HK.out] at hv1'
                subst hv1'
                refine hKK.out _ _ (gr_grb GN.out _) (fun hH => ?_)
                clear HH hKK KK
                have HH := hid hH
                clear hH
                clear GX
                have GX := hid GN.out
                clear GN
                refine wpAnyH_ready (rs := [10]) (by kernel_rfl) (by simp) (AllReadyH.cons rfl (fun KK hKK => ?_) AllReadyH.nil)
                rw [if_pos (by rfl)]
                have ROW1 := hid OV.out.row
                rw [← HK.out] at ROW1
                refine wp_append_own _ _ _ 28 rfl W6.heap.size 59 i0 (.int .i8 0) 1 1 Try.underlying28 hi hz0 hz1 hz2 rfl (by decide) _ _ _ rfl (ROW1.out) ⟨(W6.heap.size + 1), 0, none⟩ 1 1 [.int .i8 (-(c : Int))] rfl rfl (World.news_of_block (cs := #[.int .i8 (-(c : Int))]) (t := 59) (fr := (0, 0)) ((HG1.out.block (W6.heap.size + 1) (by simp) (fun e => by have h9 : W6.heap.size + 1 = W6.heap.size := Option.some.inj e; omega)).trans (heap_new (by simp)))) (by simp [Value.oneCell']) (by unfold maxLen; simp; omega) (by simp; omega) (by first | exact GX.out.size | (have := GX.out.size; omega)) ?_
                intro v2 w2 hown2 hgrow2 _
                obtain ⟨g2, c2, rfl, hg2, _⟩ := hown2.form (by omega)
                have OX := hid (Own.ofRow (k := .i8) (xs := h ++ [-(c : Int)]) hown2 (by simp) (by rw [HLA.out])).reads
                have GN := hid (GX.out.by_ hgrow2 (fun b e => (ROW1.out.lt b e).1))
                have HG2 := hid hg2
                clear hown2 hgrow2 hg2
                refine hKK.out _ _ (gr_grb GN.out _) (fun hH => ?_)
                clear HH hKK KK
                have HH := hid hH
                clear hH
                clear GX
                have GX := hid GN.out
                clear GN
                refine wpAnyH_ready (rs := [12]) (by kernel_rfl) (by simp) (AllReadyH.cons rfl (fun KK hKK => ?_) AllReadyH.nil)
                rw [if_pos (by rfl)]
                go_simp
                (with_reducible refine (HIX.out g2 c2 _ GX.out OX.out HG2.out).mono ?_)
                rintro e w4 ⟨v4, vs4, rfl, ow4, gb4, ob4⟩
                have GB4 := hid (grb (gr_grb GX.out u0.ownBlock) gb4 (fun k e => .inl e))
                have OW4 := hid ow4
                have OB4 := hid (show OneB u0 v4 W6.heap.size from fun b e => (ob4 b e).elim .inl (fun h => .inr (Nat.le_trans GX.out.size h)))
                clear ow4 gb4 ob4
                dsimp only
                refine hKK.out _ _ GB4.out (fun hH => ?_)
                clear HH hKK KK
                have HH := hid hH
                clear hH
                refine wpAnyH_take (i := 13) (v := v4) rfl (by kernel_rfl) (by kernel_rfl) (by kernel_rfl) (fun _ _ _ h => h) (Or.inl ⟨by rfl, fun _ _ => by first | rfl | (go_simp; done) | (go_simp; rfl) | (go_simp; intro h; exfalso; omega)⟩) HH.out ?_
                try simp only [Act.put, List.getElem_toArray, List.getElem_cons_zero, List.getElem_cons_succ, List.setIfInBounds_toArray, List.set_cons_zero]
                refine wpAnyH_done (by kernel_rfl) ?_ _
                have RN := hid (RQ.out.more ZLTA.out ZNEO.out OW4.out GB4.out OB4.out)
                go_wp2_with fail
                go_roundw
                case rel => exact ⟨q, D ++ R1, vs4, by omega, by go_num, hid (by rw [List.append_assoc, ← HT.out, ← HCQ.out]; exact hD.out), hid (by have h1 := hDL.out; rw [HCQ.out, Nat.succ_mul] at h1; rw [List.length_append]; omega), RN⟩
                case measure => have h9 := HCQ.out; simp [intOf] <;> omega
            · rw [if_pos (by rfl)]
              go_simp
              have GN := hid (GX.out.alloc (.cells #[.int .i8 (-(c : Int))] 59))
              refine hKK.out _ _ (gr_grb GN.out _) (fun hH => ?_)
              clear HH hKK KK
              have HH := hid hH
              clear hH
              clear GX
              have GX := hid GN.out
              clear GN
              refine wpAnyH_ready (rs := [3]) (by kernel_rfl) (by simp) (AllReadyH.cons rfl (fun KK hKK => ?_) AllReadyH.nil)
              rw [if_pos (by rfl)]
              go_simp
              have GN := hid (GX.out.alloc (.cells #[] 59))
              refine hKK.out _ _ (gr_grb GN.out _) (fun hH => ?_)
              clear HH hKK KK
              have HH := hid hH
              clear hH
              clear GX
              have GX := hid GN.out
              clear GN
              refine wpAnyH_ready (rs := [5]) (by kernel_rfl) (by simp) (AllReadyH.cons rfl (fun KK hKK => ?_) AllReadyH.nil)
              rw [if_pos (by rfl)]
              have ROW0 := hid (show World.ownsRow ((W6.drew.alloc (.cells #[.int .i8 (-(c : Int))] 59)).alloc (.cells #[] 59)) W6.heap.size 59 1 (.slice (some ⟨W6.heap.size + 1, 0, none⟩) 0 0) 0 [] by have := ((Own.new (k := .i8) (e := 59) (W6.drew.alloc (.cells #[.int .i8 (-(c : Int))] 59)) [] (by simp)).widen (show W6.heap.size ≤ _ by rw [World.size_alloc]; exact Nat.le_succ W6.heap.size) (Nat.le_refl _)).row; rw [World.size_alloc] at this; exact this)
              refine wp_append_own _ _ _ 28 rfl W6.heap.size 59 i0 (.int .i8 0) 1 1 Try.underlying28 hi hz0 hz1 hz2 rfl (by decide) _ _ _ rfl ROW0.out ⟨bh, oh, none⟩ k ch (h.map (Value.int .i8)) rfl (by rw [List.length_map, Nat.mul_one]; exact HK.out.symm) (news_of_slice (HHr.out.gr GX.out)) (by simp [Value.oneCell']) (by unfold maxLen; simp; omega) (by simp; omega) (by first | exact GX.out.size | (have := GX.out.size; omega)) ?_
              intro v1 w1 hown hgrow _
              have OV := hid (Own.ofRow (k := .i8) (xs := h) hown (by simp) (by have := HK.out; omega))
              have GN := hid (GX.out.by_ hgrow (fun b e => (ROW0.out.lt b e).1))
              have HG1 := hid hgrow
              clear hown hgrow
              obtain ⟨av, cv, hv1'⟩ := OV.out.shape
              rw [← HK.out] at hv1'
              subst hv1'
              refine hKK.out _ _ (gr_grb GN.out _) (fun hH => ?_)
              clear HH hKK KK
              have HH := hid hH
              clear hH
              clear GX
              have GX := hid GN.out
              clear GN
              refine wpAnyH_ready (rs := [10]) (by kernel_rfl) (by simp) (AllReadyH.cons rfl (fun KK hKK => ?_) AllReadyH.nil)
              rw [if_pos (by rfl)]
              have ROW1 := hid OV.out.row
              rw [← HK.out] at ROW1
              refine wp_append_own _ _ _ 28 rfl W6.heap.size 59 i0 (.int .i8 0) 1 1 Try.underlying28 hi hz0 hz1 hz2 rfl (by decide) _ _ _ rfl (ROW1.out) ⟨W6.heap.size, 0, none⟩ 1 1 [.int .i8 (-(c : Int))] rfl rfl (World.news_of_block (cs := #[.int .i8 (-(c : Int))]) (t := 59) (fr := (0, 0)) ((HG1.out.block W6.heap.size (by simp <;> omega) (fun e => by have h9 : W6.heap.size = W6.heap.size + 1 := Option.some.inj e; omega)).trans (heap_kept (heap_new rfl)))) (by simp [Value.oneCell']) (by unfold maxLen; simp; omega) (by simp; omega) (by first | exact GX.out.size | (have := GX.out.size; omega)) ?_
              intro v2 w2 hown2 hgrow2 _
              obtain ⟨g2, c2, rfl, hg2, _⟩ := hown2.form (by omega)
              have OX := hid (Own.ofRow (k := .i8) (xs := h ++ [-(c : Int)]) hown2 (by simp) (by rw [HLA.out])).reads
              have GN := hid (GX.out.by_ hgrow2 (fun b e => (ROW1.out.lt b e).1))
              have HG2 := hid hg2
              clear hown2 hgrow2 hg2
              refine hKK.out _ _ (gr_grb GN.out _) (fun hH => ?_)
              clear HH hKK KK
              have HH := hid hH
              clear hH
              clear GX
              have GX := hid GN.out
              clear GN
              refine wpAnyH_ready (rs := [12]) (by kernel_rfl) (by simp) (AllReadyH.cons rfl (fun KK hKK => ?_) AllReadyH.nil)
              rw [if_pos (by rfl)]
              go_simp
              (with_reducible refine (HIX.out g2 c2 _ GX.out OX.out HG2.out).mono ?_)
              rintro e w4 ⟨v4, vs4, rfl, ow4, gb4, ob4⟩
              have GB4 := hid (grb (gr_grb GX.out u0.ownBlock) gb4 (fun k e => .inl e))
              have OW4 := hid ow4
              have OB4 := hid (show OneB u0 v4 W6.heap.size from fun b e => (ob4 b e).elim .inl (fun h => .inr (Nat.le_trans GX.out.size h)))
              clear ow4 gb4 ob4
              dsimp only
              refine hKK.out _ _ GB4.out (fun hH => ?_)
              clear HH hKK KK
              have HH := hid hH
              clear hH
              refine wpAnyH_take (i := 13) (v := v4) rfl (by kernel_rfl) (by kernel_rfl) (by kernel_rfl) (fun _ _ _ h => h) (Or.inl ⟨by rfl, fun _ _ => by first | rfl | (go_simp; done) | (go_simp; rfl) | (go_simp; intro h; exfalso; omega)⟩) HH.out ?_
              try simp only [Act.put, List.getElem_toArray, List.getElem_cons_zero, List.getElem_cons_succ, List.setIfInBounds_toArray, List.set_cons_zero]
              refine wpAnyH_done (by kernel_rfl) ?_ _
              have RN := hid (RQ.out.more ZLTA.out ZNEO.out OW4.out GB4.out OB4.out)
              go_wp2_with fail
              go_roundw
              case rel => exact ⟨q, D ++ R1, vs4, by omega, by go_num, hid (by rw [List.append_assoc, ← HT.out, ← HCQ.out]; exact hD.out), hid (by have h1 := hDL.out; rw [HCQ.out, Nat.succ_mul] at h1; rw [List.length_append]; omega), RN⟩
              case measure => have h9 := HCQ.out; simp [intOf] <;> omega
    · obtain rfl : c = 0 := by omega
      have HD0 := hid (show D ++ lkN (lkF m f) m h left 0 = G from hD.out)
      have HP1 : Hid (P ≤ (0 + 1) * P) := hid (by omega)
      have cf := cell_ints ZR.out (i := kn) (by rw [LLF.out]; omega)
      have YB := HLB.out kn
      have hkn0 : (0 : Int) ≤ (kn : Int) := by omega
      have hkn1 : (kn : Int) < 40 := by omega
      obtain ⟨lv, hlv⟩ : ∃ lv, lv = left.getD kn 0 := ⟨_, rfl⟩
      have YV := hid hlv
      rw [← hlv] at cf YB
      have VLQ := hid (show u0.ownBlock ≠ some bm from fun e => by have := (hR.out.own.row.lt _ e).1; omega)
      by_cases h0 : 0 < lv
      · have t1 : decide ((0 : Int) < lv) = true := decide_eq_true h0
        have Y0 : Hid (0 < left.getD kn 0) := hid (by rw [← hlv]; exact h0)
        have e7 : IntKind.i16.wrap (lv - 1) = lv - 1 := IntWalk.i16_in _ (by omega)
        have HT := hid (HZ0.out Y0.out)
        clear hlv h0
        have N4 := hid (fun (j : Unit) => (heap_new rfl : ((wr).alloc (.cells (kCells .i16 zeros44) 31)).heap[wr.heap.size]? = some (.cells (kCells .i16 zeros44) 31 (0, 0))))
        go_wp2_with (first | (refine wpList_load_struct rfl 31 (.tmp 6) rfl zb rfl _ (kCells .i16 left) _ ZR.out Try.underlying31 rfl (by rw [kCells_size, LLF.out]; kernel_rfl) ?_) | (refine wpList_store_cells rfl 31 _ _ rfl wr.heap.size (kCells .i16 left) (kCells .i16 zeros44) rfl rfl _ 44 (N4.out ()) (by kernel_rfl) (by rw [kCells_size, LLF.out]) rfl (kCells_one _ _) ?_; generalize hW : World.setRow _ _ (kCells .i16 left) = W5; have B5 : W5.heap[wr.heap.size]? = some (.cells (kCells .i16 left) 31 (0, 0)) := (by rw [← hW]; exact heap_row_set (N4.out ())); have G5 : Gr wr W5 := (by rw [← hW]; exact ((Gr.refl wr).alloc _).setRow (Nat.le_refl _) _); have c5 := cell_ints B5 (i := kn) (by rw [LLF.out]; omega); have f5 : W5.frozen? ⟨wr.heap.size, kn, none⟩ = false := frozen_of_row _ _ _ _ _ B5; have c6 := G5.cell CMr; replace B5 := hid B5; replace G5 := hid G5; rw [← YV.out] at c5; clear hW))
        generalize hW6 : World.setCell W5 _ _ = W6
        have B6 : Hid (W6.heap[wr.heap.size]? = some (.cells (kCells .i16 (less left (kn))) 31 (0, 0))) := hid (by rw [← hW6, YV.out]; exact heap_less B5.out)
        have G6 : Hid (Gr wr W6) := hid (by rw [← hW6]; exact G5.out.setCell (by exact Nat.le_refl _) _)
        have LL6 := hid (HLS.out (kn))
        clear hW6 B5 G5 c5 f5 c6
        have RQ := hid (hR.out.gr G6.out)
        have HHr := hid ((HHA.out.grb hR.out.grow VNE.out).gr G6.out)
        have HMr := hid ((HMA.out.grb hR.out.grow VLO.out).gr G6.out)
        have ZLT : Hid (wr.heap.size < W6.heap.size) := hid (lt_of_heap B6.out)
        have ZNE : Hid (some wr.heap.size ≠ u0.ownBlock) := hid (fun e => by have := hR.out.own.top _ e.symm; omega)
        have HIX := hid (fun (g2 c2 : Nat) (V : World) (g : Gr W6 V) (hs : SliceOf .i8 V (some ⟨g2, 0, none⟩) (h ++ [(kn : Int)])) (hg : W6.heap.size ≤ g2) => HST.out ((kn : Int)) (.inr ⟨by omega, by omega⟩) (kn) (by omega) Y0.out wr V u0 D vs2 (by have := hDL.out; have := HP1.out; omega) hR.out (G6.out.trans g) g2 c2 hs (Nat.le_trans G6.out.size hg))
        have HL9 := HPL.out (less left (kn)) (h ++ [(kn : Int)])
        generalize hR1 : lkF m f (less left (kn)) (h ++ [(kn : Int)]) = R1 at *
        generalize less left (kn) = lq at *
        obtain ⟨zq, hzq⟩ : ∃ zq, zq = wr.heap.size := ⟨_, rfl⟩
        rw [← hzq] at B6 ZLT ZNE ⊢
        clear hR1
        have CMQ := hid (fun V (hV : W6.grownBy V u0.ownBlock) => HCM.out V (HMr.out.grb hV VLQ.out))
        refine wp_region_held_drew (S := fun V => W6.grownBy V u0.ownBlock) (by kernel_rfl) (gr_grb ((Gr.refl W6).drew) _) (fun hH => ?_)
        have HH := hid hH
        clear hH
        have GX := hid ((Gr.refl W6).drew)
        refine wpAnyH_take (i := 0) (v := u0) rfl (by kernel_rfl) (by kernel_rfl) (by kernel_rfl) (fun _ _ _ h => h) (Or.inl ⟨by rfl, fun _ _ => by first | rfl | (go_simp; done) | (go_simp; rfl) | (go_simp; intro h; exfalso; omega)⟩) HH.out ?_
        try simp only [Act.put, List.getElem_toArray, List.getElem_cons_zero, List.setIfInBounds_toArray, List.set_cons_zero, List.set_cons_succ]
        refine wpAnyH_take (i := 1) (v := .agg (kCells .i16 lq)) rfl (by kernel_rfl) (by kernel_rfl) (by kernel_rfl) (fun _ _ _ h => h) (yields_struct rfl 31 (.tmp 14) rfl zq rfl 31 _ _ (fun V hV => (World.grownBy.block hV zq ZLT.out ZNE.out).trans B6.out) Try.underlying31 rfl (by rw [kCells_size, LL6.out]; kernel_rfl)) HH.out ?_
        try simp only [Act.put, List.getElem_toArray, List.getElem_cons_zero, List.getElem_cons_succ, List.setIfInBounds_toArray, List.set_cons_zero, List.set_cons_succ]
        refine wpAnyH_take (i := 2) (v := .slice (some ⟨bm, om, none⟩) n cm) rfl (by kernel_rfl) (by kernel_rfl) (by kernel_rfl) (fun _ _ _ h => h) (Or.inl ⟨by rfl, fun _ _ => by first | rfl | (go_simp; done) | (go_simp; rfl) | (go_simp; intro h; exfalso; omega)⟩) HH.out ?_
        try simp only [Act.put, List.getElem_toArray, List.getElem_cons_zero, List.getElem_cons_succ, List.setIfInBounds_toArray, List.set_cons_zero, List.set_cons_succ]
        refine wpAnyH_take (i := 4) (v := .slice (some ⟨bh, oh, none⟩) k ch) rfl (by kernel_rfl) (by kernel_rfl) (by kernel_rfl) (fun _ _ _ h => h) (Or.inl ⟨by rfl, fun _ _ => by first | rfl | (go_simp; done) | (go_simp; rfl) | (go_simp; intro h; exfalso; omega)⟩) HH.out ?_
        try simp only [Act.put, List.getElem_toArray, List.getElem_cons_zero, List.getElem_cons_succ, List.setIfInBounds_toArray, List.set_cons_zero, List.set_cons_succ]
        refine wpAnyH_take (i := 6) (v := .slice (some ⟨bm, om, none⟩) n cm) rfl (by kernel_rfl) (by kernel_rfl) (by kernel_rfl) (fun _ _ _ h => h) (Or.inl ⟨by rfl, fun _ _ => by first | rfl | (go_simp; done) | (go_simp; rfl) | (go_simp; intro h; exfalso; omega)⟩) HH.out ?_
        try simp only [Act.put, List.getElem_toArray, List.getElem_cons_zero, List.getElem_cons_succ, List.setIfInBounds_toArray, List.set_cons_zero, List.set_cons_succ]
        refine wpAnyH_take (i := 7) (v := .int .i64 (k : Int)) rfl (by kernel_rfl) (by kernel_rfl) (by kernel_rfl) (fun _ _ _ h => h) (Or.inl ⟨by rfl, fun _ _ => by first | rfl | (go_simp; done) | (go_simp; rfl) | (go_simp; intro h; exfalso; omega)⟩) HH.out ?_
        try simp only [Act.put, List.getElem_toArray, List.getElem_cons_zero, List.getElem_cons_succ, List.setIfInBounds_toArray, List.set_cons_zero, List.set_cons_succ]
        refine wpAnyH_take (i := 8) (v := .pointer (some ⟨bm, om + k, none⟩)) rfl (by kernel_rfl) (by kernel_rfl) (by kernel_rfl) (fun _ _ _ h => h) (Or.inl ⟨by rfl, fun _ _ => by first | rfl | (go_simp; done) | (go_simp; rfl) | (go_simp; intro h; exfalso; omega)⟩) HH.out ?_
        try simp only [Act.put, List.getElem_toArray, List.getElem_cons_zero, List.getElem_cons_succ, List.setIfInBounds_toArray, List.set_cons_zero, List.set_cons_succ]
        refine wpAnyH_take (i := 9) (v := .int .i8 (kn : Int)) rfl (by kernel_rfl) (by kernel_rfl) (by kernel_rfl) (fun _ _ _ h => h) (Or.inl ⟨by rfl, fun V hV => by have hc := CMQ.out V hV; first | (go_simp; done) | (go_simp; rfl)⟩) HH.out ?_
        try simp only [Act.put, List.getElem_toArray, List.getElem_cons_zero, List.getElem_cons_succ, List.setIfInBounds_toArray, List.set_cons_zero, List.set_cons_succ]
        refine wpAnyH_take (i := 12) (v := .int .i64 (st : Int)) rfl (by kernel_rfl) (by kernel_rfl) (by kernel_rfl) (fun _ _ _ h => h) (Or.inl ⟨by rfl, fun _ _ => by first | rfl | (go_simp; done) | (go_simp; rfl) | (go_simp; intro h; exfalso; omega)⟩) HH.out ?_
        try simp only [Act.put, List.getElem_toArray, List.getElem_cons_zero, List.getElem_cons_succ, List.setIfInBounds_toArray, List.set_cons_zero, List.set_cons_succ]
        refine wpAnyH_ready (rs := [3, 10]) (by kernel_rfl) (by simp) (AllReadyH.cons rfl (fun KK hKK => ?_) (AllReadyH.cons rfl (fun KK hKK => ?_) AllReadyH.nil))
        · rw [if_pos (by rfl)]
          go_simp
          have GN := hid (GX.out.alloc (.cells #[] 59))
          refine hKK.out _ _ (gr_grb GN.out _) (fun hH => ?_)
          clear HH hKK KK
          have HH := hid hH
          clear hH
          clear GX
          have GX := hid GN.out
          clear GN
          refine wpAnyH_ready (rs := [5, 10]) (by kernel_rfl) (by simp) (AllReadyH.cons rfl (fun KK hKK => ?_) (AllReadyH.cons rfl (fun KK hKK => ?_) AllReadyH.nil))
          · rw [if_pos (by rfl)]
            have ROW0 := hid (show World.ownsRow (W6.drew.alloc (.cells #[] 59)) W6.heap.size 59 1 (.slice (some ⟨W6.heap.size, 0, none⟩) 0 0) 0 [] from ((Own.new (k := .i8) (e := 59) (W6.drew) [] (by simp)).row))
            refine wp_append_own _ _ _ 28 rfl W6.heap.size 59 i0 (.int .i8 0) 1 1 Try.underlying28 hi hz0 hz1 hz2 rfl (by decide) _ _ _ rfl ROW0.out ⟨bh, oh, none⟩ k ch (h.map (Value.int .i8)) rfl (by rw [List.length_map, Nat.mul_one]; exact HK.out.symm) (news_of_slice (HHr.out.gr GX.out)) (by simp [Value.oneCell']) (by unfold maxLen; simp; omega) (by simp; omega) (by first | exact GX.out.size | (have := GX.out.size; omega)) ?_
            intro v1 w1 hown hgrow _
            have OV := hid (Own.ofRow (k := .i8) (xs := h) hown (by simp) (by have := HK.out; omega))
            have GN := hid (GX.out.by_ hgrow (fun b e => (ROW0.out.lt b e).1))
            have HG1 := hid hgrow
            clear hown hgrow
            obtain ⟨av, cv, hv1'⟩ := OV.out.shape
            rw [← HK.out] at hv1'
            subst hv1'
            refine hKK.out _ _ (gr_grb GN.out _) (fun hH => ?_)
            clear HH hKK KK
            have HH := hid hH
            clear hH
            clear GX
            have GX := hid GN.out
            clear GN
            refine wpAnyH_ready (rs := [10]) (by kernel_rfl) (by simp) (AllReadyH.cons rfl (fun KK hKK => ?_) AllReadyH.nil)
            rw [if_pos (by rfl)]
            go_simp
            have GN := hid (GX.out.alloc (.cells #[.int .i8 ((kn : Int))] 59))
            refine hKK.out _ _ (gr_grb GN.out _) (fun hH => ?_)
            clear HH hKK KK
            have HH := hid hH
            clear hH
            clear GX
            have GX := hid GN.out
            clear GN
            refine wpAnyH_ready (rs := [11]) (by kernel_rfl) (by simp) (AllReadyH.cons rfl (fun KK hKK => ?_) AllReadyH.nil)
            rw [if_pos (by rfl)]
            have ROW1 := hid OV.out.row
            rw [← HK.out] at ROW1
            refine wp_append_own _ _ _ 28 rfl W6.heap.size 59 i0 (.int .i8 0) 1 1 Try.underlying28 hi hz0 hz1 hz2 rfl (by decide) _ _ _ rfl (ROW1.out.alloc _) ⟨w1.heap.size, 0, none⟩ 1 1 [.int .i8 ((kn : Int))] rfl rfl (cell_l1 _ _ _) (by simp [Value.oneCell']) (by unfold maxLen; simp; omega) (by simp; omega) (by first | exact GX.out.size | (have := GX.out.size; omega)) ?_
            intro v2 w2 hown2 hgrow2 _
            obtain ⟨g2, c2, rfl, hg2, _⟩ := hown2.form (by omega)
            have OX := hid (Own.ofRow (k := .i8) (xs := h ++ [(kn : Int)]) hown2 (by simp) (by rw [HLA.out])).reads
            have GN := hid (GX.out.by_ hgrow2 (fun b e => (ROW1.out.lt b e).1))
            have HG2 := hid hg2
            clear hown2 hgrow2 hg2
            refine hKK.out _ _ (gr_grb GN.out _) (fun hH => ?_)
            clear HH hKK KK
            have HH := hid hH
            clear hH
            clear GX
            have GX := hid GN.out
            clear GN
            refine wpAnyH_ready (rs := [13]) (by kernel_rfl) (by simp) (AllReadyH.cons rfl (fun KK hKK => ?_) AllReadyH.nil)
            rw [if_pos (by rfl)]
            go_simp
            (with_reducible refine (HIX.out g2 c2 _ GX.out OX.out HG2.out).mono ?_)
            rintro e w4 ⟨v4, vs4, rfl, ow4, gb4, ob4⟩
            have GB4 := hid (grb (gr_grb GX.out u0.ownBlock) gb4 (fun k e => .inl e))
            have OW4 := hid ow4
            have OB4 := hid (show OneB u0 v4 W6.heap.size from fun b e => (ob4 b e).elim .inl (fun h => .inr (Nat.le_trans GX.out.size h)))
            clear ow4 gb4 ob4
            dsimp only
            refine hKK.out _ _ GB4.out (fun hH => ?_)
            clear HH hKK KK
            have HH := hid hH
            clear hH
            refine wpAnyH_take (i := 14) (v := v4) rfl (by kernel_rfl) (by kernel_rfl) (by kernel_rfl) (fun _ _ _ h => h) (Or.inl ⟨by rfl, fun _ _ => by first | rfl | (go_simp; done) | (go_simp; rfl) | (go_simp; intro h; exfalso; omega)⟩) HH.out ?_
            try simp only [Act.put, List.getElem_toArray, List.getElem_cons_zero, List.getElem_cons_succ, List.setIfInBounds_toArray, List.set_cons_zero]
            refine wpAnyH_done (by kernel_rfl) ?_ _
            have RN := hid (RQ.out.more ZLTA.out ZNEO.out OW4.out GB4.out OB4.out)
            have HG0 := hid (show D ++ R1 = G by rw [← HT.out]; exact HD0.out)
            go_wp2_with fail
            go_ret
            exact ⟨v4, vs4, rfl, by have := RN.out.own; rw [HG0.out] at this; exact this, grb (gr_grb GW.out _) RN.out.grow (fun k e => .inl e), fun b e => (RN.out.one b e).elim .inl (fun h => .inr (Nat.le_trans GW.out.size h))⟩
          · rw [if_pos (by rfl)]
            go_simp
            have GN := hid (GX.out.alloc (.cells #[.int .i8 ((kn : Int))] 59))
            refine hKK.out _ _ (gr_grb GN.out _) (fun hH => ?_)
            clear HH hKK KK
            have HH := hid hH
            clear hH
            clear GX
            have GX := hid GN.out
            clear GN
            refine wpAnyH_ready (rs := [5]) (by kernel_rfl) (by simp) (AllReadyH.cons rfl (fun KK hKK => ?_) AllReadyH.nil)
            rw [if_pos (by rfl)]
            have ROW0 := hid ((show World.ownsRow (W6.drew.alloc (.cells #[] 59)) W6.heap.size 59 1 (.slice (some ⟨W6.heap.size, 0, none⟩) 0 0) 0 [] from ((Own.new (k := .i8) (e := 59) (W6.drew) [] (by simp)).row)).alloc (.cells #[.int .i8 ((kn : Int))] 59))
            refine wp_append_own _ _ _ 28 rfl W6.heap.size 59 i0 (.int .i8 0) 1 1 Try.underlying28 hi hz0 hz1 hz2 rfl (by decide) _ _ _ rfl ROW0.out ⟨bh, oh, none⟩ k ch (h.map (Value.int .i8)) rfl (by rw [List.length_map, Nat.mul_one]; exact HK.out.symm) (news_of_slice (HHr.out.gr GX.out)) (by simp [Value.oneCell']) (by unfold maxLen; simp; omega) (by simp; omega) (by first | exact GX.out.size | (have := GX.out.size; omega)) ?_
            intro v1 w1 hown hgrow _
            have OV := hid (Own.ofRow (k := .i8) (xs := h) hown (by simp) (by have := HK.out; omega))
            have GN := hid (GX.out.by_ hgrow (fun b e => (ROW0.out.lt b e).1))
            have HG1 := hid hgrow
            clear hown hgrow
            obtain ⟨av, cv, hv1'⟩ := OV.out.shape
            rw [← HK.out] at hv1'
            subst hv1'
            refine hKK.out _ _ (gr_grb GN.out _) (fun hH => ?_)
            clear HH hKK KK
            have HH := hid hH
            clear hH
            clear GX
            have GX := hid GN.out
            clear GN
            refine wpAnyH_ready (rs := [11]) (by kernel_rfl) (by simp) (AllReadyH.cons rfl (fun KK hKK => ?_) AllReadyH.nil)
            rw [if_pos (by rfl)]
            have ROW1 := hid OV.out.row
            rw [← HK.out] at ROW1
            refine wp_append_own _ _ _ 28 rfl W6.heap.size 59 i0 (.int .i8 0) 1 1 Try.underlying28 hi hz0 hz1 hz2 rfl (by decide) _ _ _ rfl (ROW1.out) ⟨(W6.heap.size + 1), 0, none⟩ 1 1 [.int .i8 ((kn : Int))] rfl rfl (World.news_of_block (cs := #[.int .i8 ((kn : Int))]) (t := 59) (fr := (0, 0)) ((HG1.out.block (W6.heap.size + 1) (by simp) (fun e => by have h9 : W6.heap.size + 1 = W6.heap.size := Option.some.inj e; omega)).trans (heap_new (by simp)))) (by simp [Value.oneCell']) (by unfold maxLen; simp; omega) (by simp; omega) (by first | exact GX.out.size | (have := GX.out.size; omega)) ?_
            intro v2 w2 hown2 hgrow2 _
            obtain ⟨g2, c2, rfl, hg2, _⟩ := hown2.form (by omega)
            have OX := hid (Own.ofRow (k := .i8) (xs := h ++ [(kn : Int)]) hown2 (by simp) (by rw [HLA.out])).reads
            have GN := hid (GX.out.by_ hgrow2 (fun b e => (ROW1.out.lt b e).1))
            have HG2 := hid hg2
            clear hown2 hgrow2 hg2
            refine hKK.out _ _ (gr_grb GN.out _) (fun hH => ?_)
            clear HH hKK KK
            have HH := hid hH
            clear hH
            clear GX
            have GX := hid GN.out
            clear GN
            refine wpAnyH_ready (rs := [13]) (by kernel_rfl) (by simp) (AllReadyH.cons rfl (fun KK hKK => ?_) AllReadyH.nil)
            rw [if_pos (by rfl)]
            go_simp
            (with_reducible refine (HIX.out g2 c2 _ GX.out OX.out HG2.out).mono ?_)
            rintro e w4 ⟨v4, vs4, rfl, ow4, gb4, ob4⟩
            have GB4 := hid (grb (gr_grb GX.out u0.ownBlock) gb4 (fun k e => .inl e))
            have OW4 := hid ow4
            have OB4 := hid (show OneB u0 v4 W6.heap.size from fun b e => (ob4 b e).elim .inl (fun h => .inr (Nat.le_trans GX.out.size h)))
            clear ow4 gb4 ob4
            dsimp only
            refine hKK.out _ _ GB4.out (fun hH => ?_)
            clear HH hKK KK
            have HH := hid hH
            clear hH
            refine wpAnyH_take (i := 14) (v := v4) rfl (by kernel_rfl) (by kernel_rfl) (by kernel_rfl) (fun _ _ _ h => h) (Or.inl ⟨by rfl, fun _ _ => by first | rfl | (go_simp; done) | (go_simp; rfl) | (go_simp; intro h; exfalso; omega)⟩) HH.out ?_
            try simp only [Act.put, List.getElem_toArray, List.getElem_cons_zero, List.getElem_cons_succ, List.setIfInBounds_toArray, List.set_cons_zero]
            refine wpAnyH_done (by kernel_rfl) ?_ _
            have RN := hid (RQ.out.more ZLTA.out ZNEO.out OW4.out GB4.out OB4.out)
            have HG0 := hid (show D ++ R1 = G by rw [← HT.out]; exact HD0.out)
            go_wp2_with fail
            go_ret
            exact ⟨v4, vs4, rfl, by have := RN.out.own; rw [HG0.out] at this; exact this, grb (gr_grb GW.out _) RN.out.grow (fun k e => .inl e), fun b e => (RN.out.one b e).elim .inl (fun h => .inr (Nat.le_trans GW.out.size h))⟩
        · rw [if_pos (by rfl)]
          go_simp
          have GN := hid (GX.out.alloc (.cells #[.int .i8 ((kn : Int))] 59))
          refine hKK.out _ _ (gr_grb GN.out _) (fun hH => ?_)
          clear HH hKK KK
          have HH := hid hH
          clear hH
          clear GX
          have GX := hid GN.out
          clear GN
          refine wpAnyH_ready (rs := [3]) (by kernel_rfl) (by simp) (AllReadyH.cons rfl (fun KK hKK => ?_) AllReadyH.nil)
          rw [if_pos (by rfl)]
          go_simp
          have GN := hid (GX.out.alloc (.cells #[] 59))
          refine hKK.out _ _ (gr_grb GN.out _) (fun hH => ?_)
          clear HH hKK KK
          have HH := hid hH
          clear hH
          clear GX
          have GX := hid GN.out
          clear GN
          refine wpAnyH_ready (rs := [5]) (by kernel_rfl) (by simp) (AllReadyH.cons rfl (fun KK hKK => ?_) AllReadyH.nil)
          rw [if_pos (by rfl)]
          have ROW0 := hid (show World.ownsRow ((W6.drew.alloc (.cells #[.int .i8 ((kn : Int))] 59)).alloc (.cells #[] 59)) W6.heap.size 59 1 (.slice (some ⟨W6.heap.size + 1, 0, none⟩) 0 0) 0 [] by have := ((Own.new (k := .i8) (e := 59) (W6.drew.alloc (.cells #[.int .i8 ((kn : Int))] 59)) [] (by simp)).widen (show W6.heap.size ≤ _ by rw [World.size_alloc]; exact Nat.le_succ W6.heap.size) (Nat.le_refl _)).row; rw [World.size_alloc] at this; exact this)
          refine wp_append_own _ _ _ 28 rfl W6.heap.size 59 i0 (.int .i8 0) 1 1 Try.underlying28 hi hz0 hz1 hz2 rfl (by decide) _ _ _ rfl ROW0.out ⟨bh, oh, none⟩ k ch (h.map (Value.int .i8)) rfl (by rw [List.length_map, Nat.mul_one]; exact HK.out.symm) (news_of_slice (HHr.out.gr GX.out)) (by simp [Value.oneCell']) (by unfold maxLen; simp; omega) (by simp; omega) (by first | exact GX.out.size | (have := GX.out.size; omega)) ?_
          intro v1 w1 hown hgrow _
          have OV := hid (Own.ofRow (k := .i8) (xs := h) hown (by simp) (by have := HK.out; omega))
          have GN := hid (GX.out.by_ hgrow (fun b e => (ROW0.out.lt b e).1))
          have HG1 := hid hgrow
          clear hown hgrow
          obtain ⟨av, cv, hv1'⟩ := OV.out.shape
          rw [← HK.out] at hv1'
          subst hv1'
          refine hKK.out _ _ (gr_grb GN.out _) (fun hH => ?_)
          clear HH hKK KK
          have HH := hid hH
          clear hH
          clear GX
          have GX := hid GN.out
          clear GN
          refine wpAnyH_ready (rs := [11]) (by kernel_rfl) (by simp) (AllReadyH.cons rfl (fun KK hKK => ?_) AllReadyH.nil)
          rw [if_pos (by rfl)]
          have ROW1 := hid OV.out.row
          rw [← HK.out] at ROW1
          refine wp_append_own _ _ _ 28 rfl W6.heap.size 59 i0 (.int .i8 0) 1 1 Try.underlying28 hi hz0 hz1 hz2 rfl (by decide) _ _ _ rfl (ROW1.out) ⟨W6.heap.size, 0, none⟩ 1 1 [.int .i8 ((kn : Int))] rfl rfl (World.news_of_block (cs := #[.int .i8 ((kn : Int))]) (t := 59) (fr := (0, 0)) ((HG1.out.block W6.heap.size (by simp <;> omega) (fun e => by have h9 : W6.heap.size = W6.heap.size + 1 := Option.some.inj e; omega)).trans (heap_kept (heap_new rfl)))) (by simp [Value.oneCell']) (by unfold maxLen; simp; omega) (by simp; omega) (by first | exact GX.out.size | (have := GX.out.size; omega)) ?_
          intro v2 w2 hown2 hgrow2 _
          obtain ⟨g2, c2, rfl, hg2, _⟩ := hown2.form (by omega)
          have OX := hid (Own.ofRow (k := .i8) (xs := h ++ [(kn : Int)]) hown2 (by simp) (by rw [HLA.out])).reads
          have GN := hid (GX.out.by_ hgrow2 (fun b e => (ROW1.out.lt b e).1))
          have HG2 := hid hg2
          clear hown2 hgrow2 hg2
          refine hKK.out _ _ (gr_grb GN.out _) (fun hH => ?_)
          clear HH hKK KK
          have HH := hid hH
          clear hH
          clear GX
          have GX := hid GN.out
          clear GN
          refine wpAnyH_ready (rs := [13]) (by kernel_rfl) (by simp) (AllReadyH.cons rfl (fun KK hKK => ?_) AllReadyH.nil)
          rw [if_pos (by rfl)]
          go_simp
          (with_reducible refine (HIX.out g2 c2 _ GX.out OX.out HG2.out).mono ?_)
          rintro e w4 ⟨v4, vs4, rfl, ow4, gb4, ob4⟩
          have GB4 := hid (grb (gr_grb GX.out u0.ownBlock) gb4 (fun k e => .inl e))
          have OW4 := hid ow4
          have OB4 := hid (show OneB u0 v4 W6.heap.size from fun b e => (ob4 b e).elim .inl (fun h => .inr (Nat.le_trans GX.out.size h)))
          clear ow4 gb4 ob4
          dsimp only
          refine hKK.out _ _ GB4.out (fun hH => ?_)
          clear HH hKK KK
          have HH := hid hH
          clear hH
          refine wpAnyH_take (i := 14) (v := v4) rfl (by kernel_rfl) (by kernel_rfl) (by kernel_rfl) (fun _ _ _ h => h) (Or.inl ⟨by rfl, fun _ _ => by first | rfl | (go_simp; done) | (go_simp; rfl) | (go_simp; intro h; exfalso; omega)⟩) HH.out ?_
          try simp only [Act.put, List.getElem_toArray, List.getElem_cons_zero, List.getElem_cons_succ, List.setIfInBounds_toArray, List.set_cons_zero]
          refine wpAnyH_done (by kernel_rfl) ?_ _
          have RN := hid (RQ.out.more ZLTA.out ZNEO.out OW4.out GB4.out OB4.out)
          have HG0 := hid (show D ++ R1 = G by rw [← HT.out]; exact HD0.out)
          go_wp2_with fail
          go_ret
          exact ⟨v4, vs4, rfl, by have := RN.out.own; rw [HG0.out] at this; exact this, grb (gr_grb GW.out _) RN.out.grow (fun k e => .inl e), fun b e => (RN.out.one b e).elim .inl (fun h => .inr (Nat.le_trans GW.out.size h))⟩
      · have t1 : decide ((0 : Int) < lv) = false := decide_eq_false h0
        have HG0 := hid (show D = G by have := HD0.out; rw [HZ1.out (by rw [← hlv]; omega), List.append_nil] at this; exact this)
        clear hlv h0
        go_wp2_with fail
        go_ret
        exact ⟨u0, vs2, rfl, by have := hR.out.own; rw [HG0.out] at this; exact this, grb (gr_grb GW.out _) hR.out.grow (fun k e => .inl e), fun b e => (hR.out.one b e).elim .inl (fun h => .inr (Nat.le_trans GW.out.size h))⟩
end Go.Proofs.Ytdighhkgopopeaa
