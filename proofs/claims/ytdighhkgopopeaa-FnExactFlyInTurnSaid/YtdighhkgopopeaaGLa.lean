/- HoistFrom: the model's function, if the search does what it should (LkAll). -/
import Derived.Test.YtdighhkgopopeaaLkB
import Derived.Test.YtdighhkgopopeaaGLk
namespace Go.Proofs.Ytdighhkgopopeaa
set_option linter.unusedVariables false
open Go.RowKit
/-- The search, whatever the meaning and the locker. -/
def LkAll : Prop := ∀ (lo bm om cm n : Nat) (m : List Int), n = m.length → 1 ≤ n → n ≤ 8 → (∀ i, i < n → m.getD i 0 = -10 ∨ (0 ≤ m.getD i 0 ∧ m.getD i 0 ≤ 39)) → LkOk lo bm om cm n m n
set_option maxRecDepth 100000 in
set_option maxHeartbeats 1000000 in
theorem l04All_any (HA : LkAll) (bx : Nat) (t : TypeId) (xs : List Int) (lx : xs.length = 44) (hv : lockB xs = true) (bm om n cm : Nat) (m : List Int) (hn : n = m.length) (hp : plainH m = true) (w : World) (hb : w.heap[bx]? = some (.cells (kCells .i16 xs) t (0, 0))) (hm : SliceOf .i8 w (some ⟨bm, om, none⟩) m) :
    Calls Try.prog 25 #[.pointer (some ⟨bx, 0, none⟩), .slice (some ⟨bm, om, none⟩) n cm] w fun e w' => ∃ v vs, e = .returned v ∧ OwnH w' w.heap.size w'.heap.size v vs (fromL xs m) ∧ Gr w w' := by
  obtain ⟨h1, h8⟩ := validH_len (plainH_valid hp)
  obtain ⟨W2, hW2⟩ : ∃ W2, W2 = (w.alloc (.cells #[] 28)).alloc (.cells #[] 59) := ⟨_, rfl⟩
  have G2 : Hid (Gr w W2) := hid (by rw [hW2]; exact ((Gr.refl w).alloc _).alloc _)
  have hlt : bm < w.heap.size := by
    obtain ⟨b', o', e, hc⟩ := hm 0 (by omega)
    simp only [Option.some.injEq, Addr.mk.injEq, and_true] at e
    obtain ⟨rfl, rfl⟩ := e
    have := World.block_lt_of_cell? w _ hc
    exact this
  have HL := hid (HA w.heap.size bm om cm n m hn (by omega) (by omega) (by rw [hn]; exact plain_nums hp) [] xs (by simp) NumN.nil lx (fun q => lockB_get hv q) (some ⟨w.heap.size, 0, none⟩) 0 0 [] [] (w.heap.size + 1) 0 0 0 W2 rfl G2.out.size (by
      have : 5 ^ n ≤ 5 ^ 8 := Nat.pow_le_pow_right (by omega) (by omega)
      have e8 : (5 : Nat) ^ 8 = 390625 := by decide
      simp only [List.length_nil]
      omega)
    (by rw [hW2]; exact ((OwnH.made w 0 (by omega)).gr ((Gr.refl _).alloc _)).widen (by simp)) (hm.gr G2.out) hlt (fun i hi => by simp at hi) (fun e => by
      have h9 : w.heap.size = w.heap.size + 1 := Option.some.inj e
      omega))
  have HB := hid hb
  have LX := hid lx
  have HF := hid (show [] ++ lkF m n xs [] = fromL xs m by rw [hn]; rfl)
  have HW := hid hW2
  clear hb lx hm hv hp hn h1 h8 hW2
  go_enter Try.func25, Try.ntmps25
  go_wp2_with (refine wpList_load_struct rfl 31 _ rfl bx rfl _ (kCells .i16 xs) _ (heap_kept HB.out) Try.underlying31 rfl (by rw [kCells_size, LX.out]; kernel_rfl) ?_)
  rw [← HW.out]
  refine HL.out.mono ?_
  rintro e w3 ⟨v, vs, rfl, ow, gb, ob⟩
  rw [HF.out] at ow
  have OW := hid ow
  have G3 := hid (G2.out.by_ gb (fun k e => by
    have h9 : w.heap.size = k := Option.some.inj e
    omega))
  clear ow gb ob
  go_wp2_with fail
  go_ret
  exact ⟨v, vs, rfl, OW.out, G3.out⟩
set_option maxHeartbeats 2000000 in
set_option maxRecDepth 100000 in
theorem spec_HoistFrom_cap (HA : LkAll) (xs : List Int) (lx : xs.length = 44) (fx : Fits .i16 xs) (a : Option Addr) (n cap : Nat) (m : List Int) (hn : n = m.length) (hm : n ≤ 1048576) (hf : Fits .i8 m) (w : World) (hs : SliceOf .i8 w a m) :
    Calls Try.prog 5 #[.agg (kCells .i16 xs), .slice a n cap] w (RetOwn .i8 59 (withCode (hfC xs m)) (hfL xs m) w) := by
  obtain ⟨W0, hW0⟩ : ∃ W0, w.alloc (.cells (kCells .i16 xs) 31) = W0 := ⟨_, rfl⟩
  have b0 : Hid (W0.heap[w.heap.size]? = some (.cells (kCells .i16 xs) 31 (0, 0))) := hid (by rw [← hW0]; exact heap_new rfl)
  have gr : Hid (Gr w W0) := hid (by rw [← hW0]; exact (Gr.refl _).alloc _)
  have HK := hid (l04Ok_any w.heap.size _ xs lx fx W0 b0.out)
  have HP := hid (fun V (g : Gr W0 V) => l02Plain_any a n cap m hn hm hf V ((hs.gr gr.out).gr g))
  have HL := hid (fun (h1 : lockB xs = true) (h2 : plainH m = true) V (g : Gr W0 V) => show ∃ bm om, a = some ⟨bm, om, none⟩ ∧ Calls Try.prog 25 #[.pointer (some ⟨w.heap.size, 0, none⟩), .slice (some ⟨bm, om, none⟩) n cap] V fun e w' => ∃ v vs, e = .returned v ∧ OwnH w' V.heap.size w'.heap.size v vs (fromL xs m) ∧ Gr V w' by
    obtain ⟨bm, om, rfl⟩ := slice_some (validH_len (plainH_valid h2)).1 hs
    exact ⟨bm, om, rfl, l04All_any HA w.heap.size _ xs lx h1 bm om n cap m hn h2 V (g.heap b0.out) ((hs.gr gr.out).gr g)⟩)
  clear lx fx hn hm hf hs HA
  cases h1 : lockB xs with
  | false =>
    obtain ⟨eC, eL⟩ := hf_no (xs := xs) (m := m) (by rw [h1]; rfl)
    rw [eC, eL]
    rw [h1] at HK
    clear eC eL h1 HL HP
    go_enter Try.func5, Try.ntmps5
    go_wp2_with fail
    refine HK.out.mono ?_
    rintro e w1 ⟨rfl, rfl⟩
    go_wp2_with fail
    go_ret2
    exact ret_empty gr.out _
  | true =>
    rw [h1] at HK
    cases h2 : plainH m with
    | false =>
      obtain ⟨eC, eL⟩ := hf_no (xs := xs) (m := m) (by rw [h1, h2]; rfl)
      rw [eC, eL]
      have HP0 := hid (HP.out W0 (Gr.refl _))
      rw [h2] at HP0
      clear eC eL h1 h2 HL HP
      go_enter Try.func5, Try.ntmps5
      go_wp2_with fail
      refine HK.out.mono ?_
      rintro e w1 ⟨rfl, rfl⟩
      go_wp2_with fail
      refine HP0.out.mono ?_
      rintro e w1 ⟨rfl, g1⟩
      have G1 := hid (gr.out.trans g1)
      clear g1
      go_wp2_with fail
      go_ret2
      exact ret_empty G1.out _
    | true =>
      obtain ⟨eC, eL⟩ := hf_yes (xs := xs) (m := m) (by rw [h1, h2]; rfl)
      rw [eC, eL]
      have HP0 := hid (HP.out W0 (Gr.refl _))
      rw [h2] at HP0
      have HL0 := hid (HL.out h1 h2)
      clear eC eL h1 h2 HL HP
      generalize fromL xs m = R at *
      go_enter Try.func5, Try.ntmps5
      go_wp2_with fail
      refine HK.out.mono ?_
      rintro e w1 ⟨rfl, rfl⟩
      go_wp2_with fail
      refine HP0.out.mono ?_
      rintro e w1 ⟨rfl, g1⟩
      obtain ⟨bm, om, rfl, hall⟩ := HL0.out w1 g1
      have HALL := hid hall
      have G1 := hid (gr.out.trans g1)
      clear g1 HL0 hall
      go_wp2_with fail
      refine HALL.out.mono ?_
      rintro e w2 ⟨v, vs, rfl, ow, g2⟩
      obtain ⟨av, nv, cv, rfl⟩ : ∃ av nv cv, v = .slice av nv cv := by
        rcases ow.row.2 with ⟨h3, _⟩ | ⟨g', cap', cur, h3, _⟩
        · exact ⟨_, _, _, h3⟩
        · exact ⟨_, _, _, h3⟩
      have hnl := ow.len
      have G2 := hid (G1.out.trans g2)
      cases R with
      | nil =>
        have hnv : nv = 0 := hnl
        subst hnv
        clear ow g2 hnl
        go_wp2_with fail
        go_ret2
        exact ret_empty G2.out _
      | cons x R =>
        obtain ⟨g, a', c', rfl, hc, -, ox⟩ := ow.at_ (i := 0) (by simp)
        have OX : Hid (Own .i8 59 w2 w.heap.size w2.heap.size (.slice a' x.length c') x) := hid ((show Own .i8 59 w2 w1.heap.size w2.heap.size (.slice a' x.length c') x from ox).widen G1.out.size (Nat.le_refl _))
        have hc0 : w2.cell? ⟨g, 0, none⟩ = some (.slice a' x.length c') := hc
        have hnv : 0 < nv := by rw [hnl]; simp
        have hnz : ((nv : Int) == 0) = false := beq_eq_false_iff_ne.2 (by omega)
        have hnp : (0 : Int) < (nv : Int) := by omega
        clear ow g2 hc ox hnl
        generalize x.length = q at *
        go_wp2_with fail
        go_ret2
        exact ⟨_, rfl, OX.out, G2.out⟩
end Go.Proofs.Ytdighhkgopopeaa

/- The model's search for hoists out of a locker: all of it. -/
namespace Go.Proofs.Ytdighhkgopopeaa
set_option linter.unusedVariables false
open Go.RowKit
theorem lk04_all : LkAll := by
  intro lo bm om cm n m hn h1 hn8 hnum
  suffices H : ∀ f, f ≤ n → LkOk lo bm om cm n m f from H n (Nat.le_refl n)
  intro f
  induction f with
  | zero => intro _; exact lk04_zero lo bm om cm n m h1 hn8
  | succ f ih =>
    intro hf h left hl hN hll hlb ao no co vs xss bh oh ch st w hst hlo hc ho hm hbm hh hne
    by_cases hb : m.getD h.length 0 = -10
    · exact lk04_brk lo bm om cm n m f hn hn8 (ih (by omega)) h left hl hN hll hlb hb ao no co vs xss bh oh ch st w hlo hc ho hm hbm hh hne
    · subst hst
      exact lk04_kind lo bm om cm n m f hn hn8 hnum (ih (by omega)) h left hl hN hll hlb hb ao no co vs xss bh oh ch w hlo hc ho hm hbm hh hne
end Go.Proofs.Ytdighhkgopopeaa
