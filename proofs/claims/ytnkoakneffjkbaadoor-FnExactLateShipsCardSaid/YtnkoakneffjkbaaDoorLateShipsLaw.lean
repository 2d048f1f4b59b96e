/- LateShips: the law's walk. -/
import Derived.Test.YtnkoakneffjkbaaDoorGLt
import Derived.Test.YtnkoakneffjkbaaDoorGLg
namespace Go.Proofs.YtnkoakneffjkbaaDoor
set_option linter.unusedVariables false
open Go.RowKit
/-- A list of logs that has been made and holds this. -/
def LMt (w : World) (g hi : Nat) (ess : List (List En)) : Prop := ∃ L, esOf L = ess ∧ LogsAt w (some ⟨g, 0, none⟩) L ∧ MkAt w g hi L
theorem LMt.gr {W w : World} {g hi : Nat} {ess : List (List En)} (h : LMt W g hi ess) (q : Gr W w) : LMt w g hi ess := by
  obtain ⟨L, h1, h2, h3⟩ := h
  exact ⟨L, h1, h2.gr q, h3.gr q⟩
theorem LMt.lt {w : World} {g hi : Nat} {ess : List (List En)} (h : LMt w g hi ess) : g < w.heap.size := by
  obtain ⟨L, h1, h2, h3⟩ := h
  exact lt_of_heap h3.row
theorem lt_same {ls ms : List Lg} (h : esOf ls = esOf ms) (s wi : Int) : ltC ls s wi = ltC ms s wi ∧ ltL ls s wi = ltL ms s wi := by
  obtain ⟨h1, h2, h3⟩ := sp_same h s
  have hl : ls.length = ms.length := by rw [← es_length, ← es_length, h]
  have he : ∀ i, (lgAt ls i).es = (lgAt ms i).es := fun i => by rw [lgAt_es, lgAt_es, h]
  have ht : ∀ lo k, lateTo ls s wi lo k = lateTo ms s wi lo k := by
    intro lo k
    induction k with
    | zero => rfl
    | succ k ih => rw [lateTo, lateTo, ih]; unfold lateB; rw [he]
  have hc : ltC ls s wi = ltC ms s wi := by unfold ltC; rw [h3]
  exact ⟨hc, by unfold ltL; rw [hc, h1, hl, ht]⟩
set_option maxHeartbeats 4000000 in
set_option maxRecDepth 100000 in
set_option linter.unusedVariables false in
theorem FnExactLateShips_walk (a0 : Option Addr) (cap n : Nat) (ls : List Lg) (hl : n = ls.length) (hm : n ≤ 9223372036854775807) (hsz : ∀ i, (lgAt ls i).es.length ≤ 9223372036854775807) (hf : ∀ i, EnFits (lgAt ls i).es) (s wi : Int) (w : World) (hs : LogsRaw w a0 ls) :
    Calls Tryd.prog 6 #[.slice a0 n cap, .int .i64 s, .int .i64 wi] w fun e w' => e = .returned (.bool true) ∧ Gr w w' := by
    have hlen := fun (L : List Lg) (h : esOf L = esOf ls) => show n = L.length by rw [hl, ← es_length ls, ← h, es_length]
    have hsp := fun (h : n ≤ 1048576) (hz : ∀ i, i < n → (lgAt ls i).es.length ≤ 1048576) g hi V (sa : LMt V g hi (esOf ls)) => show Calls Tryd.prog 23 #[.slice (some ⟨g, 0, none⟩) n n, .int .i64 s, .int .i64 wi] V (RetOwn .i64 2 (withCode (ltC ls s wi)) (ltL ls s wi) V) by
      obtain ⟨L, hL, s1, s2⟩ := sa
      rw [← (lt_same hL s wi).1, ← (lt_same hL s wi).2]
      exact spec_LateShips_any _ n n L (hlen L hL) h s wi V s1
    have him := fun (h : n ≤ 1048576) (hz : ∀ i, i < n → (lgAt ls i).es.length ≤ 1048576) g hi V (sa : LMt V g hi (esOf ls)) => show Calls Tryd.prog 24 #[.slice (some ⟨g, 0, none⟩) n n, .int .i64 s, .int .i64 wi] V (RetOwn .i64 2 (withCode (ltC ls s wi)) (ltL ls s wi) V) by
      obtain ⟨L, hL, s1, s2⟩ := sa
      rw [← (lt_same hL s wi).1, ← (lt_same hL s wi).2]
      exact impl_LateShips_any _ n n L (hlen L hL) h s wi V s1
    have hto := fun (h : n ≤ 1048576) (hz : ∀ i, i < n → (lgAt ls i).es.length ≤ 1048576) a0 cap V (sa : LogsRaw V a0 ls) => show Calls Tryd.prog 20 #[.slice a0 n cap] V fun e w' => e = .returned (.slice (some ⟨V.heap.size, 0, none⟩) n n) ∧ LMt w' V.heap.size w'.heap.size (esOf ls) ∧ Gr V w' from toLogS_mk a0 cap n ls hl h hz hf V sa
    have heq := fun (h : n ≤ 1048576) (hz : ∀ i, i < n → (lgAt ls i).es.length ≤ 1048576) g1 k1 g2 k2 V (sa : LMt V g1 k1 (esOf ls)) (sb : LMt V g2 k2 (esOf ls)) => show Calls Tryd.prog 22 #[.slice (some ⟨g1, 0, none⟩) n n, .slice (some ⟨g2, 0, none⟩) n n] V fun e w' => e = .returned (.bool true) ∧ Gr V w' by
      obtain ⟨L, hL, s1, -⟩ := sa
      obtain ⟨M, hM, s2, -⟩ := sb
      exact eqLogS_any _ _ n n n L M (hlen L hL) h (hL.trans hM.symm) V s1 s2
    have hmk := fun (h : n ≤ 1048576) (hz : ∀ i, i < n → (lgAt ls i).es.length ≤ 1048576) g hi V (sa : LMt V g hi (esOf ls)) => show Calls Tryd.prog 26 #[.slice (some ⟨g, 0, none⟩) n n, .int .i64 1] V fun e w' => (∃ r : Nat, e = .returned (.int .i64 r)) ∧ BetL g hi V w' by
      obtain ⟨L, hL, -, s2⟩ := sa
      exact markLogS_bet g hi n L (hlen L hL) h (fun i hi => by rw [lgAt_es, hL, ← lgAt_es]; exact hz i hi) V s2
    have HMK := hid hmk
    have hyl0 := ltL_length ls s wi
    have hylc : ∀ h : n ≤ 1048576, (ltL ls s wi).length ≤ 1048576 := fun h => by omega
    generalize ltL ls s wi = r0 at *
    generalize ltC ls s wi = r1 at *
    have hye := fun (h : n ≤ 1048576) a b ca cb => eqInt64S_own a b ca cb r0 (hylc h)
    have HYLC := hid hylc
    have HSP := hid hsp
    have HIM := hid him
    have HTO := hid hto
    have HEQ := hid heq
    have HYE := hid hye
    have S := hid hs
    have HSZ := hid (szLogS_any a0 cap n 1048576 ls hl hm (Nat.le_refl _) hsz w hs)
    clear hsp him hto heq hs hf hye hmk hsz hyl0 hylc hl hlen
    obtain ⟨m, hym⟩ : ∃ m, m = r0.length := ⟨_, rfl⟩
    rw [← hym] at HYE HYLC
    have HYM := hid hym
    clear hym
    have gr := hid (Gr.refl w)
    have S0 := S
    go_enter Tryd.func6, Tryd.ntmps6
    go_wp2_with fail
    refine HSZ.out.mono ?_
    rintro e w' ⟨r, rfl, hr, rfl⟩
    rcases hr with rfl | ⟨h0, h1, h2, h3⟩
    · go_wp2_with fail
      go_ret
      exact ⟨rfl, Gr.refl _⟩
    have hn0 : ¬ r < 0 := by omega
    have HN := hid h2
    have HZ := hid h3
    replace HSP := hid (HSP.out HN.out HZ.out)
    replace HIM := hid (HIM.out HN.out HZ.out)
    replace HTO := hid (HTO.out HN.out HZ.out)
    replace HEQ := hid (HEQ.out HN.out HZ.out)
    replace HMK := hid (HMK.out HN.out HZ.out)
    replace HYE := hid (HYE.out HN.out)
    have hyl := HYLC.out HN.out
    clear h0 h1 h2 h3 HSZ
    go_wp2_with fail
    refine (HTO.out _ _ _ S.out).mono ?_
    rintro e W1 ⟨rfl, h1, g1⟩
    replace gr := hid (gr.out.trans g1)
    replace S := hid (S.out.gr g1)
    have B1 := hid h1
    have gz1 := hid g1.size
    have lt1 := hid (show _ from h1.lt)
    clear h1 g1
    go_wp2_with fail
    refine (HSP.out _ _ _ B1.out).mono ?_
    rintro e W2 ⟨u2, rfl, o2, g2⟩
    replace gr := hid (gr.out.trans g2)
    replace S := hid (S.out.gr g2)
    obtain ⟨p2, q2, rfl⟩ := o2.shape
    have Ow := hid o2
    have gz2 := hid g2.size
    rw [← HYM.out] at Ow ⊢
    clear o2 g2
    unfold withCode
    clear B1
    have GB := hid gr.out.size
    go_wp2_with fail
    refine (HTO.out _ _ _ S.out).mono ?_
    rintro e W3 ⟨rfl, h3, g3⟩
    replace gr := hid (gr.out.trans g3)
    replace S := hid (S.out.gr g3)
    replace Ow := hid (Ow.out.gr g3)
    have Bx := hid h3
    have gz3 := hid g3.size
    have lt3 := hid (show _ from h3.lt)
    clear h3 g3
    go_wp2_with fail
    refine (HIM.out _ _ _ Bx.out).mono ?_
    rintro e W4 ⟨u4, rfl, o4, g4⟩
    replace gr := hid (gr.out.trans g4)
    replace S := hid (S.out.gr g4)
    replace Ow := hid (Ow.out.gr g4)
    replace Bx := hid (Bx.out.gr g4)
    obtain ⟨p4, q4, rfl⟩ := o4.shape
    have Og := hid o4
    have gz4 := hid g4.size
    rw [← HYM.out] at Og ⊢
    clear o4 g4
    unfold withCode
    go_wp2_with fail
    refine (HYE.out _ _ _ _ _ Og.out.reads Ow.out.reads).mono ?_
    rintro e W5 ⟨rfl, g5⟩
    replace gr := hid (gr.out.trans g5)
    replace S := hid (S.out.gr g5)
    replace Ow := hid (Ow.out.gr g5)
    replace Og := hid (Og.out.gr g5)
    replace Bx := hid (Bx.out.gr g5)
    clear g5
    go_wp2_with fail
    refine (HTO.out _ _ _ S.out).mono ?_
    rintro e W6 ⟨rfl, h6, g6⟩
    replace gr := hid (gr.out.trans g6)
    replace S := hid (S.out.gr g6)
    replace Ow := hid (Ow.out.gr g6)
    replace Og := hid (Og.out.gr g6)
    replace Bx := hid (Bx.out.gr g6)
    have Bt := hid h6
    have gz6 := hid g6.size
    have lt6 := hid (show _ from h6.lt)
    clear h6 g6
    go_wp2_with fail
    refine (HEQ.out _ _ _ _ _ Bx.out Bt.out).mono ?_
    rintro e W7 ⟨rfl, g7⟩
    replace gr := hid (gr.out.trans g7)
    replace S := hid (S.out.gr g7)
    replace Ow := hid (Ow.out.gr g7)
    replace Og := hid (Og.out.gr g7)
    replace Bx := hid (Bx.out.gr g7)
    clear g7 Bt
    go_wp2_with fail
    refine (HMK.out _ _ _ Bx.out).mono ?_
    rintro e W8 ⟨⟨r8, rfl⟩, m8⟩
    have M8 := hid m8
    clear Bx m8
    have hr8 : ¬ (r8 : Int) < 0 := by omega
    have gm : Gr w W8 := M8.out.gr gr.out GB.out
    replace gr := hid gm
    replace S := hid (S0.out.gr gm)
    clear gm
    replace Ow := hid (Ow.out.betL M8.out (.inl (Nat.le_refl _)))
    replace Og := hid (Og.out.betL M8.out (.inr (Nat.le_refl _)))
    clear M8
    go_wp2_with fail
    refine (HYE.out _ _ _ _ _ Og.out.reads Ow.out.reads).mono ?_
    rintro e W9 ⟨rfl, g9⟩
    replace gr := hid (gr.out.trans g9)
    replace S := hid (S.out.gr g9)
    replace Ow := hid (Ow.out.gr g9)
    replace Og := hid (Og.out.gr g9)
    clear g9
    go_wp2_with fail
    refine (markInt64S_one _ _ _ _ _ r0 (by rw [← HYM.out]; exact hyl) _ Og.out).mono ?_
    rintro e W10 ⟨rfl, o10, m10⟩
    have M10 := hid m10
    have rl := Og.out.row.lt
    have gm : Gr w W10 := gr.out.by_ M10.out (fun b e => by have := (rl b e).1; have := GB.out; have := gz3.out; omega)
    replace gr := hid gm
    replace S := hid (S0.out.gr gm)
    clear gm
    replace Ow := hid (Ow.out.by_ M10.out (fun b e => by right; have := (rl b e).1; have := gz3.out; omega))
    replace Og := hid o10
    clear M10 o10 m10 rl
    go_wp2_with fail
    refine (heldInt64S_one _ _ _ hyl _ Og.out.reads).mono ?_
    rintro e W11 ⟨rfl, g11⟩
    replace gr := hid (gr.out.trans g11)
    replace S := hid (S.out.gr g11)
    replace Ow := hid (Ow.out.gr g11)
    replace Og := hid (Og.out.gr g11)
    clear g11
    go_wp2_with fail
    refine (HTO.out _ _ _ S.out).mono ?_
    rintro e W12 ⟨rfl, h12, g12⟩
    replace gr := hid (gr.out.trans g12)
    replace S := hid (S.out.gr g12)
    replace Ow := hid (Ow.out.gr g12)
    replace Og := hid (Og.out.gr g12)
    have B2 := hid h12
    have gz12 := hid g12.size
    have lt12 := hid (show _ from h12.lt)
    clear h12 g12
    go_wp2_with fail
    refine (HIM.out _ _ _ B2.out).mono ?_
    rintro e W13 ⟨u13, rfl, o13, g13⟩
    replace gr := hid (gr.out.trans g13)
    replace S := hid (S.out.gr g13)
    replace Ow := hid (Ow.out.gr g13)
    replace Og := hid (Og.out.gr g13)
    obtain ⟨p13, q13, rfl⟩ := o13.shape
    have Oh := hid o13
    have gz13 := hid g13.size
    rw [← HYM.out] at Oh ⊢
    clear o13 g13
    unfold withCode
    clear B2
    go_wp2_with fail
    refine (HYE.out _ _ _ _ _ Oh.out.reads Ow.out.reads).mono ?_
    rintro e W14 ⟨rfl, g14⟩
    replace gr := hid (gr.out.trans g14)
    replace S := hid (S.out.gr g14)
    replace Ow := hid (Ow.out.gr g14)
    replace Og := hid (Og.out.gr g14)
    replace Oh := hid (Oh.out.gr g14)
    clear g14
    go_wp2_with fail
    refine (heldInt64S_one _ _ _ hyl _ Og.out.reads).mono ?_
    rintro e W15 ⟨rfl, g15⟩
    replace gr := hid (gr.out.trans g15)
    replace S := hid (S.out.gr g15)
    replace Ow := hid (Ow.out.gr g15)
    replace Og := hid (Og.out.gr g15)
    replace Oh := hid (Oh.out.gr g15)
    clear g15
    go_wp2_with fail
    go_ret
    exact ⟨rfl, gr.out⟩
end Go.Proofs.YtnkoakneffjkbaaDoor
