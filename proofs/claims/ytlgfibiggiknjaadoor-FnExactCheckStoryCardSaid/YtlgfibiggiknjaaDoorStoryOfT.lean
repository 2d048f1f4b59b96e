/- StoryOf: what is told. -/
import Derived.Test.YtlgfibiggiknjaaDoorStory
import Derived.Test.YtlgfibiggiknjaaDoorUpAt
import Derived.Test.YtlgfibiggiknjaaDoorReplySteps
import Derived.Test.YtlgfibiggiknjaaDoorCode2
namespace Go.Proofs.YtlgfibiggiknjaaDoor
set_option linter.unusedVariables false
open Go.RowKit
theorem infoSt : (Tryd.prog.info? 112).map (fun i => (i.zero, i.size, i.bytes)) = some (some (.agg #[.int .i64 0, .int .i64 0]), 2, 16) := by kernel_rfl
theorem news_st {w : World} {x y : Int} {T : TypeId} {fr : Nat × Nat} {b : Nat} (h : w.heap[b]? = some (.cells #[.int .i64 x, .int .i64 y] T fr)) : ∀ j u, [Value.int .i64 x, .int .i64 y][j]? = some u → w.cell? ((⟨b, 0, none⟩ : Addr).add j) = some u := by
  intro j u hu
  rw [Addr.add_mid, Nat.zero_add, cell_of_row w b j _ T fr h]
  simpa using hu
set_option maxRecDepth 100000 in
set_option maxHeartbeats 1000000 in
theorem StoryOfTell_pan (a b : Option Addr) (n m ca cb : Nat) (es fs : List En) (hf : EnFits es) (hg : EnFits fs) (hv : valid2 es fs = false) (lp tp : Addr) (w : World) (hlp : w.cell? lp = some (.slice a n ca)) (htp : w.cell? tp = some (.slice b m cb)) (h2 : Logs2 w a b n m es fs) :
    Calls Tryd.prog 103 #[.pointer (some lp), .pointer (some tp)] w fun e w' => e = .panicked [{ v := .iface 177 (.int .i64 (bad2 es fs)), recovered := false }] ∧ Gr w w' := by
  have HS := hid (sidesOf_any a b n m ca cb es fs hf hg w h2)
  rw [hv] at HS
  clear h2 hf hg hv
  go_enter Tryd.func103, Tryd.ntmps103
  go_wp2_with fail
  refine HS.out.mono ?_
  rintro e w1 (⟨h, -⟩ | ⟨-, rfl, g1⟩)
  · cases h
  · have G1 := hid g1
    clear g1
    go_wp2_with fail
    exact ⟨rfl, rfl, G1.out⟩
set_option maxRecDepth 100000 in
set_option maxHeartbeats 4000000 in
theorem StoryOfTell_ok (a b : Option Addr) (n m ca cb : Nat) (es fs : List En) (hf : EnFits es) (hg : EnFits fs) (hv : valid2 es fs = true) (lp tp : Addr) (w : World) (hlp : w.cell? lp = some (.slice a n ca)) (htp : w.cell? tp = some (.slice b m cb)) (h2 : Logs2 w a b n m es fs) :
    Calls Tryd.prog 103 #[.pointer (some lp), .pointer (some tp)] w (RetV 112 2 (fun u => .tuple #[u, .nilIface]) (storyV es fs).length (flCells (storyV es fs)) w) := by
  obtain ⟨i0, hi0, hz0, hz1, hz2⟩ := info_parts infoSt
  have HS := hid (sidesOf_any a b n m ca cb es fs hf hg w h2)
  rw [hv] at HS
  have h60 := valid2_60 hv
  have HO := hid (fun V (g : Gr w V) => story_any a b n m ca cb es fs (by rw [h2.n_]; exact h60.1) (by rw [h2.m_]; exact h60.2) V (h2.gr g))
  have hll := storyL_length es fs _ 0 0 rfl
  have HV := hid (show storyV es fs = (storyL es fs 0 0).map stepP by unfold storyV; rw [if_pos hv])
  rw [HV.out]
  generalize storyL es fs 0 0 = L at *
  have hl2 : L.length ≤ 120 := by omega
  clear h2 hf hg hv HV hll h60
  unfold sidesC at HS HO
  go_enter Tryd.func103, Tryd.ntmps103
  go_wp2_with fail
  refine HS.out.mono ?_
  rintro e w1 (⟨-, rfl, g1⟩ | ⟨h, -⟩)
  · have G1 := hid g1
    clear g1
    go_wp2_with fail
    refine (HO.out _ G1.out).mono ?_
    rintro e w2 ⟨v, rfl, o2, g2⟩
    have G2 := hid (G1.out.trans g2)
    obtain ⟨av, cv, rfl⟩ := o2.shape
    have O2 := hid o2
    clear g2 o2 HO
    go_wp2_with fail
    go_loopw [4, 12] (fun v jv wr => ∃ j : Nat, j ≤ L.length ∧ jv = .int .i64 j ∧ Hid (OwnV 112 2 wr w2.heap.size wr.heap.size v j (flCells ((L.take j).map stepP))) ∧ Hid (Gr w2 wr)) (fun _ jv _ => L.length - (intOf jv).toNat)
    case atStart => exact ⟨0, Nat.zero_le _, rfl, hid (OwnV.nil _ _ _), hid (Gr.refl _)⟩
    case round =>
      obtain ⟨j, hj, rfl, O, G⟩ := hrel
      obtain ⟨vv, vc, rfl⟩ := O.out.shape
      by_cases hlt : j < L.length
      · obtain ⟨x, hx⟩ : ∃ x, L[j]? = some x := ⟨_, List.getElem?_eq_getElem hlt⟩
        obtain ⟨gb, rfl, -, hc, -⟩ := (O2.out.gr G.out).at_ (i := j) (u := x.val) (by simp [acVals, hx])
        have HTK := hid (show (L.take (j + 1)).map stepP = (L.take j).map stepP ++ [(x.fl, x.se)] by rw [List.take_add_one, hx]; simp [stepP])
        have hxl : ((L.take j).map stepP).length = j := by simp; omega
        generalize (L.take j).map stepP = F at *
        have hb0 : (0 : Int) ≤ j := by omega
        have hb1 : (j : Int) < L.length := by omega
        clear hx
        cases x with
        | right i' k' =>
          have HST := hid (show ∀ V, Calls Tryd.prog 219 #[.agg #[.int .i64 i', .int .i64 k']] V (fun e w' => e = .returned (.agg #[.int .i64 i', .int .i64 k']) ∧ Gr V w') from fun V => stepR_any i' k' V)
          unfold Acct.val at hc
          unfold Acct.fl Acct.se at HTK
          go_wp2_with fail
          refine (HST.out _).mono ?_
          rintro e w3 ⟨rfl, g3⟩
          have G3 := hid (G.out.trans g3)
          have O3 := hid ((O.out.gr g3).widen (Nat.le_refl _) g3.size).row
          clear g3
          go_wp2_with (at_builtin; refine wpList_append_own _ rfl _ _ 39 rfl w2.heap.size 112 i0 (.agg #[.int .i64 0, .int .i64 0]) 2 16 Tryd.underlying39 hi0 hz0 hz1 hz2 rfl (by decide) _ _ _ rfl (O3.out.alloc _) ⟨w3.heap.size, 0, none⟩ 1 1 [.int .i64 i', .int .i64 k'] rfl rfl (news_st (heap_new rfl)) (fl_oneCell _ _) (by unfold maxLen; omega) (by omega) (by have := G3.out.size; simp <;> omega) ?_; intro v5 w5 hown5 hgrow5 _)
          have G6 := hid ((G3.out.alloc (.cells #[.int .i64 i', .int .i64 k'] 112)).by_ hgrow5 (fun b e => (O3.out.lt b e).1))
          have O5 := hid (show OwnV 112 2 w5 w2.heap.size w5.heap.size v5 (j + 1) (flCells (F ++ [((i' : Int), (k' : Int))])) from by rw [flCells_append]; exact OwnV.ofRow hown5)
          clear hown5 hgrow5
          go_wp2_with fail
          go_roundw
          case rel => exact ⟨j + 1, by omega, by go_num, by rw [HTK.out]; exact O5, G6⟩
          case measure => simp [intOf]; omega
        | mis i' k' =>
          have HST := hid (show ∀ V, Calls Tryd.prog 216 #[.agg #[.int .i64 i', .int .i64 k']] V (fun e w' => e = .returned (.agg #[.int .i64 i', .int .i64 k']) ∧ Gr V w') from fun V => stepM_any i' k' V)
          unfold Acct.val at hc
          unfold Acct.fl Acct.se at HTK
          go_wp2_with fail
          refine (HST.out _).mono ?_
          rintro e w3 ⟨rfl, g3⟩
          have G3 := hid (G.out.trans g3)
          have O3 := hid ((O.out.gr g3).widen (Nat.le_refl _) g3.size).row
          clear g3
          go_wp2_with (at_builtin; refine wpList_append_own _ rfl _ _ 39 rfl w2.heap.size 112 i0 (.agg #[.int .i64 0, .int .i64 0]) 2 16 Tryd.underlying39 hi0 hz0 hz1 hz2 rfl (by decide) _ _ _ rfl (O3.out.alloc _) ⟨w3.heap.size, 0, none⟩ 1 1 [.int .i64 i', .int .i64 k'] rfl rfl (news_st (heap_new rfl)) (fl_oneCell _ _) (by unfold maxLen; omega) (by omega) (by have := G3.out.size; simp <;> omega) ?_; intro v5 w5 hown5 hgrow5 _)
          have G6 := hid ((G3.out.alloc (.cells #[.int .i64 i', .int .i64 k'] 112)).by_ hgrow5 (fun b e => (O3.out.lt b e).1))
          have O5 := hid (show OwnV 112 2 w5 w2.heap.size w5.heap.size v5 (j + 1) (flCells (F ++ [((i' : Int), (k' : Int))])) from by rw [flCells_append]; exact OwnV.ofRow hown5)
          clear hown5 hgrow5
          go_wp2_with fail
          go_roundw
          case rel => exact ⟨j + 1, by omega, by go_num, by rw [HTK.out]; exact O5, G6⟩
          case measure => simp [intOf]; omega
        | drop i' =>
          have HST := hid (show ∀ V, Calls Tryd.prog 215 #[.int .i64 i'] V (fun e w' => e = .returned (.agg #[.int .i64 i', .int .i64 (-1)]) ∧ Gr V w') from fun V => stepD_any i' V)
          unfold Acct.val at hc
          unfold Acct.fl Acct.se at HTK
          go_wp2_with fail
          refine (HST.out _).mono ?_
          rintro e w3 ⟨rfl, g3⟩
          have G3 := hid (G.out.trans g3)
          have O3 := hid ((O.out.gr g3).widen (Nat.le_refl _) g3.size).row
          clear g3
          go_wp2_with (at_builtin; refine wpList_append_own _ rfl _ _ 39 rfl w2.heap.size 112 i0 (.agg #[.int .i64 0, .int .i64 0]) 2 16 Tryd.underlying39 hi0 hz0 hz1 hz2 rfl (by decide) _ _ _ rfl (O3.out.alloc _) ⟨w3.heap.size, 0, none⟩ 1 1 [.int .i64 i', .int .i64 (-1)] rfl rfl (news_st (heap_new rfl)) (fl_oneCell _ _) (by unfold maxLen; omega) (by omega) (by have := G3.out.size; simp <;> omega) ?_; intro v5 w5 hown5 hgrow5 _)
          have G6 := hid ((G3.out.alloc (.cells #[.int .i64 i', .int .i64 (-1)] 112)).by_ hgrow5 (fun b e => (O3.out.lt b e).1))
          have O5 := hid (show OwnV 112 2 w5 w2.heap.size w5.heap.size v5 (j + 1) (flCells (F ++ [((i' : Int), ((-1) : Int))])) from by rw [flCells_append]; exact OwnV.ofRow hown5)
          clear hown5 hgrow5
          go_wp2_with fail
          go_roundw
          case rel => exact ⟨j + 1, by omega, by go_num, by rw [HTK.out]; exact O5, G6⟩
          case measure => simp [intOf]; omega
        | extra k' =>
          have HST := hid (show ∀ V, Calls Tryd.prog 220 #[.int .i64 k'] V (fun e w' => e = .returned (.agg #[.int .i64 (-1), .int .i64 k']) ∧ Gr V w') from fun V => stepE_any k' V)
          unfold Acct.val at hc
          unfold Acct.fl Acct.se at HTK
          go_wp2_with fail
          refine (HST.out _).mono ?_
          rintro e w3 ⟨rfl, g3⟩
          have G3 := hid (G.out.trans g3)
          have O3 := hid ((O.out.gr g3).widen (Nat.le_refl _) g3.size).row
          clear g3
          go_wp2_with (at_builtin; refine wpList_append_own _ rfl _ _ 39 rfl w2.heap.size 112 i0 (.agg #[.int .i64 0, .int .i64 0]) 2 16 Tryd.underlying39 hi0 hz0 hz1 hz2 rfl (by decide) _ _ _ rfl (O3.out.alloc _) ⟨w3.heap.size, 0, none⟩ 1 1 [.int .i64 (-1), .int .i64 k'] rfl rfl (news_st (heap_new rfl)) (fl_oneCell _ _) (by unfold maxLen; omega) (by omega) (by have := G3.out.size; simp <;> omega) ?_; intro v5 w5 hown5 hgrow5 _)
          have G6 := hid ((G3.out.alloc (.cells #[.int .i64 (-1), .int .i64 k'] 112)).by_ hgrow5 (fun b e => (O3.out.lt b e).1))
          have O5 := hid (show OwnV 112 2 w5 w2.heap.size w5.heap.size v5 (j + 1) (flCells (F ++ [(((-1) : Int), (k' : Int))])) from by rw [flCells_append]; exact OwnV.ofRow hown5)
          clear hown5 hgrow5
          go_wp2_with fail
          go_roundw
          case rel => exact ⟨j + 1, by omega, by go_num, by rw [HTK.out]; exact O5, G6⟩
          case measure => simp [intOf]; omega
      · obtain rfl : j = L.length := by omega
        have OE := hid (show OwnV 112 2 wr w2.heap.size wr.heap.size (.slice vv L.length vc) (L.map stepP).length (flCells (L.map stepP)) by have h := O.out; rw [List.take_length] at h; rw [List.length_map]; exact h)
        go_wp2_with fail
        go_ret2
        exact ⟨_, rfl, OE.out.widen G2.out.size (Nat.le_refl _), G2.out.trans G.out⟩
  · cases h
end Go.Proofs.YtlgfibiggiknjaaDoor
