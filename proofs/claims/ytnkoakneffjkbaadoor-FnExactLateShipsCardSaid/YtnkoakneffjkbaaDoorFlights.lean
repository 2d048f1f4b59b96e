/- Logs: the flights: the program's function. -/
import Derived.Test.YtnkoakneffjkbaaDoorFlyW
namespace Go.Proofs.YtnkoakneffjkbaaDoor
set_option linter.unusedVariables false
open Go.RowKit Go.Maps
theorem law64 : Keyed Tryd.prog 2 := int_keyed Tryd.underlying2
theorem zeroInt (w : World) : (zeroValue 3).run Tryd.prog w = .ok (.int .i64 0) w := by kernel_rfl
theorem infoFl : (Tryd.prog.info? 148).map (fun i => (i.zero, i.size, i.bytes)) = some (some (.agg #[.int .i64 0, .int .i64 0]), 2, 16) := by kernel_rfl
theorem sizeEn : (Tryd.prog.info? 58).map (·.size) = some 3 := by kernel_rfl
def inB (t s : Int) : Bool := rgV t 0 100000 && rgV s 0 9999
set_option maxRecDepth 100000 in
set_option maxHeartbeats 800000 in
theorem inBounds_any (t s : Int) (d : Bool) (w : World) :
    Calls Tryd.prog 90 #[.agg #[.int .i64 t, .int .i64 s, .bool d]] w fun e w' => e = .returned (.bool (inB t s)) ∧ Gr w w' := by
  have gr : Hid (Gr w (w.alloc (.cells #[.int .i64 t, .int .i64 s, .bool d] 58))) := hid ((Gr.refl _).alloc _)
  have HT := hid (fun V => isBetween_r (n := t) (a := 0) (b := 100000) rfl V)
  have HS := hid (fun V => isBetween_r (n := s) (a := 0) (b := 9999) rfl V)
  unfold inB
  generalize rgV t 0 100000 = q at *
  generalize rgV s 0 9999 = r at *
  cases q
  · go_enter Tryd.func90, Tryd.ntmps90
    go_wp2_with ((with_reducible refine (HT.out _).mono ?_); rintro e w' ⟨rfl, rfl⟩)
    go_ret
    exact ⟨rfl, gr.out⟩
  · go_enter Tryd.func90, Tryd.ntmps90
    go_wp2_with (first | ((with_reducible refine (HT.out _).mono ?_); rintro e w' ⟨rfl, rfl⟩) | ((with_reducible refine (HS.out _).mono ?_); rintro e w' ⟨rfl, rfl⟩))
    go_ret
    exact ⟨rfl, gr.out⟩
/-- What the loop keeps: the flights so far, and the map. -/
structure FlI (w : World) (es : List En) (k : Nat) (v : Value) (D : DataW Unit) (wr : World) : Prop where
  own : OwnV 148 2 wr (w.heap.size + 1) wr.heap.size v (flyTo es k).F.length (flCells (flyTo es k).F)
  map : wr.ownsMap Tryd.prog 2 (plainElem Tryd.prog 3) w.heap.size k D
  rep : UpMap D (flyTo es k).u
  gr : Gr w wr
def upN (u : Int → Option Nat) (x : Int) : Nat := (u x).getD 0
theorem wpList_lookup_fly {ops : Array Oper} {rest : List Oper} {o : Oper} {a : Act} {Q : Exit → Act → World → Prop} (w : World) (hg : o.guard = none) (m x : Operand) (t : TypeId) (hop : o.op = Op.lookup t m x true) (ht : Tryd.prog.underlying t = some (.map 2 3))
    (b n : Nat) (D : DataW Unit) (u : Int → Option Nat) (hm : a.eval m = .map (some b)) (hown : w.ownsMap Tryd.prog 2 (plainElem Tryd.prog 3) b n D) (hu : UpMap D u) (s : Int) (hx : a.eval x = .int .i64 s) (hkey : keyOf Tryd.prog 2 (.int .i64 s) = some (.int .i64 s))
    (hK : wpList Tryd.prog ops Q rest (a.put o.dst (.tuple #[.int .i64 (upN u s), .bool (u s).isSome])) w) :
    wpList Tryd.prog ops Q (o :: rest) a w := by
  refine wpList_lookup_own_ok_int w hg m x t hop 2 3 .i64 law64 ht Tryd.underlying3 (zeroInt _) b n D hm hown _ _ hx hkey ?_
  intro c hat _
  have h1 := (hu.2 s).1
  have h2 := (hu.2 s).2
  rw [h1]
  unfold upN at hK
  cases hus : u s with
  | none =>
    rw [hus] at h1 hK
    rw [atKey_of_not_has h1] at hat
    cases hat
    exact hK
  | some i =>
    rw [hus] at hK
    rw [h2 i hus] at hat
    cases hat
    exact hK
theorem before_nonneg {es : List En} : ∀ k, allTo (goodE es) k = true → 0 ≤ beforeE es k
  | 0, _ => by simp [beforeE]
  | k + 1, h => by
    have h1 := before_nonneg k (allTo_upto h (by omega))
    have h2 := allTo_iff.1 h k (by omega)
    unfold goodE at h2
    rw [Bool.and_eq_true] at h2
    have h3 := rgV_iff.1 h2.1
    simp only [beforeE, Nat.add_sub_cancel]
    rw [if_neg (by omega)]
    omega
theorem good_no {es : List En} {n k : Nat} (hl : n = es.length) (hk : k < n) (h : allTo (goodE es) k = true) (hq : inB (enAt es k).t (enAt es k).s = false ∨ (enAt es k).t < beforeE es k ∨ ((enAt es k).d == isUp es k (enAt es k).s) = false) (h60 : n ≤ 60) : validE es = false ∧ badX es = (k : Int) := by
  have hg : goodE es k = false := by
    have h0 := before_nonneg k h
    cases hc : goodE es k
    · rfl
    · unfold goodE at hc
      rw [Bool.and_eq_true, Bool.and_eq_true] at hc
      have h3 := rgV_iff.1 hc.1
      rcases hq with hq | hq | hq
      · unfold inB at hq
        rw [hc.2.1, rgV_iff.2 ⟨by omega, h3.2⟩] at hq
        cases hq
      · omega
      · rw [hq] at hc; simp at hc
  subst hl
  refine ⟨?_, ?_⟩
  · unfold validE
    rw [allTo_no (k := es.length) hk hg, Bool.and_false]
  · unfold badX
    rw [if_pos h60, firstNo_eq h hg _ hk]
theorem good_yes {es : List En} {k : Nat} (h1 : inB (enAt es k).t (enAt es k).s = true) (h2 : ¬ (enAt es k).t < beforeE es k) (h3 : ((enAt es k).d == isUp es k (enAt es k).s) = true) : goodE es k = true := by
  unfold inB at h1
  rw [Bool.and_eq_true] at h1
  have := rgV_iff.1 h1.1
  unfold goodE
  rw [h3, h1.2, rgV_iff.2 ⟨by omega, this.2⟩]; rfl
theorem before_succ (es : List En) (k : Nat) : beforeE es (k + 1) = (enAt es k).t := by simp [beforeE]
theorem news_fl {w : World} {x y : Int} {T : TypeId} {fr : Nat × Nat} {b : Nat} (h : w.heap[b]? = some (.cells #[.int .i64 x, .int .i64 y] T fr)) : ∀ j u, [Value.int .i64 x, .int .i64 y][j]? = some u → w.cell? ((⟨b, 0, none⟩ : Addr).add j) = some u := by
  intro j u hu
  rw [Addr.add_mid, Nat.zero_add, cell_of_row w b j _ T fr h]
  simpa using hu
theorem fl_oneCell (x y : Int) : ∀ u ∈ [Value.int .i64 x, .int .i64 y], u.oneCell' = true := by
  intro u hu
  simp only [List.mem_cons, List.not_mem_nil, or_false] at hu
  rcases hu with rfl | rfl <;> rfl
theorem FlI.start (w : World) (es : List En) : FlI w es 0 (.slice none 0 0) (.map []) (w.alloc (.map #[] 0)) :=
  ⟨OwnV.nil _ _ _, World.ownsMap_made _ _ _ _, UpMap.nil, (Gr.refl w).alloc _⟩
theorem FlI.turn {w : World} {es : List En} {k : Nat} {v : Value} {D : DataW Unit} {wr wr' : World} (h : FlI w es k v D wr) (g : Gr wr wr') : FlI w es k v D wr' :=
  ⟨(h.own.gr g).widen (Nat.le_refl _) g.size, h.map.kept (row := none) ⟨g.1, g.2, g.3, g.4, fun i hi _ => g.5 i hi⟩ (by simp), h.rep, h.gr.trans g⟩
set_option maxRecDepth 100000 in
set_option maxHeartbeats 2000000 in
theorem flightsOf_any (a : Option Addr) (n cap : Nat) (es : List En) (hl : n = es.length) (hn : n ≤ 1048576) (hf : EnFits es) (w : World) (ha : CellsOf w a (enCells es)) :
    Calls Tryd.prog 74 #[.slice a n cap] w fun e w' =>
      (validE es = true ∧ ∃ v, e = .returned v ∧ OwnV 148 2 w' w.heap.size w'.heap.size v (flyTo es n).F.length (flCells (flyTo es n).F) ∧ Gr w w') ∨
      (validE es = false ∧ e = .panicked [{ v := .iface 144 (.int .i64 (badX es)), recovered := false }] ∧ Gr w w') := by
  obtain ⟨i0, hi, hz0, hz1, hz2⟩ := info_parts infoFl
  have hmm := @run_makeMap Tryd.prog
  have HA := hid ha
  have HL := hid hl
  have HEF := hid (show ∀ k, k < n → (Lit.int .i64 (enAt es k).s).wf = true from fun k hk => (hf _ (by rw [hl] at hk; unfold enAt; rw [List.getD, List.getElem?_eq_getElem hk]; exact List.getElem_mem hk)).2)
  clear hl ha hf
  by_cases h60 : n ≤ 60
  · go_enter Tryd.func74, Tryd.ntmps74
    go_wp2_with fail
    go_loopw [3, 5, 17] (fun v b i wr => ∃ (k : Nat) (D : DataW Unit), k ≤ n ∧ i = .int .i64 k ∧ b = .int .i64 (beforeE es k) ∧ Hid (allTo (goodE es) k = true) ∧ Hid (FlI w es k v D wr)) (fun _ _ i _ => n - (intOf i).toNat)
    case atStart => exact ⟨0, .map [], Nat.zero_le _, rfl, rfl, hid rfl, hid (FlI.start w es)⟩
    case round =>
      obtain ⟨k, D, hk, rfl, rfl, hok, I⟩ := hrel
      by_cases hlt : k < n
      · obtain ⟨b0, o0, rfl, p0, p1, p2⟩ := en_at (HA.out.gr I.out.gr) (i := k) (by rw [← HL.out]; exact hlt)
        have RG := hid (range3 ⟨p0, p1, p2⟩)
        have HU := hid (fun V => inBounds_any (enAt es k).t (enAt es k).s (enAt es k).d V)
        have HF := hid (show (Lit.int .i64 (enAt es k).s).wf = true from HEF.out k hlt)
        have HNO := hid (good_no HL.out hlt hok.out)
        have HYES := hid (good_yes (es := es) (k := k))
        have hkey : keyOf Tryd.prog 2 (.int .i64 (enAt es k).s) = some (.int .i64 (enAt es k).s) := keyOf_int_mk Tryd.underlying2 HF.out
        have HUP := hid (fly_up es k (enAt es k).s)
        have HCI := hid (fun (h : isUp es k (enAt es k).s = true) => show (flyTo es k).u (enAt es k).s = some (upN (flyTo es k).u (enAt es k).s) by
          rw [← fly_up] at h; unfold upN; cases hu : (flyTo es k).u (enAt es k).s with
          | none => rw [hu] at h; cases h
          | some i => rfl)
        have HBN := hid (before_succ es k)
        have HLT := hid (fly_lt es k (enAt es k).s)
        have HFK := hid (show (flyTo es k).F.length ≤ k from flyTo_length es k)
        have HFN := hid (fun (h : (flyTo es k).u (enAt es k).s = none) => flyTo_no h)
        have HFY := hid (fun i (h : (flyTo es k).u (enAt es k).s = some i) => flyTo_yes h)
        have HOW := hid I.out.own
        obtain ⟨F, hF⟩ : ∃ F, (flyTo es k).F = F := ⟨_, rfl⟩
        rw [hF] at HLT HFK HFN HFY HOW
        clear hF
        obtain ⟨av, cv, rfl⟩ := HOW.out.shape
        generalize hx0 : (enAt es k).t = x0 at *
        generalize hx1 : (enAt es k).s = x1 at *
        generalize hx2 : (enAt es k).d = x2 at *
        have RG1 := hid (show wr.rangeAt b0 (o0 + k * 3) [.int .i64 x0, .int .i64 x1, .bool x2] from RG.out)
        have I0 := hid (I.out.turn ((Gr.refl wr).alloc (.cells #[.int .i64 x0, .int .i64 x1, .bool x2] 58)))
        have B1 := hid (heap_new (w := wr) (o := .cells #[.int .i64 x0, .int .i64 x1, .bool x2] 58) rfl)
        clear RG p0 p1 p2 HF
        generalize hup : (flyTo es k).u = uu at *
        obtain ⟨ci, hci⟩ : ∃ ci, upN uu x1 = ci := ⟨_, rfl⟩
        rw [hci] at HCI
        have HCN := hid hci
        clear hci
        generalize inB x0 x1 = q at *
        obtain ⟨up, hupe⟩ : ∃ up, isUp es k x1 = up := ⟨_, rfl⟩
        rw [hupe] at HUP HCI HNO HYES
        clear hupe
        generalize hbf : beforeE es k = bf at *
        have HX := hid (And.intro hx0 (And.intro hx1 (And.intro hx2 (And.intro hup hbf))))
        clear hx0 hx1 hx2 hup hbf
        have hb0 : (0 : Int) ≤ k := by omega
        have hb1 : (k : Int) < n := by omega
        go_wp2_with (first
          | (refine wpList_load_mid rfl 58 _ rfl b0 (o0 + k * 3) rfl _ _ RG1.out Tryd.underlying58 rfl sizeEn ?_)
          | (at_lookup; refine wpList_lookup_fly _ rfl _ _ 145 rfl Tryd.underlying145 w.heap.size k D uu rfl I0.out.map (by have h := I0.out.rep; rw [HX.out.2.2.2.1] at h; exact h) x1 rfl hkey ?_; rw [HUP.out, HCN.out]))
        refine (HU.out _).mono ?_
        rintro e w1 ⟨rfl, g1⟩
        have I1 := hid (I0.out.turn g1)
        have GW := hid (((Gr.refl wr).alloc (.cells #[.int .i64 x0, .int .i64 x1, .bool x2] 58)).trans g1)
        have O1 := hid (HOW.out.gr GW.out)
        have B2 := hid (g1.heap B1.out)
        have c0 : w1.cell? ⟨wr.heap.size, 0, none⟩ = some (.int .i64 x0) := by rw [cell_of_row _ _ _ _ _ _ B2.out]; rfl
        have c1 : w1.cell? ⟨wr.heap.size, 1, none⟩ = some (.int .i64 x1) := by rw [cell_of_row _ _ _ _ _ _ B2.out]; rfl
        have c2 : w1.cell? ⟨wr.heap.size, 2, none⟩ = some (.bool x2) := by rw [cell_of_row _ _ _ _ _ _ B2.out]; rfl
        clear g1
        cases q with
        | false =>
          have HV := hid (HNO.out (.inl rfl) h60)
          go_wp2_with fail
          exact ⟨rfl, .inr ⟨HV.out.1, by rw [HV.out.2], I1.out.gr⟩⟩
        | true =>
          by_cases hbx : x0 < bf
          · have HV := hid (HNO.out (.inr (.inl hbx)) h60)
            go_wp2_with fail
            exact ⟨rfl, .inr ⟨HV.out.1, by rw [HV.out.2], I1.out.gr⟩⟩
          · cases hm : (x2 == up)
            · have HV := hid (HNO.out (.inr (.inr hm)) h60)
              have hm2 : (x2 != up) = true := by simp [bne, hm]
              go_wp2_with fail
              exact ⟨rfl, .inr ⟨HV.out.1, by rw [HV.out.2], I1.out.gr⟩⟩
            · have hm2 : (x2 != up) = false := by simp [bne, hm]
              have HY := hid (HYES.out rfl (by omega) hm)
              obtain rfl : x2 = up := by simpa using hm
              cases x2
              · have HN := hid (show uu x1 = none by have h := HUP.out; cases hu : uu x1 with
                  | none => rfl
                  | some i => rw [hu] at h; cases h)
                have HK1 := hid (HFN.out HN.out)
                have hfk := HFK.out
                have hwl : (Lit.int .i64 (F.length : Int)).wf = true := by simp [Lit.wf, IntKind.min, IntKind.max, IntKind.signed, IntKind.bits]; omega
                clear hm
                go_wp2_with (first
                  | (at_mapUpdate; refine wpList_mapUpdate_own _ rfl _ _ _ 145 rfl 2 3 law64 Tryd.underlying145 _ w.heap.size k D rfl I1.out.map (by unfold maxLen; omega) _ _ _ rfl rfl hkey _ [] (plainElem_int Tryd.underlying3 hwl) ?_; intro w3 hown3 hgrow3; have O3 := hid (O1.out.by_ hgrow3 (fun b e => by cases e; exact .inl (Nat.lt_succ_self _))); have G3 := hid (I1.out.gr.by_ hgrow3 (fun b e => by cases e; exact Nat.le_refl _)))
                  | (at_builtin; refine wpList_append_own _ rfl _ _ 120 rfl (w.heap.size + 1) 148 i0 (.agg #[.int .i64 0, .int .i64 0]) 2 16 Tryd.underlying120 hi hz0 hz1 hz2 rfl (by decide) _ _ _ rfl (O3.out.row.alloc _) ⟨w3.heap.size, 0, none⟩ 1 1 [.int .i64 k, .int .i64 (-1)] rfl rfl (news_fl (heap_new rfl)) (fl_oneCell _ _) (by unfold maxLen; omega) (by omega) (by have := I1.out.map.lt; have := hgrow3.size; simp; omega) ?_; intro v2 w5 hown5 hgrow5 _))
                have M5 := hid ((hown3.alloc (.cells #[.int .i64 (k : Int), .int .i64 (-1)] 148)).kept hgrow5 (fun e => by have := (O3.out.row.lt w.heap.size e.symm).1; omega))
                have G5 := hid ((G3.out.alloc (.cells #[.int .i64 (k : Int), .int .i64 (-1)] 148)).by_ hgrow5 (fun b e => Nat.le_of_succ_le (O3.out.row.lt b e).1))
                have O5 := hid (show OwnV 148 2 w5 (w.heap.size + 1) w5.heap.size v2 (F ++ [((k : Int), (-1 : Int))]).length (flCells (F ++ [((k : Int), (-1 : Int))])) from by
                  rw [flCells_append, List.length_append]; exact OwnV.ofRow hown5)
                have R5 := hid (show UpMap (D.put (.int .i64 x1) (.lit (.int .i64 (F.length : Int)))) (flyTo es (k + 1)).u by
                  have h := I1.out.rep.put x1 F.length
                  rw [HX.out.2.2.2.1] at h
                  rw [HK1.out]; exact h)
                go_roundw
                case rel => exact ⟨k + 1, _, by omega, by go_num, by rw [HBN.out], hid (allTo_step hok.out HY.out), hid ⟨by rw [HK1.out]; exact O5.out, M5.out, R5.out, G5.out⟩⟩
                case measure => simp [intOf]; omega
              · have HC := hid (HCI.out rfl)
                have HK1 := hid (HFY.out ci HC.out)
                have hcl : ci < F.length := HLT.out ci HC.out
                obtain ⟨gb, rfl, hgb, hcc, hfr⟩ := O1.out.at_ (flCells_get F ci hcl).2
                have hfk := HFK.out
                have O2 := hid (O1.out.put (ci * 2 + 1) (.int .i64 k))
                have M2 := hid (I1.out.map.setCell (a := ⟨gb, ci * 2 + 1, none⟩) (by show _ ≠ gb; omega) (.int .i64 k))
                have G2 := hid (I1.out.gr.setCell (p := ⟨gb, ci * 2 + 1, none⟩) (by show _ ≤ gb; omega) (.int .i64 k))
                have B3 := hid (heap_stored (a := ⟨gb, ci * 2 + 1, none⟩) (v := .int .i64 k) (by show _ ≠ gb; omega) B2.out)
                have d1 : (w1.setCell ⟨gb, ci * 2 + 1, none⟩ (.int .i64 k)).cell? ⟨wr.heap.size, 1, none⟩ = some (.int .i64 x1) := by rw [cell_of_row _ _ _ _ _ _ B3.out]; rfl
                have hci0 : (0 : Int) ≤ ci := by omega
                have hci1 : (ci : Int) < F.length := by omega
                clear hm
                go_wp2_with (first
                  | (at_delete; refine wpList_delete_own _ rfl _ _ 145 2 rfl 3 law64 Tryd.underlying145 _ w.heap.size k D rfl M2.out _ _ rfl hkey ?_; intro w3 hown3 hturn3))
                have M5 := hid (hown3.mono (Nat.le_succ k))
                have G5 := hid (G2.out.by_ hturn3.grown (fun b e => by cases e; exact Nat.le_refl _))
                have HSZ := hid (show wr.heap.size ≤ w3.heap.size from by have h1 := hturn3.grown.size; have h2 := GW.out.size; rw [World.size_setCell] at h1; omega)
                have O5 := hid (show OwnV 148 2 w3 (w.heap.size + 1) w3.heap.size (.slice (some ⟨gb, 0, none⟩) F.length cv) (F.set ci ((flAt F ci).1, (k : Int))).length (flCells (F.set ci ((flAt F ci).1, (k : Int)))) from by
                  rw [← flCells_set F ci k hcl, List.length_set]
                  exact (O2.out.1.by_ hturn3.grown (fun b e => by cases e; exact .inl (Nat.lt_succ_self _))).widen (Nat.le_refl _) HSZ.out)
                have R5 := hid (show UpMap (D.del (.int .i64 x1)) (flyTo es (k + 1)).u by
                  have h := I1.out.rep.del x1
                  rw [HX.out.2.2.2.1] at h
                  rw [HK1.out]; exact h)
                have EL := hid (show F.length = (flyTo es (k + 1)).F.length by rw [HK1.out]; simp)
                go_roundw
                case rel => exact ⟨k + 1, _, by omega, by go_num, by rw [HBN.out], hid (allTo_step hok.out HY.out), hid ⟨by rw [HK1.out]; exact O5.out, M5.out, R5.out, G5.out⟩⟩
                case measure => simp [intOf]; omega
      · obtain rfl : k = n := by omega
        have HV := hid (show validE es = true by unfold validE; rw [decide_eq_true (by rw [← HL.out]; exact h60), ← HL.out, hok.out]; rfl)
        go_wp2_with fail
        go_ret
        exact .inl ⟨HV.out, _, rfl, I.out.own.widen (Nat.le_succ _) (Nat.le_refl _), I.out.gr⟩
  · have HBX := hid (show badX es = 60 by unfold badX; rw [if_neg (by rw [← HL.out]; exact h60)])
    have HV := hid (show validE es = false by unfold validE; rw [decide_eq_false (by rw [← HL.out]; exact h60)]; rfl)
    go_enter Tryd.func74, Tryd.ntmps74
    go_wp2_with fail
    exact ⟨rfl, .inr ⟨HV.out, by rw [HBX.out], Gr.refl _⟩⟩
end Go.Proofs.YtnkoakneffjkbaaDoor
