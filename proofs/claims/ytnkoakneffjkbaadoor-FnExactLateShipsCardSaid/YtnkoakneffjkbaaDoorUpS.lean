/- Logs: the entries whose signals are up: the model's function. -/
import Derived.Test.YtnkoakneffjkbaaDoorUpM
import Derived.Test.YtnkoakneffjkbaaDoorSlices
import Derived.Deep.RegionHeld3
import Derived.Maps.AppendAt
import Derived.Deep.RegionLaw
import Derived.Deep.AppendLies
import Derived.Lib.AppendZeros
namespace Go.Proofs.YtnkoakneffjkbaaDoor
set_option linter.unusedVariables false
open Go.RowKit
theorem lastP_step_yes {p : Nat → Bool} {j : Nat} (h : p j = true) : lastP p (j + 1) = (j : Int) := by rw [lastP, if_pos h]
theorem lastP_step_no {p : Nat → Bool} {j : Nat} (h : p j = false) : lastP p (j + 1) = lastP p j := by rw [lastP, if_neg (by rw [h]; simp)]
theorem info64i : (Tryd.prog.info? 3).map (fun i => (i.zero, i.size, i.bytes)) = some (some (.int .i64 0), 1, 8) := by kernel_rfl
theorem news_int1 {w : World} {v : Value} {T : TypeId} {b : Nat} (h : w.heap[b]? = some (.cells #[v] T (0, 0))) : ∀ j u, [v][j]? = some u → w.cell? ((⟨b, 0, none⟩ : Addr).add j) = some u := by
  intro j u hu
  rw [Addr.add_mid, Nat.zero_add, cell_of_row w b j _ T _ h]
  simpa using hu
theorem own_cap {k : IntKind} {e : TypeId} {w : World} {lo hi n c : Nat} {a : Option Addr} {xs : List Int} (h : Own k e w lo hi (.slice a n c) xs) : n ≤ c ∧ c ≤ maxLen := by
  rcases h.row.2 with ⟨h1, h2⟩ | ⟨g', cap, cur, h1, h2, h3, h4, h5, _⟩
  · simp only [Value.slice.injEq] at h1
    obtain ⟨_, rfl, rfl⟩ := h1
    exact ⟨Nat.le_refl _, Nat.zero_le _⟩
  · simp only [Value.slice.injEq] at h1
    obtain ⟨_, rfl, rfl⟩ := h1
    exact ⟨h4, h5⟩
theorem step_append_ints {w : World} {ops : Array Oper} {o : Oper} {a : Act} {K : Act → World → Prop} {Q : Exit → Act → World → Prop} {E : Prop} (hgd : o.guard = none) (s x : Operand)
    (ho : o.op = .call { callee := .builtin .append, args := #[s, x], argTypes := #[104, 104] }) (lo hi g n c : Nat) (xs : List Int) (hs : a.eval s = .slice (some ⟨g, 0, none⟩) n c) (hown : Own .i64 3 w lo hi (.slice (some ⟨g, 0, none⟩) n c) xs) (hlo : lo ≤ w.heap.size)
    (b off m c2 : Nat) (ys : List Int) (hx : a.eval x = .slice (some ⟨b, off, none⟩) m c2) (hy : ys.length = m) (hr : ∀ j, j < m → w.cell? ⟨b, off + j, none⟩ = some (.int .i64 (ys.getD j 0))) (hxs : xs.length = n) (hnm : n + m ≤ 4194304) (r : Nat) (hlr : n + m = r)
    (h : ∀ g' c' w', Own .i64 3 w' lo w'.heap.size (.slice (some ⟨g', 0, none⟩) r c') (xs ++ ys) → w.grownBy w' (some g) → K (a.put o.dst (.slice (some ⟨g', 0, none⟩) r c')) w') :
    if Region.wanted o (yielded ops a.tmps) = true then Oper.wp Tryd.prog o a w K Q else E := by
  have hw : Region.wanted o (yielded ops a.tmps) = true := by simp [Region.wanted, hgd]
  rw [if_pos hw]
  obtain ⟨i0, hi0, hz0, hz1, hz2⟩ := info_parts info64i
  obtain rfl : (xs ++ ys).length = r := by rw [List.length_append, hxs, hy]; exact hlr
  subst hxs
  obtain ⟨v', w', hrun, hrow, hgrow, hnil, hblk⟩ := run_append_own_at (P := Tryd.prog) (w := w) lo 104 o.type 3 i0 (.int .i64 0) 1 8 Tryd.underlying104 hi0 hz0 hz1 hz2 rfl (by decide) _ xs.length _ hown.row ⟨b, off, none⟩ m c2 (ys.map (Value.int .i64)) (by simp [hy]) (fun j u hu => by
      have hj : j < ys.length := by simpa using (List.getElem?_eq_some_iff.1 hu).1
      rw [Addr.add_mid, hr j (by omega), ← hu]
      simp [List.getD, hj]) (fun u hu => by
      rw [List.mem_map] at hu
      obtain ⟨y, _, rfl⟩ := hu
      rfl) (by unfold maxLen; omega) (by omega) hlo
  have OO : Own .i64 3 w' lo w'.heap.size v' (xs ++ ys) := Own.ofRow hrow (by simp) (by simp [hy])
  obtain ⟨a', c', rfl⟩ := OO.shape
  have hb2 : ∃ g', (Value.slice a' (xs ++ ys).length c').ownBlock = some g' := by
    rcases hblk with e | e
    · exact ⟨g, e.trans rfl⟩
    · exact ⟨_, e⟩
  obtain ⟨g', hg'⟩ := hb2
  have ha' : a' = some ⟨g', 0, none⟩ := by
    rcases OO.row.2 with ⟨h1, h2⟩ | ⟨g2, cap2, cur, h1, _⟩
    · rw [h1] at hg'; simp [Value.ownBlock] at hg'
    · simp only [Value.slice.injEq] at h1
      obtain ⟨rfl, _, _⟩ := h1
      simp [Value.ownBlock] at hg'
      rw [hg']
  subst ha'
  exact Lib.wp_append_run w s x 104 104 ho _ _ hs hx _ w' hrun (h g' c' w' OO hgrow)
def upBack (es : List En) (m : Nat) : List Int := if allTo (okUp es) m = true then upS es m else []
set_option maxRecDepth 100000 in
set_option maxHeartbeats 2000000 in
theorem l07Up_any (a : Option Addr) (n cap : Nat) (es : List En) (hl : n = es.length) (hn : n ≤ 1048576) (m : Nat) (hm : m ≤ n) (w : World) (ha : CellsOf w a (enCells es)) :
    Calls Tryd.prog 67 #[.slice a n cap, .int .i64 m] w (RetOwn .i64 3 (fun u => .tuple #[u, .bool (allTo (okUp es) m)]) (upBack es m) w) := by
  obtain ⟨i0, hi, hz0, hz1, hz2⟩ := info_parts info64i
  have HA := hid ha
  have HL := hid hl
  clear ha hl
  go_enter Tryd.func67, Tryd.ntmps67
  go_wp2_with fail
  go_loopw [6, 7] (fun v i wr => ∃ (k g c : Nat) (up : List Int), k ≤ m ∧ i = .int .i64 k ∧ v = .slice (some ⟨g, 0, none⟩) up.length c ∧ Hid (up = upS es k) ∧ Hid (allTo (okUp es) k = true) ∧ Hid (Own .i64 3 wr w.heap.size wr.heap.size (.slice (some ⟨g, 0, none⟩) up.length c) up) ∧ Hid (Gr w wr)) (fun _ i _ => m - (intOf i).toNat)
  case atStart => exact ⟨0, _, _, [], Nat.zero_le _, rfl, rfl, hid rfl, hid rfl, hid ((Own.ofBlock (k := .i64) (e := 3) (xs := []) (heap_new (w := w) (o := .cells #[] 3) rfl) (by unfold maxLen; simp)).widen (Nat.le_refl _) (by simp)), hid ((Gr.refl _).alloc _)⟩
  case round =>
    obtain ⟨k, g, c, up, hk, rfl, rfl, HUP, hok, O, G⟩ := hrel
    by_cases hlt : k < m
    · have I := hid (up_inv es k)
      rw [← HUP.out] at I
      have hlen : up.length ≤ k := I.out.len
      obtain ⟨b0, o0, rfl, -, ck, ce⟩ := en_at (HA.out.gr G.out) (i := k) (by rw [← HL.out]; omega)
      have HOK := hid (show okUp es k = ((enAt es k).d == decide (0 ≤ lastP (fun j => sigAt es up j == (enAt es k).s) up.length)) by rw [HUP.out]; rfl)
      have HST := hid (show upS es (k + 1) = if lastP (fun j => sigAt es up j == (enAt es k).s) up.length < 0 then up ++ [(k : Int)] else up.take (lastP (fun j => sigAt es up j == (enAt es k).s) up.length).toNat ++ up.drop ((lastP (fun j => sigAt es up j == (enAt es k).s) up.length).toNat + 1) by rw [HUP.out]; rfl)
      obtain ⟨x, hx⟩ : ∃ x, (enAt es k).s = x := ⟨_, rfl⟩
      obtain ⟨d, hd⟩ : ∃ d, (enAt es k).d = d := ⟨_, rfl⟩
      rw [hx] at ck HST
      rw [hx, hd] at HOK
      rw [hd] at ce
      clear hx hd
      have hb0 : (0 : Int) ≤ k := by omega
      have hb1 : (k : Int) < n := by omega
      go_wp2_with fail
      go_loopw [8, 9] (fun t j w2 => ∃ q : Nat, q ≤ up.length ∧ j = .int .i64 q ∧ t = .int .i64 (lastP (fun j => sigAt es up j == x) q) ∧ Hid (Gr wr w2)) (fun _ j _ => up.length - (intOf j).toNat)
      case atStart => exact ⟨0, Nat.zero_le _, rfl, rfl, hid (Gr.refl _)⟩
      case round =>
        obtain ⟨q, hq, rfl, rfl, G2⟩ := hrel
        by_cases hq2 : q < up.length
        · obtain ⟨jn, hj⟩ : ∃ jn : Nat, up.getD q 0 = (jn : Int) := ⟨(up.getD q 0).toNat, by have := (I.out.low q hq2).1; omega⟩
          have hjk : jn < k := by have := (I.out.low q hq2).2; omega
          obtain ⟨g', eg, -, hcu, -⟩ := (O.out.gr G2.out).at_ (i := q) hq2
          cases eg
          rw [hj] at hcu
          have cj := (en_at' ((HA.out.gr G.out).gr G2.out) (i := jn) (by rw [← HL.out]; omega)).2.1
          have ck2 := G2.out.cell ck
          have HSG := hid (show sigAt es up q = (enAt es jn).s by unfold sigAt; rw [hj, Int.toNat_natCast])
          generalize (enAt es jn).s = y at *
          have hc0 : (0 : Int) ≤ q := by omega
          have hc1 : (q : Int) < up.length := by omega
          have hc2 : (0 : Int) ≤ jn := by omega
          have hc3 : (jn : Int) < n := by omega
          have HYES := hid (fun h => lastP_step_yes (p := fun j => sigAt es up j == x) (j := q) h)
          have HNO := hid (fun h => lastP_step_no (p := fun j => sigAt es up j == x) (j := q) h)
          generalize lastP (fun j => sigAt es up j == x) q = z at *
          cases hyx : (y == x)
          · have HZ := hid (HNO.out (by rw [HSG.out]; exact hyx))
            clear HNO HYES
            go_wp2_with fail
            go_quiet (fail)
            go_wp2_with fail
            go_roundw
            case rel => exact ⟨q + 1, by omega, by go_num, by rw [HZ.out], hid (G2.out.drewN _)⟩
            case measure => simp [intOf]; omega
          · have HZ := hid (HYES.out (by rw [HSG.out]; exact hyx))
            clear HNO HYES
            go_wp2_with fail
            go_quiet (fail)
            go_wp2_with fail
            go_roundw
            case rel => exact ⟨q + 1, by omega, by go_num, by rw [HZ.out], hid (G2.out.drewN _)⟩
            case measure => simp [intOf]; omega
        · obtain rfl : q = up.length := by omega
          have HRG := hid (lastP_range (fun j => sigAt es up j == x) up.length)
          have ce2 := G2.out.cell ce
          have GG := hid (G.out.trans G2.out)
          have O2 := hid ((O.out.gr G2.out).widen (Nat.le_refl _) G2.out.size)
          generalize lastP (fun j => sigAt es up j == x) up.length = z at *
          have HN := hid (fun (h : okUp es k = false) => allTo_no (p := okUp es) (k := m) hlt h)
          have HY := hid (fun (h : okUp es k = true) => allTo_step hok.out h)
          by_cases hz : z < 0
          · cases d
            · have HY2 := hid (HY.out (by rw [HOK.out, decide_eq_false (by omega)]; rfl))
              have HS2 := hid (HST.out.trans (if_pos hz))
              have O3 := hid (O2.out.row)
              clear HST HOK HRG
              go_wp2_with (at_builtin; refine wpList_append_own _ rfl _ _ 104 rfl w.heap.size 3 i0 (.int .i64 0) 1 8 Tryd.underlying104 hi hz0 hz1 hz2 rfl (by decide) _ _ _ rfl (O3.out.alloc _) ⟨wr.heap.size, 0, none⟩ 1 1 [.int .i64 k] rfl rfl (news_int1 (heap_new rfl)) (by simp [Value.oneCell']) (by unfold maxLen; omega) (by omega) (by have := GG.out.size; simp; omega) ?_; intro v2 w5 hown5 hgrow5 _)
              have G5 := hid ((GG.out.alloc (.cells #[.int .i64 (k : Int)] 3)).by_ hgrow5 (fun b e => (O3.out.lt b e).1))
              have O5 := hid (show Own .i64 3 w5 w.heap.size w5.heap.size v2 (up ++ [(k : Int)]) from Own.ofRow hown5 (by simp) (by simp))
              obtain ⟨a5, c5, rfl⟩ := O5.out.shape
              obtain ⟨g5, rfl, -, -, -⟩ := O5.out.at_ (i := 0) (by simp)
              clear hown5 hgrow5
              go_wp2_with fail
              go_roundw
              case rel => exact ⟨k + 1, g5, c5, up ++ [(k : Int)], by omega, by go_num, rfl, hid HS2.out.symm, HY2, O5, G5⟩
              case measure => simp [intOf]; omega
            · have HN2 := hid (HN.out (by rw [HOK.out, decide_eq_false (by omega)]; rfl))
              have HB := hid (show upBack es m = [] by unfold upBack; rw [if_neg (by rw [HN2.out]; simp)])
              clear HST HOK HRG
              have hz2 : ¬ 0 ≤ z := by omega
              go_wp2_with fail
              go_ret2
              exact ⟨_, by rw [HN2.out]; rfl, by rw [HB.out]; exact (Own.ofBlock (k := .i64) (e := 3) (xs := []) (heap_new (w := _) (o := .cells #[] 3) rfl) (by unfold maxLen; simp)).widen GG.out.size (by simp), GG.out.alloc _⟩
          · obtain ⟨q, rfl⟩ : ∃ q : Nat, z = (q : Int) := ⟨z.toNat, by omega⟩
            have hq3 : q < up.length := by rcases HRG.out with h | h <;> omega
            cases d
            · have HN2 := hid (HN.out (by rw [HOK.out, decide_eq_true (by omega)]; rfl))
              have HB := hid (show upBack es m = [] by unfold upBack; rw [if_neg (by rw [HN2.out]; simp)])
              clear HST HOK HRG
              have hz2 : (0 : Int) ≤ (q : Int) := by omega
              go_wp2_with fail
              go_ret2
              exact ⟨_, by rw [HN2.out]; rfl, by rw [HB.out]; exact (Own.ofBlock (k := .i64) (e := 3) (xs := []) (heap_new (w := _) (o := .cells #[] 3) rfl) (by unfold maxLen; simp)).widen GG.out.size (by simp), GG.out.alloc _⟩
            · have HY2 := hid (HY.out (by rw [HOK.out, decide_eq_true (by omega)]; rfl))
              have HS2 := hid (HST.out.trans (if_neg hz))
              clear HST HOK HRG
              have hz2 : (0 : Int) ≤ (q : Int) := by omega
              have hq4 : (q : Int) + 1 ≤ up.length := by omega
              have HC := hid (own_cap O2.out)
              have hcap := HC.out.1
              have hq5 : (q : Int) ≤ c := by omega
              have hq6 : (q : Int) + 1 ≤ c := by omega
              have hq7 : (up.length : Int) ≤ c := by omega
              have hwr : IntKind.i64.wrap ((q : Int) + 1) = (q : Int) + 1 := IntWalk.i64_in _ (by omega)
              have hwr2 : IntKind.i64.wrap (1 + (q : Int)) = (q : Int) + 1 := by rw [Int.add_comm]; exact hwr
              go_wp2_with fail
              have OB := hid (show Own .i64 3 (wr.alloc (.cells #[] 3)).drew w.heap.size (wr.heap.size + 1) (.slice (some ⟨wr.heap.size, 0, none⟩) 0 0) [] from
                ((Own.ofBlock (k := .i64) (e := 3) (xs := []) (heap_new (w := wr) (o := .cells #[] 3) rfl) (by unfold maxLen; simp)).gr ((Gr.refl _).drew)).widen GG.out.size (Nat.le_refl _))
              have OR1 := hid (O2.out.gr (((Gr.refl wr).alloc (.cells #[] 3)).drew))
              have RD1 := hid (fun j (hj : j < q) => show (wr.alloc (.cells #[] 3)).drew.cell? ⟨g, 0 + j, none⟩ = some (.int .i64 ((up.take q).getD j 0)) by
                obtain ⟨g', eg, -, h, -⟩ := OR1.out.at_ (i := j) (by omega)
                cases eg
                rw [Nat.zero_add, h]
                simp [List.getD, hj])
              have RD2 := hid (fun (V : World) (hV : (wr.alloc (.cells #[] 3)).drew.grownBy V (some wr.heap.size)) j (hj : j < up.length - (q + 1)) => show V.cell? ⟨g, q + 1 + j, none⟩ = some (.int .i64 ((up.drop (q + 1)).getD j 0)) by
                obtain ⟨g', eg, -, h, -⟩ := (OR1.out.by_ hV (fun b e => by cases e; exact .inr (Nat.le_refl _))).at_ (i := q + 1 + j) (by omega)
                cases eg
                rw [h]
                simp [List.getD, List.getElem?_drop])
              have GA := hid ((GG.out.alloc (.cells #[] 3)).drew)
              have HTL := hid (show (up.take q).length = q by simp; omega)
              have HDL := hid (show (up.drop (q + 1)).length = up.length - (q + 1) by simp)
              have HSZ := hid (show w.heap.size ≤ ((wr.alloc (.cells #[] 3)).drew).heap.size from GA.out.size)
              have hq8 : (0 : Int) ≤ (q : Int) + 1 := by omega
              have HLN := hid (show (up.take q ++ up.drop (q + 1)).length = up.length - 1 by rw [List.length_append, HTL.out, HDL.out]; omega)
              by_cases hqc : c = q + 1
              · have hul : up.length = q + 1 := by omega
                have RD3 := hid (fun (V : World) j (hj : j < 0) => show V.cell? ⟨g, 0 + j, none⟩ = some (.int .i64 ((up.drop (q + 1)).getD j 0)) by omega)
                have HDL0 := hid (show (up.drop (q + 1)).length = 0 by simp; omega)
                have hq9 : (q : Int) ≤ (q : Int) + 1 := by omega
                have hq10 : (up.length : Int) ≤ (q : Int) + 1 := by omega
                subst hqc
                clear hul
                go_region_law (first
                  | (refine step_append_ints (by rfl) _ _ (by rfl) w.heap.size (wr.heap.size + 1) wr.heap.size 0 0 [] (by rfl) OB.out HSZ.out g 0 q _ (up.take q) (by rfl) HTL.out RD1.out rfl (by omega) q (by omega) ?_; intro g1 c1 w1 o1 gr1; have O3 := hid o1; have GR1 := hid gr1; have G3 := hid (GA.out.by_ gr1 (fun b e => by cases e; exact GG.out.size)); clear o1 gr1)
                  | (refine step_append_ints (by rfl) _ _ (by rfl) w.heap.size w1.heap.size g1 q c1 ([] ++ up.take q) (by rfl) O3.out G3.out.size _ _ 0 _ (up.drop (q + 1)) (by rfl) HDL0.out (RD3.out _) (by rw [List.nil_append]; exact HTL.out) (by omega) (up.length - 1) (by omega) ?_; intro g2 c2 w2 o2 gr2; have O4 := hid o2; have G4 := hid (G3.out.by_ gr2 (fun b e => by cases e; exact (O3.out.row.lt _ rfl).1)); clear o2 gr2))
                have O5 := hid (show Own .i64 3 w2 w.heap.size w2.heap.size (.slice (some ⟨g2, 0, none⟩) (up.take q ++ up.drop (q + 1)).length c2) (up.take q ++ up.drop (q + 1)) by rw [HLN.out]; exact O4.out)
                have HS3 := hid (show up.take q ++ up.drop (q + 1) = upS es (k + 1) by rw [HS2.out, Int.toNat_natCast])
                go_wp2_with fail
                go_roundw
                case rel => exact ⟨k + 1, g2, c2, up.take q ++ up.drop (q + 1), by omega, by go_num, by rw [HLN.out], HS3, HY2, O5, G4⟩
                case measure => simp [intOf]; omega
              · have hqc2 : q + 1 < c := by omega
                go_region_law (first
                  | (refine step_append_ints (by rfl) _ _ (by rfl) w.heap.size (wr.heap.size + 1) wr.heap.size 0 0 [] (by rfl) OB.out HSZ.out g 0 q c (up.take q) (by rfl) HTL.out RD1.out rfl (by omega) q (by omega) ?_; intro g1 c1 w1 o1 gr1; have O3 := hid o1; have GR1 := hid gr1; have G3 := hid (GA.out.by_ gr1 (fun b e => by cases e; exact GG.out.size)); clear o1 gr1)
                  | (refine step_append_ints (by rfl) _ _ (by rfl) w.heap.size w1.heap.size g1 q c1 ([] ++ up.take q) (by rfl) O3.out G3.out.size _ _ (up.length - (q + 1)) _ (up.drop (q + 1)) (by rfl) HDL.out (RD2.out _ GR1.out) (by rw [List.nil_append]; exact HTL.out) (by omega) (up.length - 1) (by omega) ?_; intro g2 c2 w2 o2 gr2; have O4 := hid o2; have G4 := hid (G3.out.by_ gr2 (fun b e => by cases e; exact (O3.out.row.lt _ rfl).1)); clear o2 gr2))
                have O5 := hid (show Own .i64 3 w2 w.heap.size w2.heap.size (.slice (some ⟨g2, 0, none⟩) (up.take q ++ up.drop (q + 1)).length c2) (up.take q ++ up.drop (q + 1)) by rw [HLN.out]; exact O4.out)
                have HS3 := hid (show up.take q ++ up.drop (q + 1) = upS es (k + 1) by rw [HS2.out, Int.toNat_natCast])
                go_wp2_with fail
                go_roundw
                case rel => exact ⟨k + 1, g2, c2, up.take q ++ up.drop (q + 1), by omega, by go_num, by rw [HLN.out], HS3, HY2, O5, G4⟩
                case measure => simp [intOf]; omega
    · obtain rfl : k = m := by omega
      have HR := hid (show upBack es k = up by unfold upBack; rw [if_pos hok.out, HUP.out])
      go_wp2_with fail
      go_ret2
      exact ⟨_, by rw [hok.out]; rfl, by rw [HR.out]; exact O.out, G.out⟩
end Go.Proofs.YtnkoakneffjkbaaDoor
