/- Lines of ships: the program's times of a whole line. -/
import Derived.Test.YtflbjjcpkhldkaaDoorLineB
import Derived.Test.YtflbjjcpkhldkaaDoorLineA
import Derived.ScopeJumps
import Derived.Laws.AppendOwn
import Derived.OwnWalk
namespace Go.Proofs.YtflbjjcpkhldkaaDoor
open Go.RowKit
/-- What a line tells of each ship. -/
def shS (xs : List Int) (i : Nat) : Int := xs.getD (i * 3) 0
def shR (xs : List Int) (i : Nat) : Int := xs.getD (i * 3 + 1) 0
def shD (xs : List Int) (i : Nat) : Int := xs.getD (i * 3 + 2) 0
def timesL (n : Nat) (xs : List Int) : List Tm := timesTo (shS xs) (shR xs) (shD xs) n
theorem tm_oneCell (t : Tm) : ∀ u ∈ t.cells, u.oneCell' = true := by
  intro u hu
  simp only [Tm.cells, List.mem_cons, List.not_mem_nil, or_false] at hu
  rcases hu with rfl | rfl | rfl | rfl <;> rfl
theorem news_tm {w : World} {t : Tm} {T : TypeId} {fr : Nat × Nat} {b : Nat} (h : w.heap[b]? = some (.cells t.cells.toArray T fr)) : ∀ j u, t.cells[j]? = some u → w.cell? ((⟨b, 0, none⟩ : Addr).add j) = some u := by
  intro j u hu
  rw [Addr.add_mid, Nat.zero_add, cell_of_row w b j _ T fr h, List.getElem?_toArray]
  exact hu
theorem timesTo_succ (S R B : Nat → Int) (k : Nat) (h : k ≠ 0) : timesTo S R B (k + 1) = timesTo S R B k ++ [dueT (timesTo S R B k) (S k) (R k) (B k)] := by
  rw [timesTo, if_neg h]
def vlen : Value → Nat
  | .slice _ k _ => k
  | _ => 0
/-- What holds at each jump. -/
def TmJ (line : Value) (n : Nat) (S R B : Nat → Int) (w : World) (a' : Act) (w' : World) : Prop :=
  ∃ (k : Nat) (v : Value), 1 ≤ k ∧ k ≤ n ∧ OwnV 69 4 w' w.heap.size w'.heap.size v k (tmCells (timesTo S R B k)) ∧ Gr w w' ∧ ∃ (u4 u5 u6 u7 u8 u9 u10 u11 u12 u13 u14 u15 u16 u17 u18 u19 u20 u21 u22 u23 u24 u25 u26 : Value), a' = { tmps := #[line, undef, .slice none 0 0, v, u4, u5, u6, u7, u8, u9, u10, u11, u12, u13, u14, u15, u16, u17, u18, u19, u20, u21, u22, u23, u24, u25, u26], defers := [] }
theorem TmJ_mk {line : Value} {n : Nat} {S R B : Nat → Int} {w w' : World} {k : Nat} {v : Value} (h1 : 1 ≤ k) (h2 : k ≤ n) (h3 : OwnV 69 4 w' w.heap.size w'.heap.size v k (tmCells (timesTo S R B k))) (h4 : Gr w w') {u4 u5 u6 u7 u8 u9 u10 u11 u12 u13 u14 u15 u16 u17 u18 u19 u20 u21 u22 u23 u24 u25 u26 : Value} :
    TmJ line n S R B w { tmps := #[line, undef, .slice none 0 0, v, u4, u5, u6, u7, u8, u9, u10, u11, u12, u13, u14, u15, u16, u17, u18, u19, u20, u21, u22, u23, u24, u25, u26], defers := [] } w' :=
  ⟨k, v, h1, h2, h3, h4, u4, u5, u6, u7, u8, u9, u10, u11, u12, u13, u14, u15, u16, u17, u18, u19, u20, u21, u22, u23, u24, u25, u26, rfl⟩
def tmMu (n : Nat) (a' : Act) (_ : World) : Nat := n - vlen (a'.tmps.getD 3 undef)
set_option maxHeartbeats 3000000 in
set_option maxRecDepth 100000 in
theorem timesOf_any (al : Option Addr) (n cal : Nat) (xs : List Int) (hl : xs.length = n * 3) (h0 : 0 < n) (hok : LineOk n (shS xs) (shR xs) (shD xs)) (w : World) (hn : NeverAt w) (hs : SliceOf .i8 w al xs) :
    Calls Tryd.prog 98 #[.slice al n cal] w (RetV 69 4 id n (tmCells (timesL n xs)) w) := by
  obtain ⟨i0, hi, hz0, hz1, hz2⟩ := info_parts infoTimes
  have S := hid hs
  have HL := hid hl
  have NV := hid hn
  have HK := hid hok
  obtain ⟨bl, ol, rfl, l0, l1, l2⟩ := ship_cells hs hl h0
  obtain ⟨c0, c1, c2⟩ := hok.2 0 h0
  have hn20 : n ≤ 20 := hok.1
  rw [Nat.zero_mul, Nat.add_zero] at l0 l1 l2
  have HTS := hid (fun k => timesTo_succ (shS xs) (shR xs) (shD xs) k)
  have HT1 := hid (show timesTo (shS xs) (shR xs) (shD xs) 1 = [⟨-1, 0, 0, shD xs 0⟩] from rfl)
  have l2' : w.cell? ⟨bl, ol + 2, none⟩ = some (.int .i8 (shD xs 0)) := l2
  have e0 : IntKind.i64.wrap (shD xs 0) = shD xs 0 := IntWalk.i64_in _ (by omega)
  have HRES := hid (show timesL n xs = timesTo (shS xs) (shR xs) (shD xs) n from rfl)
  rw [HRES.out]
  clear l0 l1 l2 c0 c1 c2 hs hl hn hok
  have hbn : (0 : Int) < n := by omega
  go_enter Tryd.func98, Tryd.ntmps98
  go_wp2_with fail
  refine wp_scope_jumps 0 (TmJ (.slice (some ⟨bl, ol, none⟩) n cal) n (shS xs) (shR xs) (shD xs) w) (tmMu n) rfl ?_ ?_
  · generalize hd : shD xs 0 = d at *
    have HD := hid hd
    clear hd
    go_wp2_with fail
    have O := hid (OwnV.ofBlock (e := 69) (sz := 4) (n := 1) (heap_new (w := w) (o := .cells #[.int .i8 (-1), .int .i64 0, .int .i64 0, .int .i64 d] 69) rfl) rfl (by unfold maxLen; omega))
    have G := hid ((Gr.refl w).alloc (.cells #[.int .i8 (-1), .int .i64 0, .int .i64 0, .int .i64 d] 69))
    obtain ⟨W, hW⟩ : ∃ W, W = w.alloc (.cells #[.int .i8 (-1), .int .i64 0, .int .i64 0, .int .i64 d] 69) := ⟨_, rfl⟩
    have hsz : w.heap.size + 1 = W.heap.size := by rw [hW]; simp
    rw [← hW] at O G ⊢
    clear hW
    have O' : Hid (OwnV 69 4 W w.heap.size W.heap.size (.slice (some ⟨w.heap.size, 0, none⟩) 1 1) 1 (tmCells (timesTo (shS xs) (shR xs) (shD xs) 1))) := hid (by
      rw [HT1.out]
      exact O.out.widen (Nat.le_refl _) (by omega))
    clear O
    have O := O'
    clear O' hsz
    obtain ⟨k, hk⟩ : ∃ k : Nat, k = 1 := ⟨1, rfl⟩
    obtain ⟨av, hav⟩ : ∃ av : Option Addr, av = some ⟨w.heap.size, 0, none⟩ := ⟨_, rfl⟩
    have hv : Value.slice (some ⟨w.heap.size, 0, none⟩) 1 1 = .slice av k k := by rw [hk, hav]
    rw [hv] at O ⊢
    rw [← hk] at O
    have hk1 : 1 ≤ k := by omega
    have hkn : k ≤ n := by omega
    have HKO := hid hk
    clear hk hv hav HT1
    obtain ⟨cv, hcv⟩ : ∃ cv : Nat, cv = k := ⟨_, rfl⟩
    have hv : Value.slice av k k = .slice av k cv := by rw [hcv]
    rw [hv] at O ⊢
    clear hv hcv
    go_step3
    by_cases hlt : k < n
    · obtain ⟨bq, oq, eq, _⟩ := ship_cells (S.out.gr G.out) HL.out hlt
      cases eq
      have RG := hid (ship_range (S.out.gr G.out) HL.out hlt)
      obtain ⟨d0, d1, d2⟩ := HK.out.2 k hlt
      have hts := hid (HTS.out k)
      have htl := hid (timesTo_length (shS xs) (shR xs) (shD xs) k)
      have HV := hid (timesBehind_any av k cv (timesTo (shS xs) (shR xs) (shD xs) k) htl.out.symm (by omega) (by omega) (timesTo_ok HK.out k (by omega)) (shS xs k) (shR xs k) (shD xs k) d0 d1 d2 W (NV.out.gr G.out) O.out.reads)
      have HSU := hid (timesTo_succ (shS xs) (shR xs) (shD xs) k (by omega))
      change Hid (World.rangeAt _ _ _ (shCells (shS xs k) (shR xs k) (shD xs k)).toList) at RG
      generalize dueT (timesTo (shS xs) (shR xs) (shD xs) k) (shS xs k) (shR xs k) (shD xs k) = t at *
      clear d0 d1 d2 hts
      generalize shS xs k = x0 at *
      generalize shR xs k = x1 at *
      generalize shD xs k = x2 at *
      obtain ⟨t0, t1, t2, t3⟩ := t
      change Hid (Calls _ _ _ _ (fun e w' => e = .returned (.agg #[.int .i8 t0, .int .i64 t1, .int .i64 t2, .int .i64 t3]) ∧ Gr _ w')) at HV
      unfold shCells at RG HV
      have hb0 : (0 : Int) ≤ (k : Nat) := by omega
      have hb1 : ((k : Nat) : Int) < n := by omega
      go_wp2_with (refine wpList_load_mid rfl 60 _ rfl bl (ol + k * 3) rfl _ _ RG.out Tryd.underlying60 rfl sizeShip ?_)
      refine HV.out.mono ?_
      rintro e w1 ⟨rfl, g1⟩
      have O1 := hid (O.out.gr g1)
      have G1 := hid (G.out.trans g1)
      have sz1 := hid g1.size
      clear g1
      go_wp2_with (at_builtin; refine wpList_append_own _ rfl _ _ 24 rfl w.heap.size 69 i0 (.agg #[.int .i8 0, .int .i64 0, .int .i64 0, .int .i64 0]) 4 32 Tryd.underlying24 hi hz0 hz1 hz2 rfl (by decide) _ _ _ rfl (O1.out.row.alloc _) ⟨w1.heap.size, 0, none⟩ 1 1 (Tm.cells ⟨t0, t1, t2, t3⟩) rfl rfl (news_tm (heap_new rfl)) (tm_oneCell _) (by unfold maxLen; omega) (by omega) (by have := G1.out.size; simp; omega) ?_; intro v2 w2 hown2 hgrow2 _)
      have G2 := hid ((G1.out.alloc _).by_ hgrow2 (fun b e => (O1.out.row.lt b e).1))
      have O2 := hid (OwnV.ofRow hown2)
      obtain ⟨a2, c2, rfl⟩ := O2.out.shape
      have O3 : Hid (OwnV 69 4 w2 w.heap.size w2.heap.size (.slice a2 (k + 1) c2) (k + 1) (tmCells (timesTo (shS xs) (shR xs) (shD xs) (k + 1)))) := hid (by
        rw [HSU.out, tmCells_append]
        exact O2.out)
      clear hown2 hgrow2 O1 O2 HV HSU
      go_wp2_with fail
      go_step3
      exact ⟨rfl, TmJ_mk (by omega) (by omega) O3.out G2.out⟩
    · obtain rfl : k = n := by omega
      go_wp2_with fail
      simp only [Exit.jump]
      go_ret
      exact ⟨_, rfl, O.out, G.out⟩
  · rintro a' W hJ
    obtain ⟨k, v, hk1, hkn, h3, h4, u4, u5, u6, u7, u8, u9, u10, u11, u12, u13, u14, u15, u16, u17, u18, u19, u20, u21, u22, u23, u24, u25, u26, rfl⟩ := hJ
    have O := hid h3
    have G := hid h4
    clear h3 h4
    obtain ⟨av, cv, rfl⟩ := O.out.shape
    by_cases hlt : k < n
    · obtain ⟨bq, oq, eq, _⟩ := ship_cells (S.out.gr G.out) HL.out hlt
      cases eq
      have RG := hid (ship_range (S.out.gr G.out) HL.out hlt)
      obtain ⟨d0, d1, d2⟩ := HK.out.2 k hlt
      have hts := hid (HTS.out k)
      have htl := hid (timesTo_length (shS xs) (shR xs) (shD xs) k)
      have HV := hid (timesBehind_any av k cv (timesTo (shS xs) (shR xs) (shD xs) k) htl.out.symm (by omega) (by omega) (timesTo_ok HK.out k (by omega)) (shS xs k) (shR xs k) (shD xs k) d0 d1 d2 W (NV.out.gr G.out) O.out.reads)
      have HSU := hid (timesTo_succ (shS xs) (shR xs) (shD xs) k (by omega))
      change Hid (World.rangeAt _ _ _ (shCells (shS xs k) (shR xs k) (shD xs k)).toList) at RG
      generalize dueT (timesTo (shS xs) (shR xs) (shD xs) k) (shS xs k) (shR xs k) (shD xs k) = t at *
      clear d0 d1 d2 hts
      generalize shS xs k = x0 at *
      generalize shR xs k = x1 at *
      generalize shD xs k = x2 at *
      obtain ⟨t0, t1, t2, t3⟩ := t
      change Hid (Calls _ _ _ _ (fun e w' => e = .returned (.agg #[.int .i8 t0, .int .i64 t1, .int .i64 t2, .int .i64 t3]) ∧ Gr _ w')) at HV
      unfold shCells at RG HV
      have hb0 : (0 : Int) ≤ (k : Nat) := by omega
      have hb1 : ((k : Nat) : Int) < n := by omega
      go_wp2_with (refine wpList_load_mid rfl 60 _ rfl bl (ol + k * 3) rfl _ _ RG.out Tryd.underlying60 rfl sizeShip ?_)
      refine HV.out.mono ?_
      rintro e w1 ⟨rfl, g1⟩
      have O1 := hid (O.out.gr g1)
      have G1 := hid (G.out.trans g1)
      have sz1 := hid g1.size
      clear g1
      go_wp2_with (at_builtin; refine wpList_append_own _ rfl _ _ 24 rfl w.heap.size 69 i0 (.agg #[.int .i8 0, .int .i64 0, .int .i64 0, .int .i64 0]) 4 32 Tryd.underlying24 hi hz0 hz1 hz2 rfl (by decide) _ _ _ rfl (O1.out.row.alloc _) ⟨w1.heap.size, 0, none⟩ 1 1 (Tm.cells ⟨t0, t1, t2, t3⟩) rfl rfl (news_tm (heap_new rfl)) (tm_oneCell _) (by unfold maxLen; omega) (by omega) (by have := G1.out.size; simp; omega) ?_; intro v2 w2 hown2 hgrow2 _)
      have G2 := hid ((G1.out.alloc _).by_ hgrow2 (fun b e => (O1.out.row.lt b e).1))
      have O2 := hid (OwnV.ofRow hown2)
      obtain ⟨a2, c2, rfl⟩ := O2.out.shape
      have O3 : Hid (OwnV 69 4 w2 w.heap.size w2.heap.size (.slice a2 (k + 1) c2) (k + 1) (tmCells (timesTo (shS xs) (shR xs) (shD xs) (k + 1)))) := hid (by
        rw [HSU.out, tmCells_append]
        exact O2.out)
      clear hown2 hgrow2 O1 O2 HV HSU
      go_wp2_with fail
      go_step3
      exact ⟨rfl, TmJ_mk (by omega) (by omega) O3.out G2.out, by simp [tmMu, vlen]; omega⟩
    · obtain rfl : k = n := by omega
      go_wp2_with fail
      simp only [Exit.jump]
      go_ret
      exact ⟨_, rfl, O.out, G.out⟩
end Go.Proofs.YtflbjjcpkhldkaaDoor
