/- Lines of ships: the times of a ship behind others: the program's function. -/
import Derived.Test.YtflbjjcpkhldkaaDoorLineT
namespace Go.Proofs.YtflbjjcpkhldkaaDoor
open Go.RowKit
theorem isReached_any (i : Nat) (t : Tm) (h : TmOk i t) {q : Bool} (hq : decide (0 ≤ t.l) = q) (w : World) (hn : NeverAt w) :
    Calls Tryd.prog 65 #[.agg #[.int .i8 t.f, .int .i64 t.s, .int .i64 t.c, .int .i64 t.l]] w fun e w' => e = .returned (.bool q) ∧ Gr w w' := by
  rw [← hq]
  rcases h with h | ⟨h1, h2, h3, h4, h5, h6, h7⟩
  · subst h
    exact isReached_no w hn
  · rw [decide_eq_true (by omega)]
    exact isReached_yes _ _ _ _ h1 h4 w hn
theorem range4 {w : World} {b o : Nat} {x0 x1 x2 x3 : Value} (h : w.cell? ⟨b, o, none⟩ = some x0 ∧ w.cell? ⟨b, o + 1, none⟩ = some x1 ∧ w.cell? ⟨b, o + 2, none⟩ = some x2 ∧ w.cell? ⟨b, o + 3, none⟩ = some x3) : w.rangeAt b o [x0, x1, x2, x3] := by
  intro j v hv
  have hj : j < 4 := (List.getElem?_eq_some_iff.1 hv).1
  rcases (by omega : j = 0 ∨ j = 1 ∨ j = 2 ∨ j = 3) with rfl | rfl | rfl | rfl
  · rw [← hv]; exact h.1
  · rw [← hv]; exact h.2.1
  · rw [← hv]; exact h.2.2.1
  · rw [← hv]; exact h.2.2.2
def tmZ : List Value := [.int .i8 0, .int .i64 0, .int .i64 0, .int .i64 0]
theorem tmL_range {i : Nat} {t : Tm} (h : TmOk i t) (hi : i < 20) : -1 ≤ t.l ∧ t.l ≤ 4800 := by
  rcases h with h | ⟨h1, h2, h3, h4, h5, h6, h7⟩
  · subst h; exact ⟨Int.le_refl _, by decide⟩
  · omega
set_option maxRecDepth 100000 in
set_option maxHeartbeats 8000000 in
theorem timesBehind_any (a : Option Addr) (n cap : Nat) (ts : List Tm) (hl : n = ts.length) (h0 : 0 < n) (hm : n ≤ 20) (ht : TsOk ts) (s r b : Int) (hs0 : 0 ≤ s ∧ s ≤ 6) (hr0 : 0 ≤ r ∧ r ≤ 120) (hb0 : 0 ≤ b ∧ b ≤ 60) (w : World) (hn : NeverAt w) (hs : CellsOf w a (tmCells ts)) :
    Calls Tryd.prog 116 #[.agg (shCells s r b), .slice a n cap] w fun e w' => e = .returned (.agg (dueT ts s r b).cells.toArray) ∧ Gr w w' := by
  have S := hid hs
  have HN := hid hn
  have HL := hid hl
  have HT := hid ht
  have hz : ¬ w.heap.size = 0 := by have := NeverAt.lt hn; omega
  have e0 : IntKind.i64.wrap s = s := IntWalk.i64_in _ (by omega)
  have e1 : IntKind.i64.wrap ((n : Int) - s) = (n : Int) - s := IntWalk.i64_in _ (by omega)
  have e2 : IntKind.i64.wrap r = r := IntWalk.i64_in _ (by omega)
  have e3 : IntKind.i64.wrap b = b := IntWalk.i64_in _ (by omega)
  obtain ⟨bb, off, rfl, _⟩ := tm_at hs (i := 0) (by omega)
  obtain ⟨lo, hlo⟩ : ∃ lo : Nat, lo = n - s.toNat := ⟨_, rfl⟩
  have hlo1 : max ((n : Int) - s) 0 = (lo : Int) := by omega
  have hlo2 : lo ≤ n := by omega
  have HE := hid (show dueT ts s r b = fromT ts (bestTo ts lo (n - lo)) r b by unfold dueT bestOf; rw [← hl, ← hlo])
  have HR := hid (fun j => bestTo_range ts lo j)
  have HY := hid (fun j (h : betterB ts (bestTo ts lo j) (lo + j) = true) => bestTo_yes h)
  have HZ := hid (fun j (h : betterB ts (bestTo ts lo j) (lo + j) = false) => bestTo_no h)
  have HB := hid (show ∀ p k, betterB ts p k = (decide (0 ≤ (tmAt ts k).l) && (decide (p < 0) || decide ((tmAt ts k).l < (tmAt ts p.toNat).l))) from fun _ _ => rfl)
  have HS0 := hid (show bestTo ts lo 0 = -1 from rfl)
  have HF := hid (fun p => show fromT ts p r b = if p < 0 then noT else ⟨p, (tmAt ts p.toNat).l, (tmAt ts p.toNat).l + r, (tmAt ts p.toNat).l + r + b⟩ from rfl)
  rw [HE.out]
  generalize fromT ts = ft at *
  generalize hbt : bestTo ts lo = bt at *
  obtain ⟨R, hR⟩ : ∃ R, R = ft (bt (n - lo)) r b := ⟨_, rfl⟩
  rw [← hR]
  have HRES := hid hR
  clear hs hn hl ht hlo HE hbt hR
  unfold shCells
  have b1 := hid (heap_kept (o := .cells tmZ.toArray 69) (heap_new (w := w) (o := .cells #[.int .i8 s, .int .i8 r, .int .i8 b] 60) rfl))
  have b2 := hid (heap_new (w := w.alloc (.cells #[.int .i8 s, .int .i8 r, .int .i8 b] 60)) (o := .cells tmZ.toArray 69) (n := w.heap.size + 1) (by simp))
  have G := hid (((Gr.refl w).alloc (.cells #[.int .i8 s, .int .i8 r, .int .i8 b] 60)).alloc (.cells tmZ.toArray 69))
  by_cases hcs : 0 ≤ (n : Int) - s
  all_goals
    go_enter Tryd.func116, Tryd.ntmps116
    go_wp2_with fail
    go_loopw [5, 6] (fun p i wr => ∃ j : Nat, lo + j ≤ n ∧ i = .int .i64 (lo + j : Nat) ∧ p = .int .i64 (bt j) ∧ Hid (Gr w wr) ∧ Hid (wr.heap[w.heap.size]? = some (.cells #[.int .i8 s, .int .i8 r, .int .i8 b] 60 (0, 0))) ∧ Hid (wr.heap[w.heap.size + 1]? = some (.cells tmZ.toArray 69 (0, 0)))) (fun _ i _ => n - (intOf i).toNat)
    case atStart => exact ⟨0, by omega, congrArg (Value.int .i64) (by omega), congrArg (Value.int .i64) HS0.out.symm, G, b1, b2⟩
    case round =>
      clear b1 b2 G
      obtain ⟨j, hj, rfl, rfl, hg, b1, b2⟩ := hrel
      by_cases hlt : lo + j < n
      · have hkl : lo + j < ts.length := by rw [← HL.out]; exact hlt
        have HD := hid (fun V (g : Gr w V) => tm_at' (S.out.gr g) hkl)
        have hok := HT.out _ hkl
        have HV := hid (fun q (hq : decide (0 ≤ (tmAt ts (lo + j)).l) = q) V (g : Gr w V) => isReached_any _ _ hok hq V (HN.out.gr g))
        have hlr := tmL_range hok (by omega)
        have HBk := hid (HB.out (bt j) (lo + j))
        have HRj := hid (HR.out j)
        have HYj := hid (HY.out j)
        have HZj := hid (HZ.out j)
        have HP := hid (fun (p : Nat) (hp : p < lo + j) V (g : Gr w V) => (tm_at' (S.out.gr g) (i := p) (by omega)).2.2.2)
        have HTp := hid (fun (p : Nat) (hp : p < lo + j) => tmL_range (HT.out p (by omega)) (by omega))
        clear hok hkl
        obtain ⟨k, hk⟩ : ∃ k, k = lo + j := ⟨_, rfl⟩
        rw [← hk] at HD HV hlr HBk hlt HYj HZj HP HTp ⊢
        generalize bt j = P at *
        generalize hlk : (tmAt ts k).l = lk at *
        generalize (tmAt ts k).f = fk at *
        generalize (tmAt ts k).s = sk at *
        generalize (tmAt ts k).c = ck at *
        have hb0' : (0 : Int) ≤ k := by omega
        have hb1' : (k : Int) < n := by omega
        have gd : Gr w wr.drew := hg.out.drew
        obtain ⟨p0, p1, p2, p3⟩ := HD.out _ gd
        have HK := hid hk
        have hk1 : k + 1 = lo + (j + 1) := by omega
        clear hlk
        cases hq : decide (0 ≤ lk)
        · -- it is not reached
          have HW := hid (fun V g => HV.out _ hq V g)
          have HQ := hid (HZj.out (by rw [HBk.out, hq]; rfl))
          clear HV HP HTp HYj HZj HBk HRj hk
          go_wp2_with fail
          refine wp_region_held_drew (S := fun V => V.cell? ⟨bb, off + k * 4, none⟩ = some (.int .i8 fk) ∧ V.cell? ⟨bb, off + k * 4 + 1, none⟩ = some (.int .i64 sk) ∧ V.cell? ⟨bb, off + k * 4 + 2, none⟩ = some (.int .i64 ck) ∧ V.cell? ⟨bb, off + k * 4 + 3, none⟩ = some (.int .i64 lk) ∧ Gr w V) (by kernel_rfl) ⟨p0, p1, p2, p3, gd⟩ (fun hH => ?_)
          have HH := hid hH
          clear hH
          refine wpAnyH_take (i := 0) (v := .slice (some ⟨bb, off, none⟩) n cap) rfl (by kernel_rfl) (by kernel_rfl) (by kernel_rfl) (fun _ _ _ h => h) (Or.inl ⟨by rfl, fun _ _ => by first | rfl | (go_simp; done) | (go_simp; rfl)⟩) HH.out ?_
          simp only [Act.put, List.getElem_toArray, List.getElem_cons_zero, List.setIfInBounds_toArray, List.set_cons_zero, List.set_cons_succ]
          refine wpAnyH_take (i := 1) (v := .int .i64 k) rfl (by kernel_rfl) (by kernel_rfl) (by kernel_rfl) (fun _ _ _ h => h) (Or.inl ⟨by rfl, fun _ _ => by first | rfl | (go_simp; done) | (go_simp; rfl)⟩) HH.out ?_
          simp only [Act.put, List.getElem_toArray, List.getElem_cons_zero, List.getElem_cons_succ, List.setIfInBounds_toArray, List.set_cons_zero, List.set_cons_succ]
          refine wpAnyH_take (i := 2) (v := .pointer (some ⟨bb, off + k * 4, none⟩)) rfl (by kernel_rfl) (by kernel_rfl) (by kernel_rfl) (fun _ _ _ h => h) (Or.inl ⟨by rfl, fun _ _ => by first | rfl | (go_simp; done) | (go_simp; rfl)⟩) HH.out ?_
          simp only [Act.put, List.getElem_toArray, List.getElem_cons_zero, List.getElem_cons_succ, List.setIfInBounds_toArray, List.set_cons_zero, List.set_cons_succ]
          refine wpAnyH_take (i := 3) (v := .agg #[.int .i8 fk, .int .i64 sk, .int .i64 ck, .int .i64 lk]) rfl (by kernel_rfl) (by kernel_rfl) (by kernel_rfl) (fun _ _ _ h => h) (yieldsIf_load_mid rfl 69 (.tmp 24) rfl bb (off + k * 4) rfl [.int .i8 fk, .int .i64 sk, .int .i64 ck, .int .i64 lk] _ (fun V hV => range4 ⟨hV.1, hV.2.1, hV.2.2.1, hV.2.2.2.1⟩) Tryd.underlying69 rfl sizeTimes) HH.out ?_
          simp only [Act.put, List.getElem_toArray, List.getElem_cons_zero, List.getElem_cons_succ, List.setIfInBounds_toArray, List.set_cons_zero, List.set_cons_succ]
          refine wpAnyH_ready (rs := [4]) (by kernel_rfl) (by simp) (AllReadyH.cons rfl (fun K hK => ?_) AllReadyH.nil)
          rw [if_pos (by rfl)]
          go_simp
          refine (HW.out _ HH.out.2.2.2.2).mono ?_
          rintro e V ⟨rfl, gV⟩
          dsimp only
          have gW := HH.out.2.2.2.2.trans gV
          replace b1 := hid (gV.heap b1.out)
          replace b2 := hid (gV.heap b2.out)
          refine hK.out _ _ ⟨(HD.out _ gW).1, (HD.out _ gW).2.1, (HD.out _ gW).2.2.1, (HD.out _ gW).2.2.2, gW⟩ (fun hH => ?_)
          clear HH hK K
          have HH := hid hH
          clear hH gV gW
          refine wpAnyH_take (i := 5) (v := .bool false) rfl (by kernel_rfl) (by kernel_rfl) (by kernel_rfl) (fun _ _ _ h => h) (Or.inl ⟨by rfl, fun _ _ => by first | rfl | (go_simp; done) | (go_simp; rfl)⟩) HH.out ?_
          simp only [Act.put, List.getElem_toArray, List.getElem_cons_zero, List.getElem_cons_succ, List.setIfInBounds_toArray, List.set_cons_zero, List.set_cons_succ]
          refine wpAnyH_take (i := 6) (v := undef) rfl (by kernel_rfl) (by kernel_rfl) (by kernel_rfl) (fun _ _ _ h => h) (Or.inr ⟨by kernel_rfl, rfl⟩) HH.out ?_
          simp only [Act.put, List.getElem_toArray, List.getElem_cons_zero, List.getElem_cons_succ, List.setIfInBounds_toArray, List.set_cons_zero, List.set_cons_succ]
          refine wpAnyH_take (i := 7) (v := undef) rfl (by kernel_rfl) (by kernel_rfl) (by kernel_rfl) (fun _ _ _ h => h) (Or.inr ⟨by kernel_rfl, rfl⟩) HH.out ?_
          simp only [Act.put, List.getElem_toArray, List.getElem_cons_zero, List.getElem_cons_succ, List.setIfInBounds_toArray, List.set_cons_zero, List.set_cons_succ]
          refine wpAnyH_take (i := 8) (v := undef) rfl (by kernel_rfl) (by kernel_rfl) (by kernel_rfl) (fun _ _ _ h => h) (Or.inr ⟨by kernel_rfl, rfl⟩) HH.out ?_
          simp only [Act.put, List.getElem_toArray, List.getElem_cons_zero, List.getElem_cons_succ, List.setIfInBounds_toArray, List.set_cons_zero, List.set_cons_succ]
          refine wpAnyH_take (i := 9) (v := undef) rfl (by kernel_rfl) (by kernel_rfl) (by kernel_rfl) (fun _ _ _ h => h) (Or.inr ⟨by kernel_rfl, rfl⟩) HH.out ?_
          simp only [Act.put, List.getElem_toArray, List.getElem_cons_zero, List.getElem_cons_succ, List.setIfInBounds_toArray, List.set_cons_zero, List.set_cons_succ]
          refine wpAnyH_take (i := 10) (v := undef) rfl (by kernel_rfl) (by kernel_rfl) (by kernel_rfl) (fun _ _ _ h => h) (Or.inr ⟨by kernel_rfl, rfl⟩) HH.out ?_
          simp only [Act.put, List.getElem_toArray, List.getElem_cons_zero, List.getElem_cons_succ, List.setIfInBounds_toArray, List.set_cons_zero, List.set_cons_succ]
          refine wpAnyH_take (i := 11) (v := undef) rfl (by kernel_rfl) (by kernel_rfl) (by kernel_rfl) (fun _ _ _ h => h) (Or.inr ⟨by kernel_rfl, rfl⟩) HH.out ?_
          simp only [Act.put, List.getElem_toArray, List.getElem_cons_zero, List.getElem_cons_succ, List.setIfInBounds_toArray, List.set_cons_zero, List.set_cons_succ]
          refine wpAnyH_take (i := 12) (v := undef) rfl (by kernel_rfl) (by kernel_rfl) (by kernel_rfl) (fun _ _ _ h => h) (Or.inr ⟨by kernel_rfl, rfl⟩) HH.out ?_
          simp only [Act.put, List.getElem_toArray, List.getElem_cons_zero, List.getElem_cons_succ, List.setIfInBounds_toArray, List.set_cons_zero, List.set_cons_succ]
          refine wpAnyH_take (i := 13) (v := undef) rfl (by kernel_rfl) (by kernel_rfl) (by kernel_rfl) (fun _ _ _ h => h) (Or.inr ⟨by kernel_rfl, rfl⟩) HH.out ?_
          simp only [Act.put, List.getElem_toArray, List.getElem_cons_zero, List.getElem_cons_succ, List.setIfInBounds_toArray, List.set_cons_zero, List.set_cons_succ]
          refine wpAnyH_take (i := 14) (v := undef) rfl (by kernel_rfl) (by kernel_rfl) (by kernel_rfl) (fun _ _ _ h => h) (Or.inr ⟨by kernel_rfl, rfl⟩) HH.out ?_
          simp only [Act.put, List.getElem_toArray, List.getElem_cons_zero, List.getElem_cons_succ, List.setIfInBounds_toArray, List.set_cons_zero, List.set_cons_succ]
          refine wpAnyH_take (i := 15) (v := undef) rfl (by kernel_rfl) (by kernel_rfl) (by kernel_rfl) (fun _ _ _ h => h) (Or.inr ⟨by kernel_rfl, rfl⟩) HH.out ?_
          simp only [Act.put, List.getElem_toArray, List.getElem_cons_zero, List.getElem_cons_succ, List.setIfInBounds_toArray, List.set_cons_zero, List.set_cons_succ]
          refine wpAnyH_take (i := 16) (v := undef) rfl (by kernel_rfl) (by kernel_rfl) (by kernel_rfl) (fun _ _ _ h => h) (Or.inr ⟨by kernel_rfl, rfl⟩) HH.out ?_
          simp only [Act.put, List.getElem_toArray, List.getElem_cons_zero, List.getElem_cons_succ, List.setIfInBounds_toArray, List.set_cons_zero, List.set_cons_succ]
          refine wpAnyH_take (i := 17) (v := undef) rfl (by kernel_rfl) (by kernel_rfl) (by kernel_rfl) (fun _ _ _ h => h) (Or.inr ⟨by kernel_rfl, rfl⟩) HH.out ?_
          simp only [Act.put, List.getElem_toArray, List.getElem_cons_zero, List.getElem_cons_succ, List.setIfInBounds_toArray, List.set_cons_zero, List.set_cons_succ]
          refine wpAnyH_take (i := 18) (v := undef) rfl (by kernel_rfl) (by kernel_rfl) (by kernel_rfl) (fun _ _ _ h => h) (Or.inr ⟨by kernel_rfl, rfl⟩) HH.out ?_
          simp only [Act.put, List.getElem_toArray, List.getElem_cons_zero, List.getElem_cons_succ, List.setIfInBounds_toArray, List.set_cons_zero, List.set_cons_succ]
          refine wpAnyH_take (i := 19) (v := undef) rfl (by kernel_rfl) (by kernel_rfl) (by kernel_rfl) (fun _ _ _ h => h) (Or.inr ⟨by kernel_rfl, rfl⟩) HH.out ?_
          simp only [Act.put, List.getElem_toArray, List.getElem_cons_zero, List.getElem_cons_succ, List.setIfInBounds_toArray, List.set_cons_zero, List.set_cons_succ]
          refine wpAnyH_take (i := 20) (v := undef) rfl (by kernel_rfl) (by kernel_rfl) (by kernel_rfl) (fun _ _ _ h => h) (Or.inr ⟨by kernel_rfl, rfl⟩) HH.out ?_
          simp only [Act.put, List.getElem_toArray, List.getElem_cons_zero, List.getElem_cons_succ, List.setIfInBounds_toArray, List.set_cons_zero, List.set_cons_succ]
          refine wpAnyH_take (i := 21) (v := .bool false) rfl (by kernel_rfl) (by kernel_rfl) (by kernel_rfl) (fun _ _ _ h => h) (Or.inl ⟨by rfl, fun _ _ => by first | rfl | (go_simp; done) | (go_simp; rfl)⟩) HH.out ?_
          simp only [Act.put, List.getElem_toArray, List.getElem_cons_zero, List.getElem_cons_succ, List.setIfInBounds_toArray, List.set_cons_zero, List.set_cons_succ]
          refine wpAnyH_done (by kernel_rfl) ?_ _
          have hgn := HH.out.2.2.2.2
          all_goals
            go_wp2_with fail
            go_roundw
            case rel => exact ⟨j + 1, by omega, by rw [← hk1]; go_num, congrArg (Value.int .i64) HQ.out.symm, hid (by first | assumption | exact Gr.drew (by assumption)), b1, b2⟩
            case measure => simp [intOf] <;> omega
        · have HW := hid (fun V g => HV.out _ hq V g)
          by_cases hP : P < 0
          · have HQ := hid (HYj.out (by rw [HBk.out, hq, decide_eq_true hP]; rfl))
            clear HV HP HTp HYj HZj HBk HRj hk
            go_wp2_with fail
            refine wp_region_held_drew (S := fun V => V.cell? ⟨bb, off + k * 4, none⟩ = some (.int .i8 fk) ∧ V.cell? ⟨bb, off + k * 4 + 1, none⟩ = some (.int .i64 sk) ∧ V.cell? ⟨bb, off + k * 4 + 2, none⟩ = some (.int .i64 ck) ∧ V.cell? ⟨bb, off + k * 4 + 3, none⟩ = some (.int .i64 lk) ∧ Gr w V) (by kernel_rfl) ⟨p0, p1, p2, p3, gd⟩ (fun hH => ?_)
            have HH := hid hH
            clear hH
            refine wpAnyH_take (i := 0) (v := .slice (some ⟨bb, off, none⟩) n cap) rfl (by kernel_rfl) (by kernel_rfl) (by kernel_rfl) (fun _ _ _ h => h) (Or.inl ⟨by rfl, fun _ _ => by first | rfl | (go_simp; done) | (go_simp; rfl)⟩) HH.out ?_
            simp only [Act.put, List.getElem_toArray, List.getElem_cons_zero, List.setIfInBounds_toArray, List.set_cons_zero, List.set_cons_succ]
            refine wpAnyH_take (i := 1) (v := .int .i64 k) rfl (by kernel_rfl) (by kernel_rfl) (by kernel_rfl) (fun _ _ _ h => h) (Or.inl ⟨by rfl, fun _ _ => by first | rfl | (go_simp; done) | (go_simp; rfl)⟩) HH.out ?_
            simp only [Act.put, List.getElem_toArray, List.getElem_cons_zero, List.getElem_cons_succ, List.setIfInBounds_toArray, List.set_cons_zero, List.set_cons_succ]
            refine wpAnyH_take (i := 2) (v := .pointer (some ⟨bb, off + k * 4, none⟩)) rfl (by kernel_rfl) (by kernel_rfl) (by kernel_rfl) (fun _ _ _ h => h) (Or.inl ⟨by rfl, fun _ _ => by first | rfl | (go_simp; done) | (go_simp; rfl)⟩) HH.out ?_
            simp only [Act.put, List.getElem_toArray, List.getElem_cons_zero, List.getElem_cons_succ, List.setIfInBounds_toArray, List.set_cons_zero, List.set_cons_succ]
            refine wpAnyH_take (i := 3) (v := .agg #[.int .i8 fk, .int .i64 sk, .int .i64 ck, .int .i64 lk]) rfl (by kernel_rfl) (by kernel_rfl) (by kernel_rfl) (fun _ _ _ h => h) (yieldsIf_load_mid rfl 69 (.tmp 24) rfl bb (off + k * 4) rfl [.int .i8 fk, .int .i64 sk, .int .i64 ck, .int .i64 lk] _ (fun V hV => range4 ⟨hV.1, hV.2.1, hV.2.2.1, hV.2.2.2.1⟩) Tryd.underlying69 rfl sizeTimes) HH.out ?_
            simp only [Act.put, List.getElem_toArray, List.getElem_cons_zero, List.getElem_cons_succ, List.setIfInBounds_toArray, List.set_cons_zero, List.set_cons_succ]
            refine wpAnyH_ready (rs := [4]) (by kernel_rfl) (by simp) (AllReadyH.cons rfl (fun K hK => ?_) AllReadyH.nil)
            rw [if_pos (by rfl)]
            go_simp
            refine (HW.out _ HH.out.2.2.2.2).mono ?_
            rintro e V ⟨rfl, gV⟩
            dsimp only
            have gW := HH.out.2.2.2.2.trans gV
            replace b1 := hid (gV.heap b1.out)
            replace b2 := hid (gV.heap b2.out)
            refine hK.out _ _ ⟨(HD.out _ gW).1, (HD.out _ gW).2.1, (HD.out _ gW).2.2.1, (HD.out _ gW).2.2.2, gW⟩ (fun hH => ?_)
            clear HH hK K
            have HH := hid hH
            clear hH gV gW
            refine wpAnyH_take (i := 5) (v := .bool true) rfl (by kernel_rfl) (by kernel_rfl) (by kernel_rfl) (fun _ _ _ h => h) (Or.inl ⟨by rfl, fun _ _ => by first | rfl | (go_simp; done) | (go_simp; rfl)⟩) HH.out ?_
            simp only [Act.put, List.getElem_toArray, List.getElem_cons_zero, List.getElem_cons_succ, List.setIfInBounds_toArray, List.set_cons_zero, List.set_cons_succ]
            refine wpAnyH_take (i := 6) (v := .int .i64 P) rfl (by kernel_rfl) (by kernel_rfl) (by kernel_rfl) (fun _ _ _ h => h) (Or.inl ⟨by rfl, fun _ _ => by first | rfl | (go_simp; done) | (go_simp; rfl)⟩) HH.out ?_
            simp only [Act.put, List.getElem_toArray, List.getElem_cons_zero, List.getElem_cons_succ, List.setIfInBounds_toArray, List.set_cons_zero, List.set_cons_succ]
            refine wpAnyH_take (i := 7) (v := .bool true) rfl (by kernel_rfl) (by kernel_rfl) (by kernel_rfl) (fun _ _ _ h => h) (Or.inl ⟨by rfl, fun _ _ => by first | rfl | (go_simp; done) | (go_simp; rfl)⟩) HH.out ?_
            simp only [Act.put, List.getElem_toArray, List.getElem_cons_zero, List.getElem_cons_succ, List.setIfInBounds_toArray, List.set_cons_zero, List.set_cons_succ]
            refine wpAnyH_take (i := 8) (v := .bool true) rfl (by kernel_rfl) (by kernel_rfl) (by kernel_rfl) (fun _ _ _ h => h) (Or.inl ⟨by rfl, fun _ _ => by first | rfl | (go_simp; done) | (go_simp; rfl)⟩) HH.out ?_
            simp only [Act.put, List.getElem_toArray, List.getElem_cons_zero, List.getElem_cons_succ, List.setIfInBounds_toArray, List.set_cons_zero, List.set_cons_succ]
            refine wpAnyH_take (i := 9) (v := undef) rfl (by kernel_rfl) (by kernel_rfl) (by kernel_rfl) (fun _ _ _ h => h) (Or.inr ⟨by kernel_rfl, rfl⟩) HH.out ?_
            simp only [Act.put, List.getElem_toArray, List.getElem_cons_zero, List.getElem_cons_succ, List.setIfInBounds_toArray, List.set_cons_zero, List.set_cons_succ]
            refine wpAnyH_take (i := 10) (v := undef) rfl (by kernel_rfl) (by kernel_rfl) (by kernel_rfl) (fun _ _ _ h => h) (Or.inr ⟨by kernel_rfl, rfl⟩) HH.out ?_
            simp only [Act.put, List.getElem_toArray, List.getElem_cons_zero, List.getElem_cons_succ, List.setIfInBounds_toArray, List.set_cons_zero, List.set_cons_succ]
            refine wpAnyH_take (i := 11) (v := undef) rfl (by kernel_rfl) (by kernel_rfl) (by kernel_rfl) (fun _ _ _ h => h) (Or.inr ⟨by kernel_rfl, rfl⟩) HH.out ?_
            simp only [Act.put, List.getElem_toArray, List.getElem_cons_zero, List.getElem_cons_succ, List.setIfInBounds_toArray, List.set_cons_zero, List.set_cons_succ]
            refine wpAnyH_take (i := 12) (v := undef) rfl (by kernel_rfl) (by kernel_rfl) (by kernel_rfl) (fun _ _ _ h => h) (Or.inr ⟨by kernel_rfl, rfl⟩) HH.out ?_
            simp only [Act.put, List.getElem_toArray, List.getElem_cons_zero, List.getElem_cons_succ, List.setIfInBounds_toArray, List.set_cons_zero, List.set_cons_succ]
            refine wpAnyH_take (i := 13) (v := undef) rfl (by kernel_rfl) (by kernel_rfl) (by kernel_rfl) (fun _ _ _ h => h) (Or.inr ⟨by kernel_rfl, rfl⟩) HH.out ?_
            simp only [Act.put, List.getElem_toArray, List.getElem_cons_zero, List.getElem_cons_succ, List.setIfInBounds_toArray, List.set_cons_zero, List.set_cons_succ]
            refine wpAnyH_take (i := 14) (v := undef) rfl (by kernel_rfl) (by kernel_rfl) (by kernel_rfl) (fun _ _ _ h => h) (Or.inr ⟨by kernel_rfl, rfl⟩) HH.out ?_
            simp only [Act.put, List.getElem_toArray, List.getElem_cons_zero, List.getElem_cons_succ, List.setIfInBounds_toArray, List.set_cons_zero, List.set_cons_succ]
            refine wpAnyH_take (i := 15) (v := undef) rfl (by kernel_rfl) (by kernel_rfl) (by kernel_rfl) (fun _ _ _ h => h) (Or.inr ⟨by kernel_rfl, rfl⟩) HH.out ?_
            simp only [Act.put, List.getElem_toArray, List.getElem_cons_zero, List.getElem_cons_succ, List.setIfInBounds_toArray, List.set_cons_zero, List.set_cons_succ]
            refine wpAnyH_take (i := 16) (v := undef) rfl (by kernel_rfl) (by kernel_rfl) (by kernel_rfl) (fun _ _ _ h => h) (Or.inr ⟨by kernel_rfl, rfl⟩) HH.out ?_
            simp only [Act.put, List.getElem_toArray, List.getElem_cons_zero, List.getElem_cons_succ, List.setIfInBounds_toArray, List.set_cons_zero, List.set_cons_succ]
            refine wpAnyH_take (i := 17) (v := undef) rfl (by kernel_rfl) (by kernel_rfl) (by kernel_rfl) (fun _ _ _ h => h) (Or.inr ⟨by kernel_rfl, rfl⟩) HH.out ?_
            simp only [Act.put, List.getElem_toArray, List.getElem_cons_zero, List.getElem_cons_succ, List.setIfInBounds_toArray, List.set_cons_zero, List.set_cons_succ]
            refine wpAnyH_take (i := 18) (v := undef) rfl (by kernel_rfl) (by kernel_rfl) (by kernel_rfl) (fun _ _ _ h => h) (Or.inr ⟨by kernel_rfl, rfl⟩) HH.out ?_
            simp only [Act.put, List.getElem_toArray, List.getElem_cons_zero, List.getElem_cons_succ, List.setIfInBounds_toArray, List.set_cons_zero, List.set_cons_succ]
            refine wpAnyH_take (i := 19) (v := undef) rfl (by kernel_rfl) (by kernel_rfl) (by kernel_rfl) (fun _ _ _ h => h) (Or.inr ⟨by kernel_rfl, rfl⟩) HH.out ?_
            simp only [Act.put, List.getElem_toArray, List.getElem_cons_zero, List.getElem_cons_succ, List.setIfInBounds_toArray, List.set_cons_zero, List.set_cons_succ]
            refine wpAnyH_take (i := 20) (v := .bool true) rfl (by kernel_rfl) (by kernel_rfl) (by kernel_rfl) (fun _ _ _ h => h) (Or.inl ⟨by rfl, fun _ _ => by first | rfl | (go_simp; done) | (go_simp; rfl)⟩) HH.out ?_
            simp only [Act.put, List.getElem_toArray, List.getElem_cons_zero, List.getElem_cons_succ, List.setIfInBounds_toArray, List.set_cons_zero, List.set_cons_succ]
            refine wpAnyH_take (i := 21) (v := .bool true) rfl (by kernel_rfl) (by kernel_rfl) (by kernel_rfl) (fun _ _ _ h => h) (Or.inl ⟨by rfl, fun _ _ => by first | rfl | (go_simp; done) | (go_simp; rfl)⟩) HH.out ?_
            simp only [Act.put, List.getElem_toArray, List.getElem_cons_zero, List.getElem_cons_succ, List.setIfInBounds_toArray, List.set_cons_zero, List.set_cons_succ]
            refine wpAnyH_done (by kernel_rfl) ?_ _
            have hgn := HH.out.2.2.2.2
            all_goals
              go_wp2_with fail
              go_roundw
              case rel => exact ⟨j + 1, by omega, by rw [← hk1]; go_num, congrArg (Value.int .i64) (by rw [HQ.out]), hid (by first | assumption | exact Gr.drew (by assumption)), b1, b2⟩
              case measure => simp [intOf] <;> omega
          · obtain ⟨p, rfl⟩ := Int.eq_ofNat_of_zero_le (by omega : 0 ≤ P)
            have hpk : p < k := by rcases HRj.out with h | ⟨_, h, _⟩ <;> omega
            have HPp := hid (HP.out p hpk)
            have hlp := HTp.out p hpk
            rw [Int.toNat_natCast] at HBk
            generalize (tmAt ts p).l = lp at *
            have p4 := HPp.out _ gd
            have hP0 : (0 : Int) ≤ (p : Int) := by omega
            have hP1 : (p : Int) < n := by omega
            by_cases hlq : lk < lp
            · have HQ := hid (HYj.out (by rw [HBk.out, hq, decide_eq_true hlq, Bool.or_true]; rfl))
              clear HV HP HTp HYj HZj HBk HRj hk hpk
              go_wp2_with fail
              go_region_held3 (fun V => V.cell? ⟨bb, off + k * 4, none⟩ = some (.int .i8 fk) ∧ V.cell? ⟨bb, off + k * 4 + 1, none⟩ = some (.int .i64 sk) ∧ V.cell? ⟨bb, off + k * 4 + 2, none⟩ = some (.int .i64 ck) ∧ V.cell? ⟨bb, off + k * 4 + 3, none⟩ = some (.int .i64 lk) ∧ V.cell? ⟨bb, off + p * 4 + 3, none⟩ = some (.int .i64 lp) ∧ Gr w V)
                (first | exact ⟨p0, p1, p2, p3, p4, gd⟩ | exact ⟨(HD.out _ gW).1, (HD.out _ gW).2.1, (HD.out _ gW).2.2.1, (HD.out _ gW).2.2.2, HPp.out _ gW, gW⟩ | go_keep)
                (((with_reducible refine (HW.out _ (by assumption)).mono ?_); rintro e V ⟨rfl, gV⟩; have gW : Gr w V := Gr.trans (by assumption) gV; replace b1 := hid (gV.heap b1.out); replace b2 := hid (gV.heap b2.out)))
              all_goals
                go_wp2_with fail
                go_roundw
                case rel => exact ⟨j + 1, by omega, by rw [← hk1]; go_num, congrArg (Value.int .i64) (by rw [HQ.out]), hid (by first | assumption | exact Gr.drew (by assumption)), b1, b2⟩
                case measure => simp [intOf] <;> omega
            · have HQ := hid (HZj.out (by rw [HBk.out, hq, decide_eq_false hlq, decide_eq_false hP]; rfl))
              clear HV HP HTp HYj HZj HBk HRj hk hpk
              go_wp2_with fail
              go_region_held3 (fun V => V.cell? ⟨bb, off + k * 4, none⟩ = some (.int .i8 fk) ∧ V.cell? ⟨bb, off + k * 4 + 1, none⟩ = some (.int .i64 sk) ∧ V.cell? ⟨bb, off + k * 4 + 2, none⟩ = some (.int .i64 ck) ∧ V.cell? ⟨bb, off + k * 4 + 3, none⟩ = some (.int .i64 lk) ∧ V.cell? ⟨bb, off + p * 4 + 3, none⟩ = some (.int .i64 lp) ∧ Gr w V)
                (first | exact ⟨p0, p1, p2, p3, p4, gd⟩ | exact ⟨(HD.out _ gW).1, (HD.out _ gW).2.1, (HD.out _ gW).2.2.1, (HD.out _ gW).2.2.2, HPp.out _ gW, gW⟩ | go_keep)
                (((with_reducible refine (HW.out _ (by assumption)).mono ?_); rintro e V ⟨rfl, gV⟩; have gW : Gr w V := Gr.trans (by assumption) gV; replace b1 := hid (gV.heap b1.out); replace b2 := hid (gV.heap b2.out)))
              all_goals
                go_wp2_with fail
                go_roundw
                case rel => exact ⟨j + 1, by omega, by rw [← hk1]; go_num, congrArg (Value.int .i64) HQ.out.symm, hid (by first | assumption | exact Gr.drew (by assumption)), b1, b2⟩
                case measure => simp [intOf] <;> omega
      · have hjn : j = n - lo := by omega
        have HRE := HRES.out
        rw [← hjn] at HRE
        replace HRE := hid HRE
        have HRj := hid (HR.out j)
        have HFj := hid (HF.out (bt j))
        have HP := hid (fun (p : Nat) (hp : p < lo + j) => (tm_at' (S.out.gr hg.out) (i := p) (by rw [← HL.out]; omega)).2.2.2)
        have HTp := hid (fun (p : Nat) (hp : p < lo + j) => tmL_range (HT.out p (by rw [← HL.out]; omega)) (by omega))
        generalize bt j = P at *
        have HNW := HN.out.gr hg.out
        obtain ⟨n0, n1, n2, n3⟩ := HNW
        by_cases hP : P < 0
        · have HX := hid (HRE.out.trans (HFj.out.trans (if_pos hP)))
          clear HFj HP HTp HRj HRE
          go_wp2_with (refine wpList_store_cells rfl 69 _ _ rfl (w.heap.size + 1) #[.int .i8 (-1), .int .i64 (-1), .int .i64 (-1), .int .i64 (-1)] tmZ.toArray rfl rfl _ 4 b2.out (by kernel_rfl) rfl rfl (by simp [Value.oneCell']) ?_)
          refine bodyPost_ret (v := .agg noT.cells.toArray) (results_cell_row (by rfl) _ _ _ _ _ _ _ rfl (heap_row_set b2.out) Tryd.underlying69 rfl (by kernel_rfl)) rfl ⟨by rw [HX.out], ?_⟩
          exact hg.out.setRow (by omega) _
        · obtain ⟨p, rfl⟩ := Int.eq_ofNat_of_zero_le (by omega : 0 ≤ P)
          have hpk : p < lo + j := by rcases HRj.out with h | ⟨_, h, _⟩ <;> omega
          have c4 := HP.out p hpk
          have hlp := HTp.out p hpk
          have hlp0 : 0 ≤ (tmAt ts p).l := by
            rcases HRj.out with h | ⟨_, _, h⟩
            · omega
            · rwa [Int.toNat_natCast] at h
          have HX := hid (HRE.out.trans (HFj.out.trans (if_neg hP)))
          rw [Int.toNat_natCast] at HX
          generalize (tmAt ts p).l = lp at *
          have hP0 : (0 : Int) ≤ (p : Int) := by omega
          have hP1 : (p : Int) < n := by omega
          have w1 : IntKind.i8.wrap (p : Int) = (p : Int) := IntWalk.i8_in _ (by omega)
          have w2 : IntKind.i64.wrap (lp + r) = lp + r := IntWalk.i64_in _ (by omega)
          have w3 : IntKind.i64.wrap (lp + r + b) = lp + r + b := IntWalk.i64_in _ (by omega)
          clear HFj HP HTp HRj hpk HRE
          have c5 : wr.cell? ⟨w.heap.size, 1, none⟩ = some (.int .i8 r) := by rw [cell_of_row _ _ _ _ _ _ b1.out]; rfl
          have c6 : wr.cell? ⟨w.heap.size, 2, none⟩ = some (.int .i8 b) := by rw [cell_of_row _ _ _ _ _ _ b1.out]; rfl
          go_wp2_with (refine wpList_store_cells rfl 69 _ _ rfl (w.heap.size + 1) #[.int .i8 p, .int .i64 lp, .int .i64 (lp + r), .int .i64 (lp + r + b)] tmZ.toArray rfl rfl _ 4 b2.out (by kernel_rfl) rfl rfl (by simp [Value.oneCell']) ?_)
          refine bodyPost_ret (v := .agg (Tm.cells ⟨p, lp, lp + r, lp + r + b⟩).toArray) (results_cell_row (by rfl) _ _ _ _ _ _ _ rfl (heap_row_set b2.out) Tryd.underlying69 rfl (by kernel_rfl)) rfl ⟨by rw [HX.out], ?_⟩
          exact hg.out.setRow (by omega) _
end Go.Proofs.YtflbjjcpkhldkaaDoor
