/- ClosedUntil: the functions. -/
import Derived.Test.YtflbjjcpkhldkaaDoorWhere
import Derived.Test.YtflbjjcpkhldkaaDoorReplyInt
namespace Go.Proofs.YtflbjjcpkhldkaaDoor
set_option linter.unusedVariables false
open Go.RowKit
theorem cloB_of {ts : List Tm} {i : Nat} (h : TmOk i (tmAt ts i)) (t : Int) : cloB ts t i = (decide (0 ≤ (tmAt ts i).l) && decide ((tmAt ts i).c ≤ t)) := by
  unfold cloB
  rcases h with h | ⟨h1, h2, h3, h4, h5, h6, h7⟩
  · rw [h]; rfl
  · rw [decide_eq_true (show 0 ≤ (tmAt ts i).c by omega), decide_eq_true (show 0 ≤ (tmAt ts i).l by omega)]
set_option maxRecDepth 100000 in
set_option maxHeartbeats 2000000 in
theorem closedAt_any (a : Option Addr) (n c : Nat) (ts : List Tm) (hl : n = ts.length) (hm : n ≤ 20) (ht : TsOk ts) (k : Nat) (hk : k < n) (t : Int) (lp tp : Addr) (w : World) (hnv : NeverAt w) (hc : w.cell? lp = some (.slice a n c)) (hct : w.cell? tp = some (.int .i64 t)) (ha : CellsOf w a (tmCells ts)) :
    Calls Tryd.prog 84 (#[.int .i64 k] ++ #[.pointer (some lp), .pointer (some tp)]) w fun e w' => e = .returned (.bool (cloB ts t k)) ∧ Gr w w' := by
  have hkl : k < ts.length := by omega
  obtain ⟨b0, o0, rfl, p0, p1, p2, p3⟩ := tm_at ha hkl
  have HE := hid (cloB_of (ht k hkl) t)
  rw [HE.out]
  have HI0 : ∀ q, decide (0 ≤ (tmAt ts k).l) = q → ∀ V, Gr w V → Calls Tryd.prog 65 #[.agg #[.int .i8 (tmAt ts k).f, .int .i64 (tmAt ts k).s, .int .i64 (tmAt ts k).c, .int .i64 (tmAt ts k).l]] V fun e w' => e = .returned (.bool q) ∧ Gr V w' :=
    fun q hq V g => isReached_any k (tmAt ts k) (ht k hkl) hq V (hnv.gr g)
  generalize (tmAt ts k).f = x0 at *
  generalize (tmAt ts k).s = x1 at *
  generalize (tmAt ts k).c = x2 at *
  generalize (tmAt ts k).l = x3 at *
  have hb0 : (0 : Int) ≤ k := by omega
  have hb1 : (k : Int) < n := by omega
  have gd : Gr w w.drew := (Gr.refl w).drew
  have C1 := hid hc
  have C2 := hid hct
  have C3 := hid p0
  have C4 := hid p1
  have C5 := hid p2
  have C6 := hid p3
  clear ha hl ht hkl HE hnv
  cases hq : decide (0 ≤ x3)
  · have HI := hid (HI0 _ hq)
    clear HI0 hq
    go_enter Tryd.func84, Tryd.ntmps84
    go_wp2_with fail
    refine wp_region_held_drew (S := fun V => V.cell? lp = some (.slice (some ⟨b0, o0, none⟩) n c) ∧ V.cell? tp = some (.int .i64 t) ∧ V.cell? ⟨b0, o0 + k * 4, none⟩ = some (.int .i8 x0) ∧ V.cell? ⟨b0, o0 + k * 4 + 1, none⟩ = some (.int .i64 x1) ∧ V.cell? ⟨b0, o0 + k * 4 + 2, none⟩ = some (.int .i64 x2) ∧ V.cell? ⟨b0, o0 + k * 4 + 3, none⟩ = some (.int .i64 x3) ∧ Gr w V) (by kernel_rfl) ⟨hc, hct, p0, p1, p2, p3, gd⟩ (fun hH => ?_)
    have HH := hid hH
    clear hH
    refine wpAnyH_take (i := 0) (v := .slice (some ⟨b0, o0, none⟩) n c) rfl (by kernel_rfl) (by kernel_rfl) (by kernel_rfl) (fun _ _ _ h => h) (Or.inl ⟨by rfl, fun V hV => by (obtain ⟨h1, h2, h3, h4, h5, h6, h7⟩ := hV; first | (go_simp; done) | (go_simp; rfl))⟩) HH.out ?_
    simp only [Act.put, List.getElem_toArray, List.getElem_cons_zero, List.setIfInBounds_toArray, List.set_cons_zero, List.set_cons_succ]
    refine wpAnyH_take (i := 1) (v := .int .i64 k) rfl (by kernel_rfl) (by kernel_rfl) (by kernel_rfl) (fun _ _ _ h => h) (Or.inl ⟨by rfl, fun _ _ => by first | rfl | (go_simp; done) | (go_simp; rfl)⟩) HH.out ?_
    simp only [Act.put, List.getElem_toArray, List.getElem_cons_zero, List.getElem_cons_succ, List.setIfInBounds_toArray, List.set_cons_zero, List.set_cons_succ]
    refine wpAnyH_take (i := 2) (v := .pointer (some ⟨b0, o0 + k * 4, none⟩)) rfl (by kernel_rfl) (by kernel_rfl) (by kernel_rfl) (fun _ _ _ h => h) (Or.inl ⟨by rfl, fun _ _ => by first | rfl | (go_simp; done) | (go_simp; rfl)⟩) HH.out ?_
    simp only [Act.put, List.getElem_toArray, List.getElem_cons_zero, List.getElem_cons_succ, List.setIfInBounds_toArray, List.set_cons_zero, List.set_cons_succ]
    refine wpAnyH_take (i := 3) (v := .agg #[.int .i8 x0, .int .i64 x1, .int .i64 x2, .int .i64 x3]) rfl (by kernel_rfl) (by kernel_rfl) (by kernel_rfl) (fun _ _ _ h => h) (yieldsIf_load_mid rfl 69 (.tmp 7) rfl b0 (o0 + k * 4) rfl [.int .i8 x0, .int .i64 x1, .int .i64 x2, .int .i64 x3] _ (fun V hV => range4 ⟨hV.2.2.1, hV.2.2.2.1, hV.2.2.2.2.1, hV.2.2.2.2.2.1⟩) Tryd.underlying69 rfl sizeTimes) HH.out ?_
    simp only [Act.put, List.getElem_toArray, List.getElem_cons_zero, List.getElem_cons_succ, List.setIfInBounds_toArray, List.set_cons_zero, List.set_cons_succ]
    refine wpAnyH_ready (rs := [4]) (by kernel_rfl) (by simp) (AllReadyH.cons rfl (fun K2 hK2 => ?_) AllReadyH.nil)
    rw [if_pos (by rfl)]
    go_simp
    refine (HI.out _ HH.out.2.2.2.2.2.2).mono ?_
    rintro e V ⟨rfl, gV⟩
    dsimp only
    have gW := HH.out.2.2.2.2.2.2.trans gV
    refine hK2.out _ _ ⟨gW.cell C1.out, gW.cell C2.out, gW.cell C3.out, gW.cell C4.out, gW.cell C5.out, gW.cell C6.out, gW⟩ (fun hH => ?_)
    clear HH hK2 K2
    have HH := hid hH
    clear hH gV gW
    refine wpAnyH_take (i := 5) (v := .bool false) rfl (by kernel_rfl) (by kernel_rfl) (by kernel_rfl) (fun _ _ _ h => h) (Or.inl ⟨by rfl, fun _ _ => by first | rfl | (go_simp; done) | (go_simp; rfl)⟩) HH.out ?_
    simp only [Act.put, List.getElem_toArray, List.getElem_cons_zero, List.getElem_cons_succ, List.setIfInBounds_toArray, List.set_cons_zero, List.set_cons_succ]
    refine wpAnyH_take (i := 6) (v := undef) rfl (by kernel_rfl) (by kernel_rfl) (by kernel_rfl) (fun _ _ _ h => h) (Or.inr ⟨by kernel_rfl, rfl⟩) HH.out ?_
    simp only [Act.put, List.getElem_toArray, List.getElem_cons_zero, List.getElem_cons_succ, List.setIfInBounds_toArray, List.set_cons_zero, List.set_cons_succ]
    refine wpAnyH_take (i := 7) (v := undef) rfl (by kernel_rfl) (by kernel_rfl) (by kernel_rfl) (fun _ _ _ h => h) (Or.inr ⟨by kernel_rfl, rfl⟩) HH.out ?_
    simp only [Act.put, List.getElem_toArray, List.getElem_cons_zero, List.getElem_cons_succ, List.setIfInBounds_toArray, List.set_cons_zero, List.set_cons_succ]
    refine wpAnyH_take (i := 8) (v := undef) rfl (by kernel_rfl) (by kernel_rfl) (by kernel_rfl) (fun _ _ _ h => h) (Or.inr ⟨by kernel_rfl, rfl⟩) HH.out ?_
    simp only [Act.put, List.getElem_toArray, List.getElem_cons_zero, List.getElem_cons_succ, List.setIfInBounds_toArray, List.set_cons_zero, List.set_cons_succ]
    refine wpAnyH_take (i := 9) (v := undef) rfl (by kernel_rfl) (by kernel_rfl) (by kernel_rfl) (fun _ _ _ h => h) (Or.inr ⟨by kernel_rfl, rfl⟩) HH.out ?_
    simp only [Act.put, List.getElem_toArray, List.getElem_cons_zero, List.getElem_cons_succ, List.setIfInBounds_toArray, List.set_cons_zero, List.set_cons_succ]
    refine wpAnyH_take (i := 10) (v := undef) rfl (by kernel_rfl) (by kernel_rfl) (by kernel_rfl) (fun _ _ _ h => h) (Or.inr ⟨by kernel_rfl, rfl⟩) HH.out ?_
    simp only [Act.put, List.getElem_toArray, List.getElem_cons_zero, List.getElem_cons_succ, List.setIfInBounds_toArray, List.set_cons_zero, List.set_cons_succ]
    refine wpAnyH_take (i := 11) (v := undef) rfl (by kernel_rfl) (by kernel_rfl) (by kernel_rfl) (fun _ _ _ h => h) (Or.inr ⟨by kernel_rfl, rfl⟩) HH.out ?_
    simp only [Act.put, List.getElem_toArray, List.getElem_cons_zero, List.getElem_cons_succ, List.setIfInBounds_toArray, List.set_cons_zero, List.set_cons_succ]
    refine wpAnyH_take (i := 12) (v := undef) rfl (by kernel_rfl) (by kernel_rfl) (by kernel_rfl) (fun _ _ _ h => h) (Or.inr ⟨by kernel_rfl, rfl⟩) HH.out ?_
    simp only [Act.put, List.getElem_toArray, List.getElem_cons_zero, List.getElem_cons_succ, List.setIfInBounds_toArray, List.set_cons_zero, List.set_cons_succ]
    refine wpAnyH_take (i := 13) (v := .bool false) rfl (by kernel_rfl) (by kernel_rfl) (by kernel_rfl) (fun _ _ _ h => h) (Or.inl ⟨by rfl, fun _ _ => by first | rfl | (go_simp; done) | (go_simp; rfl)⟩) HH.out ?_
    simp only [Act.put, List.getElem_toArray, List.getElem_cons_zero, List.getElem_cons_succ, List.setIfInBounds_toArray, List.set_cons_zero, List.set_cons_succ]
    refine wpAnyH_take (i := 14) (v := .bool false) rfl (by kernel_rfl) (by kernel_rfl) (by kernel_rfl) (fun _ _ _ h => h) (Or.inl ⟨by rfl, fun _ _ => by first | rfl | (go_simp; done) | (go_simp; rfl)⟩) HH.out ?_
    simp only [Act.put, List.getElem_toArray, List.getElem_cons_zero, List.getElem_cons_succ, List.setIfInBounds_toArray, List.set_cons_zero, List.set_cons_succ]
    refine wpAnyH_done (by kernel_rfl) ?_ _
    go_wp2
    go_ret
    exact ⟨rfl, HH.out.2.2.2.2.2.2⟩
  · have HI := hid (HI0 _ hq)
    clear HI0 hq
    go_enter Tryd.func84, Tryd.ntmps84
    go_wp2_with fail
    refine wp_region_held_drew (S := fun V => V.cell? lp = some (.slice (some ⟨b0, o0, none⟩) n c) ∧ V.cell? tp = some (.int .i64 t) ∧ V.cell? ⟨b0, o0 + k * 4, none⟩ = some (.int .i8 x0) ∧ V.cell? ⟨b0, o0 + k * 4 + 1, none⟩ = some (.int .i64 x1) ∧ V.cell? ⟨b0, o0 + k * 4 + 2, none⟩ = some (.int .i64 x2) ∧ V.cell? ⟨b0, o0 + k * 4 + 3, none⟩ = some (.int .i64 x3) ∧ Gr w V) (by kernel_rfl) ⟨hc, hct, p0, p1, p2, p3, gd⟩ (fun hH => ?_)
    have HH := hid hH
    clear hH
    refine wpAnyH_take (i := 0) (v := .slice (some ⟨b0, o0, none⟩) n c) rfl (by kernel_rfl) (by kernel_rfl) (by kernel_rfl) (fun _ _ _ h => h) (Or.inl ⟨by rfl, fun V hV => by (obtain ⟨h1, h2, h3, h4, h5, h6, h7⟩ := hV; first | (go_simp; done) | (go_simp; rfl))⟩) HH.out ?_
    simp only [Act.put, List.getElem_toArray, List.getElem_cons_zero, List.setIfInBounds_toArray, List.set_cons_zero, List.set_cons_succ]
    refine wpAnyH_take (i := 1) (v := .int .i64 k) rfl (by kernel_rfl) (by kernel_rfl) (by kernel_rfl) (fun _ _ _ h => h) (Or.inl ⟨by rfl, fun _ _ => by first | rfl | (go_simp; done) | (go_simp; rfl)⟩) HH.out ?_
    simp only [Act.put, List.getElem_toArray, List.getElem_cons_zero, List.getElem_cons_succ, List.setIfInBounds_toArray, List.set_cons_zero, List.set_cons_succ]
    refine wpAnyH_take (i := 2) (v := .pointer (some ⟨b0, o0 + k * 4, none⟩)) rfl (by kernel_rfl) (by kernel_rfl) (by kernel_rfl) (fun _ _ _ h => h) (Or.inl ⟨by rfl, fun _ _ => by first | rfl | (go_simp; done) | (go_simp; rfl)⟩) HH.out ?_
    simp only [Act.put, List.getElem_toArray, List.getElem_cons_zero, List.getElem_cons_succ, List.setIfInBounds_toArray, List.set_cons_zero, List.set_cons_succ]
    refine wpAnyH_take (i := 3) (v := .agg #[.int .i8 x0, .int .i64 x1, .int .i64 x2, .int .i64 x3]) rfl (by kernel_rfl) (by kernel_rfl) (by kernel_rfl) (fun _ _ _ h => h) (yieldsIf_load_mid rfl 69 (.tmp 7) rfl b0 (o0 + k * 4) rfl [.int .i8 x0, .int .i64 x1, .int .i64 x2, .int .i64 x3] _ (fun V hV => range4 ⟨hV.2.2.1, hV.2.2.2.1, hV.2.2.2.2.1, hV.2.2.2.2.2.1⟩) Tryd.underlying69 rfl sizeTimes) HH.out ?_
    simp only [Act.put, List.getElem_toArray, List.getElem_cons_zero, List.getElem_cons_succ, List.setIfInBounds_toArray, List.set_cons_zero, List.set_cons_succ]
    refine wpAnyH_ready (rs := [4]) (by kernel_rfl) (by simp) (AllReadyH.cons rfl (fun K2 hK2 => ?_) AllReadyH.nil)
    rw [if_pos (by rfl)]
    go_simp
    refine (HI.out _ HH.out.2.2.2.2.2.2).mono ?_
    rintro e V ⟨rfl, gV⟩
    dsimp only
    have gW := HH.out.2.2.2.2.2.2.trans gV
    refine hK2.out _ _ ⟨gW.cell C1.out, gW.cell C2.out, gW.cell C3.out, gW.cell C4.out, gW.cell C5.out, gW.cell C6.out, gW⟩ (fun hH => ?_)
    clear HH hK2 K2
    have HH := hid hH
    clear hH gV gW
    refine wpAnyH_take (i := 5) (v := .bool true) rfl (by kernel_rfl) (by kernel_rfl) (by kernel_rfl) (fun _ _ _ h => h) (Or.inl ⟨by rfl, fun _ _ => by first | rfl | (go_simp; done) | (go_simp; rfl)⟩) HH.out ?_
    simp only [Act.put, List.getElem_toArray, List.getElem_cons_zero, List.getElem_cons_succ, List.setIfInBounds_toArray, List.set_cons_zero, List.set_cons_succ]
    refine wpAnyH_take (i := 6) (v := .slice (some ⟨b0, o0, none⟩) n c) rfl (by kernel_rfl) (by kernel_rfl) (by kernel_rfl) (fun _ _ _ h => h) (Or.inl ⟨by rfl, fun V hV => by (obtain ⟨h1, h2, h3, h4, h5, h6, h7⟩ := hV; first | (go_simp; done) | (go_simp; rfl))⟩) HH.out ?_
    simp only [Act.put, List.getElem_toArray, List.getElem_cons_zero, List.getElem_cons_succ, List.setIfInBounds_toArray, List.set_cons_zero, List.set_cons_succ]
    refine wpAnyH_take (i := 7) (v := .int .i64 k) rfl (by kernel_rfl) (by kernel_rfl) (by kernel_rfl) (fun _ _ _ h => h) (Or.inl ⟨by rfl, fun _ _ => by first | rfl | (go_simp; done) | (go_simp; rfl)⟩) HH.out ?_
    simp only [Act.put, List.getElem_toArray, List.getElem_cons_zero, List.getElem_cons_succ, List.setIfInBounds_toArray, List.set_cons_zero, List.set_cons_succ]
    refine wpAnyH_take (i := 8) (v := .pointer (some ⟨b0, o0 + k * 4, none⟩)) rfl (by kernel_rfl) (by kernel_rfl) (by kernel_rfl) (fun _ _ _ h => h) (Or.inl ⟨by rfl, fun _ _ => by first | rfl | (go_simp; done) | (go_simp; rfl)⟩) HH.out ?_
    simp only [Act.put, List.getElem_toArray, List.getElem_cons_zero, List.getElem_cons_succ, List.setIfInBounds_toArray, List.set_cons_zero, List.set_cons_succ]
    refine wpAnyH_take (i := 9) (v := .pointer (some ⟨b0, o0 + k * 4 + 2, none⟩)) rfl (by kernel_rfl) (by kernel_rfl) (by kernel_rfl) (fun _ _ _ h => h) (Or.inl ⟨by rfl, fun _ _ => by first | rfl | (go_simp; done) | (go_simp; rfl)⟩) HH.out ?_
    simp only [Act.put, List.getElem_toArray, List.getElem_cons_zero, List.getElem_cons_succ, List.setIfInBounds_toArray, List.set_cons_zero, List.set_cons_succ]
    refine wpAnyH_take (i := 10) (v := .int .i64 x2) rfl (by kernel_rfl) (by kernel_rfl) (by kernel_rfl) (fun _ _ _ h => h) (Or.inl ⟨by rfl, fun V hV => by (obtain ⟨h1, h2, h3, h4, h5, h6, h7⟩ := hV; first | (go_simp; done) | (go_simp; rfl))⟩) HH.out ?_
    simp only [Act.put, List.getElem_toArray, List.getElem_cons_zero, List.getElem_cons_succ, List.setIfInBounds_toArray, List.set_cons_zero, List.set_cons_succ]
    refine wpAnyH_take (i := 11) (v := .int .i64 t) rfl (by kernel_rfl) (by kernel_rfl) (by kernel_rfl) (fun _ _ _ h => h) (Or.inl ⟨by rfl, fun V hV => by (obtain ⟨h1, h2, h3, h4, h5, h6, h7⟩ := hV; first | (go_simp; done) | (go_simp; rfl))⟩) HH.out ?_
    simp only [Act.put, List.getElem_toArray, List.getElem_cons_zero, List.getElem_cons_succ, List.setIfInBounds_toArray, List.set_cons_zero, List.set_cons_succ]
    refine wpAnyH_take (i := 12) (v := .bool (decide (x2 ≤ t))) rfl (by kernel_rfl) (by kernel_rfl) (by kernel_rfl) (fun _ _ _ h => h) (Or.inl ⟨by rfl, fun _ _ => by first | rfl | (go_simp; done) | (go_simp; rfl)⟩) HH.out ?_
    simp only [Act.put, List.getElem_toArray, List.getElem_cons_zero, List.getElem_cons_succ, List.setIfInBounds_toArray, List.set_cons_zero, List.set_cons_succ]
    refine wpAnyH_take (i := 13) (v := .bool (decide (x2 ≤ t))) rfl (by kernel_rfl) (by kernel_rfl) (by kernel_rfl) (fun _ _ _ h => h) (Or.inl ⟨by rfl, fun _ _ => by first | rfl | (go_simp; done) | (go_simp; rfl)⟩) HH.out ?_
    simp only [Act.put, List.getElem_toArray, List.getElem_cons_zero, List.getElem_cons_succ, List.setIfInBounds_toArray, List.set_cons_zero, List.set_cons_succ]
    refine wpAnyH_take (i := 14) (v := .bool (decide (x2 ≤ t))) rfl (by kernel_rfl) (by kernel_rfl) (by kernel_rfl) (fun _ _ _ h => h) (Or.inl ⟨by rfl, fun _ _ => by first | rfl | (go_simp; done) | (go_simp; rfl)⟩) HH.out ?_
    simp only [Act.put, List.getElem_toArray, List.getElem_cons_zero, List.getElem_cons_succ, List.setIfInBounds_toArray, List.set_cons_zero, List.set_cons_succ]
    refine wpAnyH_done (by kernel_rfl) ?_ _
    go_wp2
    go_ret
    exact ⟨rfl, HH.out.2.2.2.2.2.2⟩
def maxUntilV : Int := 1000000
def untilV (n : Nat) (xs : List Int) (t : Int) : Int := if lineB n xs = true then (if rgV t 0 1000000 = true then ((whereL (cloB (timesL n xs) t) n).length : Int) else 0) else 0
def untilC (n : Nat) (xs : List Int) (t : Int) : Int := if lineB n xs = true then (if rgV t 0 1000000 = true then 0 else 2) else 1
def timeTxt : ByteArray := ⟨#[116, 105, 109, 101]⟩
set_option maxRecDepth 100000 in
theorem cloTell_ok (a : Option Addr) (n c : Nat) (ts : List Tm) (hl : n = ts.length) (hm : n ≤ 20) (ht : TsOk ts) (t : Int) (hr : rgV t 0 1000000 = true) (tp : Addr) (w : World) (hnv : NeverAt w) (hct : w.cell? tp = some (.int .i64 t)) (ha : CellsOf w a (tmCells ts)) :
    Calls Tryd.prog 82 (#[.slice a n c] ++ #[.pointer (some tp)]) w fun e w' => e = .returned (.tuple #[.int .i64 ((whereL (cloB ts t) n).length : Int), .nilIface]) ∧ Gr w w' := by
  have hmf : ∀ (fn : Fn) (first cap : Array Value) (w : World), (Instr.makeFunc fn first cap).run Tryd.prog w = .ok (.func fn first cap) w := fun _ _ _ _ => rfl
  have g0 := (Gr.refl w).alloc (.cells #[.slice a n c] 24)
  have G0 := hid g0
  have hct0 := g0.cell hct
  have hc0 : (w.alloc (.cells #[.slice a n c] 24)).cell? ⟨w.heap.size, 0, none⟩ = some (.slice a n c) := by
    rw [cell_of_row _ _ _ _ _ _ (heap_new (w := w) (o := .cells #[.slice a n c] 24) rfl)]; rfl
  have HR := hid (fun V => isBetween_r hr V)
  have HS := hid (indicesWhere_any a n c hm (cloB ts t) 84 #[.pointer (some ⟨w.heap.size, 0, none⟩), .pointer (some tp)] (w.alloc (.cells #[.slice a n c] 24)) (fun args w => callFunc_enter Tryd.func84 (by kernel_rfl) (by kernel_rfl) args w)
    (fun V k g hk => closedAt_any a n c ts hl hm ht k hk t _ tp V (hnv.gr (g0.trans g)) (g.cell hc0) (g.cell hct0) (ha.gr (g0.trans g))))
  have hlen := whereL_length (cloB ts t) n
  generalize whereL (cloB ts t) n = ys at *
  clear hl ht hnv ha g0 hr hct
  go_enter Tryd.func82, Tryd.ntmps82
  go_wp2_with fail
  refine (HR.out _).mono ?_
  rintro e w0 ⟨rfl, rfl⟩
  go_wp2_with fail
  refine HS.out.mono ?_
  rintro e w1 ⟨u, rfl, o1, g1⟩
  obtain ⟨av, cv, rfl⟩ := o1.shape
  have G1 := hid (G0.out.trans g1)
  clear o1 g1
  unfold id
  go_wp2_with fail
  go_ret2
  exact ⟨rfl, G1.out⟩
set_option maxRecDepth 100000 in
theorem cloTell_no (a : Option Addr) (n c : Nat) (t : Int) (hr : rgV t 0 1000000 = false) (tp : Addr) (w : World) (hct : w.cell? tp = some (.int .i64 t)) :
    Calls Tryd.prog 82 (#[.slice a n c] ++ #[.pointer (some tp)]) w fun e w' => e = .returned (.tuple #[.int .i64 0, .iface 98 (.string timeTxt)]) ∧ Gr w w' := by
  have g0 := (Gr.refl w).alloc (.cells #[.slice a n c] 24)
  have G0 := hid g0
  have hct0 := g0.cell hct
  have HR := hid (fun V => isBetween_r hr V)
  clear hr hct g0
  go_enter Tryd.func82, Tryd.ntmps82
  go_wp2_with fail
  refine (HR.out _).mono ?_
  rintro e w0 ⟨rfl, rfl⟩
  go_wp2_with fail
  go_ret2
  exact ⟨rfl, G0.out⟩
set_option maxRecDepth 100000 in
theorem impl_ClosedUntil_law (a : Option Addr) (n cap : Nat) (xs : List Int) (hl : xs.length = n * 3) (hn : n ≤ 1048576) (hf : Fits .i8 xs) (t : Int) (_vt : (Lit.int .i64 t).wf = true) (w : World) (hnv : NeverAt w) (hs : CellsOf w a (xs.map (Value.int .i8))) :
    Calls Tryd.prog 41 #[.slice a n cap, .int .i64 t] w fun e w' => e = .returned (.tuple #[.int .i64 (untilV n xs t), .int .i64 (untilC n xs t)]) ∧ Gr w w' := by
  have hmf : ∀ (fn : Fn) (first cap : Array Value) (w : World), (Instr.makeFunc fn first cap).run Tryd.prog w = .ok (.func fn first cap) w := fun _ _ _ _ => rfl
  have g0 : Gr w (w.alloc (.cells #[.int .i64 t] 2)) := (Gr.refl w).alloc _
  have G0 := hid g0
  have c0 : (w.alloc (.cells #[.int .i64 t] 2)).cell? ⟨w.heap.size, 0, none⟩ = some (.int .i64 t) := Gr.cell (Gr.refl (w.alloc (.cells #[.int .i64 t] 2))) (by rw [cell_of_row _ _ _ _ _ _ (heap_new (w := w) (o := .cells #[.int .i64 t] 2) (by simp))]; rfl)
  cases hv : lineB n xs with
  | false =>
    have HA := hid (ans_Int_no a n cap xs hl hn hf hv 82 #[.pointer (some ⟨w.heap.size, 0, none⟩)] (w.alloc (.cells #[.int .i64 t] 2)) ((sliceOf_cells hs).gr g0))
    rw [show untilV n xs t = 0 by unfold untilV; rw [hv]; rfl, show untilC n xs t = 1 by unfold untilC; rw [hv]; rfl]
    clear hs hl hf hnv g0 c0
    go_enter Tryd.func41, Tryd.ntmps41
    go_wp2_with fail
    refine HA.out.mono ?_
    rintro e w1 ⟨rfl, g1⟩
    have G1 := hid (G0.out.trans g1)
    clear g1
    go_wp2_with fail
    go_ret2
    exact ⟨rfl, G1.out⟩
  | true =>
    have hlen : (timesL n xs).length = n := timesTo_length _ _ _ _
    have h20 := (lineOk_of hv).1.2
    have hok : TsOk (timesL n xs) := timesTo_ok (lineOk_line hv) n (Nat.le_refl _)
    cases hr : rgV t 0 1000000 with
    | false =>
      have HA := hid (ans_Int_err_outOfRange timeTxt a n cap xs hl hn hf hv 82 #[.pointer (some ⟨w.heap.size, 0, none⟩)] (w.alloc (.cells #[.int .i64 t] 2)) (hnv.gr g0) ((sliceOf_cells hs).gr g0) (fun args w => callFunc_enter Tryd.func82 (by kernel_rfl) (by kernel_rfl) args w)
        (fun W V av cv gW gV o => (cloTell_no av n cv t hr _ V ((gW.trans gV).cell c0)).mono (by rintro e w' ⟨rfl, g⟩; exact ⟨⟨_, rfl⟩, g⟩)))
      rw [show untilV n xs t = 0 by unfold untilV; rw [hv, hr]; rfl, show untilC n xs t = 2 by unfold untilC; rw [hv, hr]; rfl]
      clear hlen h20 hok hr
      clear hs hl hf hnv g0 c0
      go_enter Tryd.func41, Tryd.ntmps41
      go_wp2_with fail
      refine HA.out.mono ?_
      rintro e w1 ⟨rfl, g1⟩
      have G1 := hid (G0.out.trans g1)
      clear g1
      go_wp2_with fail
      go_ret2
      exact ⟨rfl, G1.out⟩
    | true =>
      have HA := hid (ans_Int_ok a n cap xs hl hn hf hv 82 #[.pointer (some ⟨w.heap.size, 0, none⟩)] (fun _ v _ => v = .int .i64 (untilV n xs t)) (w.alloc (.cells #[.int .i64 t] 2)) (hnv.gr g0) ((sliceOf_cells hs).gr g0) (fun args w => callFunc_enter Tryd.func82 (by kernel_rfl) (by kernel_rfl) args w) (fun _ _ _ _ _ _ _ h => h)
        (fun W V av cv gW gV o => (cloTell_ok av n cv (timesL n xs) hlen.symm h20 hok t hr _ V (hnv.gr (g0.trans (gW.trans gV))) ((gW.trans gV).cell c0) o.reads).mono (by rintro e w' ⟨rfl, g⟩; exact ⟨_, rfl, by unfold untilV; rw [hv, hr]; rfl, g⟩)))
      rw [show untilC n xs t = 0 by unfold untilC; rw [hv, hr]; rfl]
      generalize untilV n xs t = q at *
      clear hlen h20 hok hr
      clear hs hl hf hnv g0 c0
      go_enter Tryd.func41, Tryd.ntmps41
      go_wp2_with fail
      refine HA.out.mono ?_
      rintro e w1 ⟨W, v, rfl, rfl, -, g1⟩
      have G1 := hid (G0.out.trans g1)
      clear g1
      go_wp2_with fail
      go_ret2
      exact ⟨rfl, G1.out⟩
theorem cloB_c (ts : List Tm) (t : Int) (i : Nat) : cloB ts t i = (decide (0 ≤ (tmAt ts i).c) && decide ((tmAt ts i).c ≤ t)) := rfl
set_option maxRecDepth 100000 in
set_option maxHeartbeats 2000000 in
theorem spec_ClosedUntil_law (a : Option Addr) (n cap : Nat) (xs : List Int) (hl : xs.length = n * 3) (hn : n ≤ 1048576) (hf : Fits .i8 xs) (t : Int) (_vt : (Lit.int .i64 t).wf = true) (w : World) (hs : CellsOf w a (xs.map (Value.int .i8))) :
    Calls Tryd.prog 40 #[.slice a n cap, .int .i64 t] w fun e w' => e = .returned (.tuple #[.int .i64 (untilV n xs t), .int .i64 (untilC n xs t)]) ∧ Gr w w' := by
  have HO := hid (l06Ok_any a n cap xs hl hn hf w (sliceOf_cells hs))
  cases hv : lineB n xs with
  | false =>
    rw [hv] at HO
    rw [show untilV n xs t = 0 by unfold untilV; rw [hv]; rfl, show untilC n xs t = 1 by unfold untilC; rw [hv]; rfl]
    clear hs hl hf
    go_enter Tryd.func40, Tryd.ntmps40
    go_wp2_with fail
    refine HO.out.mono ?_
    rintro e w1 ⟨rfl, g1⟩
    have G1 := hid g1
    clear g1
    go_wp2_with fail
    go_ret2
    exact ⟨rfl, G1.out⟩
  | true =>
    rw [hv] at HO
    cases hr : rgV t 0 1000000 with
    | false =>
      have HR := hid (fun V => l00In_v hr V)
      rw [show untilV n xs t = 0 by unfold untilV; rw [hv, hr]; rfl, show untilC n xs t = 2 by unfold untilC; rw [hv, hr]; rfl]
      clear hs hl hf hr
      go_enter Tryd.func40, Tryd.ntmps40
      go_wp2_with fail
      refine HO.out.mono ?_
      rintro e w1 ⟨rfl, g1⟩
      have G1 := hid g1
      clear g1
      go_wp2_with fail
      refine (HR.out _).mono ?_
      rintro e w0 ⟨rfl, rfl⟩
      go_wp2_with fail
      go_ret2
      exact ⟨rfl, G1.out⟩
    | true =>
      have HR := hid (fun V => l00In_v hr V)
      have HT := hid (fun V (g : Gr w V) => l06Times_any a n cap xs hl hv (-1) 0 (by omega) V ((sliceOf_cells hs).gr g))
      rw [moreR_none] at HT
      change Hid (∀ V, Gr w V → Calls _ _ _ V (RetV _ _ _ _ (tmCells (timesL n xs)) V)) at HT
      have hlen : (timesL n xs).length = n := timesTo_length _ _ _ _
      obtain ⟨h1n, h20⟩ := (lineOk_of hv).1
      rw [show untilV n xs t = ((whereL (cloB (timesL n xs) t) n).length : Int) by unfold untilV; rw [hv, hr]; rfl, show untilC n xs t = 0 by unfold untilC; rw [hv, hr]; rfl]
      generalize timesL n xs = ts at *
      have HCB := hid (cloB_c ts t)
      have HNO := hid (fun k (h : cloB ts t k = false) => congrArg List.length (whereL_no h))
      have HYES := hid (fun k (h : cloB ts t k = true) => congrArg List.length (whereL_yes h))
      have HWL := hid (whereL_length (cloB ts t))
      have HL := hid hlen
      clear hs hl hf hr hlen
      go_enter Tryd.func40, Tryd.ntmps40
      go_wp2_with fail
      refine HO.out.mono ?_
      rintro e w1 ⟨rfl, g1⟩
      have G1 := hid g1
      clear g1
      go_wp2_with fail
      refine (HR.out _).mono ?_
      rintro e w0 ⟨rfl, rfl⟩
      go_wp2_with fail
      refine (HT.out _ G1.out).mono ?_
      rintro e w2 ⟨v, rfl, o2, g2⟩
      obtain ⟨av, cv, rfl⟩ := o2.shape
      have O2 := hid o2.reads
      have G2 := hid (G1.out.trans g2)
      clear o2 g2
      unfold id
      go_wp2_with fail
      obtain ⟨b0, o0, rfl, _⟩ := tm_at O2.out (i := 0) (by rw [HL.out]; omega)
      have HA := hid (fun k (hk : k < n) => tm_at' O2.out (i := k) (by rw [HL.out]; exact hk))
      go_loopw [7, 8] (fun q i wr => ∃ k : Nat, k ≤ n ∧ i = .int .i64 k ∧ q = .int .i64 ((whereL (cloB ts t) k).length : Int) ∧ wr = w2) (fun _ i _ => n - (intOf i).toNat)
      case atStart => exact ⟨0, Nat.zero_le _, rfl, rfl, rfl⟩
      case round =>
        obtain ⟨k, hk, rfl, rfl, rfl⟩ := hrel
        by_cases hlt : k < n
        · obtain ⟨p0, p1, p2, p3⟩ := HA.out k hlt
          have HBk := hid (HCB.out k)
          have HNk := hid (HNO.out k)
          have HYk := hid (HYES.out k)
          have hwl := HWL.out k
          have HNk2 : Hid (cloB ts t k = false → (whereL (cloB ts t) (k + 1)).length = (whereL (cloB ts t) k).length) := HNk
          have HYk2 : Hid (cloB ts t k = true → (whereL (cloB ts t) (k + 1)).length = (whereL (cloB ts t) k).length + 1) := hid (fun h => by rw [HYk.out h]; simp)
          generalize (whereL (cloB ts t) k).length = m0 at *
          generalize (tmAt ts k).c = x2 at *
          have hb0 : (0 : Int) ≤ k := by omega
          have hb1 : (k : Int) < n := by omega
          by_cases h1 : 0 ≤ x2
          · by_cases h2 : x2 ≤ t
            · have HW := hid (HYk2.out (by rw [HBk.out, decide_eq_true h1, decide_eq_true h2]; rfl))
              go_wp2_with fail
              go_roundw
              case rel => exact ⟨k + 1, by omega, by go_num, by rw [HW.out]; go_num, by first | rfl | trivial⟩
              case measure => simp [intOf] <;> omega
            · have HW := hid (HNk2.out (by rw [HBk.out, decide_eq_false h2, Bool.and_false]))
              go_wp2_with fail
              go_roundw
              case rel => exact ⟨k + 1, by omega, by go_num, by rw [HW.out], by first | rfl | trivial⟩
              case measure => simp [intOf] <;> omega
          · have HW := hid (HNk2.out (by rw [HBk.out, decide_eq_false h1, Bool.false_and]))
            have h1' : decide (0 ≤ x2) = false := decide_eq_false h1
            go_wp2_with fail
            go_roundw
            case rel => exact ⟨k + 1, by omega, by go_num, by rw [HW.out], by first | rfl | trivial⟩
            case measure => simp [intOf] <;> omega
        · obtain rfl : k = n := by omega
          go_wp2_with fail
          go_ret2
          exact ⟨rfl, G2.out⟩
end Go.Proofs.YtflbjjcpkhldkaaDoor
