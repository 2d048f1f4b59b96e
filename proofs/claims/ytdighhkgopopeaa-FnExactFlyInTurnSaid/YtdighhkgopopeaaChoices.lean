/- The choices of each place: the program's function. -/
import Derived.Test.YtdighhkgopopeaaChoicesM
import Derived.Test.YtdighhkgopopeaaOwnH
import Derived.Test.YtdighhkgopopeaaHoistU
import Derived.Test.YtdighhkgopopeaaAbove
import Derived.Deep.AppendLies
import Derived.Deep.RegionLaw
namespace Go.Proofs.Ytdighhkgopopeaa
set_option linter.unusedVariables false
open Go.RowKit
theorem lt_of_row {w : World} {lo s n cap gl m : Nat} {e : TypeId} {vs : List Value} (h : w.ownsRow lo e s (.slice (some ⟨gl, 0, none⟩) n cap) m vs) : gl < w.heap.size := (h.lt gl rfl).2
theorem infoH : (Try.prog.info? 28).map (fun i => (i.zero, i.size, i.bytes)) = some (some (.slice none 0 0), 1, 24) := by kernel_rfl
def RetCho (xss : List (List Int)) (w : World) (e : Ending) (w' : World) : Prop := ∃ v vs, e = .returned v ∧ OwnH w' w.heap.size w'.heap.size v vs xss ∧ Gr w w'
set_option maxHeartbeats 4000000 in
set_option maxRecDepth 100000 in
theorem choices_any (a : Option Addr) (n cap : Nat) (m : List Int) (hn : n = m.length) (hcap : n ≤ cap) (hv : plainH m = true) (w : World) (hs : SliceOf .i8 w a m) :
    Calls Try.prog 43 #[.slice a n cap] w (RetCho (choT m n n) w) := by
  obtain ⟨h1, h8⟩ := validH_len (plainH_valid hv)
  rw [← hn] at h1 h8
  have hmk := run_make_nils (P := Try.prog) (t := 55) (e := 28) (bytes := 24) Try.underlying55 infoH n (by omega) (by omega)
  have HAB := hid (fun (p : Nat) (hp : p ≤ n) (V : World) (g : Gr w V) => aboveMeaning_all a n cap m hn (by omega) hcap p hp V (hs.gr g))
  have S := hid hs
  have HN := hid hn
  clear hs hn hv
  obtain ⟨j0, ji, jz0, jz1, jz2⟩ := info_parts infoI8
  go_enter Try.func43, Try.ntmps43
  go_wp2_with fail
  clear hmk
  obtain ⟨gl, hgl⟩ : ∃ gl, gl = w.heap.size := ⟨_, rfl⟩
  have HGL := hid (show w.heap.size ≤ gl by omega)
  have O0 : Hid (OwnH (w.alloc (.cells (Array.replicate n (.slice none 0 0)) 28)) w.heap.size (w.heap.size + 1) (.slice (some ⟨gl, 0, none⟩) n n) (List.replicate n (.slice none 0 0)) (List.replicate n [])) := hid (by rw [hgl]; exact OwnH.made w n (by omega))
  rw [← hgl]
  clear hgl
  go_loopw [13] (fun i wr => ∃ (k : Nat) (vs : List Value), k ≤ n ∧ i = .int .i64 k ∧ Hid (OwnH wr w.heap.size wr.heap.size (.slice (some ⟨gl, 0, none⟩) n n) vs (choT m n k)) ∧ Hid (Gr w wr)) (fun i _ => n - (intOf i).toNat)
  case atStart => exact ⟨0, _, Nat.zero_le _, rfl, hid (by rw [choT_zero]; exact O0.out.widen (by simp)), hid ((Gr.refl _).alloc _)⟩
  case round =>
    obtain ⟨k, vs, hk, rfl, ow0, GR0⟩ := hrel
    by_cases hkn : k < n
    · obtain ⟨b0, o0, rfl, c0⟩ := S.out k (by rw [← HN.out]; exact hkn)
      have hc0 := GR0.out.cell c0
      clear c0
      have hst := startOf_le m k
      have HREP := hid (fun q => show repB m k q = (decide (startOf m k + q ≤ k) && (m.getD (startOf m k + q - 1) 0 == m.getD k 0)) from rfl)
      have HPL := hid (fun q (hq : startOf m k + q < k) => partL_get (xs := m) (i := startOf m k) (j := k) (k := q) (by rw [← HN.out]; omega) hq)
      have HCA := hid (show candsL m k = repsL m k 4 ++ [m.getD k 0] from rfl)
      have HMIN := hid (repsL_min (m := m) (i := k) (n := 4))
      generalize hstv : startOf m k = st at *
      generalize hkv : m.getD k 0 = kd at *
      have HSTV := hid hstv
      clear hstv hkv
      obtain ⟨p, hp⟩ : ∃ p, p = k - st := ⟨_, rfl⟩
      go_wp2_with fail
      refine (HAB.out k (by omega) _ GR0.out).mono ?_
      rintro e w' ⟨ap, rfl, hsp, rfl⟩
      rw [HSTV.out, ← hp]
      rw [HSTV.out] at hsp
      have HSP := hid hsp
      have HP := hid hp
      clear hsp hp
      obtain ⟨q0, hq0, hq1⟩ : ∃ q0, q0 = min p 4 ∧ (p ≤ 4 ∧ q0 = p ∨ ¬ p ≤ 4 ∧ q0 = 4) := ⟨min p 4, rfl, by omega⟩
      rw [← HP.out, ← hq0] at HMIN
      have HQ0 := hid (show q0 ≤ 4 ∧ q0 ≤ p by omega)
      clear hq0
      rcases hq1 with ⟨hp4, hqe⟩ | ⟨hp4, hqe⟩
      all_goals
        rw [hqe] at HMIN HQ0
        clear hqe
        go_wp2_with fail
        obtain ⟨wo, hwo⟩ : ∃ wo : World, wo = wr := ⟨_, rfl⟩
        rw [← hwo] at ow0 GR0 ⊢
        clear hwo hc0
        go_loopw [7] (fun s wi => ∃ (q : Nat) (D : List Int) (vs' : List Value), (q ≤ 4 ∧ q ≤ p) ∧ s = .int .i64 q ∧ Hid (D ++ repsL m k q = repsL m k 4) ∧ D.length + q ≤ 4 ∧ Hid (OwnH wi w.heap.size wi.heap.size (.slice (some ⟨gl, 0, none⟩) n n) vs' ((choT m n k).set k D)) ∧ Hid (Gr w wi)) (fun s _ => (intOf s).toNat)
        case atStart => first | exact ⟨p, [], vs, HQ0.out, rfl, hid (by rw [List.nil_append]; exact HMIN.out.symm), by have := HQ0.out; rw [List.length_nil]; omega, hid (by rw [choT_set_nil hkn]; exact ow0.out), GR0⟩ | exact ⟨4, [], vs, HQ0.out, rfl, hid (by rw [List.nil_append]), by rw [List.length_nil]; omega, hid (by rw [choT_set_nil hkn]; exact ow0.out), GR0⟩
        case round =>
          obtain ⟨q, D, vs', ⟨hq4, hqp⟩, rfl, hD, hdl, ow, GR⟩ := hrel
          have HGET := hid (show ((choT m n k).set k D).getD k [] = D by simp [List.getD, choT_length, hkn])
          have hd8 : D.length ≤ 8 := by omega
          by_cases hq : q = 0
          · subst hq
            have HE := hid (show ((choT m n k).set k (D ++ [kd])) = choT m n (k + 1) by rw [← choT_set hkn, HCA.out, ← hD.out]; simp [repsL])
            clear hD
            have HLN := hid (show (D ++ [kd]).length = (D).length + 1 by rw [List.length_append, List.length_singleton])
            obtain ⟨g', a', c', e', hc1, hvs, oin⟩ := ow.out.at_ (i := k) (by rw [List.length_set, choT_length]; exact hkn)
            simp only [Option.some.injEq, Addr.mk.injEq, and_true] at e'
            subst e'
            skip
            rw [HGET.out] at hc1 hvs oin
            obtain ⟨p, hp⟩ : ∃ p, p = (D).length := ⟨_, rfl⟩
            have hp8 : p ≤ 8 := by rw [hp]; exact hd8
            rw [← hp] at hc1 hvs oin
            have HP := hid hp
            have hf1 : wr.frozen? ⟨gl, k, none⟩ = false := by have h := ow.out.row; rw [List.length_set, choT_length] at h; exact h.frozenAt k
            have ROW := hid oin.row
            rw [← HP.out] at ROW
            have NE1 := hid (show some gl ≠ (Value.slice a' p c').ownBlock from fun e => ow.out.apart k _ hvs gl e.symm rfl)
            have HVS := hid hvs
            have GA : Gr wr (wr.alloc (.cells #[.int .i8 (kd)] 59)) := (Gr.refl wr).alloc _
            have FA : (wr.alloc (.cells #[.int .i8 (kd)] 59)).frozen? ⟨gl, k, none⟩ = false := (Below.frozen GA (p := ⟨gl, k, none⟩) (lt_of_row ow.out.row)).trans hf1
            have HS3 := hid (show (wr.alloc (.cells #[.int .i8 (kd)] 59)).cell? ⟨gl, k, none⟩ = some (.slice a' p c') ∧ (wr.alloc (.cells #[.int .i8 (kd)] 59)).frozen? ⟨gl, k, none⟩ = false from ⟨GA.cell hc1, FA⟩)
            have HGAD := hid GA
            have hgs : gl < wr.heap.size := lt_of_row ow.out.row
            clear hp hvs oin GA FA
            go_wp2_with (at_builtin; refine wpList_append_lies _ rfl _ _ 28 rfl w.heap.size 59 j0 (.int .i8 0) 1 1 Try.underlying28 ji jz0 jz1 jz2 rfl (by decide) _ _ _ rfl (ROW.out.alloc _) ⟨wr.heap.size, 0, none⟩ 1 1 [.int .i8 (kd)] rfl rfl (World.news_of_block (cs := #[.int .i8 (kd)]) (t := 59) (fr := (0, 0)) (heap_alloc_new wr _)) (by simp [Value.oneCell']) (by omega) (by unfold maxLen; omega) (by omega) (by have := GR.out.size; simp; omega) (wr.heap.size + 1) (by simp) ?_)
            intro gg cap2 w2 hown hgrow hat hlt2
            have hcw : w2.cell? ⟨gl, k, none⟩ = some (.slice a' p c') := (hgrow.cell_far _ (by simp; omega) NE1.out).trans HS3.out.1
            have hfw : w2.frozen? ⟨gl, k, none⟩ = false := (hgrow.frozen_far _ (by simp; omega) NE1.out).trans HS3.out.2
            all_goals
              have OX := hid (OwnH.renew (w := (wr.alloc (.cells #[.int .i8 (kd)] 59))) (w1 := w2) (lo := w.heap.size) (hi := wr.heap.size) (i := k) (u := .slice a' p c') (u' := .slice (some ⟨gg, 0, none⟩) (p + 1) cap2) (ys := D ++ [kd]) (ow.out.gr HGAD.out) (by simp) (by rw [List.length_set, choT_length]; exact hkn) HVS.out (by rw [HLN.out, ← HP.out, List.map_append]; exact hown) hgrow (hat.elim (fun h => .inl h.symm) (fun h => .inr ⟨gg, rfl, by simp; omega⟩))).1
              have GX := hid (((GR.out.trans HGAD.out).by_ hgrow (fun b e => (ROW.out.lt b e).1)).setCell (p := ⟨gl, k, none⟩) HGL.out (.slice (some ⟨gg, 0, none⟩) (p + 1) cap2))
              rw [List.set_set] at OX
              clear hown hgrow hat hlt2
              go_wp2_with fail
              go_roundw
              case rel => exact ⟨k + 1, _, by omega, by go_num, hid (by rw [← HE.out]; exact OX.out.widen (by simp)), GX⟩
              case measure => simp [intOf] <;> omega
          · obtain ⟨r, hr⟩ : ∃ r, q = r + 1 := ⟨q - 1, by omega⟩
            obtain ⟨b1, o1, e1', hcy⟩ := HSP.out wr (S.out.gr GR.out) r (by rw [partL_length (by omega) (by rw [← HN.out]; omega)]; have := HP.out; omega)
            subst e1'
            rw [HPL.out r (by have := HP.out; omega)] at hcy
            have hrep := HREP.out q
            rw [decide_eq_true (by have := HP.out; omega), Bool.true_and, show st + q - 1 = st + r by omega] at hrep
            have hqpos : (0 : Int) < (q : Int) := by omega
            have hr0 : (0 : Int) ≤ (r : Int) := by omega
            have hr1 : (r : Int) < (p : Int) := by omega
            have HRQ := hid (show r < q by omega)
            have HR := hid (show r ≤ 4 ∧ r ≤ p ∧ D.length + 1 + r ≤ 4 by omega)
            have z3 : (q : Int) - 1 = (r : Int) := by omega
            have z2 : -128 ≤ -(q : Int) ∧ -(q : Int) ≤ 127 := by omega
            have z1 : -9223372036854775808 ≤ -(q : Int) ∧ -(q : Int) ≤ 9223372036854775807 := by omega
            have z4 : -9223372036854775808 ≤ (q : Int) - 1 ∧ (q : Int) - 1 ≤ 9223372036854775807 := by omega
            have e3 : IntKind.i64.wrap ((q : Int) - 1) = (r : Int) := (IntWalk.i64_in _ z4).trans z3
            have e1 : IntKind.i64.wrap (-(q : Int)) = -(q : Int) := IntWalk.i64_in _ z1
            have e2 : IntKind.i8.wrap (-(q : Int)) = -(q : Int) := IntWalk.i8_in _ z2
            clear z1 z2 z3 z4
            generalize m.getD (st + r) 0 = y at *
            cases hy : (y == kd) with
            | false =>
              have HE := hid (show D ++ repsL m k r = repsL m k 4 by have h := hD.out; rw [hr, repsL_no (by rw [← hr, hrep, hy])] at h; exact h)
              clear hD hr hrep
              go_wp2_with fail
              go_roundw
              case rel => exact ⟨r, D, vs', ⟨HR.out.1, HR.out.2.1⟩, rfl, HE, Nat.le_trans (Nat.add_le_add_right (Nat.le_succ _) _) HR.out.2.2, ow, GR⟩
              case measure => simp [intOf]; exact HRQ.out
            | true =>
              have HE := hid (show D ++ [-(q : Int)] ++ repsL m k r = repsL m k 4 by have h := hD.out; rw [hr, repsL_yes (by rw [← hr, hrep, hy])] at h; rw [List.append_assoc, ← hr] at *; exact h)
              clear hD hr hrep
              have HLN := hid (show (D ++ [-(q : Int)]).length = (D).length + 1 by rw [List.length_append, List.length_singleton])
              obtain ⟨g', a', c', e', hc1, hvs, oin⟩ := ow.out.at_ (i := k) (by rw [List.length_set, choT_length]; exact hkn)
              simp only [Option.some.injEq, Addr.mk.injEq, and_true] at e'
              subst e'
              skip
              rw [HGET.out] at hc1 hvs oin
              obtain ⟨p, hp⟩ : ∃ p, p = (D).length := ⟨_, rfl⟩
              have hp8 : p ≤ 8 := by rw [hp]; exact hd8
              rw [← hp] at hc1 hvs oin
              have HP := hid hp
              have hf1 : wr.frozen? ⟨gl, k, none⟩ = false := by have h := ow.out.row; rw [List.length_set, choT_length] at h; exact h.frozenAt k
              have ROW := hid oin.row
              rw [← HP.out] at ROW
              have NE1 := hid (show some gl ≠ (Value.slice a' p c').ownBlock from fun e => ow.out.apart k _ hvs gl e.symm rfl)
              have HVS := hid hvs
              have GA : Gr wr (wr.alloc (.cells #[.int .i8 (-(q : Int))] 59)) := (Gr.refl wr).alloc _
              have FA : (wr.alloc (.cells #[.int .i8 (-(q : Int))] 59)).frozen? ⟨gl, k, none⟩ = false := (Below.frozen GA (p := ⟨gl, k, none⟩) (lt_of_row ow.out.row)).trans hf1
              have HS3 := hid (show (wr.alloc (.cells #[.int .i8 (-(q : Int))] 59)).cell? ⟨gl, k, none⟩ = some (.slice a' p c') ∧ (wr.alloc (.cells #[.int .i8 (-(q : Int))] 59)).frozen? ⟨gl, k, none⟩ = false from ⟨GA.cell hc1, FA⟩)
              have HGAD := hid GA
              have hgs : gl < wr.heap.size := lt_of_row ow.out.row
              clear hp hvs oin GA FA
              go_wp2_with (at_builtin; refine wpList_append_lies _ rfl _ _ 28 rfl w.heap.size 59 j0 (.int .i8 0) 1 1 Try.underlying28 ji jz0 jz1 jz2 rfl (by decide) _ _ _ rfl (ROW.out.alloc _) ⟨wr.heap.size, 0, none⟩ 1 1 [.int .i8 (-(q : Int))] rfl rfl (World.news_of_block (cs := #[.int .i8 (-(q : Int))]) (t := 59) (fr := (0, 0)) (heap_alloc_new wr _)) (by simp [Value.oneCell']) (by omega) (by unfold maxLen; omega) (by omega) (by have := GR.out.size; simp; omega) (wr.heap.size + 1) (by simp) ?_)
              intro gg cap2 w2 hown hgrow hat hlt2
              have hcw : w2.cell? ⟨gl, k, none⟩ = some (.slice a' p c') := (hgrow.cell_far _ (by simp; omega) NE1.out).trans HS3.out.1
              have hfw : w2.frozen? ⟨gl, k, none⟩ = false := (hgrow.frozen_far _ (by simp; omega) NE1.out).trans HS3.out.2
              all_goals
                have OX := hid (OwnH.renew (w := (wr.alloc (.cells #[.int .i8 (-(q : Int))] 59))) (w1 := w2) (lo := w.heap.size) (hi := wr.heap.size) (i := k) (u := .slice a' p c') (u' := .slice (some ⟨gg, 0, none⟩) (p + 1) cap2) (ys := D ++ [-(q : Int)]) (ow.out.gr HGAD.out) (by simp) (by rw [List.length_set, choT_length]; exact hkn) HVS.out (by rw [HLN.out, ← HP.out, List.map_append]; exact hown) hgrow (hat.elim (fun h => .inl h.symm) (fun h => .inr ⟨gg, rfl, by simp; omega⟩))).1
                have GX := hid (((GR.out.trans HGAD.out).by_ hgrow (fun b e => (ROW.out.lt b e).1)).setCell (p := ⟨gl, k, none⟩) HGL.out (.slice (some ⟨gg, 0, none⟩) (p + 1) cap2))
                rw [List.set_set] at OX
                clear hown hgrow hat hlt2
                go_wp2_with fail
                go_roundw
                case rel => exact ⟨r, D ++ [-(q : Int)], _, ⟨HR.out.1, HR.out.2.1⟩, rfl, HE, by rw [List.length_append, List.length_singleton]; exact HR.out.2.2, hid (OX.out.widen (by simp)), GX⟩
                case measure => simp [intOf]; exact HRQ.out
    · have HE := hid (show choT m n k = choT m n n by rw [show k = n by omega])
      go_wp2_with fail
      go_ret
      exact ⟨_, vs, rfl, by rw [← HE.out]; exact ow0.out, GR0.out⟩
end Go.Proofs.Ytdighhkgopopeaa
