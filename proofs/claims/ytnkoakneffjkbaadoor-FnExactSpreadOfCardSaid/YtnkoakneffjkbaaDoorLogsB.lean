/- Lists of logs: copies, comparisons. -/
import Derived.Test.YtnkoakneffjkbaaDoorLogsA
import Derived.Deep.RegionWith
namespace Go.Proofs.YtnkoakneffjkbaaDoor
set_option linter.unusedVariables false
open Go.RowKit
set_option maxRecDepth 100000 in
set_option maxHeartbeats 1000000 in
theorem toLogS_at (a0 : Option Addr) (cap n : Nat) (ls : List Lg) (hl : n = ls.length) (hn : n ≤ 1048576) (hz : ∀ i, i < n → (lgAt ls i).es.length ≤ 1048576) (hf : ∀ i, EnFits (lgAt ls i).es) (w : World) (hs : LogsRaw w a0 ls) :
    Calls Tryd.prog 20 #[.slice a0 n cap] w fun e w' => e = .returned (.slice (some ⟨w.heap.size, 0, none⟩) n n) ∧ (∃ L, esOf L = esOf ls ∧ LogsAt w' (some ⟨w.heap.size, 0, none⟩) L) ∧ Gr w w' := by
  have hmk := make_logs n hn
  have HS := hid hs
  have HL := hid hl
  have HZ := hid hz
  have HF := hid hf
  have HTO := hid (fun i (hi : i < n) V b cp (h : CellsOf V b (enCells (lgAt ls i).es)) => toEntryS_own b cp (lgAt ls i).es.length _ (enCells_sC (lgAt ls i).es) (hz i hi) V h)
  clear hs hl hz hf
  go_enter Tryd.func20, Tryd.ntmps20
  go_wp2_with fail
  clear hmk
  go_loopw [4] (fun i wr => ∃ (k : Nat) (L : List Lg), k ≤ n ∧ L.length = k ∧ i = .int .i64 k ∧ Hid (LgsI w w.heap.size n ls L wr)) (fun i _ => n - (intOf i).toNat)
  case atStart => exact ⟨0, [], Nat.zero_le _, rfl, rfl, hid ⟨by simp [esOf], by rw [List.map_nil, List.nil_append, List.length_nil, Nat.sub_zero]; exact heap_new rfl, fun i hi => absurd hi (Nat.not_lt_zero i), (Gr.refl _).alloc _⟩⟩
  case round =>
    obtain ⟨k, L, hk, hLk, rfl, I⟩ := hrel
    have HLK := hid hLk
    clear hLk
    by_cases hlt : k < n
    · obtain ⟨b, off, rfl, hc, hsl⟩ := (HS.out.gr I.out.gr) k (by rw [← HL.out]; exact hlt)
      have HT := hid (HTO.out k hlt wr _ (lgAt ls k).c hsl)
      have HGS := hid (show w.heap.size < wr.heap.size from lt_of_heap I.out.row)
      have HSTEP := hid (fun (V : World) (b : Nat) (q : Gr wr V) (hb : V.heap[b]? = some (.cells (enCells (lgAt ls k).es).toArray 58 (0, 0))) (hgb : w.heap.size < b) => by
        have h := (I.out.turn q).step (b := b) (by rw [HLK.out]; exact hlt) HL.out (Nat.le_refl _) (by rw [HLK.out]; exact hb) hgb
        rw [HLK.out] at h
        exact h)
      have HROW := hid (fun (V : World) (q : Gr wr V) => (I.out.turn q).row)
      unfold Lg.val at hc
      generalize (lgAt ls k).es.length = m at *
      have hk0 : (0 : Int) ≤ k := by omega
      have hk1 : (k : Int) < n := by omega
      clear hsl HTO
      go_wp2_with fail
      refine HT.out.mono ?_
      rintro e W2 ⟨rfl, h2, g2⟩
      have G2 := hid g2
      have B2 := hid h2
      have R2 := hid (HROW.out W2 g2)
      have hfz : W2.frozen? ⟨w.heap.size, k, none⟩ = false := frozen_of_row _ _ _ _ _ R2.out
      obtain ⟨v0, hv0⟩ : ∃ v0, W2.cell? ⟨w.heap.size, k, none⟩ = some v0 := by
        rw [cell_of_row _ _ _ _ _ _ R2.out]
        refine ⟨.slice none 0 0, ?_⟩
        rw [List.getElem?_toArray, List.getElem?_append_right (by rw [List.length_map, HLK.out]; exact Nat.le_refl _), List.length_map, HLK.out, Nat.sub_self]
        simp [show 0 < n - k by omega]
      clear h2 g2
      go_wp2_with fail
      go_roundw
      case rel => exact ⟨k + 1, _, by omega, by rw [List.length_append, List.length_singleton, HLK.out], by go_num, hid (HSTEP.out W2 wr.heap.size G2.out B2.out HGS.out)⟩
      case measure => simp [intOf]; omega
    · have hkn : k = n := by omega
      have HKN := hid hkn
      have HE := hid (show esOf L = esOf ls by rw [I.out.es, HLK.out, HKN.out, HL.out, ← es_length, List.take_length])
      have HAT := hid (show LogsAt wr (some ⟨w.heap.size, 0, none⟩) L from fun i hi => by
        obtain ⟨b, e1, h1, h2⟩ := I.out.at_ i hi
        have hes : (lgAt L i).es = (lgAt ls i).es := by rw [lgAt_es, lgAt_es, HE.out]
        have hi' : i < n := by rw [← HKN.out, ← HLK.out]; exact hi
        refine ⟨w.heap.size, 0, rfl, ?_, ⟨by rw [e1]; exact cellsOf_list h2, by rw [hes]; exact HF.out i, by rw [hes]; exact HZ.out i hi'⟩⟩
        rw [Nat.zero_add, cell_of_row _ _ _ _ _ _ I.out.row, List.getElem?_toArray, List.getElem?_append_left (by rw [List.length_map]; exact hi)]
        simp [lgAt, List.getD, hi])
      have GG := hid I.out.gr
      clear hkn I
      go_wp2_with fail
      go_ret
      exact ⟨rfl, ⟨L, HE.out, HAT.out⟩, GG.out⟩
set_option maxRecDepth 100000 in
set_option maxHeartbeats 1000000 in
theorem eqLogS_any (a b : Option Addr) (ca cb n : Nat) (ls ms : List Lg) (hl : n = ls.length) (hn : n ≤ 1048576) (he : esOf ls = esOf ms) (w : World) (ha : LogsAt w a ls) (hb : LogsAt w b ms) :
    Calls Tryd.prog 22 #[.slice a n ca, .slice b n cb] w fun e w' => e = .returned (.bool true) ∧ Gr w w' := by
  have HA := hid ha
  have HB := hid hb
  have HN := hid hl
  have HM := hid (show n = ms.length by rw [hl, ← es_length, he, es_length])
  have HE := hid (fun i => show (lgAt ms i).es = (lgAt ls i).es by rw [lgAt_es, lgAt_es, he])
  clear ha hb hl he
  go_enter Tryd.func22, Tryd.ntmps22
  go_wp2_with fail
  go_loopw [5] (fun i wr => ∃ k : Nat, k ≤ n ∧ i = .int .i64 k ∧ Hid (Gr w wr)) (fun i _ => n - (intOf i).toNat)
  case atStart => exact ⟨0, Nat.zero_le _, rfl, hid (Gr.refl _)⟩
  case round =>
    obtain ⟨k, hk, rfl, hg⟩ := hrel
    by_cases hlt : k < n
    · obtain ⟨b0, o0, rfl, h0, s0⟩ := (HA.out.gr hg.out) k (by rw [← HN.out]; exact hlt)
      obtain ⟨b1, o1, rfl, h1, s1⟩ := (HB.out.gr hg.out) k (by rw [← HM.out]; exact hlt)
      have S1 := hid s1.reads
      rw [HE.out k] at S1
      have HCE := hid (fun (V : World) (g : Gr wr V) => eqLog_own (lgAt ls k).a (lgAt ms k).a (lgAt ls k).c (lgAt ms k).c (lgAt ls k).es.length _ (enCells_sC (lgAt ls k).es) s0.len V (s0.reads.gr g) (S1.out.gr g))
      unfold Lg.val at h0 h1
      rw [HE.out k] at h1
      clear s0 s1
      generalize (lgAt ls k).es.length = m at *
      have hb0 : (0 : Int) ≤ k := by omega
      have hb1 : (k : Int) < n := by omega
      go_wp2_with fail
      go_region_with (refine (HCE.out _ (by first | exact Gr.refl _ | exact (Gr.refl _).drew | exact (Gr.refl _).drewN _ | exact ((Gr.refl _).drew).drew)).mono ?_; rintro e V ⟨rfl, gV⟩; have GV : Gr w V := Gr.trans hg.out (by first | exact gV | exact Gr.trans ((Gr.refl _).drew) gV | exact Gr.trans ((Gr.refl _).drewN _) gV))
      all_goals
        go_wp2_with fail
        go_roundw
        case rel => exact ⟨k + 1, by omega, by go_num, hid (by first | assumption | exact Gr.drew (by assumption) | exact Gr.drewN (by assumption) _)⟩
        case measure => simp [intOf]; omega
    · go_wp2_with fail
      go_ret
      exact ⟨rfl, hg.out⟩
end Go.Proofs.YtnkoakneffjkbaaDoor
