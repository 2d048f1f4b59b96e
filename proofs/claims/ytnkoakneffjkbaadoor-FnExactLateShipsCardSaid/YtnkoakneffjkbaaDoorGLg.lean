/- Lists of logs: sizes, copies, comparisons. -/
import Derived.Test.YtnkoakneffjkbaaDoorGSp
import Derived.Test.YtnkoakneffjkbaaDoorEntX
import Derived.Test.YtnkoakneffjkbaaDoorTable
import Derived.Deep.RegionWith
import Derived.Test.YtnkoakneffjkbaaDoorEntHd
namespace Go.Proofs.YtnkoakneffjkbaaDoor
set_option linter.unusedVariables false
open Go.RowKit
theorem heap_val_setL {w : World} {b i : Nat} {vs : List Value} {t : TypeId} {v : Value} (h : w.heap[b]? = some (.cells vs.toArray t (0, 0))) : (w.setCell ⟨b, i, none⟩ v).heap[b]? = some (.cells (vs.set i v).toArray t (0, 0)) := by
  rw [heap_setCell_same w _ _ _ _ _ h]
  simp
/-- Logs that are read, wherever they lie. -/
def LogsRaw (w : World) (a : Option Addr) (ls : List Lg) : Prop := ∀ i, i < ls.length → ∃ b off, a = some ⟨b, off, none⟩ ∧ w.cell? ⟨b, off + i, none⟩ = some (lgAt ls i).val ∧ CellsOf w (lgAt ls i).a (enCells (lgAt ls i).es)
theorem LogsRaw.gr {W w : World} {a : Option Addr} {ls : List Lg} (h : LogsRaw W a ls) (g : Gr W w) : LogsRaw w a ls := fun i hi => by
  obtain ⟨b, off, e, hc, ho⟩ := h i hi
  exact ⟨b, off, e, g.cell hc, ho.gr g⟩
theorem LogsAt.raw {w : World} {a : Option Addr} {ls : List Lg} (h : LogsAt w a ls) : LogsRaw w a ls := fun i hi => by
  obtain ⟨b, off, e, hc, ho⟩ := h i hi
  exact ⟨b, off, e, hc, ho.reads⟩
/-- What logs hold. -/
def esOf (ls : List Lg) : List (List En) := ls.map Lg.es
theorem lgAt_es (ls : List Lg) (i : Nat) : (lgAt ls i).es = (esOf ls).getD i [] := by
  unfold lgAt esOf
  by_cases h : i < ls.length
  · simp [List.getD, h]
  · simp [List.getD, h, noLg]
theorem es_length (ls : List Lg) : (esOf ls).length = ls.length := by simp [esOf]
theorem sp_same {ls ms : List Lg} (h : esOf ls = esOf ms) (s : Int) : spLo ls s = spLo ms s ∧ spHi ls s = spHi ms s ∧ spC ls s = spC ms s := by
  have hl : ls.length = ms.length := by rw [← es_length, ← es_length, h]
  have he : ∀ i, (lgAt ls i).es = (lgAt ms i).es := fun i => by rw [lgAt_es, lgAt_es, h]
  have hlo : ∀ k, lowTo ls s k = lowTo ms s k := by
    intro k
    induction k with
    | zero => rfl
    | succ k ih => rw [lowTo, lowTo, he, ih]
  have hhi : ∀ k, highTo ls s k = highTo ms s k := by
    intro k
    induction k with
    | zero => rfl
    | succ k ih => rw [highTo, highTo, he, ih]
  have hv : lgV ls = lgV ms := by funext i; unfold lgV; rw [he]
  have hg : lgC ls = lgC ms := by unfold lgC allV; rw [hv, hl]
  have hc : spC ls s = spC ms s := by unfold spC lsC; rw [hg, hl, hlo]
  exact ⟨by unfold spLo; rw [hc, hl, hlo], by unfold spHi; rw [hc, hl, hhi], hc⟩
def SzL (left n : Nat) (ls : List Lg) (w : World) (e : Ending) (w' : World) : Prop :=
  ∃ r : Int, e = .returned (.int .i64 r) ∧ (r = -1 ∨ (0 ≤ r ∧ r ≤ left ∧ n ≤ left ∧ ∀ i, i < n → (lgAt ls i).es.length ≤ left)) ∧ w = w'
set_option maxRecDepth 100000 in
theorem szLogS_any (a : Option Addr) (cap n left : Nat) (ls : List Lg) (hl : n = ls.length) (hm : n ≤ 9223372036854775807) (hle : left ≤ 1048576) (hsz : ∀ i, (lgAt ls i).es.length ≤ 9223372036854775807) (w : World) (hs : LogsRaw w a ls) :
    Calls Tryd.prog 18 #[.slice a n cap, .int .i64 left] w (SzL left n ls w) := by
  have HS := hid hs
  have HL := hid hl
  have HZ := hid hsz
  clear hs hl hsz
  by_cases hlt : left < n
  · have e1 : IntKind.i64.wrap ((left : Int) - (n : Int)) = (left : Int) - (n : Int) := IntWalk.i64_in _ (by omega)
    have t1 : (left : Int) - (n : Int) < 0 := by omega
    go_enter Tryd.func18, Tryd.ntmps18
    go_wp2_with fail
    go_ret
    exact ⟨-1, rfl, .inl rfl, rfl⟩
  · obtain ⟨r0, hr0⟩ : ∃ r0 : Nat, (left : Int) - (n : Int) = (r0 : Int) := ⟨left - n, by omega⟩
    have hr1 : r0 ≤ left := by omega
    have hnl : n ≤ left := by omega
    have e1 : IntKind.i64.wrap ((left : Int) - (n : Int)) = (r0 : Int) := by rw [IntWalk.i64_in _ (by omega)]; exact hr0
    clear hr0
    go_enter Tryd.func18, Tryd.ntmps18
    go_wp2_with fail
    go_loop [1, 5] (fun l i => ∃ (k r : Nat), k ≤ n ∧ r ≤ left ∧ i = .int .i64 k ∧ l = .int .i64 r ∧ Hid (∀ i, i < k → (lgAt ls i).es.length ≤ left)) (fun _ i => n - (intOf i).toNat)
    case atStart => exact ⟨0, r0, Nat.zero_le _, hr1, rfl, rfl, hid (fun i hi => absurd hi (Nat.not_lt_zero i))⟩
    case round =>
      obtain ⟨k, r, hk, hr, rfl, rfl, HB⟩ := hrel
      by_cases hkn : k < n
      · obtain ⟨b0, o0, rfl, h0, -⟩ := HS.out k (by rw [← HL.out]; exact hkn)
        unfold Lg.val at h0
        have hz := HZ.out k
        have HST := hid (fun (h : (lgAt ls k).es.length ≤ left) i (hi : i < k + 1) => show (lgAt ls i).es.length ≤ left by
          by_cases e : i = k
          · rw [e]; exact h
          · exact HB.out i (by omega))
        generalize (lgAt ls k).es.length = v at *
        have HC := hid (szEntryS_any (lgAt ls k).a (lgAt ls k).c v r hz (by omega) w)
        go_wp2_with fail
        refine HC.out.mono ?_
        rintro e w' ⟨⟨q, rfl, hq⟩, rfl⟩
        rcases hq with rfl | ⟨q0, q1, q2⟩
        · go_wp2_with fail
          go_ret
          exact ⟨-1, rfl, .inl rfl, rfl⟩
        · obtain ⟨r', rfl⟩ : ∃ r' : Nat, q = (r' : Int) := ⟨q.toNat, by omega⟩
          have hn0 : ¬ (r' : Int) < 0 := by omega
          go_wp2_with fail
          go_round
          case rel => exact ⟨k + 1, r', by omega, by omega, by go_num, rfl, hid (HST.out (by omega))⟩
          case measure => simp [intOf]; omega
      · go_wp2_with fail
        go_ret
        exact ⟨r, rfl, .inr ⟨by omega, by omega, hnl, fun i hi => HB.out i (by omega)⟩, rfl⟩
theorem make_logs (n : Nat) (hn : n ≤ 1048576) (W : World) : (Instr.makeSlice 40 (.int .i64 n) (.int .i64 n)).run Tryd.prog W = .ok (.slice (some ⟨W.heap.size, 0, none⟩) n n) (W.alloc (.cells (List.replicate n (Value.slice none 0 0)).toArray 28)) :=
  run_make_rows (P := Tryd.prog) (t := 40) Tryd.underlying40 (by kernel_rfl) n (by omega) W
/-- Logs that have been made so far: each in a block of its own. -/
structure LgsI (w : World) (g n : Nat) (ls L : List Lg) (wr : World) : Prop where
  es : esOf L = (esOf ls).take L.length
  row : wr.heap[g]? = some (.cells (L.map Lg.val ++ List.replicate (n - L.length) (Value.slice none 0 0)).toArray 28 (0, 0))
  at_ : ∀ i, i < L.length → ∃ b, (lgAt L i).a = some ⟨b, 0, none⟩ ∧ g < b ∧ wr.heap[b]? = some (.cells (enCells (lgAt L i).es).toArray 58 (0, 0))
  gr : Gr w wr
  cp : ∀ i, i < L.length → (lgAt L i).c = (lgAt L i).es.length
theorem LgsI.turn {w wr wx : World} {g n : Nat} {ls L : List Lg} (h : LgsI w g n ls L wr) (q : Gr wr wx) : LgsI w g n ls L wx :=
  ⟨h.es, q.heap h.row, fun i hi => by obtain ⟨b, e, h1, h2⟩ := h.at_ i hi; exact ⟨b, e, h1, q.heap h2⟩, h.gr.trans q, h.cp⟩
theorem LgsI.step {w wr : World} {g n b : Nat} {ls L : List Lg} (h : LgsI w g n ls L wr) (hk : L.length < n) (hl : n = ls.length) (hw : w.heap.size ≤ g) (hb : wr.heap[b]? = some (.cells (enCells (lgAt ls L.length).es).toArray 58 (0, 0))) (hgb : g < b) :
    LgsI w g n ls (L ++ [⟨some ⟨b, 0, none⟩, (lgAt ls L.length).es.length, (lgAt ls L.length).es⟩]) (wr.setCell ⟨g, L.length, none⟩ (.slice (some ⟨b, 0, none⟩) (lgAt ls L.length).es.length (lgAt ls L.length).es.length)) := by
  refine ⟨?_, ?_, fun i hi => ?_, h.gr.setCell (p := ⟨g, L.length, none⟩) hw _, fun i hi => ?_⟩
  · unfold esOf
    rw [List.map_append, List.length_append, List.length_singleton, List.take_add_one]
    have h1 := h.es
    unfold esOf at h1
    rw [h1, lgAt_es]
    congr 1
    unfold esOf
    simp [List.getD, show L.length < ls.length by omega]
  · rw [heap_val_setL h.row]
    congr 3
    obtain ⟨d, hd⟩ : ∃ d, n - L.length = d + 1 := ⟨n - L.length - 1, by omega⟩
    rw [hd, List.replicate_succ, List.set_append_right _ _ (by simp), List.length_map, Nat.sub_self, List.set_cons_zero, List.map_append, List.length_append, List.length_singleton, List.append_assoc, show n - (L.length + 1) = d by omega]
    rfl
  · rw [List.length_append, List.length_singleton] at hi
    by_cases e : i = L.length
    · subst e
      have ev : lgAt (L ++ [⟨some ⟨b, 0, none⟩, (lgAt ls L.length).es.length, (lgAt ls L.length).es⟩]) L.length = ⟨some ⟨b, 0, none⟩, (lgAt ls L.length).es.length, (lgAt ls L.length).es⟩ := by simp [lgAt, List.getD]
      rw [ev]
      exact ⟨b, rfl, hgb, by rw [heap_setCell_other wr ⟨g, L.length, none⟩ b _ (by dsimp only; omega)]; exact hb⟩
    · have ev : lgAt (L ++ [⟨some ⟨b, 0, none⟩, (lgAt ls L.length).es.length, (lgAt ls L.length).es⟩]) i = lgAt L i := by simp [lgAt, List.getD, List.getElem?_append_left (show i < L.length by omega)]
      rw [ev]
      obtain ⟨b', e', h1, h2⟩ := h.at_ i (by omega)
      exact ⟨b', e', h1, by rw [heap_setCell_other wr ⟨g, L.length, none⟩ b' _ (by dsimp only; omega)]; exact h2⟩
  · rw [List.length_append, List.length_singleton] at hi
    by_cases e : i = L.length
    · subst e
      have ev : lgAt (L ++ [⟨some ⟨b, 0, none⟩, (lgAt ls L.length).es.length, (lgAt ls L.length).es⟩]) L.length = ⟨some ⟨b, 0, none⟩, (lgAt ls L.length).es.length, (lgAt ls L.length).es⟩ := by simp [lgAt, List.getD]
      rw [ev]
    · have ev : lgAt (L ++ [⟨some ⟨b, 0, none⟩, (lgAt ls L.length).es.length, (lgAt ls L.length).es⟩]) i = lgAt L i := by simp [lgAt, List.getD, List.getElem?_append_left (show i < L.length by omega)]
      rw [ev]
      exact h.cp i (by omega)
end Go.Proofs.YtnkoakneffjkbaaDoor

/- Lists of logs: copies, comparisons. -/
namespace Go.Proofs.YtnkoakneffjkbaaDoor
set_option linter.unusedVariables false
open Go.RowKit
set_option maxRecDepth 100000 in
set_option maxHeartbeats 1000000 in
theorem toLogS_at (a0 : Option Addr) (cap n : Nat) (ls : List Lg) (hl : n = ls.length) (hn : n ≤ 1048576) (hz : ∀ i, i < n → (lgAt ls i).es.length ≤ 1048576) (hf : ∀ i, EnFits (lgAt ls i).es) (w : World) (hs : LogsRaw w a0 ls) :
    Calls Tryd.prog 20 #[.slice a0 n cap] w fun e w' => e = .returned (.slice (some ⟨w.heap.size, 0, none⟩) n n) ∧ (∃ L, esOf L = esOf ls ∧ LogsAt w' (some ⟨w.heap.size, 0, none⟩) L) ∧ Gr w w' := by
  have hmk := make_logs n hn
  have HS := hid hs
  have HL := hid hl
  have HZ := hid hz
  have HF := hid hf
  have HTO := hid (fun i (hi : i < n) V b cp (h : CellsOf V b (enCells (lgAt ls i).es)) => toEntryS_own b cp (lgAt ls i).es.length _ (enCells_sC (lgAt ls i).es) (hz i hi) V h)
  clear hs hl hz hf
  go_enter Tryd.func20, Tryd.ntmps20
  go_wp2_with fail
  clear hmk
  go_loopw [4] (fun i wr => ∃ (k : Nat) (L : List Lg), k ≤ n ∧ L.length = k ∧ i = .int .i64 k ∧ Hid (LgsI w w.heap.size n ls L wr)) (fun i _ => n - (intOf i).toNat)
  case atStart => exact ⟨0, [], Nat.zero_le _, rfl, rfl, hid ⟨by simp [esOf], by rw [List.map_nil, List.nil_append, List.length_nil, Nat.sub_zero]; exact heap_new rfl, fun i hi => absurd hi (Nat.not_lt_zero i), (Gr.refl _).alloc _, fun i hi => absurd hi (Nat.not_lt_zero i)⟩⟩
  case round =>
    obtain ⟨k, L, hk, hLk, rfl, I⟩ := hrel
    have HLK := hid hLk
    clear hLk
    by_cases hlt : k < n
    · obtain ⟨b, off, rfl, hc, hsl⟩ := (HS.out.gr I.out.gr) k (by rw [← HL.out]; exact hlt)
      have HT := hid (HTO.out k hlt wr _ (lgAt ls k).c hsl)
      have HGS := hid (show w.heap.size < wr.heap.size from lt_of_heap I.out.row)
      have HSTEP := hid (fun (V : World) (b : Nat) (q : Gr wr V) (hb : V.heap[b]? = some (.cells (enCells (lgAt ls k).es).toArray 58 (0, 0))) (hgb : w.heap.size < b) => by
        have h := (I.out.turn q).step (b := b) (by rw [HLK.out]; exact hlt) HL.out (Nat.le_refl _) (by rw [HLK.out]; exact hb) hgb
        rw [HLK.out] at h
        exact h)
      have HROW := hid (fun (V : World) (q : Gr wr V) => (I.out.turn q).row)
      unfold Lg.val at hc
      generalize (lgAt ls k).es.length = m at *
      have hk0 : (0 : Int) ≤ k := by omega
      have hk1 : (k : Int) < n := by omega
      clear hsl HTO
      go_wp2_with fail
      refine HT.out.mono ?_
      rintro e W2 ⟨rfl, h2, g2⟩
      have G2 := hid g2
      have B2 := hid h2
      have R2 := hid (HROW.out W2 g2)
      have hfz : W2.frozen? ⟨w.heap.size, k, none⟩ = false := frozen_of_row _ _ _ _ _ R2.out
      obtain ⟨v0, hv0⟩ : ∃ v0, W2.cell? ⟨w.heap.size, k, none⟩ = some v0 := by
        rw [cell_of_row _ _ _ _ _ _ R2.out]
        refine ⟨.slice none 0 0, ?_⟩
        rw [List.getElem?_toArray, List.getElem?_append_right (by rw [List.length_map, HLK.out]; exact Nat.le_refl _), List.length_map, HLK.out, Nat.sub_self]
        simp [show 0 < n - k by omega]
      clear h2 g2
      go_wp2_with fail
      go_roundw
      case rel => exact ⟨k + 1, _, by omega, by rw [List.length_append, List.length_singleton, HLK.out], by go_num, hid (HSTEP.out W2 wr.heap.size G2.out B2.out HGS.out)⟩
      case measure => simp [intOf]; omega
    · have hkn : k = n := by omega
      have HKN := hid hkn
      have HE := hid (show esOf L = esOf ls by rw [I.out.es, HLK.out, HKN.out, HL.out, ← es_length, List.take_length])
      have HAT := hid (show LogsAt wr (some ⟨w.heap.size, 0, none⟩) L from fun i hi => by
        obtain ⟨b, e1, h1, h2⟩ := I.out.at_ i hi
        have hes : (lgAt L i).es = (lgAt ls i).es := by rw [lgAt_es, lgAt_es, HE.out]
        have hi' : i < n := by rw [← HKN.out, ← HLK.out]; exact hi
        refine ⟨w.heap.size, 0, rfl, ?_, ⟨by rw [e1]; exact cellsOf_list h2, by rw [hes]; exact HF.out i, by rw [hes]; exact HZ.out i hi'⟩⟩
        rw [Nat.zero_add, cell_of_row _ _ _ _ _ _ I.out.row, List.getElem?_toArray, List.getElem?_append_left (by rw [List.length_map]; exact hi)]
        simp [lgAt, List.getD, hi])
      have GG := hid I.out.gr
      clear hkn I
      go_wp2_with fail
      go_ret
      exact ⟨rfl, ⟨L, HE.out, HAT.out⟩, GG.out⟩
set_option maxRecDepth 100000 in
set_option maxHeartbeats 1000000 in
theorem eqLogS_any (a b : Option Addr) (ca cb n : Nat) (ls ms : List Lg) (hl : n = ls.length) (hn : n ≤ 1048576) (he : esOf ls = esOf ms) (w : World) (ha : LogsAt w a ls) (hb : LogsAt w b ms) :
    Calls Tryd.prog 22 #[.slice a n ca, .slice b n cb] w fun e w' => e = .returned (.bool true) ∧ Gr w w' := by
  have HA := hid ha
  have HB := hid hb
  have HN := hid hl
  have HM := hid (show n = ms.length by rw [hl, ← es_length, he, es_length])
  have HE := hid (fun i => show (lgAt ms i).es = (lgAt ls i).es by rw [lgAt_es, lgAt_es, he])
  clear ha hb hl he
  go_enter Tryd.func22, Tryd.ntmps22
  go_wp2_with fail
  go_loopw [5] (fun i wr => ∃ k : Nat, k ≤ n ∧ i = .int .i64 k ∧ Hid (Gr w wr)) (fun i _ => n - (intOf i).toNat)
  case atStart => exact ⟨0, Nat.zero_le _, rfl, hid (Gr.refl _)⟩
  case round =>
    obtain ⟨k, hk, rfl, hg⟩ := hrel
    by_cases hlt : k < n
    · obtain ⟨b0, o0, rfl, h0, s0⟩ := (HA.out.gr hg.out) k (by rw [← HN.out]; exact hlt)
      obtain ⟨b1, o1, rfl, h1, s1⟩ := (HB.out.gr hg.out) k (by rw [← HM.out]; exact hlt)
      have S1 := hid s1.reads
      rw [HE.out k] at S1
      have HCE := hid (fun (V : World) (g : Gr wr V) => eqLog_own (lgAt ls k).a (lgAt ms k).a (lgAt ls k).c (lgAt ms k).c (lgAt ls k).es.length _ (enCells_sC (lgAt ls k).es) s0.len V (s0.reads.gr g) (S1.out.gr g))
      unfold Lg.val at h0 h1
      rw [HE.out k] at h1
      clear s0 s1
      generalize (lgAt ls k).es.length = m at *
      have hb0 : (0 : Int) ≤ k := by omega
      have hb1 : (k : Int) < n := by omega
      go_wp2_with fail
      go_region_with (refine (HCE.out _ (by first | exact Gr.refl _ | exact (Gr.refl _).drew | exact (Gr.refl _).drewN _ | exact ((Gr.refl _).drew).drew)).mono ?_; rintro e V ⟨rfl, gV⟩; have GV : Gr w V := Gr.trans hg.out (by first | exact gV | exact Gr.trans ((Gr.refl _).drew) gV | exact Gr.trans ((Gr.refl _).drewN _) gV))
      all_goals
        go_wp2_with fail
        go_roundw
        case rel => exact ⟨k + 1, by omega, by go_num, hid (by first | assumption | exact Gr.drew (by assumption) | exact Gr.drewN (by assumption) _)⟩
        case measure => simp [intOf]; omega
    · go_wp2_with fail
      go_ret
      exact ⟨rfl, hg.out⟩
end Go.Proofs.YtnkoakneffjkbaaDoor

/- Lists of logs: copies, and their marks. -/
namespace Go.Proofs.YtnkoakneffjkbaaDoor
set_option linter.unusedVariables false
open Go.RowKit
/-- Nothing has been touched but what lies between two blocks. -/
structure BetL (lo hi : Nat) (w w' : World) : Prop where
  os : w'.os = w.os
  tape : w'.tape = w.tape
  output : w'.output = w.output
  size : w.heap.size ≤ w'.heap.size
  block : ∀ k, k < w.heap.size → (k < lo ∨ hi ≤ k) → w'.heap[k]? = w.heap[k]?
theorem BetL.refl (lo hi : Nat) (w : World) : BetL lo hi w w := ⟨rfl, rfl, rfl, Nat.le_refl _, fun _ _ _ => rfl⟩
theorem BetL.by_ {lo hi b : Nat} {w w1 w2 : World} (h : BetL lo hi w w1) (g : w1.grownBy w2 (some b)) (h1 : lo ≤ b) (h2 : b < hi) : BetL lo hi w w2 :=
  ⟨g.os.trans h.os, g.tape.trans h.tape, g.output.trans h.output, Nat.le_trans h.size g.size, fun k hk hd => (g.block k (Nat.lt_of_lt_of_le hk h.size) (fun e => by have := Option.some.inj e; omega)).trans (h.block k hk hd)⟩
theorem BetL.heap {lo hi k : Nat} {w w' : World} {o : Obj} (h : BetL lo hi w w') (ho : w.heap[k]? = some o) (hd : k < lo ∨ hi ≤ k) : w'.heap[k]? = some o := (h.block k (lt_of_heap ho) hd).trans ho
theorem BetL.gr {lo hi : Nat} {w0 w w' : World} (h : BetL lo hi w w') (g : Gr w0 w) (hl : w0.heap.size ≤ lo) : Gr w0 w' :=
  ⟨h.os.trans g.1, h.tape.trans g.2, h.output.trans g.3, Nat.le_trans g.4 h.size, fun k hk => (h.block k (Nat.lt_of_lt_of_le hk g.4) (.inl (Nat.lt_of_lt_of_le hk hl))).trans (g.5 k hk)⟩
theorem Own.betL {k : IntKind} {e : TypeId} {lo hi a b : Nat} {w w' : World} {v : Value} {xs : List Int} (h : Own k e w lo hi v xs) (g : BetL a b w w') (hd : hi ≤ a ∨ b ≤ lo) : Own k e w' lo hi v xs := by
  refine ⟨⟨h.row.1, ?_⟩, h.top⟩
  rcases h.row.2 with h1 | ⟨g', cap, cur, h1, h2, h3, r⟩
  · exact .inl h1
  · exact .inr ⟨g', cap, cur, h1, h2, g.heap h3 (by have := h.top g' (by rw [h1]; rfl); omega), r⟩
/-- Logs that have been made: each in a block of its own between g and hi. -/
structure MkAt (w : World) (g hi : Nat) (L : List Lg) : Prop where
  row : w.heap[g]? = some (.cells (L.map Lg.val).toArray 28 (0, 0))
  at_ : ∀ i, i < L.length → ∃ b, (lgAt L i).a = some ⟨b, 0, none⟩ ∧ g < b ∧ b < hi ∧ w.heap[b]? = some (.cells (enCells (lgAt L i).es).toArray 58 (0, 0))
  cp : ∀ i, i < L.length → (lgAt L i).c = (lgAt L i).es.length
theorem MkAt.gr {W w : World} {g hi : Nat} {L : List Lg} (h : MkAt W g hi L) (q : Gr W w) : MkAt w g hi L :=
  ⟨q.heap h.row, fun i hi => by obtain ⟨b, e, h1, h2, h3⟩ := h.at_ i hi; exact ⟨b, e, h1, h2, q.heap h3⟩, h.cp⟩
set_option maxRecDepth 100000 in
set_option maxHeartbeats 1000000 in
theorem toLogS_mk (a0 : Option Addr) (cap n : Nat) (ls : List Lg) (hl : n = ls.length) (hn : n ≤ 1048576) (hz : ∀ i, i < n → (lgAt ls i).es.length ≤ 1048576) (hf : ∀ i, EnFits (lgAt ls i).es) (w : World) (hs : LogsRaw w a0 ls) :
    Calls Tryd.prog 20 #[.slice a0 n cap] w fun e w' => e = .returned (.slice (some ⟨w.heap.size, 0, none⟩) n n) ∧ (∃ L, esOf L = esOf ls ∧ LogsAt w' (some ⟨w.heap.size, 0, none⟩) L ∧ MkAt w' w.heap.size w'.heap.size L) ∧ Gr w w' := by
  have hmk := make_logs n hn
  have HS := hid hs
  have HL := hid hl
  have HZ := hid hz
  have HF := hid hf
  have HTO := hid (fun i (hi : i < n) V b cp (h : CellsOf V b (enCells (lgAt ls i).es)) => toEntryS_own b cp (lgAt ls i).es.length _ (enCells_sC (lgAt ls i).es) (hz i hi) V h)
  clear hs hl hz hf
  go_enter Tryd.func20, Tryd.ntmps20
  go_wp2_with fail
  clear hmk
  go_loopw [4] (fun i wr => ∃ (k : Nat) (L : List Lg), k ≤ n ∧ L.length = k ∧ i = .int .i64 k ∧ Hid (LgsI w w.heap.size n ls L wr)) (fun i _ => n - (intOf i).toNat)
  case atStart => exact ⟨0, [], Nat.zero_le _, rfl, rfl, hid ⟨by simp [esOf], by rw [List.map_nil, List.nil_append, List.length_nil, Nat.sub_zero]; exact heap_new rfl, fun i hi => absurd hi (Nat.not_lt_zero i), (Gr.refl _).alloc _, fun i hi => absurd hi (Nat.not_lt_zero i)⟩⟩
  case round =>
    obtain ⟨k, L, hk, hLk, rfl, I⟩ := hrel
    have HLK := hid hLk
    clear hLk
    by_cases hlt : k < n
    · obtain ⟨b, off, rfl, hc, hsl⟩ := (HS.out.gr I.out.gr) k (by rw [← HL.out]; exact hlt)
      have HT := hid (HTO.out k hlt wr _ (lgAt ls k).c hsl)
      have HGS := hid (show w.heap.size < wr.heap.size from lt_of_heap I.out.row)
      have HSTEP := hid (fun (V : World) (b : Nat) (q : Gr wr V) (hb : V.heap[b]? = some (.cells (enCells (lgAt ls k).es).toArray 58 (0, 0))) (hgb : w.heap.size < b) => by
        have h := (I.out.turn q).step (b := b) (by rw [HLK.out]; exact hlt) HL.out (Nat.le_refl _) (by rw [HLK.out]; exact hb) hgb
        rw [HLK.out] at h
        exact h)
      have HROW := hid (fun (V : World) (q : Gr wr V) => (I.out.turn q).row)
      unfold Lg.val at hc
      generalize (lgAt ls k).es.length = m at *
      have hk0 : (0 : Int) ≤ k := by omega
      have hk1 : (k : Int) < n := by omega
      clear hsl HTO
      go_wp2_with fail
      refine HT.out.mono ?_
      rintro e W2 ⟨rfl, h2, g2⟩
      have G2 := hid g2
      have B2 := hid h2
      have R2 := hid (HROW.out W2 g2)
      have hfz : W2.frozen? ⟨w.heap.size, k, none⟩ = false := frozen_of_row _ _ _ _ _ R2.out
      obtain ⟨v0, hv0⟩ : ∃ v0, W2.cell? ⟨w.heap.size, k, none⟩ = some v0 := by
        rw [cell_of_row _ _ _ _ _ _ R2.out]
        refine ⟨.slice none 0 0, ?_⟩
        rw [List.getElem?_toArray, List.getElem?_append_right (by rw [List.length_map, HLK.out]; exact Nat.le_refl _), List.length_map, HLK.out, Nat.sub_self]
        simp [show 0 < n - k by omega]
      clear h2 g2
      go_wp2_with fail
      go_roundw
      case rel => exact ⟨k + 1, _, by omega, by rw [List.length_append, List.length_singleton, HLK.out], by go_num, hid (HSTEP.out W2 wr.heap.size G2.out B2.out HGS.out)⟩
      case measure => simp [intOf]; omega
    · have hkn : k = n := by omega
      have HKN := hid hkn
      have HE := hid (show esOf L = esOf ls by rw [I.out.es, HLK.out, HKN.out, HL.out, ← es_length, List.take_length])
      have HAT := hid (show LogsAt wr (some ⟨w.heap.size, 0, none⟩) L from fun i hi => by
        obtain ⟨b, e1, h1, h2⟩ := I.out.at_ i hi
        have hes : (lgAt L i).es = (lgAt ls i).es := by rw [lgAt_es, lgAt_es, HE.out]
        have hi' : i < n := by rw [← HKN.out, ← HLK.out]; exact hi
        refine ⟨w.heap.size, 0, rfl, ?_, ⟨by rw [e1]; exact cellsOf_list h2, by rw [hes]; exact HF.out i, by rw [hes]; exact HZ.out i hi'⟩⟩
        rw [Nat.zero_add, cell_of_row _ _ _ _ _ _ I.out.row, List.getElem?_toArray, List.getElem?_append_left (by rw [List.length_map]; exact hi)]
        simp [lgAt, List.getD, hi])
      have MK := hid (show MkAt wr w.heap.size wr.heap.size L from ⟨by have := I.out.row; rw [HLK.out, HKN.out, Nat.sub_self, List.replicate_zero, List.append_nil] at this; exact this, fun i hi => by obtain ⟨b, e1, h1, h2⟩ := I.out.at_ i hi; exact ⟨b, e1, h1, lt_of_heap h2, h2⟩, I.out.cp⟩)
      have GG := hid I.out.gr
      clear hkn I
      go_wp2_with fail
      go_ret
      exact ⟨rfl, ⟨L, HE.out, HAT.out, MK.out⟩, GG.out⟩
set_option maxRecDepth 100000 in
set_option maxHeartbeats 1600000 in
theorem markLog_far (a : Option Addr) (n cap lo hi q : Nat) (cs : List Value) (hc : cs.length = n * 3) (hn : n ≤ 1048576) (hq : q ≤ 1100000000000) (w : World) (ho : OwnV 58 3 w lo hi (.slice a n cap) n cs) :
    Calls Tryd.prog 13 #[.slice a n cap, .int .i64 (1 + (q : Int) * 3)] w fun e w' => e = .returned (.int .i64 (1 + ((q : Int) + (n : Int)) * 3)) ∧ (∃ ds : List Value, ds.length = n * 3 ∧ OwnV 58 3 w' lo hi (.slice a n cap) n ds) ∧ w.grownBy w' (Value.slice a n cap).ownBlock := by
  have HO := hid ho
  have HC := hid hc
  clear ho hc
  go_enter Tryd.func13, Tryd.ntmps13
  go_wp2_with fail
  go_loopw [1, 5] (fun qv i wr => ∃ (k : Nat) (m : Int) (ds : List Value), k ≤ n ∧ i = .int .i64 k ∧ qv = .int .i64 m ∧ Hid (m = 1 + ((q : Int) + (k : Int)) * 3) ∧ Hid (ds.length = n * 3) ∧ Hid (OwnV 58 3 wr lo hi (.slice a n cap) n ds) ∧ Hid (w.grownBy wr (Value.slice a n cap).ownBlock)) (fun _ i _ => n - (intOf i).toNat)
  case atStart => exact ⟨0, _, cs, Nat.zero_le _, rfl, rfl, hid (by omega), HC, HO, hid ⟨rfl, rfl, rfl, Nat.le_refl _, fun _ _ _ => rfl⟩⟩
  case round =>
    obtain ⟨k, m, ds, hk, rfl, rfl, HM, HD, hw, hg⟩ := hrel
    by_cases hlt : k < n
    · have hm0 : 0 ≤ m := by have := HM.out; omega
      have hm1 : m ≤ 4000000000000 := by have := HM.out; omega
      have hmd : (m + 1 + 1) % 3 = 0 := by have := HM.out; omega
      have hlx : k * 3 + 3 ≤ ds.length := by rw [HD.out]; omega
      obtain ⟨g, ea, hgb, hc0, hf0⟩ := hw.out.at_ (i := k * 3) (List.getElem?_eq_getElem (by omega))
      subst ea
      obtain ⟨g1, ea, _, hc1, hf1⟩ := hw.out.at_ (i := k * 3 + 1) (List.getElem?_eq_getElem (by omega))
      cases ea
      obtain ⟨g2, ea, _, hc2, hf2⟩ := hw.out.at_ (i := k * 3 + 2) (List.getElem?_eq_getElem (by omega))
      cases ea
      have pp0 := hw.out.put (k * 3) (.int .i64 m)
      have pp1 := pp0.1.put (k * 3 + 1) (.int .i64 (m + 1))
      have pp2 := pp1.1.put (k * 3 + 2) (.bool true)
      have GG := hid ((pp0.2.trans pp1.2).trans pp2.2)
      have P3 := hid pp2.1
      have HL := hid (show (((ds.set (k * 3) (.int .i64 m)).set (k * 3 + 1) (.int .i64 (m + 1))).set (k * 3 + 2) (.bool true)).length = n * 3 by simp only [List.length_set]; exact HD.out)
      clear pp0 pp1 pp2 hgb
      generalize ds[k * 3] = y0 at *
      generalize ds[k * 3 + 1] = y1 at *
      generalize ds[k * 3 + 2] = y2 at *
      clear hlx
      go_wp2_with fail
      go_roundw
      case rel => exact ⟨k + 1, _, _, by omega, by go_num, rfl, hid (by have := HM.out; omega), HL, P3, hid (hg.out.trans GG.out)⟩
      case measure => simp [intOf]; omega
    · obtain rfl : k = n := by omega
      go_wp2_with fail
      go_ret
      exact ⟨ret_int HM.out, ⟨ds, HD.out, hw.out⟩, hg.out⟩
set_option maxRecDepth 100000 in
set_option maxHeartbeats 1000000 in
/-- The mark of a list of logs: nothing but its rows is touched. -/
theorem markLogS_bet (g hi n : Nat) (L : List Lg) (hl : n = L.length) (hn : n ≤ 1048576) (hz : ∀ i, i < n → (lgAt L i).es.length ≤ 1048576) (w : World) (ho : MkAt w g hi L) :
    Calls Tryd.prog 26 #[.slice (some ⟨g, 0, none⟩) n n, .int .i64 1] w fun e w' => (∃ r : Nat, e = .returned (.int .i64 r)) ∧ BetL g hi w w' := by
  have HN := hid hl
  have HG := hid ho.row
  have HZ := hid hz
  have HAT := hid ho.at_
  have HCP := hid ho.cp
  clear hl hz ho
  go_enter Tryd.func26, Tryd.ntmps26
  go_wp2_with fail
  go_loopw [1, 5] (fun q i wr => ∃ (k r : Nat), k ≤ n ∧ i = .int .i64 k ∧ q = .int .i64 (1 + (r : Int) * 3) ∧ r ≤ k * 1048576 ∧ Hid (BetL g hi w wr) ∧ Hid (∀ j, j < n → ∃ b ds, (lgAt L j).a = some ⟨b, 0, none⟩ ∧ wr.heap[b]? = some (.cells (List.toArray ds) 58 (0, 0)) ∧ ds.length = (lgAt L j).es.length * 3 ∧ g < b ∧ b < hi) ∧ Hid (wr.heap[g]? = some (.cells (L.map Lg.val).toArray 28 (0, 0)))) (fun _ i _ => n - (intOf i).toNat)
  case atStart => exact ⟨0, 0, Nat.zero_le _, rfl, rfl, Nat.zero_le _, hid (BetL.refl _ _ _), hid (fun j hj => by obtain ⟨b, e, h1, h2, hb⟩ := HAT.out j (by rw [← HN.out]; exact hj); exact ⟨b, _, e, hb, enCells_length _, h1, h2⟩), HG⟩
  case round =>
    obtain ⟨k, r, hk, rfl, rfl, hr, hbt, hrw, hgw⟩ := hrel
    by_cases hlt : k < n
    · obtain ⟨b, ds, ea, hb, hyl, hgb, hbh⟩ := hrw.out k hlt
      have hc : wr.cell? ⟨g, k, none⟩ = some (.slice (some ⟨b, 0, none⟩) (lgAt L k).es.length (lgAt L k).es.length) := by
        rw [cell_of_row _ _ _ _ _ _ hgw.out, ← ea]
        have hcc := HCP.out k (by rw [← HN.out]; exact hlt)
        have hk' : k < L.length := by rw [← HN.out]; exact hlt
        simp [lgAt, Lg.val, List.getD, hk']
        have hc2 := hcc
        simp [lgAt, List.getD, hk'] at hc2
        exact hc2
      have hz := HZ.out k hlt
      have HYL := hid hyl
      have HB := hid hb
      have HGB := hid hgb
      have HBH := hid hbh
      have hkk : k * 1048576 ≤ 1048576 * 1048576 := Nat.mul_le_mul_right _ (by omega)
      generalize (lgAt L k).es.length = m at *
      have OY := hid (OwnV.ofBlock (e := 58) (sz := 3) (n := m) (us := ds.toArray) hb (by simp [hyl]) (by unfold maxLen; omega))
      have HMK := hid (markLog_far (some ⟨b, 0, none⟩) m m b (b + 1) r ds hyl (by omega) (by omega) wr (by have := OY.out; simpa using this))
      clear ea hyl hb hgb hbh OY
      go_wp2_with fail
      refine HMK.out.mono ?_
      rintro e w1 ⟨rfl, ⟨ds1, hd1, o1⟩, g1⟩
      have G1 := hid (show wr.grownBy w1 (some b) from g1)
      have hb1 : w1.heap[b]? = some (.cells ds1.toArray 58 (0, 0)) := by
        rcases o1.row.2 with ⟨h4, _⟩ | ⟨g', cap', cur, h4, _, h5, _, _, h6, h7⟩
        · simp at h4
        · simp only [Value.slice.injEq, Option.some.injEq, Addr.mk.injEq] at h4
          obtain ⟨⟨rfl, _⟩, _, rfl⟩ := h4
          have e9 : cur = ds1.toArray := by
            rw [List.take_of_length_le (by rw [Array.length_toList, h6]; exact Nat.le_refl _)] at h7
            apply Array.ext'
            rw [h7]
          rw [h5, e9]
      have HB1 := hid hb1
      have HD1 := hid hd1
      clear g1 o1 hb1 hd1
      have HR2 := hid (show ∀ j, j < n → ∃ b ds, (lgAt L j).a = some ⟨b, 0, none⟩ ∧ w1.heap[b]? = some (.cells (List.toArray ds) 58 (0, 0)) ∧ ds.length = (lgAt L j).es.length * 3 ∧ g < b ∧ b < hi from fun j hj => by
        obtain ⟨b2, ds2, e2, hb2, hl2, h1, h2⟩ := hrw.out j hj
        by_cases eb : b2 = b
        · subst eb
          have h3 : ds2.length = m * 3 := by
            have h4 := hb2.symm.trans HB.out
            simp only [Option.some.injEq, Obj.cells.injEq, and_true] at h4
            have h5 := congrArg Array.size h4
            rw [List.size_toArray, List.size_toArray] at h5
            rw [h5]; exact HYL.out
          exact ⟨b2, ds1, e2, HB1.out, by rw [HD1.out, ← h3, hl2], h1, h2⟩
        · exact ⟨b2, ds2, e2, (G1.out.block b2 (lt_of_heap hb2) (fun e => eb (Option.some.inj e))).trans hb2, hl2, h1, h2⟩)
      have HGW := hid ((G1.out.block g (lt_of_heap hgw.out) (fun e => by have := Option.some.inj e; have := HGB.out; omega)).trans hgw.out)
      have HBT := hid (hbt.out.by_ G1.out (Nat.le_of_lt HGB.out) HBH.out)
      go_wp2_with fail
      go_roundw
      case rel => exact ⟨k + 1, r + m, by omega, by go_num, by push_cast; rfl, by rw [Nat.succ_mul]; omega, HBT, HR2, HGW⟩
      case measure => simp [intOf]; omega
    · have HBT := hbt
      go_wp2_with fail
      go_ret
      exact ⟨⟨1 + r * 3, by push_cast; rfl⟩, HBT.out⟩
end Go.Proofs.YtnkoakneffjkbaaDoor
