/- Lists of logs: sizes, copies, comparisons. -/
import Derived.Test.YtnkoakneffjkbaaDoorSpreadM
import Derived.Test.YtnkoakneffjkbaaDoorEntX
import Derived.Test.YtnkoakneffjkbaaDoorTable
namespace Go.Proofs.YtnkoakneffjkbaaDoor
set_option linter.unusedVariables false
open Go.RowKit
theorem heap_val_setL {w : World} {b i : Nat} {vs : List Value} {t : TypeId} {v : Value} (h : w.heap[b]? = some (.cells vs.toArray t (0, 0))) : (w.setCell ⟨b, i, none⟩ v).heap[b]? = some (.cells (vs.set i v).toArray t (0, 0)) := by
  rw [heap_setCell_same w _ _ _ _ _ h]
  simp
/-- Logs that are read, wherever they lie. -/
def LogsRaw (w : World) (a : Option Addr) (ls : List Lg) : Prop := ∀ i, i < ls.length → ∃ b off, a = some ⟨b, off, none⟩ ∧ w.cell? ⟨b, off + i, none⟩ = some (lgAt ls i).val ∧ CellsOf w (lgAt ls i).a (enCells (lgAt ls i).es)
theorem LogsRaw.gr {W w : World} {a : Option Addr} {ls : List Lg} (h : LogsRaw W a ls) (g : Gr W w) : LogsRaw w a ls := fun i hi => by
  obtain ⟨b, off, e, hc, ho⟩ := h i hi
  exact ⟨b, off, e, g.cell hc, ho.gr g⟩
theorem LogsAt.raw {w : World} {a : Option Addr} {ls : List Lg} (h : LogsAt w a ls) : LogsRaw w a ls := fun i hi => by
  obtain ⟨b, off, e, hc, ho⟩ := h i hi
  exact ⟨b, off, e, hc, ho.reads⟩
/-- What logs hold. -/
def esOf (ls : List Lg) : List (List En) := ls.map Lg.es
theorem lgAt_es (ls : List Lg) (i : Nat) : (lgAt ls i).es = (esOf ls).getD i [] := by
  unfold lgAt esOf
  by_cases h : i < ls.length
  · simp [List.getD, h]
  · simp [List.getD, h, noLg]
theorem es_length (ls : List Lg) : (esOf ls).length = ls.length := by simp [esOf]
theorem sp_same {ls ms : List Lg} (h : esOf ls = esOf ms) (s : Int) : spLo ls s = spLo ms s ∧ spHi ls s = spHi ms s ∧ spC ls s = spC ms s := by
  have hl : ls.length = ms.length := by rw [← es_length, ← es_length, h]
  have he : ∀ i, (lgAt ls i).es = (lgAt ms i).es := fun i => by rw [lgAt_es, lgAt_es, h]
  have hlo : ∀ k, lowTo ls s k = lowTo ms s k := by
    intro k
    induction k with
    | zero => rfl
    | succ k ih => rw [lowTo, lowTo, he, ih]
  have hhi : ∀ k, highTo ls s k = highTo ms s k := by
    intro k
    induction k with
    | zero => rfl
    | succ k ih => rw [highTo, highTo, he, ih]
  have hv : lgV ls = lgV ms := by funext i; unfold lgV; rw [he]
  have hg : lgC ls = lgC ms := by unfold lgC allV; rw [hv, hl]
  have hc : spC ls s = spC ms s := by unfold spC lsC; rw [hg, hl, hlo]
  exact ⟨by unfold spLo; rw [hc, hl, hlo], by unfold spHi; rw [hc, hl, hhi], hc⟩
def SzL (left n : Nat) (ls : List Lg) (w : World) (e : Ending) (w' : World) : Prop :=
  ∃ r : Int, e = .returned (.int .i64 r) ∧ (r = -1 ∨ (0 ≤ r ∧ r ≤ left ∧ n ≤ left ∧ ∀ i, i < n → (lgAt ls i).es.length ≤ left)) ∧ w = w'
set_option maxRecDepth 100000 in
theorem szLogS_any (a : Option Addr) (cap n left : Nat) (ls : List Lg) (hl : n = ls.length) (hm : n ≤ 9223372036854775807) (hle : left ≤ 1048576) (hsz : ∀ i, (lgAt ls i).es.length ≤ 9223372036854775807) (w : World) (hs : LogsRaw w a ls) :
    Calls Tryd.prog 18 #[.slice a n cap, .int .i64 left] w (SzL left n ls w) := by
  have HS := hid hs
  have HL := hid hl
  have HZ := hid hsz
  clear hs hl hsz
  by_cases hlt : left < n
  · have e1 : IntKind.i64.wrap ((left : Int) - (n : Int)) = (left : Int) - (n : Int) := IntWalk.i64_in _ (by omega)
    have t1 : (left : Int) - (n : Int) < 0 := by omega
    go_enter Tryd.func18, Tryd.ntmps18
    go_wp2_with fail
    go_ret
    exact ⟨-1, rfl, .inl rfl, rfl⟩
  · obtain ⟨r0, hr0⟩ : ∃ r0 : Nat, (left : Int) - (n : Int) = (r0 : Int) := ⟨left - n, by omega⟩
    have hr1 : r0 ≤ left := by omega
    have hnl : n ≤ left := by omega
    have e1 : IntKind.i64.wrap ((left : Int) - (n : Int)) = (r0 : Int) := by rw [IntWalk.i64_in _ (by omega)]; exact hr0
    clear hr0
    go_enter Tryd.func18, Tryd.ntmps18
    go_wp2_with fail
    go_loop [1, 5] (fun l i => ∃ (k r : Nat), k ≤ n ∧ r ≤ left ∧ i = .int .i64 k ∧ l = .int .i64 r ∧ Hid (∀ i, i < k → (lgAt ls i).es.length ≤ left)) (fun _ i => n - (intOf i).toNat)
    case atStart => exact ⟨0, r0, Nat.zero_le _, hr1, rfl, rfl, hid (fun i hi => absurd hi (Nat.not_lt_zero i))⟩
    case round =>
      obtain ⟨k, r, hk, hr, rfl, rfl, HB⟩ := hrel
      by_cases hkn : k < n
      · obtain ⟨b0, o0, rfl, h0, -⟩ := HS.out k (by rw [← HL.out]; exact hkn)
        unfold Lg.val at h0
        have hz := HZ.out k
        have HST := hid (fun (h : (lgAt ls k).es.length ≤ left) i (hi : i < k + 1) => show (lgAt ls i).es.length ≤ left by
          by_cases e : i = k
          · rw [e]; exact h
          · exact HB.out i (by omega))
        generalize (lgAt ls k).es.length = v at *
        have HC := hid (szEntryS_any (lgAt ls k).a (lgAt ls k).c v r hz (by omega) w)
        go_wp2_with fail
        refine HC.out.mono ?_
        rintro e w' ⟨⟨q, rfl, hq⟩, rfl⟩
        rcases hq with rfl | ⟨q0, q1, q2⟩
        · go_wp2_with fail
          go_ret
          exact ⟨-1, rfl, .inl rfl, rfl⟩
        · obtain ⟨r', rfl⟩ : ∃ r' : Nat, q = (r' : Int) := ⟨q.toNat, by omega⟩
          have hn0 : ¬ (r' : Int) < 0 := by omega
          go_wp2_with fail
          go_round
          case rel => exact ⟨k + 1, r', by omega, by omega, by go_num, rfl, hid (HST.out (by omega))⟩
          case measure => simp [intOf]; omega
      · go_wp2_with fail
        go_ret
        exact ⟨r, rfl, .inr ⟨by omega, by omega, hnl, fun i hi => HB.out i (by omega)⟩, rfl⟩
theorem make_logs (n : Nat) (hn : n ≤ 1048576) (W : World) : (Instr.makeSlice 40 (.int .i64 n) (.int .i64 n)).run Tryd.prog W = .ok (.slice (some ⟨W.heap.size, 0, none⟩) n n) (W.alloc (.cells (List.replicate n (Value.slice none 0 0)).toArray 28)) :=
  run_make_rows (P := Tryd.prog) (t := 40) Tryd.underlying40 (by kernel_rfl) n (by omega) W
/-- Logs that have been made so far: each in a block of its own. -/
structure LgsI (w : World) (g n : Nat) (ls L : List Lg) (wr : World) : Prop where
  es : esOf L = (esOf ls).take L.length
  row : wr.heap[g]? = some (.cells (L.map Lg.val ++ List.replicate (n - L.length) (Value.slice none 0 0)).toArray 28 (0, 0))
  at_ : ∀ i, i < L.length → ∃ b, (lgAt L i).a = some ⟨b, 0, none⟩ ∧ g < b ∧ wr.heap[b]? = some (.cells (enCells (lgAt L i).es).toArray 58 (0, 0))
  gr : Gr w wr
theorem LgsI.turn {w wr wx : World} {g n : Nat} {ls L : List Lg} (h : LgsI w g n ls L wr) (q : Gr wr wx) : LgsI w g n ls L wx :=
  ⟨h.es, q.heap h.row, fun i hi => by obtain ⟨b, e, h1, h2⟩ := h.at_ i hi; exact ⟨b, e, h1, q.heap h2⟩, h.gr.trans q⟩
theorem LgsI.step {w wr : World} {g n b : Nat} {ls L : List Lg} (h : LgsI w g n ls L wr) (hk : L.length < n) (hl : n = ls.length) (hw : w.heap.size ≤ g) (hb : wr.heap[b]? = some (.cells (enCells (lgAt ls L.length).es).toArray 58 (0, 0))) (hgb : g < b) :
    LgsI w g n ls (L ++ [⟨some ⟨b, 0, none⟩, (lgAt ls L.length).es.length, (lgAt ls L.length).es⟩]) (wr.setCell ⟨g, L.length, none⟩ (.slice (some ⟨b, 0, none⟩) (lgAt ls L.length).es.length (lgAt ls L.length).es.length)) := by
  refine ⟨?_, ?_, fun i hi => ?_, h.gr.setCell (p := ⟨g, L.length, none⟩) hw _⟩
  · unfold esOf
    rw [List.map_append, List.length_append, List.length_singleton, List.take_add_one]
    have h1 := h.es
    unfold esOf at h1
    rw [h1, lgAt_es]
    congr 1
    unfold esOf
    simp [List.getD, show L.length < ls.length by omega]
  · rw [heap_val_setL h.row]
    congr 3
    obtain ⟨d, hd⟩ : ∃ d, n - L.length = d + 1 := ⟨n - L.length - 1, by omega⟩
    rw [hd, List.replicate_succ, List.set_append_right _ _ (by simp), List.length_map, Nat.sub_self, List.set_cons_zero, List.map_append, List.length_append, List.length_singleton, List.append_assoc, show n - (L.length + 1) = d by omega]
    rfl
  · rw [List.length_append, List.length_singleton] at hi
    by_cases e : i = L.length
    · subst e
      have ev : lgAt (L ++ [⟨some ⟨b, 0, none⟩, (lgAt ls L.length).es.length, (lgAt ls L.length).es⟩]) L.length = ⟨some ⟨b, 0, none⟩, (lgAt ls L.length).es.length, (lgAt ls L.length).es⟩ := by simp [lgAt, List.getD]
      rw [ev]
      exact ⟨b, rfl, hgb, by rw [heap_setCell_other wr ⟨g, L.length, none⟩ b _ (by dsimp only; omega)]; exact hb⟩
    · have ev : lgAt (L ++ [⟨some ⟨b, 0, none⟩, (lgAt ls L.length).es.length, (lgAt ls L.length).es⟩]) i = lgAt L i := by simp [lgAt, List.getD, List.getElem?_append_left (show i < L.length by omega)]
      rw [ev]
      obtain ⟨b', e', h1, h2⟩ := h.at_ i (by omega)
      exact ⟨b', e', h1, by rw [heap_setCell_other wr ⟨g, L.length, none⟩ b' _ (by dsimp only; omega)]; exact h2⟩
end Go.Proofs.YtnkoakneffjkbaaDoor
