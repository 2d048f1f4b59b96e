/- CommonOf: the model's function. -/
import Derived.Test.YtnkoakneffjkbaaDoorCosts
import Derived.Test.YtnkoakneffjkbaaDoorCode2
import Derived.Test.YtnkoakneffjkbaaDoorLogOk
namespace Go.Proofs.YtnkoakneffjkbaaDoor
set_option linter.unusedVariables false
open Go.RowKit
/-- A cell of a table that is known is written. -/
theorem Tab.upd {w : World} {lo tb N M : Nat} {T : Nat → Nat → Int} {rb : Nat → Nat} (h : Tab w lo tb N M T 0 0 0 rb) {i j : Nat} (h2 : i < N) (x : Int) : Tab (w.setCell ⟨rb i, j, none⟩ (.int .i64 x)) lo tb N M (fun r c => if r = i ∧ c = j then x else T r c) 0 0 0 rb := by
  refine ⟨?_, fun r g1 g2 => ?_, h.apart, h.low, h.lot⟩
  · obtain ⟨cs, a, b, c⟩ := h.outer
    exact ⟨cs, heap_stored (fun e => h.far (Nat.zero_le i) h2 (by simp only at e; exact e.symm)) a, b, c⟩
  · obtain ⟨xs, a, b, d⟩ := h.rows r g1 g2
    by_cases e : r = i
    · subst e
      refine ⟨xs.set j x, ?_, by rw [List.length_set]; exact b, fun c hc h3 => ?_⟩
      · rw [heap_setCell_same w _ _ _ _ _ a]
        simp [List.map_set]
      · by_cases ec : c = j
        · subst ec; simp [List.getD, show c < xs.length by omega]
        · have h4 := d c hc (by omega)
          rw [if_neg (fun h => ec h.2), ← h4]
          simp [List.getD, show ¬ j = c from fun e => ec e.symm]
    · refine ⟨xs, heap_stored ?_ a, b, fun c hc h3 => by rw [if_neg (fun h => e h.1)]; exact d c hc (by omega)⟩
      show rb r ≠ rb i
      rcases Nat.lt_or_gt_of_ne e with h5 | h5
      · exact h.apart r i g1 h5 h2
      · exact fun e2 => h.apart i r (Nat.zero_le _) h5 g2 e2.symm
theorem Tab.same {w : World} {lo tb N M : Nat} {T U : Nat → Nat → Int} {rb : Nat → Nat} (h : Tab w lo tb N M T 0 0 0 rb) (he : ∀ r c, r < N → c < M → T r c = U r c) : Tab w lo tb N M U 0 0 0 rb :=
  ⟨h.outer, fun r h1 h2 => by
    obtain ⟨xs, a, b, d⟩ := h.rows r h1 h2
    exact ⟨xs, a, b, fun c hc h3 => (d c hc h3).trans (he r c h2 hc)⟩, h.apart, h.low, h.lot⟩
theorem BegI.tab0 {w wr : World} {n m : Nat} {v : Value} {rb : Nat → Nat} (h : BegI w m (n + 1) v rb wr) : ∃ tb cap, v = .slice (some ⟨tb, 0, none⟩) (n + 1) cap ∧ Tab wr w.heap.size tb (n + 1) (m + 1) (fun _ _ => 0) 0 0 0 rb := by
  obtain ⟨tb, cap, e, t⟩ := h.tab (fun _ _ => 0)
  exact ⟨tb, cap, e, t.outer, fun r _ h9 => ⟨List.replicate (m + 1) 0, h.rows r h9, by simp, fun c hc _ => by simp [List.getD, hc]⟩, t.apart, t.low, t.lot⟩
theorem news_sp {w : World} {x y : Int} {T : TypeId} {fr : Nat × Nat} {b : Nat} (h : w.heap[b]? = some (.cells #[.int .i64 x, .int .i64 y] T fr)) : ∀ j u, [Value.int .i64 x, .int .i64 y][j]? = some u → w.cell? ((⟨b, 0, none⟩ : Addr).add j) = some u := by
  intro j u hu
  rw [Addr.add_mid, Nat.zero_add, cell_of_row w b j _ T fr h]
  simpa using hu
/-- What the table holds, from the entry i, k on. -/
def curT (es fs : List En) (i k r c : Nat) : Int := if i < r ∨ (r = i ∧ k ≤ c) then lcT es fs r c else 0
theorem curT_start (es fs : List En) (r c : Nat) (hr : r ≤ es.length) : curT es fs es.length 0 r c = 0 := by
  unfold curT
  split
  · exact lcT_zero (by omega)
  · rfl
theorem curT_row (es fs : List En) (i r c : Nat) (hc : c ≤ fs.length) : curT es fs i fs.length r c = curT es fs (i + 1) 0 r c := by
  unfold curT
  by_cases h : i < r
  · rw [if_pos (.inl h), if_pos (by omega)]
  · by_cases h2 : r = i ∧ fs.length ≤ c
    · rw [if_pos (.inr h2), if_neg (by omega)]; exact lcT_zero (by omega)
    · rw [if_neg (by omega), if_neg (by omega)]
theorem curT_put (es fs : List En) (i k r c : Nat) : (if r = i ∧ c = k then lcT es fs i k else curT es fs i (k + 1) r c) = curT es fs i k r c := by
  unfold curT
  by_cases h : r = i ∧ c = k
  · rw [if_pos h, h.1, h.2, if_pos (.inr ⟨rfl, Nat.le_refl _⟩)]
  · rw [if_neg h]
    by_cases h2 : i < r ∨ (r = i ∧ k + 1 ≤ c)
    · rw [if_pos h2, if_pos (by omega)]
    · rw [if_neg h2, if_neg (by omega)]
theorem curT_at (es fs : List En) {i k r c : Nat} (h : i < r ∨ (r = i ∧ k ≤ c)) : curT es fs i k r c = lcT es fs r c := by unfold curT; rw [if_pos h]
/-- The table, but for one cell. -/
def TabB (w : World) (lo tb n m : Nat) (es fs : List En) (i k : Nat) (rb : Nat → Nat) : Prop := ∃ y : Int, Tab w lo tb (n + 1) (m + 1) (fun r c => if r = i ∧ c = k then y else curT es fs i (k + 1) r c) 0 0 0 rb
theorem TabB.upd {w : World} {lo tb n m : Nat} {es fs : List En} {i k : Nat} {rb : Nat → Nat} (h : TabB w lo tb n m es fs i k rb) (hi : i < n + 1) (x : Int) : Tab (w.setCell ⟨rb i, k, none⟩ (.int .i64 x)) lo tb (n + 1) (m + 1) (fun r c => if r = i ∧ c = k then x else curT es fs i (k + 1) r c) 0 0 0 rb := by
  obtain ⟨y, ht⟩ := h
  refine (ht.upd hi x).same (fun r c _ _ => ?_)
  by_cases e : r = i ∧ c = k
  · rw [if_pos e, if_pos e]
  · rw [if_neg e, if_neg e, if_neg e]
theorem TabB.gr {w w' : World} {lo tb n m : Nat} {es fs : List En} {i k : Nat} {rb : Nat → Nat} (h : TabB w lo tb n m es fs i k rb) (g : Gr w w') : TabB w' lo tb n m es fs i k rb := by
  obtain ⟨y, ht⟩ := h
  exact ⟨y, ht.gr g⟩
theorem TabB.facts {w : World} {lo tb n m : Nat} {es fs : List En} {i k : Nat} {rb : Nat → Nat} (h : TabB w lo tb n m es fs i k rb) (hi : i < n) (hk : k < m) :
    w.cell? ⟨tb, i, none⟩ = some (.slice (some ⟨rb i, 0, none⟩) (m + 1) (m + 1)) ∧ w.cell? ⟨tb, i + 1, none⟩ = some (.slice (some ⟨rb (i + 1), 0, none⟩) (m + 1) (m + 1)) ∧ w.cell? ⟨rb (i + 1), k, none⟩ = some (.int .i64 (lcT es fs (i + 1) k)) ∧ w.cell? ⟨rb i, k + 1, none⟩ = some (.int .i64 (lcT es fs i (k + 1))) ∧
    w.cell? ⟨rb (i + 1), k + 1, none⟩ = some (.int .i64 (lcT es fs (i + 1) (k + 1))) ∧ (∃ x, w.cell? ⟨rb i, k, none⟩ = some (.int .i64 x)) ∧ w.frozen? ⟨rb i, k, none⟩ = false := by
  obtain ⟨y, ht⟩ := h
  have c1 := ht.cell (r := i + 1) (c := k) (Nat.zero_le _) (by omega) (by omega) (.inl (by omega))
  have c2 := ht.cell (r := i) (c := k + 1) (Nat.zero_le _) (by omega) (by omega) (by omega)
  have c3 := ht.cell (r := i + 1) (c := k + 1) (Nat.zero_le _) (by omega) (by omega) (.inl (by omega))
  rw [if_neg (by omega), curT_at es fs (.inl (by omega))] at c1 c3
  rw [if_neg (by omega), curT_at es fs (.inr ⟨rfl, Nat.le_refl _⟩)] at c2
  obtain ⟨s1, s2⟩ := ht.some_ (r := i) (c := k) (Nat.zero_le _) (by omega) (by omega)
  exact ⟨ht.row (Nat.zero_le _) (by omega), ht.row (Nat.zero_le _) (by omega), c1, c2, c3, s1, s2⟩
theorem com_yes {es fs : List En} {i f : Nat} (h : firstFrom (takeB es fs i (comTo es fs i).2) fs.length (comTo es fs i).2 = f) (hf : f < fs.length) : comTo es fs (i + 1) = ((comTo es fs i).1 ++ [((i : Int), (f : Int))], f + 1) := by rw [comTo, h, if_pos hf]
theorem com_no {es fs : List En} {i : Nat} (h : firstFrom (takeB es fs i (comTo es fs i).2) fs.length (comTo es fs i).2 = fs.length) : comTo es fs (i + 1) = comTo es fs i := by rw [comTo, h, if_neg (Nat.lt_irrefl _)]
set_option maxRecDepth 100000 in
set_option maxHeartbeats 2000000 in
theorem l07Begin_zero (a b : Option Addr) (n m ca cb : Nat) (hn : n ≤ 1000) (hm : m ≤ 1048576) (w : World) :
    Calls Tryd.prog 30 #[.slice a n ca, .slice b m cb] w (TabRet w n m (fun _ _ => 0) 0 0) := by
  obtain ⟨i0, hi0, hz0, hz1, hz2⟩ := info_parts infoRow
  have hmk := make_row m hm
  have GB0 := hid (show Gr w (w.alloc (.cells #[] 44)) from (Gr.refl w).alloc _)
  have BB := hid (show BegI w m 0 (.slice (some ⟨w.heap.size, 0, none⟩) 0 0) (fun _ => 0) (w.alloc (.cells #[] 44)) from
    ⟨((OwnV.ofBlock (e := 44) (sz := 1) (n := 0) (us := #[]) (heap_new (w := w) (o := .cells #[] 44) rfl) (by simp) (by unfold maxLen; simp)).widen (Nat.le_refl _) (by simp)), fun r h => by omega, fun r s h1 h2 => by omega, fun r h => by omega, GB0.out⟩)
  go_enter Tryd.func30, Tryd.ntmps30
  go_wp2_with fail
  go_loopw [5, 6] (fun v iv wr => ∃ (k : Nat) (rb : Nat → Nat), k ≤ n + 1 ∧ iv = .int .i64 k ∧ Hid (BegI w m k v rb wr)) (fun _ iv _ => n + 1 - (intOf iv).toNat)
  case atStart => exact ⟨0, fun _ => 0, Nat.zero_le _, rfl, BB⟩
  case round =>
    obtain ⟨k, rb, hk, rfl, I⟩ := hrel
    obtain ⟨av, cv, rfl⟩ := I.out.own.shape
    by_cases hlt : k ≤ n
    · have hk0 : (0 : Int) ≤ k := by omega
      have hk1 : (k : Int) ≤ n := by omega
      have O := hid I.out.own.row
      have SZ := hid I.out.gr.size
      go_wp2_with (at_builtin; refine wpList_append_own _ rfl _ _ 53 rfl w.heap.size 44 i0 (.slice none 0 0) 1 24 Tryd.underlying53 hi0 hz0 hz1 hz2 rfl (by decide) _ _ _ rfl ((O.out.alloc _).alloc _) ⟨wr.heap.size + 1, 0, none⟩ 1 1 [.slice (some ⟨wr.heap.size, 0, none⟩) (m + 1) (m + 1)] rfl rfl (news_ac (heap_new (by simp))) (by simp [Value.oneCell']) (by unfold maxLen; omega) (by omega) (by have := SZ.out; simp <;> omega) ?_; intro v5 w5 hown5 hgrow5 _)
      have I5 := hid (I.out.snoc hown5 hgrow5)
      clear hown5 hgrow5
      go_wp2_with fail
      go_roundw
      case rel => exact ⟨k + 1, _, by omega, by go_num, I5⟩
      case measure => simp [intOf]; omega
    · obtain rfl : k = n + 1 := by omega
      obtain ⟨tb, cap, e, ht⟩ := I.out.tab0
      have HT := hid ht
      have HE := hid e
      clear e ht
      have hk0 : ¬ (((n + 1 : Nat) : Int) ≤ (n : Int)) := by omega
      have GE := hid I.out.gr
      go_wp2_with fail
      go_ret
      exact ⟨tb, cap, rb, by rw [← HE.out]; rfl, HT.out, GE.out⟩
set_option maxRecDepth 100000 in
set_option maxHeartbeats 800000 in
theorem l07Agree_any (x y : En) (w : World) :
    Calls Tryd.prog 32 #[enV x, enV y] w fun e w' => e = .returned (.bool (agE x y)) ∧ Gr w w' := by
  have HQ := hid (show agE x y = ((x.s == y.s) && (x.d == y.d)) from rfl)
  unfold enV
  generalize agE x y = r at *
  obtain ⟨xt, xs, xd⟩ := x
  obtain ⟨yt, ys, yd⟩ := y
  simp only at HQ ⊢
  cases e1 : (xs == ys)
  · have HR := hid (show r = false by rw [HQ.out, e1]; rfl)
    clear HQ
    go_enter Tryd.func32, Tryd.ntmps32
    go_wp2_with fail
    go_ret
    exact ⟨ret_bool HR.out.symm, ((Gr.refl _).alloc _).alloc _⟩
  cases e2 : (xd == yd)
  · have HR := hid (show r = false by rw [HQ.out, e1, e2]; rfl)
    clear HQ
    go_enter Tryd.func32, Tryd.ntmps32
    go_wp2_with fail
    go_ret
    exact ⟨ret_bool HR.out.symm, ((Gr.refl _).alloc _).alloc _⟩
  · have HR := hid (show r = true by rw [HQ.out, e1, e2]; rfl)
    clear HQ
    go_enter Tryd.func32, Tryd.ntmps32
    go_wp2_with fail
    go_ret
    exact ⟨ret_bool HR.out.symm, ((Gr.refl _).alloc _).alloc _⟩
set_option maxRecDepth 100000 in
set_option maxHeartbeats 8000000 in
theorem spec_CommonOf_law (a : Option Addr) (n ca : Nat) (es : List En) (hn0 : n = es.length) (hn : n ≤ 1048576) (hf : EnFits es) (b : Option Addr) (m cb : Nat) (fs : List En) (hm0 : m = fs.length) (hm : m ≤ 1048576) (hg : EnFits fs) (w : World) (ha : CellsOf w a (enCells es)) (hb : CellsOf w b (enCells fs)) :
    Calls Tryd.prog 8 #[.slice a n ca, .slice b m cb] w (RetV 60 2 (withCode (code2 es fs)) (commonV es fs).length (flCells (commonV es fs)) w) := by
  have h2 : Logs2 w a b n m es fs := ⟨ha, hb, hn0, hm0, hn, hm⟩
  have HO1 := hid (fun V (g : Gr w V) => l07Ok_any a n ca es hn0 hn V (ha.gr g))
  have HO2 := hid (fun V (g : Gr w V) => l07Ok_any b m cb fs hm0 hm V (hb.gr g))
  cases hv : valid2 es fs with
  | false =>
    rw [show code2 es fs = 1 by unfold code2; rw [hv]; rfl, show commonV es fs = [] by unfold commonV; rw [hv]; rfl]
    cases hv1 : validE es with
    | false =>
      rw [hv1] at HO1
      clear h2 ha hb hf hg hn0 hm0 hv hv1
      go_enter Tryd.func8, Tryd.ntmps8
      go_wp2_with fail
      refine (HO1.out _ (Gr.refl _)).mono ?_
      rintro e w1 ⟨rfl, g1⟩
      have GF := hid g1
      clear g1
      go_wp2_with fail
      go_ret2
      exact ⟨_, rfl, (OwnV.ofBlock (e := 60) (sz := 2) (n := 0) (us := #[]) (heap_new (o := .cells #[] 60) rfl) (by simp) (by unfold maxLen; simp)).widen GF.out.size (by simp), GF.out.alloc _⟩
    | true =>
      have hv2 : validE fs = false := by unfold valid2 at hv; rw [hv1, Bool.true_and] at hv; exact hv
      rw [hv1] at HO1
      rw [hv2] at HO2
      clear h2 ha hb hf hg hn0 hm0 hv hv1 hv2
      go_enter Tryd.func8, Tryd.ntmps8
      go_wp2_with fail
      refine (HO1.out _ (Gr.refl _)).mono ?_
      rintro e w1 ⟨rfl, g1⟩
      have G1 := hid g1
      clear g1
      go_wp2_with fail
      refine (HO2.out _ G1.out).mono ?_
      rintro e w2 ⟨rfl, g2⟩
      have GF := hid (G1.out.trans g2)
      clear g2
      go_wp2_with fail
      go_ret2
      exact ⟨_, rfl, (OwnV.ofBlock (e := 60) (sz := 2) (n := 0) (us := #[]) (heap_new (o := .cells #[] 60) rfl) (by simp) (by unfold maxLen; simp)).widen GF.out.size (by simp), GF.out.alloc _⟩
  | true =>
    have hvv : validE es = true ∧ validE fs = true := by unfold valid2 at hv; rw [Bool.and_eq_true] at hv; exact hv
    have h60 := valid2_60 hv
    have hn6 : n ≤ 60 := by rw [hn0]; exact h60.1
    have hm6 : m ≤ 60 := by rw [hm0]; exact h60.2
    rw [hvv.1] at HO1
    rw [hvv.2] at HO2
    rw [show code2 es fs = 0 by unfold code2; rw [hv]; rfl, show commonV es fs = (comTo es fs es.length).1 by unfold commonV; rw [hv]; rfl]
    have HBG := hid (fun V => l07Begin_zero a b n m ca cb (by omega) (by omega) V)
    have H2 := hid h2
    have HN := hid hn0
    have HM := hid hm0
    have HINV := hid (fun i (h : i ≤ n) => comTo_inv es fs i (by rw [← hn0]; exact h))
    have HSND := hid (comTo_snd es fs)
    have HLEN := hid (comTo_length es fs)
    have HBD := hid (fun i k => lcT_bd es fs i k h60.1 h60.2)
    have HYES := hid (fun i f => com_yes (es := es) (fs := fs) (i := i) (f := f))
    have HNO := hid (fun i => com_no (es := es) (fs := fs) (i := i))
    clear h2 ha hb hf hg hn0 hm0 hv hvv h60
    obtain ⟨i0, hi0, hz0, hz1, hz2⟩ := info_parts infoStep
    go_enter Tryd.func8, Tryd.ntmps8
    go_wp2_with fail
    refine (HO1.out _ (Gr.refl _)).mono ?_
    rintro e w1 ⟨rfl, g1⟩
    have G1 := hid g1
    clear g1
    go_wp2_with fail
    refine (HO2.out _ G1.out).mono ?_
    rintro e w2 ⟨rfl, g2⟩
    have GF := hid (G1.out.trans g2)
    clear g2
    go_wp2_with fail
    refine (HBG.out _).mono ?_
    rintro e w3 ⟨tb, cap, rb, rfl, t3, g3⟩
    have G3 := hid (GF.out.trans g3)
    have T3 := hid (show Tab w3 w.heap.size tb (n + 1) (m + 1) (curT es fs n 0) 0 0 0 rb from ⟨t3.outer, (t3.same (fun r c h1 _ => by rw [HN.out]; exact (curT_start es fs r c (by have := HN.out; omega)).symm)).rows, t3.apart, fun r h1 h2 => Nat.le_trans GF.out.size (t3.low r h1 h2), Nat.le_trans GF.out.size t3.lot⟩)
    clear t3 g3 HBG
    go_wp2_with fail
    go_loopw [7, 8] (fun iv _ wr => ∃ q : Nat, q ≤ n ∧ iv = .int .i64 ((q : Int) - 1) ∧ Hid (Tab wr w.heap.size tb (n + 1) (m + 1) (curT es fs q 0) 0 0 0 rb) ∧ Hid (Gr w wr)) (fun iv _ _ => (intOf iv + 1).toNat)
    case atStart => exact ⟨n, Nat.le_refl _, by go_num, T3, G3⟩
    case round =>
      clear T3 G3
      obtain ⟨q, hq, rfl, I, hgr⟩ := hrel
      by_cases hq0 : q = 0
      · subst hq0
        have J := hid (show Tab wr w.heap.size tb (n + 1) (m + 1) (lcT es fs) 0 0 0 rb from I.out.same (fun r c _ _ => curT_at es fs (by omega)))
        clear I
        have hgB := hgr
        have JB := J
        clear hgr J
        obtain ⟨wB, hwB⟩ : ∃ wB, wB = wr := ⟨_, rfl⟩
        rw [← hwB] at hgB JB ⊢
        have OB := hid (OwnV.ofBlock (e := 60) (sz := 2) (n := 0) (us := #[]) (heap_new (w := wB) (o := .cells #[] 60) rfl) (by simp) (by unfold maxLen; simp))
        clear hwB
        go_wp2_with fail
        go_loopw [9, 10, 11, 12] (fun v jv iv _ wx => ∃ i : Nat, i ≤ n ∧ iv = .int .i64 i ∧ jv = .int .i64 ((comTo es fs i).2 : Nat) ∧ Hid (OwnV 60 2 wx wB.heap.size wx.heap.size v (comTo es fs i).1.length (flCells (comTo es fs i).1)) ∧ Hid (Gr wB wx)) (fun _ _ iv _ _ => n - (intOf iv).toNat)
        case atStart => exact ⟨0, Nat.zero_le _, rfl, rfl, hid (OB.out.widen (Nat.le_refl _) (by simp)), hid ((Gr.refl _).alloc _)⟩
        case round =>
          obtain ⟨i, hi, rfl, rfl, ho, hgx⟩ := hrel
          obtain ⟨sa, scap, rfl⟩ := ho.out.shape
          by_cases hlt : i < n
          · have hj := HSND.out i
            have hfl := HLEN.out i
            have hinv := HINV.out i (by omega)
            have HY := hid (HYES.out i)
            have HNN := hid (HNO.out i)
            have hmm := HM.out
            rw [← hmm] at hj HY HNN
            have HFN := hid (fun k => firstFrom_no (p := takeB es fs i (comTo es fs i).2) (n := m) (j := k))
            have HFY := hid (fun k => firstFrom_yes (p := takeB es fs i (comTo es fs i).2) (n := m) (j := k))
            have HFG := hid (firstFrom_ge (p := takeB es fs i (comTo es fs i).2) (n := m) (j := m) (Nat.lt_irrefl _))
            have HTK := hid (fun k => show takeB es fs i (comTo es fs i).2 k = (agE (enAt es i) (enAt fs k) && decide (1 + lcT es fs (i + 1) (k + 1) = lcT es fs i (comTo es fs i).2)) from rfl)
            generalize hpt : takeB es fs i (comTo es fs i).2 = pt at *
            have bdj := HBD.out i (comTo es fs i).2
            generalize lcT es fs i (comTo es fs i).2 = lj at *
            generalize hF : (comTo es fs i).1 = F at *
            generalize hjj : (comTo es fs i).2 = j at *
            have HOF := hid ho.out
            generalize hflen : F.length = fl at *
            have HFL := hid hflen
            have HPF := hid hF
            have HPJ := hid hjj
            clear hpt hF hjj hflen ho
            obtain ⟨wC, hwC⟩ : ∃ wC, wC = wr := ⟨_, rfl⟩
            rw [← hwC] at HOF hgx ⊢
            clear hwC hmm
            go_wp2_with fail
            go_loopw [9, 10, 12] (fun v jv kv wx => ∃ k : Nat, j ≤ k ∧ k ≤ m ∧ v = .slice sa fl scap ∧ jv = .int .i64 j ∧ kv = .int .i64 k ∧ Hid (firstFrom pt m j = firstFrom pt m k) ∧ Hid (Gr wC wx)) (fun _ _ kv _ => m - (intOf kv).toNat)
            case atStart => exact ⟨j, Nat.le_refl _, hj, rfl, rfl, rfl, hid rfl, hid (Gr.refl _)⟩
            case round =>
              obtain ⟨k, hjk, hkm, rfl, rfl, rfl, hff, hgy⟩ := hrel
              by_cases hkl : k < m
              · obtain ⟨bb0, o0, rfl, p0, p1, p2⟩ := en_at H2.out.fst (i := i) (by have := HN.out; omega)
                obtain ⟨bb1, o1, rfl, q0, q1, q2⟩ := en_at H2.out.snd (i := k) (by have := HM.out; omega)
                have HRG0 := hid (fun V (g : Gr w V) => range3 (w := V) ⟨g.cell p0, g.cell p1, g.cell p2⟩)
                have HRG1 := hid (fun V (g : Gr w V) => range3 (w := V) ⟨g.cell q0, g.cell q1, g.cell q2⟩)
                have HAG := hid (fun V => l07Agree_any (enAt es i) (enAt fs k) V)
                have hgw := hid (hgB.out.trans (hgx.out.trans hgy.out))
                have JW := hid (JB.out.gr (hgx.out.trans hgy.out))
                have HF := hid (fun V (g : Gr wr V) => And.intro ((JW.out.gr g).row (r := i + 1) (Nat.zero_le _) (by omega)) (And.intro ((JW.out.gr g).cell (r := i + 1) (c := k + 1) (Nat.zero_le _) (by omega) (by omega) (by omega)) (And.intro ((JW.out.gr g).row (r := 0) (Nat.zero_le _) (by omega)) ((JW.out.gr g).cell (r := 0) (c := 0) (Nat.zero_le _) (by omega) (by omega) (by omega)))))
                have HTKK := hid (HTK.out k)
                have HFNK := hid (HFN.out k hkl)
                have HFYK := hid (HFY.out k hkl)
                have HYK := hid (fun f => HY.out f)
                have bd3 := HBD.out (i + 1) (k + 1)
                have bdL := HBD.out 0 0
                clear p0 p1 p2 q0 q1 q2 HTK HFN HFY HY HNN
                generalize lcT es fs (i + 1) (k + 1) = x3 at *
                generalize lcT es fs 0 0 = L at *
                generalize agE (enAt es i) (enAt fs k) = ag at *
                generalize enAt es i = x at *
                generalize enAt fs k = y at *
                generalize rb (i + 1) = g1 at *
                generalize rb 0 = g00 at *
                unfold enV at HAG
                obtain ⟨xt, xs, xd⟩ := x
                obtain ⟨yt, ys, yd⟩ := y
                simp only at HRG0 HRG1 HAG
                have hi0' : (0 : Int) ≤ i := by omega
                have hi1' : (i : Int) < n := by omega
                have hk0' : (0 : Int) ≤ k := by omega
                have hk1' : (k : Int) < m := by omega
                have hi3 : (i : Int) + 1 < (n + 1 : Nat) := by omega
                have hk3 : (k : Int) + 1 < (m + 1 : Nat) := by omega
                have e1 : IntKind.i64.wrap ((i : Int) + 1) = (i : Int) + 1 := IntWalk.i64_in _ (by omega)
                have e2 : IntKind.i64.wrap ((k : Int) + 1) = (k : Int) + 1 := IntWalk.i64_in _ (by omega)
                have e4 : IntKind.i64.wrap ((fl : Int) + 1) = (fl : Int) + 1 := IntWalk.i64_in _ (by omega)
                have e5 : IntKind.i64.wrap ((fl : Int) + 1 + x3) = (fl : Int) + 1 + x3 := IntWalk.i64_in _ (by omega)
                cases ag with
                | false =>
                  have HE := hid (hff.out.trans (HFNK.out (by rw [HTKK.out, Bool.false_and])))
                  clear hff
                  go_wp2_with fail
                  refine wp_region_held_drew (S := (fun V => Gr wr V)) (by kernel_rfl) (Gr.refl _).drew (fun hH => ?_)
                  have HH := hid hH
                  clear hH
                  refine wpAnyH_take (i := 0) (v := .slice (some ⟨bb0, o0, none⟩) n ca) rfl (by kernel_rfl) (by kernel_rfl) (by kernel_rfl) (fun _ _ _ h => h) (Or.inl ⟨by rfl, fun _ _ => by first | rfl | (go_simp; done) | (go_simp; rfl) | (go_simp; intro h; exfalso; omega)⟩) HH.out ?_
                  simp only [Act.put, List.getElem_toArray, List.getElem_cons_zero, List.setIfInBounds_toArray, List.set_cons_zero, List.set_cons_succ]
                  refine wpAnyH_take (i := 1) (v := .int .i64 i) rfl (by kernel_rfl) (by kernel_rfl) (by kernel_rfl) (fun _ _ _ h => h) (Or.inl ⟨by rfl, fun _ _ => by first | rfl | (go_simp; done) | (go_simp; rfl) | (go_simp; intro h; exfalso; omega)⟩) HH.out ?_
                  simp only [Act.put, List.getElem_toArray, List.getElem_cons_zero, List.getElem_cons_succ, List.setIfInBounds_toArray, List.set_cons_zero, List.set_cons_succ]
                  refine wpAnyH_take (i := 2) (v := .pointer (some ⟨bb0, o0 + i * 3, none⟩)) rfl (by kernel_rfl) (by kernel_rfl) (by kernel_rfl) (fun _ _ _ h => h) (Or.inl ⟨by rfl, fun _ _ => by first | rfl | (go_simp; done) | (go_simp; rfl) | (go_simp; intro h; exfalso; omega)⟩) HH.out ?_
                  simp only [Act.put, List.getElem_toArray, List.getElem_cons_zero, List.getElem_cons_succ, List.setIfInBounds_toArray, List.set_cons_zero, List.set_cons_succ]
                  refine wpAnyH_take (i := 3) (v := .agg #[.int .i64 xt, .int .i64 xs, .bool xd]) rfl (by kernel_rfl) (by kernel_rfl) (by kernel_rfl) (fun _ _ _ h => h) (yieldsIf_load_mid rfl 58 (.tmp 111) rfl bb0 (o0 + i * 3) rfl [.int .i64 xt, .int .i64 xs, .bool xd] _ (fun V hV => HRG0.out V (hgw.out.trans hV)) Tryd.underlying58 rfl sizeEn) HH.out ?_
                  simp only [Act.put, List.getElem_toArray, List.getElem_cons_zero, List.getElem_cons_succ, List.setIfInBounds_toArray, List.set_cons_zero, List.set_cons_succ]
                  refine wpAnyH_take (i := 4) (v := .slice (some ⟨bb1, o1, none⟩) m cb) rfl (by kernel_rfl) (by kernel_rfl) (by kernel_rfl) (fun _ _ _ h => h) (Or.inl ⟨by rfl, fun _ _ => by first | rfl | (go_simp; done) | (go_simp; rfl) | (go_simp; intro h; exfalso; omega)⟩) HH.out ?_
                  simp only [Act.put, List.getElem_toArray, List.getElem_cons_zero, List.getElem_cons_succ, List.setIfInBounds_toArray, List.set_cons_zero, List.set_cons_succ]
                  refine wpAnyH_take (i := 5) (v := .int .i64 k) rfl (by kernel_rfl) (by kernel_rfl) (by kernel_rfl) (fun _ _ _ h => h) (Or.inl ⟨by rfl, fun _ _ => by first | rfl | (go_simp; done) | (go_simp; rfl) | (go_simp; intro h; exfalso; omega)⟩) HH.out ?_
                  simp only [Act.put, List.getElem_toArray, List.getElem_cons_zero, List.getElem_cons_succ, List.setIfInBounds_toArray, List.set_cons_zero, List.set_cons_succ]
                  refine wpAnyH_take (i := 6) (v := .pointer (some ⟨bb1, o1 + k * 3, none⟩)) rfl (by kernel_rfl) (by kernel_rfl) (by kernel_rfl) (fun _ _ _ h => h) (Or.inl ⟨by rfl, fun _ _ => by first | rfl | (go_simp; done) | (go_simp; rfl) | (go_simp; intro h; exfalso; omega)⟩) HH.out ?_
                  simp only [Act.put, List.getElem_toArray, List.getElem_cons_zero, List.getElem_cons_succ, List.setIfInBounds_toArray, List.set_cons_zero, List.set_cons_succ]
                  refine wpAnyH_take (i := 7) (v := .agg #[.int .i64 yt, .int .i64 ys, .bool yd]) rfl (by kernel_rfl) (by kernel_rfl) (by kernel_rfl) (fun _ _ _ h => h) (yieldsIf_load_mid rfl 58 (.tmp 115) rfl bb1 (o1 + k * 3) rfl [.int .i64 yt, .int .i64 ys, .bool yd] _ (fun V hV => HRG1.out V (hgw.out.trans hV)) Tryd.underlying58 rfl sizeEn) HH.out ?_
                  simp only [Act.put, List.getElem_toArray, List.getElem_cons_zero, List.getElem_cons_succ, List.setIfInBounds_toArray, List.set_cons_zero, List.set_cons_succ]
                  refine wpAnyH_ready (rs := [8]) (by kernel_rfl) (by simp) (AllReadyH.cons rfl (fun KK hKK => ?_) AllReadyH.nil)
                  rw [if_pos (by rfl)]
                  go_simp
                  refine (HAG.out _).mono ?_
                  rintro e V ⟨rfl, gV⟩
                  dsimp only
                  refine hKK.out _ _ (HH.out.trans gV) (fun hH => ?_)
                  clear HH hKK KK
                  have HH := hid hH
                  clear hH
                  refine wpAnyH_take (i := 9) (v := .bool false) rfl (by kernel_rfl) (by kernel_rfl) (by kernel_rfl) (fun _ _ _ h => h) (Or.inl ⟨by rfl, fun _ _ => by first | rfl | (go_simp; done) | (go_simp; rfl) | (go_simp; intro h; exfalso; omega)⟩) HH.out ?_
                  simp only [Act.put, List.getElem_toArray, List.getElem_cons_zero, List.getElem_cons_succ, List.setIfInBounds_toArray, List.set_cons_zero, List.set_cons_succ]
                  refine wpAnyH_take (i := 10) (v := undef) rfl (by kernel_rfl) (by kernel_rfl) (by kernel_rfl) (fun _ _ _ h => h) (Or.inr ⟨by kernel_rfl, rfl⟩) HH.out ?_
                  simp only [Act.put, List.getElem_toArray, List.getElem_cons_zero, List.getElem_cons_succ, List.setIfInBounds_toArray, List.set_cons_zero, List.set_cons_succ]
                  refine wpAnyH_take (i := 11) (v := undef) rfl (by kernel_rfl) (by kernel_rfl) (by kernel_rfl) (fun _ _ _ h => h) (Or.inr ⟨by kernel_rfl, rfl⟩) HH.out ?_
                  simp only [Act.put, List.getElem_toArray, List.getElem_cons_zero, List.getElem_cons_succ, List.setIfInBounds_toArray, List.set_cons_zero, List.set_cons_succ]
                  refine wpAnyH_take (i := 12) (v := undef) rfl (by kernel_rfl) (by kernel_rfl) (by kernel_rfl) (fun _ _ _ h => h) (Or.inr ⟨by kernel_rfl, rfl⟩) HH.out ?_
                  simp only [Act.put, List.getElem_toArray, List.getElem_cons_zero, List.getElem_cons_succ, List.setIfInBounds_toArray, List.set_cons_zero, List.set_cons_succ]
                  refine wpAnyH_take (i := 13) (v := undef) rfl (by kernel_rfl) (by kernel_rfl) (by kernel_rfl) (fun _ _ _ h => h) (Or.inr ⟨by kernel_rfl, rfl⟩) HH.out ?_
                  simp only [Act.put, List.getElem_toArray, List.getElem_cons_zero, List.getElem_cons_succ, List.setIfInBounds_toArray, List.set_cons_zero, List.set_cons_succ]
                  refine wpAnyH_take (i := 14) (v := undef) rfl (by kernel_rfl) (by kernel_rfl) (by kernel_rfl) (fun _ _ _ h => h) (Or.inr ⟨by kernel_rfl, rfl⟩) HH.out ?_
                  simp only [Act.put, List.getElem_toArray, List.getElem_cons_zero, List.getElem_cons_succ, List.setIfInBounds_toArray, List.set_cons_zero, List.set_cons_succ]
                  refine wpAnyH_take (i := 15) (v := undef) rfl (by kernel_rfl) (by kernel_rfl) (by kernel_rfl) (fun _ _ _ h => h) (Or.inr ⟨by kernel_rfl, rfl⟩) HH.out ?_
                  simp only [Act.put, List.getElem_toArray, List.getElem_cons_zero, List.getElem_cons_succ, List.setIfInBounds_toArray, List.set_cons_zero, List.set_cons_succ]
                  refine wpAnyH_take (i := 16) (v := undef) rfl (by kernel_rfl) (by kernel_rfl) (by kernel_rfl) (fun _ _ _ h => h) (Or.inr ⟨by kernel_rfl, rfl⟩) HH.out ?_
                  simp only [Act.put, List.getElem_toArray, List.getElem_cons_zero, List.getElem_cons_succ, List.setIfInBounds_toArray, List.set_cons_zero, List.set_cons_succ]
                  refine wpAnyH_take (i := 17) (v := undef) rfl (by kernel_rfl) (by kernel_rfl) (by kernel_rfl) (fun _ _ _ h => h) (Or.inr ⟨by kernel_rfl, rfl⟩) HH.out ?_
                  simp only [Act.put, List.getElem_toArray, List.getElem_cons_zero, List.getElem_cons_succ, List.setIfInBounds_toArray, List.set_cons_zero, List.set_cons_succ]
                  refine wpAnyH_take (i := 18) (v := undef) rfl (by kernel_rfl) (by kernel_rfl) (by kernel_rfl) (fun _ _ _ h => h) (Or.inr ⟨by kernel_rfl, rfl⟩) HH.out ?_
                  simp only [Act.put, List.getElem_toArray, List.getElem_cons_zero, List.getElem_cons_succ, List.setIfInBounds_toArray, List.set_cons_zero, List.set_cons_succ]
                  refine wpAnyH_take (i := 19) (v := undef) rfl (by kernel_rfl) (by kernel_rfl) (by kernel_rfl) (fun _ _ _ h => h) (Or.inr ⟨by kernel_rfl, rfl⟩) HH.out ?_
                  simp only [Act.put, List.getElem_toArray, List.getElem_cons_zero, List.getElem_cons_succ, List.setIfInBounds_toArray, List.set_cons_zero, List.set_cons_succ]
                  refine wpAnyH_take (i := 20) (v := undef) rfl (by kernel_rfl) (by kernel_rfl) (by kernel_rfl) (fun _ _ _ h => h) (Or.inr ⟨by kernel_rfl, rfl⟩) HH.out ?_
                  simp only [Act.put, List.getElem_toArray, List.getElem_cons_zero, List.getElem_cons_succ, List.setIfInBounds_toArray, List.set_cons_zero, List.set_cons_succ]
                  refine wpAnyH_take (i := 21) (v := undef) rfl (by kernel_rfl) (by kernel_rfl) (by kernel_rfl) (fun _ _ _ h => h) (Or.inr ⟨by kernel_rfl, rfl⟩) HH.out ?_
                  simp only [Act.put, List.getElem_toArray, List.getElem_cons_zero, List.getElem_cons_succ, List.setIfInBounds_toArray, List.set_cons_zero, List.set_cons_succ]
                  refine wpAnyH_take (i := 22) (v := undef) rfl (by kernel_rfl) (by kernel_rfl) (by kernel_rfl) (fun _ _ _ h => h) (Or.inr ⟨by kernel_rfl, rfl⟩) HH.out ?_
                  simp only [Act.put, List.getElem_toArray, List.getElem_cons_zero, List.getElem_cons_succ, List.setIfInBounds_toArray, List.set_cons_zero, List.set_cons_succ]
                  refine wpAnyH_take (i := 23) (v := undef) rfl (by kernel_rfl) (by kernel_rfl) (by kernel_rfl) (fun _ _ _ h => h) (Or.inr ⟨by kernel_rfl, rfl⟩) HH.out ?_
                  simp only [Act.put, List.getElem_toArray, List.getElem_cons_zero, List.getElem_cons_succ, List.setIfInBounds_toArray, List.set_cons_zero, List.set_cons_succ]
                  refine wpAnyH_take (i := 24) (v := undef) rfl (by kernel_rfl) (by kernel_rfl) (by kernel_rfl) (fun _ _ _ h => h) (Or.inr ⟨by kernel_rfl, rfl⟩) HH.out ?_
                  simp only [Act.put, List.getElem_toArray, List.getElem_cons_zero, List.getElem_cons_succ, List.setIfInBounds_toArray, List.set_cons_zero, List.set_cons_succ]
                  refine wpAnyH_take (i := 25) (v := undef) rfl (by kernel_rfl) (by kernel_rfl) (by kernel_rfl) (fun _ _ _ h => h) (Or.inr ⟨by kernel_rfl, rfl⟩) HH.out ?_
                  simp only [Act.put, List.getElem_toArray, List.getElem_cons_zero, List.getElem_cons_succ, List.setIfInBounds_toArray, List.set_cons_zero, List.set_cons_succ]
                  refine wpAnyH_take (i := 26) (v := undef) rfl (by kernel_rfl) (by kernel_rfl) (by kernel_rfl) (fun _ _ _ h => h) (Or.inr ⟨by kernel_rfl, rfl⟩) HH.out ?_
                  simp only [Act.put, List.getElem_toArray, List.getElem_cons_zero, List.getElem_cons_succ, List.setIfInBounds_toArray, List.set_cons_zero, List.set_cons_succ]
                  refine wpAnyH_take (i := 27) (v := undef) rfl (by kernel_rfl) (by kernel_rfl) (by kernel_rfl) (fun _ _ _ h => h) (Or.inr ⟨by kernel_rfl, rfl⟩) HH.out ?_
                  simp only [Act.put, List.getElem_toArray, List.getElem_cons_zero, List.getElem_cons_succ, List.setIfInBounds_toArray, List.set_cons_zero, List.set_cons_succ]
                  refine wpAnyH_take (i := 28) (v := undef) rfl (by kernel_rfl) (by kernel_rfl) (by kernel_rfl) (fun _ _ _ h => h) (Or.inr ⟨by kernel_rfl, rfl⟩) HH.out ?_
                  simp only [Act.put, List.getElem_toArray, List.getElem_cons_zero, List.getElem_cons_succ, List.setIfInBounds_toArray, List.set_cons_zero, List.set_cons_succ]
                  refine wpAnyH_take (i := 29) (v := .bool false) rfl (by kernel_rfl) (by kernel_rfl) (by kernel_rfl) (fun _ _ _ h => h) (Or.inl ⟨by rfl, fun _ _ => by first | rfl | (go_simp; done) | (go_simp; rfl) | (go_simp; intro h; exfalso; omega)⟩) HH.out ?_
                  simp only [Act.put, List.getElem_toArray, List.getElem_cons_zero, List.getElem_cons_succ, List.setIfInBounds_toArray, List.set_cons_zero, List.set_cons_succ]
                  refine wpAnyH_done (by kernel_rfl) ?_ _
                  go_wp2_with fail
                  go_roundw
                  case rel => exact ⟨k + 1, by omega, by omega, rfl, rfl, by go_num, HE, hid (hgy.out.trans HH.out)⟩
                  case measure => simp [intOf]; omega
                | true =>
                  cases htk : ((fl : Int) + 1 + x3 == L) with
                  | false =>
                    have htk2 : ¬ (fl : Int) + 1 + x3 = L := beq_eq_false_iff_ne.1 htk
                    have HE := hid (hff.out.trans (HFNK.out (by rw [HTKK.out, Bool.true_and, decide_eq_false (by omega)])))
                    clear hff htk2
                    go_wp2_with fail
                    refine wp_region_held_drew (S := (fun V => Gr wr V)) (by kernel_rfl) (Gr.refl _).drew (fun hH => ?_)
                    have HH := hid hH
                    clear hH
                    refine wpAnyH_take (i := 0) (v := .slice (some ⟨bb0, o0, none⟩) n ca) rfl (by kernel_rfl) (by kernel_rfl) (by kernel_rfl) (fun _ _ _ h => h) (Or.inl ⟨by rfl, fun _ _ => by first | rfl | (go_simp; done) | (go_simp; rfl) | (go_simp; intro h; exfalso; omega)⟩) HH.out ?_
                    simp only [Act.put, List.getElem_toArray, List.getElem_cons_zero, List.setIfInBounds_toArray, List.set_cons_zero, List.set_cons_succ]
                    refine wpAnyH_take (i := 1) (v := .int .i64 i) rfl (by kernel_rfl) (by kernel_rfl) (by kernel_rfl) (fun _ _ _ h => h) (Or.inl ⟨by rfl, fun _ _ => by first | rfl | (go_simp; done) | (go_simp; rfl) | (go_simp; intro h; exfalso; omega)⟩) HH.out ?_
                    simp only [Act.put, List.getElem_toArray, List.getElem_cons_zero, List.getElem_cons_succ, List.setIfInBounds_toArray, List.set_cons_zero, List.set_cons_succ]
                    refine wpAnyH_take (i := 2) (v := .pointer (some ⟨bb0, o0 + i * 3, none⟩)) rfl (by kernel_rfl) (by kernel_rfl) (by kernel_rfl) (fun _ _ _ h => h) (Or.inl ⟨by rfl, fun _ _ => by first | rfl | (go_simp; done) | (go_simp; rfl) | (go_simp; intro h; exfalso; omega)⟩) HH.out ?_
                    simp only [Act.put, List.getElem_toArray, List.getElem_cons_zero, List.getElem_cons_succ, List.setIfInBounds_toArray, List.set_cons_zero, List.set_cons_succ]
                    refine wpAnyH_take (i := 3) (v := .agg #[.int .i64 xt, .int .i64 xs, .bool xd]) rfl (by kernel_rfl) (by kernel_rfl) (by kernel_rfl) (fun _ _ _ h => h) (yieldsIf_load_mid rfl 58 (.tmp 111) rfl bb0 (o0 + i * 3) rfl [.int .i64 xt, .int .i64 xs, .bool xd] _ (fun V hV => HRG0.out V (hgw.out.trans hV)) Tryd.underlying58 rfl sizeEn) HH.out ?_
                    simp only [Act.put, List.getElem_toArray, List.getElem_cons_zero, List.getElem_cons_succ, List.setIfInBounds_toArray, List.set_cons_zero, List.set_cons_succ]
                    refine wpAnyH_take (i := 4) (v := .slice (some ⟨bb1, o1, none⟩) m cb) rfl (by kernel_rfl) (by kernel_rfl) (by kernel_rfl) (fun _ _ _ h => h) (Or.inl ⟨by rfl, fun _ _ => by first | rfl | (go_simp; done) | (go_simp; rfl) | (go_simp; intro h; exfalso; omega)⟩) HH.out ?_
                    simp only [Act.put, List.getElem_toArray, List.getElem_cons_zero, List.getElem_cons_succ, List.setIfInBounds_toArray, List.set_cons_zero, List.set_cons_succ]
                    refine wpAnyH_take (i := 5) (v := .int .i64 k) rfl (by kernel_rfl) (by kernel_rfl) (by kernel_rfl) (fun _ _ _ h => h) (Or.inl ⟨by rfl, fun _ _ => by first | rfl | (go_simp; done) | (go_simp; rfl) | (go_simp; intro h; exfalso; omega)⟩) HH.out ?_
                    simp only [Act.put, List.getElem_toArray, List.getElem_cons_zero, List.getElem_cons_succ, List.setIfInBounds_toArray, List.set_cons_zero, List.set_cons_succ]
                    refine wpAnyH_take (i := 6) (v := .pointer (some ⟨bb1, o1 + k * 3, none⟩)) rfl (by kernel_rfl) (by kernel_rfl) (by kernel_rfl) (fun _ _ _ h => h) (Or.inl ⟨by rfl, fun _ _ => by first | rfl | (go_simp; done) | (go_simp; rfl) | (go_simp; intro h; exfalso; omega)⟩) HH.out ?_
                    simp only [Act.put, List.getElem_toArray, List.getElem_cons_zero, List.getElem_cons_succ, List.setIfInBounds_toArray, List.set_cons_zero, List.set_cons_succ]
                    refine wpAnyH_take (i := 7) (v := .agg #[.int .i64 yt, .int .i64 ys, .bool yd]) rfl (by kernel_rfl) (by kernel_rfl) (by kernel_rfl) (fun _ _ _ h => h) (yieldsIf_load_mid rfl 58 (.tmp 115) rfl bb1 (o1 + k * 3) rfl [.int .i64 yt, .int .i64 ys, .bool yd] _ (fun V hV => HRG1.out V (hgw.out.trans hV)) Tryd.underlying58 rfl sizeEn) HH.out ?_
                    simp only [Act.put, List.getElem_toArray, List.getElem_cons_zero, List.getElem_cons_succ, List.setIfInBounds_toArray, List.set_cons_zero, List.set_cons_succ]
                    refine wpAnyH_ready (rs := [8]) (by kernel_rfl) (by simp) (AllReadyH.cons rfl (fun KK hKK => ?_) AllReadyH.nil)
                    rw [if_pos (by rfl)]
                    go_simp
                    refine (HAG.out _).mono ?_
                    rintro e V ⟨rfl, gV⟩
                    dsimp only
                    refine hKK.out _ _ (HH.out.trans gV) (fun hH => ?_)
                    clear HH hKK KK
                    have HH := hid hH
                    clear hH
                    refine wpAnyH_take (i := 9) (v := .bool true) rfl (by kernel_rfl) (by kernel_rfl) (by kernel_rfl) (fun _ _ _ h => h) (Or.inl ⟨by rfl, fun _ _ => by first | rfl | (go_simp; done) | (go_simp; rfl) | (go_simp; intro h; exfalso; omega)⟩) HH.out ?_
                    simp only [Act.put, List.getElem_toArray, List.getElem_cons_zero, List.getElem_cons_succ, List.setIfInBounds_toArray, List.set_cons_zero, List.set_cons_succ]
                    refine wpAnyH_take (i := 10) (v := .slice sa fl scap) rfl (by kernel_rfl) (by kernel_rfl) (by kernel_rfl) (fun _ _ _ h => h) (Or.inl ⟨by rfl, fun _ _ => by first | rfl | (go_simp; done) | (go_simp; rfl) | (go_simp; intro h; exfalso; omega)⟩) HH.out ?_
                    simp only [Act.put, List.getElem_toArray, List.getElem_cons_zero, List.getElem_cons_succ, List.setIfInBounds_toArray, List.set_cons_zero, List.set_cons_succ]
                    refine wpAnyH_take (i := 11) (v := .int .i64 fl) rfl (by kernel_rfl) (by kernel_rfl) (by kernel_rfl) (fun _ _ _ h => h) (Or.inl ⟨by rfl, fun _ _ => by first | rfl | (go_simp; done) | (go_simp; rfl) | (go_simp; intro h; exfalso; omega)⟩) HH.out ?_
                    simp only [Act.put, List.getElem_toArray, List.getElem_cons_zero, List.getElem_cons_succ, List.setIfInBounds_toArray, List.set_cons_zero, List.set_cons_succ]
                    refine wpAnyH_take (i := 12) (v := .int .i64 ((fl : Int) + 1)) rfl (by kernel_rfl) (by kernel_rfl) (by kernel_rfl) (fun _ _ _ h => h) (Or.inl ⟨by rfl, fun _ _ => by first | rfl | (go_simp; done) | (go_simp; rfl) | (go_simp; intro h; exfalso; omega)⟩) HH.out ?_
                    simp only [Act.put, List.getElem_toArray, List.getElem_cons_zero, List.getElem_cons_succ, List.setIfInBounds_toArray, List.set_cons_zero, List.set_cons_succ]
                    refine wpAnyH_take (i := 13) (v := .slice (some ⟨tb, 0, none⟩) (n + 1) cap) rfl (by kernel_rfl) (by kernel_rfl) (by kernel_rfl) (fun _ _ _ h => h) (Or.inl ⟨by rfl, fun _ _ => by first | rfl | (go_simp; done) | (go_simp; rfl) | (go_simp; intro h; exfalso; omega)⟩) HH.out ?_
                    simp only [Act.put, List.getElem_toArray, List.getElem_cons_zero, List.getElem_cons_succ, List.setIfInBounds_toArray, List.set_cons_zero, List.set_cons_succ]
                    refine wpAnyH_take (i := 14) (v := .int .i64 i) rfl (by kernel_rfl) (by kernel_rfl) (by kernel_rfl) (fun _ _ _ h => h) (Or.inl ⟨by rfl, fun _ _ => by first | rfl | (go_simp; done) | (go_simp; rfl) | (go_simp; intro h; exfalso; omega)⟩) HH.out ?_
                    simp only [Act.put, List.getElem_toArray, List.getElem_cons_zero, List.getElem_cons_succ, List.setIfInBounds_toArray, List.set_cons_zero, List.set_cons_succ]
                    refine wpAnyH_take (i := 15) (v := .int .i64 ((i : Int) + 1)) rfl (by kernel_rfl) (by kernel_rfl) (by kernel_rfl) (fun _ _ _ h => h) (Or.inl ⟨by rfl, fun _ _ => by first | rfl | (go_simp; done) | (go_simp; rfl) | (go_simp; intro h; exfalso; omega)⟩) HH.out ?_
                    simp only [Act.put, List.getElem_toArray, List.getElem_cons_zero, List.getElem_cons_succ, List.setIfInBounds_toArray, List.set_cons_zero, List.set_cons_succ]
                    refine wpAnyH_take (i := 16) (v := .pointer (some ⟨tb, i + 1, none⟩)) rfl (by kernel_rfl) (by kernel_rfl) (by kernel_rfl) (fun _ _ _ h => h) (Or.inl ⟨by rfl, fun _ _ => by first | rfl | (go_simp; done) | (go_simp; rfl) | (go_simp; intro h; exfalso; omega)⟩) HH.out ?_
                    simp only [Act.put, List.getElem_toArray, List.getElem_cons_zero, List.getElem_cons_succ, List.setIfInBounds_toArray, List.set_cons_zero, List.set_cons_succ]
                    refine wpAnyH_take (i := 17) (v := .slice (some ⟨g1, 0, none⟩) (m + 1) (m + 1)) rfl (by kernel_rfl) (by kernel_rfl) (by kernel_rfl) (fun _ _ _ h => h) (Or.inl ⟨by rfl, fun V hV => by have hc := HF.out V (hV) |>.1; first | (go_simp; done) | (go_simp; rfl)⟩) HH.out ?_
                    simp only [Act.put, List.getElem_toArray, List.getElem_cons_zero, List.getElem_cons_succ, List.setIfInBounds_toArray, List.set_cons_zero, List.set_cons_succ]
                    refine wpAnyH_take (i := 18) (v := .int .i64 k) rfl (by kernel_rfl) (by kernel_rfl) (by kernel_rfl) (fun _ _ _ h => h) (Or.inl ⟨by rfl, fun _ _ => by first | rfl | (go_simp; done) | (go_simp; rfl) | (go_simp; intro h; exfalso; omega)⟩) HH.out ?_
                    simp only [Act.put, List.getElem_toArray, List.getElem_cons_zero, List.getElem_cons_succ, List.setIfInBounds_toArray, List.set_cons_zero, List.set_cons_succ]
                    refine wpAnyH_take (i := 19) (v := .int .i64 ((k : Int) + 1)) rfl (by kernel_rfl) (by kernel_rfl) (by kernel_rfl) (fun _ _ _ h => h) (Or.inl ⟨by rfl, fun _ _ => by first | rfl | (go_simp; done) | (go_simp; rfl) | (go_simp; intro h; exfalso; omega)⟩) HH.out ?_
                    simp only [Act.put, List.getElem_toArray, List.getElem_cons_zero, List.getElem_cons_succ, List.setIfInBounds_toArray, List.set_cons_zero, List.set_cons_succ]
                    refine wpAnyH_take (i := 20) (v := .pointer (some ⟨g1, k + 1, none⟩)) rfl (by kernel_rfl) (by kernel_rfl) (by kernel_rfl) (fun _ _ _ h => h) (Or.inl ⟨by rfl, fun _ _ => by first | rfl | (go_simp; done) | (go_simp; rfl) | (go_simp; intro h; exfalso; omega)⟩) HH.out ?_
                    simp only [Act.put, List.getElem_toArray, List.getElem_cons_zero, List.getElem_cons_succ, List.setIfInBounds_toArray, List.set_cons_zero, List.set_cons_succ]
                    refine wpAnyH_take (i := 21) (v := .int .i64 x3) rfl (by kernel_rfl) (by kernel_rfl) (by kernel_rfl) (fun _ _ _ h => h) (Or.inl ⟨by rfl, fun V hV => by have hc := HF.out V (hV) |>.2.1; first | (go_simp; done) | (go_simp; rfl)⟩) HH.out ?_
                    simp only [Act.put, List.getElem_toArray, List.getElem_cons_zero, List.getElem_cons_succ, List.setIfInBounds_toArray, List.set_cons_zero, List.set_cons_succ]
                    refine wpAnyH_take (i := 22) (v := .int .i64 ((fl : Int) + 1 + x3)) rfl (by kernel_rfl) (by kernel_rfl) (by kernel_rfl) (fun _ _ _ h => h) (Or.inl ⟨by rfl, fun _ _ => by first | rfl | (go_simp; done) | (go_simp; rfl) | (go_simp; intro h; exfalso; omega)⟩) HH.out ?_
                    simp only [Act.put, List.getElem_toArray, List.getElem_cons_zero, List.getElem_cons_succ, List.setIfInBounds_toArray, List.set_cons_zero, List.set_cons_succ]
                    refine wpAnyH_take (i := 23) (v := .slice (some ⟨tb, 0, none⟩) (n + 1) cap) rfl (by kernel_rfl) (by kernel_rfl) (by kernel_rfl) (fun _ _ _ h => h) (Or.inl ⟨by rfl, fun _ _ => by first | rfl | (go_simp; done) | (go_simp; rfl) | (go_simp; intro h; exfalso; omega)⟩) HH.out ?_
                    simp only [Act.put, List.getElem_toArray, List.getElem_cons_zero, List.getElem_cons_succ, List.setIfInBounds_toArray, List.set_cons_zero, List.set_cons_succ]
                    refine wpAnyH_take (i := 24) (v := .pointer (some ⟨tb, 0, none⟩)) rfl (by kernel_rfl) (by kernel_rfl) (by kernel_rfl) (fun _ _ _ h => h) (Or.inl ⟨by rfl, fun _ _ => by first | rfl | (go_simp; done) | (go_simp; rfl) | (go_simp; intro h; exfalso; omega)⟩) HH.out ?_
                    simp only [Act.put, List.getElem_toArray, List.getElem_cons_zero, List.getElem_cons_succ, List.setIfInBounds_toArray, List.set_cons_zero, List.set_cons_succ]
                    refine wpAnyH_take (i := 25) (v := .slice (some ⟨g00, 0, none⟩) (m + 1) (m + 1)) rfl (by kernel_rfl) (by kernel_rfl) (by kernel_rfl) (fun _ _ _ h => h) (Or.inl ⟨by rfl, fun V hV => by have hc := HF.out V (hV) |>.2.2.1; first | (go_simp; done) | (go_simp; rfl)⟩) HH.out ?_
                    simp only [Act.put, List.getElem_toArray, List.getElem_cons_zero, List.getElem_cons_succ, List.setIfInBounds_toArray, List.set_cons_zero, List.set_cons_succ]
                    refine wpAnyH_take (i := 26) (v := .pointer (some ⟨g00, 0, none⟩)) rfl (by kernel_rfl) (by kernel_rfl) (by kernel_rfl) (fun _ _ _ h => h) (Or.inl ⟨by rfl, fun _ _ => by first | rfl | (go_simp; done) | (go_simp; rfl) | (go_simp; intro h; exfalso; omega)⟩) HH.out ?_
                    simp only [Act.put, List.getElem_toArray, List.getElem_cons_zero, List.getElem_cons_succ, List.setIfInBounds_toArray, List.set_cons_zero, List.set_cons_succ]
                    refine wpAnyH_take (i := 27) (v := .int .i64 L) rfl (by kernel_rfl) (by kernel_rfl) (by kernel_rfl) (fun _ _ _ h => h) (Or.inl ⟨by rfl, fun V hV => by have hc := HF.out V (hV) |>.2.2.2; first | (go_simp; done) | (go_simp; rfl)⟩) HH.out ?_
                    simp only [Act.put, List.getElem_toArray, List.getElem_cons_zero, List.getElem_cons_succ, List.setIfInBounds_toArray, List.set_cons_zero, List.set_cons_succ]
                    refine wpAnyH_take (i := 28) (v := .bool false) rfl (by kernel_rfl) (by kernel_rfl) (by kernel_rfl) (fun _ _ _ h => h) (Or.inl ⟨by rfl, fun _ _ => by first | rfl | (go_simp; done) | (go_simp; rfl) | (go_simp; intro h; exfalso; omega)⟩) HH.out ?_
                    simp only [Act.put, List.getElem_toArray, List.getElem_cons_zero, List.getElem_cons_succ, List.setIfInBounds_toArray, List.set_cons_zero, List.set_cons_succ]
                    refine wpAnyH_take (i := 29) (v := .bool false) rfl (by kernel_rfl) (by kernel_rfl) (by kernel_rfl) (fun _ _ _ h => h) (Or.inl ⟨by rfl, fun _ _ => by first | rfl | (go_simp; done) | (go_simp; rfl) | (go_simp; intro h; exfalso; omega)⟩) HH.out ?_
                    simp only [Act.put, List.getElem_toArray, List.getElem_cons_zero, List.getElem_cons_succ, List.setIfInBounds_toArray, List.set_cons_zero, List.set_cons_succ]
                    refine wpAnyH_done (by kernel_rfl) ?_ _
                    go_wp2_with fail
                    go_roundw
                    case rel => exact ⟨k + 1, by omega, by omega, rfl, rfl, by go_num, HE, hid (hgy.out.trans HH.out)⟩
                    case measure => simp [intOf]; omega
                  | true =>
                    have htk2 : (fl : Int) + 1 + x3 = L := beq_iff_eq.1 htk
                    have HE := hid (hff.out.trans (HFYK.out (by rw [HTKK.out, Bool.true_and, decide_eq_true (by omega)])))
                    have HCE := hid (HYK.out k HE.out hkl)
                    clear hff htk2
                    go_wp2_with fail
                    refine wp_region_held_drew (S := (fun V => Gr wr V)) (by kernel_rfl) (Gr.refl _).drew (fun hH => ?_)
                    have HH := hid hH
                    clear hH
                    refine wpAnyH_take (i := 0) (v := .slice (some ⟨bb0, o0, none⟩) n ca) rfl (by kernel_rfl) (by kernel_rfl) (by kernel_rfl) (fun _ _ _ h => h) (Or.inl ⟨by rfl, fun _ _ => by first | rfl | (go_simp; done) | (go_simp; rfl) | (go_simp; intro h; exfalso; omega)⟩) HH.out ?_
                    simp only [Act.put, List.getElem_toArray, List.getElem_cons_zero, List.setIfInBounds_toArray, List.set_cons_zero, List.set_cons_succ]
                    refine wpAnyH_take (i := 1) (v := .int .i64 i) rfl (by kernel_rfl) (by kernel_rfl) (by kernel_rfl) (fun _ _ _ h => h) (Or.inl ⟨by rfl, fun _ _ => by first | rfl | (go_simp; done) | (go_simp; rfl) | (go_simp; intro h; exfalso; omega)⟩) HH.out ?_
                    simp only [Act.put, List.getElem_toArray, List.getElem_cons_zero, List.getElem_cons_succ, List.setIfInBounds_toArray, List.set_cons_zero, List.set_cons_succ]
                    refine wpAnyH_take (i := 2) (v := .pointer (some ⟨bb0, o0 + i * 3, none⟩)) rfl (by kernel_rfl) (by kernel_rfl) (by kernel_rfl) (fun _ _ _ h => h) (Or.inl ⟨by rfl, fun _ _ => by first | rfl | (go_simp; done) | (go_simp; rfl) | (go_simp; intro h; exfalso; omega)⟩) HH.out ?_
                    simp only [Act.put, List.getElem_toArray, List.getElem_cons_zero, List.getElem_cons_succ, List.setIfInBounds_toArray, List.set_cons_zero, List.set_cons_succ]
                    refine wpAnyH_take (i := 3) (v := .agg #[.int .i64 xt, .int .i64 xs, .bool xd]) rfl (by kernel_rfl) (by kernel_rfl) (by kernel_rfl) (fun _ _ _ h => h) (yieldsIf_load_mid rfl 58 (.tmp 111) rfl bb0 (o0 + i * 3) rfl [.int .i64 xt, .int .i64 xs, .bool xd] _ (fun V hV => HRG0.out V (hgw.out.trans hV)) Tryd.underlying58 rfl sizeEn) HH.out ?_
                    simp only [Act.put, List.getElem_toArray, List.getElem_cons_zero, List.getElem_cons_succ, List.setIfInBounds_toArray, List.set_cons_zero, List.set_cons_succ]
                    refine wpAnyH_take (i := 4) (v := .slice (some ⟨bb1, o1, none⟩) m cb) rfl (by kernel_rfl) (by kernel_rfl) (by kernel_rfl) (fun _ _ _ h => h) (Or.inl ⟨by rfl, fun _ _ => by first | rfl | (go_simp; done) | (go_simp; rfl) | (go_simp; intro h; exfalso; omega)⟩) HH.out ?_
                    simp only [Act.put, List.getElem_toArray, List.getElem_cons_zero, List.getElem_cons_succ, List.setIfInBounds_toArray, List.set_cons_zero, List.set_cons_succ]
                    refine wpAnyH_take (i := 5) (v := .int .i64 k) rfl (by kernel_rfl) (by kernel_rfl) (by kernel_rfl) (fun _ _ _ h => h) (Or.inl ⟨by rfl, fun _ _ => by first | rfl | (go_simp; done) | (go_simp; rfl) | (go_simp; intro h; exfalso; omega)⟩) HH.out ?_
                    simp only [Act.put, List.getElem_toArray, List.getElem_cons_zero, List.getElem_cons_succ, List.setIfInBounds_toArray, List.set_cons_zero, List.set_cons_succ]
                    refine wpAnyH_take (i := 6) (v := .pointer (some ⟨bb1, o1 + k * 3, none⟩)) rfl (by kernel_rfl) (by kernel_rfl) (by kernel_rfl) (fun _ _ _ h => h) (Or.inl ⟨by rfl, fun _ _ => by first | rfl | (go_simp; done) | (go_simp; rfl) | (go_simp; intro h; exfalso; omega)⟩) HH.out ?_
                    simp only [Act.put, List.getElem_toArray, List.getElem_cons_zero, List.getElem_cons_succ, List.setIfInBounds_toArray, List.set_cons_zero, List.set_cons_succ]
                    refine wpAnyH_take (i := 7) (v := .agg #[.int .i64 yt, .int .i64 ys, .bool yd]) rfl (by kernel_rfl) (by kernel_rfl) (by kernel_rfl) (fun _ _ _ h => h) (yieldsIf_load_mid rfl 58 (.tmp 115) rfl bb1 (o1 + k * 3) rfl [.int .i64 yt, .int .i64 ys, .bool yd] _ (fun V hV => HRG1.out V (hgw.out.trans hV)) Tryd.underlying58 rfl sizeEn) HH.out ?_
                    simp only [Act.put, List.getElem_toArray, List.getElem_cons_zero, List.getElem_cons_succ, List.setIfInBounds_toArray, List.set_cons_zero, List.set_cons_succ]
                    refine wpAnyH_ready (rs := [8]) (by kernel_rfl) (by simp) (AllReadyH.cons rfl (fun KK hKK => ?_) AllReadyH.nil)
                    rw [if_pos (by rfl)]
                    go_simp
                    refine (HAG.out _).mono ?_
                    rintro e V ⟨rfl, gV⟩
                    dsimp only
                    refine hKK.out _ _ (HH.out.trans gV) (fun hH => ?_)
                    clear HH hKK KK
                    have HH := hid hH
                    clear hH
                    refine wpAnyH_take (i := 9) (v := .bool true) rfl (by kernel_rfl) (by kernel_rfl) (by kernel_rfl) (fun _ _ _ h => h) (Or.inl ⟨by rfl, fun _ _ => by first | rfl | (go_simp; done) | (go_simp; rfl) | (go_simp; intro h; exfalso; omega)⟩) HH.out ?_
                    simp only [Act.put, List.getElem_toArray, List.getElem_cons_zero, List.getElem_cons_succ, List.setIfInBounds_toArray, List.set_cons_zero, List.set_cons_succ]
                    refine wpAnyH_take (i := 10) (v := .slice sa fl scap) rfl (by kernel_rfl) (by kernel_rfl) (by kernel_rfl) (fun _ _ _ h => h) (Or.inl ⟨by rfl, fun _ _ => by first | rfl | (go_simp; done) | (go_simp; rfl) | (go_simp; intro h; exfalso; omega)⟩) HH.out ?_
                    simp only [Act.put, List.getElem_toArray, List.getElem_cons_zero, List.getElem_cons_succ, List.setIfInBounds_toArray, List.set_cons_zero, List.set_cons_succ]
                    refine wpAnyH_take (i := 11) (v := .int .i64 fl) rfl (by kernel_rfl) (by kernel_rfl) (by kernel_rfl) (fun _ _ _ h => h) (Or.inl ⟨by rfl, fun _ _ => by first | rfl | (go_simp; done) | (go_simp; rfl) | (go_simp; intro h; exfalso; omega)⟩) HH.out ?_
                    simp only [Act.put, List.getElem_toArray, List.getElem_cons_zero, List.getElem_cons_succ, List.setIfInBounds_toArray, List.set_cons_zero, List.set_cons_succ]
                    refine wpAnyH_take (i := 12) (v := .int .i64 ((fl : Int) + 1)) rfl (by kernel_rfl) (by kernel_rfl) (by kernel_rfl) (fun _ _ _ h => h) (Or.inl ⟨by rfl, fun _ _ => by first | rfl | (go_simp; done) | (go_simp; rfl) | (go_simp; intro h; exfalso; omega)⟩) HH.out ?_
                    simp only [Act.put, List.getElem_toArray, List.getElem_cons_zero, List.getElem_cons_succ, List.setIfInBounds_toArray, List.set_cons_zero, List.set_cons_succ]
                    refine wpAnyH_take (i := 13) (v := .slice (some ⟨tb, 0, none⟩) (n + 1) cap) rfl (by kernel_rfl) (by kernel_rfl) (by kernel_rfl) (fun _ _ _ h => h) (Or.inl ⟨by rfl, fun _ _ => by first | rfl | (go_simp; done) | (go_simp; rfl) | (go_simp; intro h; exfalso; omega)⟩) HH.out ?_
                    simp only [Act.put, List.getElem_toArray, List.getElem_cons_zero, List.getElem_cons_succ, List.setIfInBounds_toArray, List.set_cons_zero, List.set_cons_succ]
                    refine wpAnyH_take (i := 14) (v := .int .i64 i) rfl (by kernel_rfl) (by kernel_rfl) (by kernel_rfl) (fun _ _ _ h => h) (Or.inl ⟨by rfl, fun _ _ => by first | rfl | (go_simp; done) | (go_simp; rfl) | (go_simp; intro h; exfalso; omega)⟩) HH.out ?_
                    simp only [Act.put, List.getElem_toArray, List.getElem_cons_zero, List.getElem_cons_succ, List.setIfInBounds_toArray, List.set_cons_zero, List.set_cons_succ]
                    refine wpAnyH_take (i := 15) (v := .int .i64 ((i : Int) + 1)) rfl (by kernel_rfl) (by kernel_rfl) (by kernel_rfl) (fun _ _ _ h => h) (Or.inl ⟨by rfl, fun _ _ => by first | rfl | (go_simp; done) | (go_simp; rfl) | (go_simp; intro h; exfalso; omega)⟩) HH.out ?_
                    simp only [Act.put, List.getElem_toArray, List.getElem_cons_zero, List.getElem_cons_succ, List.setIfInBounds_toArray, List.set_cons_zero, List.set_cons_succ]
                    refine wpAnyH_take (i := 16) (v := .pointer (some ⟨tb, i + 1, none⟩)) rfl (by kernel_rfl) (by kernel_rfl) (by kernel_rfl) (fun _ _ _ h => h) (Or.inl ⟨by rfl, fun _ _ => by first | rfl | (go_simp; done) | (go_simp; rfl) | (go_simp; intro h; exfalso; omega)⟩) HH.out ?_
                    simp only [Act.put, List.getElem_toArray, List.getElem_cons_zero, List.getElem_cons_succ, List.setIfInBounds_toArray, List.set_cons_zero, List.set_cons_succ]
                    refine wpAnyH_take (i := 17) (v := .slice (some ⟨g1, 0, none⟩) (m + 1) (m + 1)) rfl (by kernel_rfl) (by kernel_rfl) (by kernel_rfl) (fun _ _ _ h => h) (Or.inl ⟨by rfl, fun V hV => by have hc := HF.out V (hV) |>.1; first | (go_simp; done) | (go_simp; rfl)⟩) HH.out ?_
                    simp only [Act.put, List.getElem_toArray, List.getElem_cons_zero, List.getElem_cons_succ, List.setIfInBounds_toArray, List.set_cons_zero, List.set_cons_succ]
                    refine wpAnyH_take (i := 18) (v := .int .i64 k) rfl (by kernel_rfl) (by kernel_rfl) (by kernel_rfl) (fun _ _ _ h => h) (Or.inl ⟨by rfl, fun _ _ => by first | rfl | (go_simp; done) | (go_simp; rfl) | (go_simp; intro h; exfalso; omega)⟩) HH.out ?_
                    simp only [Act.put, List.getElem_toArray, List.getElem_cons_zero, List.getElem_cons_succ, List.setIfInBounds_toArray, List.set_cons_zero, List.set_cons_succ]
                    refine wpAnyH_take (i := 19) (v := .int .i64 ((k : Int) + 1)) rfl (by kernel_rfl) (by kernel_rfl) (by kernel_rfl) (fun _ _ _ h => h) (Or.inl ⟨by rfl, fun _ _ => by first | rfl | (go_simp; done) | (go_simp; rfl) | (go_simp; intro h; exfalso; omega)⟩) HH.out ?_
                    simp only [Act.put, List.getElem_toArray, List.getElem_cons_zero, List.getElem_cons_succ, List.setIfInBounds_toArray, List.set_cons_zero, List.set_cons_succ]
                    refine wpAnyH_take (i := 20) (v := .pointer (some ⟨g1, k + 1, none⟩)) rfl (by kernel_rfl) (by kernel_rfl) (by kernel_rfl) (fun _ _ _ h => h) (Or.inl ⟨by rfl, fun _ _ => by first | rfl | (go_simp; done) | (go_simp; rfl) | (go_simp; intro h; exfalso; omega)⟩) HH.out ?_
                    simp only [Act.put, List.getElem_toArray, List.getElem_cons_zero, List.getElem_cons_succ, List.setIfInBounds_toArray, List.set_cons_zero, List.set_cons_succ]
                    refine wpAnyH_take (i := 21) (v := .int .i64 x3) rfl (by kernel_rfl) (by kernel_rfl) (by kernel_rfl) (fun _ _ _ h => h) (Or.inl ⟨by rfl, fun V hV => by have hc := HF.out V (hV) |>.2.1; first | (go_simp; done) | (go_simp; rfl)⟩) HH.out ?_
                    simp only [Act.put, List.getElem_toArray, List.getElem_cons_zero, List.getElem_cons_succ, List.setIfInBounds_toArray, List.set_cons_zero, List.set_cons_succ]
                    refine wpAnyH_take (i := 22) (v := .int .i64 ((fl : Int) + 1 + x3)) rfl (by kernel_rfl) (by kernel_rfl) (by kernel_rfl) (fun _ _ _ h => h) (Or.inl ⟨by rfl, fun _ _ => by first | rfl | (go_simp; done) | (go_simp; rfl) | (go_simp; intro h; exfalso; omega)⟩) HH.out ?_
                    simp only [Act.put, List.getElem_toArray, List.getElem_cons_zero, List.getElem_cons_succ, List.setIfInBounds_toArray, List.set_cons_zero, List.set_cons_succ]
                    refine wpAnyH_take (i := 23) (v := .slice (some ⟨tb, 0, none⟩) (n + 1) cap) rfl (by kernel_rfl) (by kernel_rfl) (by kernel_rfl) (fun _ _ _ h => h) (Or.inl ⟨by rfl, fun _ _ => by first | rfl | (go_simp; done) | (go_simp; rfl) | (go_simp; intro h; exfalso; omega)⟩) HH.out ?_
                    simp only [Act.put, List.getElem_toArray, List.getElem_cons_zero, List.getElem_cons_succ, List.setIfInBounds_toArray, List.set_cons_zero, List.set_cons_succ]
                    refine wpAnyH_take (i := 24) (v := .pointer (some ⟨tb, 0, none⟩)) rfl (by kernel_rfl) (by kernel_rfl) (by kernel_rfl) (fun _ _ _ h => h) (Or.inl ⟨by rfl, fun _ _ => by first | rfl | (go_simp; done) | (go_simp; rfl) | (go_simp; intro h; exfalso; omega)⟩) HH.out ?_
                    simp only [Act.put, List.getElem_toArray, List.getElem_cons_zero, List.getElem_cons_succ, List.setIfInBounds_toArray, List.set_cons_zero, List.set_cons_succ]
                    refine wpAnyH_take (i := 25) (v := .slice (some ⟨g00, 0, none⟩) (m + 1) (m + 1)) rfl (by kernel_rfl) (by kernel_rfl) (by kernel_rfl) (fun _ _ _ h => h) (Or.inl ⟨by rfl, fun V hV => by have hc := HF.out V (hV) |>.2.2.1; first | (go_simp; done) | (go_simp; rfl)⟩) HH.out ?_
                    simp only [Act.put, List.getElem_toArray, List.getElem_cons_zero, List.getElem_cons_succ, List.setIfInBounds_toArray, List.set_cons_zero, List.set_cons_succ]
                    refine wpAnyH_take (i := 26) (v := .pointer (some ⟨g00, 0, none⟩)) rfl (by kernel_rfl) (by kernel_rfl) (by kernel_rfl) (fun _ _ _ h => h) (Or.inl ⟨by rfl, fun _ _ => by first | rfl | (go_simp; done) | (go_simp; rfl) | (go_simp; intro h; exfalso; omega)⟩) HH.out ?_
                    simp only [Act.put, List.getElem_toArray, List.getElem_cons_zero, List.getElem_cons_succ, List.setIfInBounds_toArray, List.set_cons_zero, List.set_cons_succ]
                    refine wpAnyH_take (i := 27) (v := .int .i64 L) rfl (by kernel_rfl) (by kernel_rfl) (by kernel_rfl) (fun _ _ _ h => h) (Or.inl ⟨by rfl, fun V hV => by have hc := HF.out V (hV) |>.2.2.2; first | (go_simp; done) | (go_simp; rfl)⟩) HH.out ?_
                    simp only [Act.put, List.getElem_toArray, List.getElem_cons_zero, List.getElem_cons_succ, List.setIfInBounds_toArray, List.set_cons_zero, List.set_cons_succ]
                    refine wpAnyH_take (i := 28) (v := .bool true) rfl (by kernel_rfl) (by kernel_rfl) (by kernel_rfl) (fun _ _ _ h => h) (Or.inl ⟨by rfl, fun _ _ => by first | rfl | (go_simp; done) | (go_simp; rfl) | (go_simp; intro h; exfalso; omega)⟩) HH.out ?_
                    simp only [Act.put, List.getElem_toArray, List.getElem_cons_zero, List.getElem_cons_succ, List.setIfInBounds_toArray, List.set_cons_zero, List.set_cons_succ]
                    refine wpAnyH_take (i := 29) (v := .bool true) rfl (by kernel_rfl) (by kernel_rfl) (by kernel_rfl) (fun _ _ _ h => h) (Or.inl ⟨by rfl, fun _ _ => by first | rfl | (go_simp; done) | (go_simp; rfl) | (go_simp; intro h; exfalso; omega)⟩) HH.out ?_
                    simp only [Act.put, List.getElem_toArray, List.getElem_cons_zero, List.getElem_cons_succ, List.setIfInBounds_toArray, List.set_cons_zero, List.set_cons_succ]
                    refine wpAnyH_done (by kernel_rfl) ?_ _
                    have GH := hid (hgy.out.trans HH.out)
                    have O2 := hid ((HOF.out.gr GH.out).widen (lo' := wB.heap.size) (Nat.le_refl _) GH.out.size).row
                    have SZ := hid (Nat.le_trans hgx.out.size GH.out.size)
                    go_wp2_with (at_builtin; refine wpList_append_own _ rfl _ _ 24 rfl wB.heap.size 60 i0 (.agg #[.int .i64 0, .int .i64 0]) 2 16 Tryd.underlying24 hi0 hz0 hz1 hz2 rfl (by decide) _ _ _ rfl (O2.out.alloc _) ⟨V.heap.size, 0, none⟩ 1 1 [.int .i64 (i : Int), .int .i64 (k : Int)] rfl rfl (news_sp (heap_new rfl)) (fl_oneCell _ _) (by unfold maxLen; omega) (by omega) (by have := SZ.out; simp <;> omega) ?_; intro v5 w5 hown5 hgrow5 _)
                    have G6 := hid (((hgx.out.trans GH.out).alloc (.cells #[.int .i64 (i : Int), .int .i64 (k : Int)] 60)).by_ hgrow5 (fun b e => (O2.out.lt b e).1))
                    have O5 := hid (show OwnV 60 2 w5 wB.heap.size w5.heap.size v5 (fl + 1) (flCells (F ++ [((i : Int), (k : Int))])) from by rw [flCells_append]; exact OwnV.ofRow hown5)
                    clear hown5 hgrow5
                    go_wp2_with fail
                    go_roundw
                    case rel => exact ⟨i + 1, by omega, by go_num, by rw [HCE.out]; rfl, hid (by rw [HCE.out]; show OwnV 60 2 w5 wB.heap.size w5.heap.size v5 (F ++ [((i : Int), (k : Int))]).length _; rw [List.length_append, List.length_singleton, HFL.out]; exact O5.out), G6⟩
                    case measure => simp [intOf]; omega
              · have hkm2 : k = m := by omega
                have HCE := hid (HNN.out (by rw [hff.out, hkm2]; exact HFG.out))
                have O5 := hid ((HOF.out.gr hgy.out).widen (Nat.le_refl _) hgy.out.size)
                have G5 := hid (hgx.out.trans hgy.out)
                clear hkm2
                go_wp2_with fail
                go_roundw
                case rel => exact ⟨i + 1, by omega, by go_num, by rw [HCE.out, HPJ.out], hid (by rw [HCE.out, HPF.out, HFL.out]; exact O5.out), G5⟩
                case measure => simp [intOf]; omega
          · have hin : i = n := by omega
            have HIN := hid hin
            have OF := hid (show OwnV 60 2 wr wB.heap.size wr.heap.size (.slice sa (comTo es fs i).1.length scap) (comTo es fs es.length).1.length (flCells (comTo es fs es.length).1) by rw [← HN.out, ← HIN.out]; exact ho.out)
            clear ho hin
            generalize (comTo es fs i).1.length = fl at *
            generalize (comTo es fs i).2 = j at *
            go_wp2_with fail
            go_ret2
            exact ⟨_, rfl, OF.out.widen hgB.out.size (Nat.le_refl _), hgB.out.trans hgx.out⟩
      · obtain ⟨i, rfl⟩ : ∃ i, q = i + 1 := ⟨q - 1, by omega⟩
        have hei : ((i + 1 : Nat) : Int) - 1 = i := by omega
        rw [hei]
        clear hei hq0
        have J := hid (I.out.same (U := curT es fs i m) (fun r c _ hc => by have h := HM.out; rw [h]; exact (curT_row es fs i r c (by omega)).symm))
        have hi0' : (0 : Int) ≤ i := by omega
        have hi1' : (i : Int) < n := by omega
        clear I
        go_wp2_with fail
        go_loopw [8] (fun jv wq => ∃ c : Nat, c ≤ m ∧ jv = .int .i64 ((c : Int) - 1) ∧ Hid (Tab wq w.heap.size tb (n + 1) (m + 1) (curT es fs i c) 0 0 0 rb) ∧ Hid (Gr w wq)) (fun jv _ => (intOf jv + 1).toNat)
        case atStart => exact ⟨m, Nat.le_refl _, by go_num, J, hgr⟩
        case round =>
          clear J hgr
          obtain ⟨c, hc, rfl, Q, hgq⟩ := hrel
          by_cases hc0 : c = 0
          · subst hc0
            go_wp2_with fail
            go_roundw
            case rel => exact ⟨i, by omega, by go_num, Q, hgq⟩
            case measure => simp [intOf]
          · obtain ⟨k, rfl⟩ : ∃ k, c = k + 1 := ⟨c - 1, by omega⟩
            have hek : ((k + 1 : Nat) : Int) - 1 = k := by omega
            rw [hek]
            clear hek hc0
            have hk0' : (0 : Int) ≤ k := by omega
            have hk1' : (k : Int) < m := by omega
            have hi3 : (i : Int) + 1 < (n + 1 : Nat) := by omega
            have hk3 : (k : Int) + 1 < (m + 1 : Nat) := by omega
            have e1 : IntKind.i64.wrap ((i : Int) + 1) = (i : Int) + 1 := IntWalk.i64_in _ (by omega)
            have e2 : IntKind.i64.wrap ((k : Int) + 1) = (k : Int) + 1 := IntWalk.i64_in _ (by omega)
            have TB0 := hid (show TabB wr w.heap.size tb n m es fs i k rb from ⟨curT es fs i (k + 1) i k, Q.out.same (fun r c _ _ => by
              by_cases e : r = i ∧ c = k
              · rw [if_pos e, e.1, e.2]
              · rw [if_neg e])⟩)
            have HF := hid (fun V (h : TabB V w.heap.size tb n m es fs i k rb) => h.facts (show i < n by omega) (show k < m by omega))
            have HUP1 := hid (fun V (h : TabB V w.heap.size tb n m es fs i k rb) => h.upd (show i < n + 1 by omega) (max (lcT es fs (i + 1) k) (lcT es fs i (k + 1))))
            have HUP2 := hid (fun V (h : TabB V w.heap.size tb n m es fs i k rb) => h.upd (show i < n + 1 by omega) (max (lcT es fs (i + 1) k) (max (lcT es fs i (k + 1)) (1 + lcT es fs (i + 1) (k + 1)))))
            have HLOW := hid (Q.out.low (r := i) (Nat.zero_le _) (by omega))
            have HLT := hid (lcT.eq_1 es fs i k)
            have HPUT := hid (curT_put es fs i k)
            have bd1 := HBD.out (i + 1) k
            have bd2 := HBD.out i (k + 1)
            have bd3 := HBD.out (i + 1) (k + 1)
            have hin := HN.out
            have hkm := HM.out
            have HLT2 := hid (show lcT es fs i k = if agE (enAt es i) (enAt fs k) = true then max (max (lcT es fs (i + 1) k) (lcT es fs i (k + 1))) (1 + lcT es fs (i + 1) (k + 1)) else max (lcT es fs (i + 1) k) (lcT es fs i (k + 1)) by rw [HLT.out, if_pos ⟨by omega, by omega⟩])
            obtain ⟨bb0, o0, rfl, p0, p1, p2⟩ := en_at H2.out.fst (i := i) (by omega)
            obtain ⟨bb1, o1, rfl, q0, q1, q2⟩ := en_at H2.out.snd (i := k) (by omega)
            have HRG0 := hid (fun V (g : Gr w V) => range3 (w := V) ⟨g.cell p0, g.cell p1, g.cell p2⟩)
            have HRG1 := hid (fun V (g : Gr w V) => range3 (w := V) ⟨g.cell q0, g.cell q1, g.cell q2⟩)
            have HAG := hid (fun V => l07Agree_any (enAt es i) (enAt fs k) V)
            clear p0 p1 p2 q0 q1 q2 hin hkm HLT
            generalize lcT es fs i k = r at *
            generalize lcT es fs (i + 1) k = x1 at *
            generalize lcT es fs i (k + 1) = x2 at *
            generalize lcT es fs (i + 1) (k + 1) = x3 at *
            generalize agE (enAt es i) (enAt fs k) = ag at *
            generalize enAt es i = x at *
            generalize enAt fs k = y at *
            unfold enV at HAG
            obtain ⟨xt, xs, xd⟩ := x
            obtain ⟨yt, ys, yd⟩ := y
            simp only at HRG0 HRG1 HAG
            have e3 : IntKind.i64.wrap (1 + x3) = 1 + x3 := IntWalk.i64_in _ (by omega)
            have HM1 := hid (fun V => l00Max_any x1 x2 V)
            have HM2 := hid (fun V => l00Max_any (max x1 x2) (1 + x3) V)
            generalize hg1 : rb (i + 1) = g1 at *
            generalize hg0 : rb i = g0 at *
            have HG0 := hid hg0
            clear hg0 hg1 Q
            go_wp2_with fail
            refine wp_region_held_drew (S := (fun V => TabB V w.heap.size tb n m es fs i k rb ∧ Gr w V)) (by kernel_rfl) ⟨TB0.out.gr ((Gr.refl _).drew), hgq.out.drew⟩ (fun hH => ?_)
            have HH := hid hH
            clear hH
            refine wpAnyH_take (i := 0) (v := .slice (some ⟨tb, 0, none⟩) (n + 1) cap) rfl (by kernel_rfl) (by kernel_rfl) (by kernel_rfl) (fun _ _ _ h => h) (Or.inl ⟨by rfl, fun _ _ => by first | rfl | (go_simp; done) | (go_simp; rfl) | (go_simp; intro h; exfalso; omega)⟩) HH.out ?_
            simp only [Act.put, List.getElem_toArray, List.getElem_cons_zero, List.setIfInBounds_toArray, List.set_cons_zero, List.set_cons_succ]
            refine wpAnyH_take (i := 1) (v := .int .i64 i) rfl (by kernel_rfl) (by kernel_rfl) (by kernel_rfl) (fun _ _ _ h => h) (Or.inl ⟨by rfl, fun _ _ => by first | rfl | (go_simp; done) | (go_simp; rfl) | (go_simp; intro h; exfalso; omega)⟩) HH.out ?_
            simp only [Act.put, List.getElem_toArray, List.getElem_cons_zero, List.getElem_cons_succ, List.setIfInBounds_toArray, List.set_cons_zero, List.set_cons_succ]
            refine wpAnyH_take (i := 2) (v := .pointer (some ⟨tb, i, none⟩)) rfl (by kernel_rfl) (by kernel_rfl) (by kernel_rfl) (fun _ _ _ h => h) (Or.inl ⟨by rfl, fun _ _ => by first | rfl | (go_simp; done) | (go_simp; rfl) | (go_simp; intro h; exfalso; omega)⟩) HH.out ?_
            simp only [Act.put, List.getElem_toArray, List.getElem_cons_zero, List.getElem_cons_succ, List.setIfInBounds_toArray, List.set_cons_zero, List.set_cons_succ]
            refine wpAnyH_take (i := 3) (v := .slice (some ⟨g0, 0, none⟩) (m + 1) (m + 1)) rfl (by kernel_rfl) (by kernel_rfl) (by kernel_rfl) (fun _ _ _ h => h) (Or.inl ⟨by rfl, fun V hV => by have hc := (HF.out V hV.1).1; first | (go_simp; done) | (go_simp; rfl)⟩) HH.out ?_
            simp only [Act.put, List.getElem_toArray, List.getElem_cons_zero, List.getElem_cons_succ, List.setIfInBounds_toArray, List.set_cons_zero, List.set_cons_succ]
            refine wpAnyH_take (i := 4) (v := .int .i64 k) rfl (by kernel_rfl) (by kernel_rfl) (by kernel_rfl) (fun _ _ _ h => h) (Or.inl ⟨by rfl, fun _ _ => by first | rfl | (go_simp; done) | (go_simp; rfl) | (go_simp; intro h; exfalso; omega)⟩) HH.out ?_
            simp only [Act.put, List.getElem_toArray, List.getElem_cons_zero, List.getElem_cons_succ, List.setIfInBounds_toArray, List.set_cons_zero, List.set_cons_succ]
            refine wpAnyH_take (i := 5) (v := .slice (some ⟨tb, 0, none⟩) (n + 1) cap) rfl (by kernel_rfl) (by kernel_rfl) (by kernel_rfl) (fun _ _ _ h => h) (Or.inl ⟨by rfl, fun _ _ => by first | rfl | (go_simp; done) | (go_simp; rfl) | (go_simp; intro h; exfalso; omega)⟩) HH.out ?_
            simp only [Act.put, List.getElem_toArray, List.getElem_cons_zero, List.getElem_cons_succ, List.setIfInBounds_toArray, List.set_cons_zero, List.set_cons_succ]
            refine wpAnyH_take (i := 6) (v := .int .i64 i) rfl (by kernel_rfl) (by kernel_rfl) (by kernel_rfl) (fun _ _ _ h => h) (Or.inl ⟨by rfl, fun _ _ => by first | rfl | (go_simp; done) | (go_simp; rfl) | (go_simp; intro h; exfalso; omega)⟩) HH.out ?_
            simp only [Act.put, List.getElem_toArray, List.getElem_cons_zero, List.getElem_cons_succ, List.setIfInBounds_toArray, List.set_cons_zero, List.set_cons_succ]
            refine wpAnyH_take (i := 7) (v := .int .i64 ((i : Int) + 1)) rfl (by kernel_rfl) (by kernel_rfl) (by kernel_rfl) (fun _ _ _ h => h) (Or.inl ⟨by rfl, fun _ _ => by first | rfl | (go_simp; done) | (go_simp; rfl) | (go_simp; intro h; exfalso; omega)⟩) HH.out ?_
            simp only [Act.put, List.getElem_toArray, List.getElem_cons_zero, List.getElem_cons_succ, List.setIfInBounds_toArray, List.set_cons_zero, List.set_cons_succ]
            refine wpAnyH_take (i := 8) (v := .pointer (some ⟨tb, i + 1, none⟩)) rfl (by kernel_rfl) (by kernel_rfl) (by kernel_rfl) (fun _ _ _ h => h) (Or.inl ⟨by rfl, fun _ _ => by first | rfl | (go_simp; done) | (go_simp; rfl) | (go_simp; intro h; exfalso; omega)⟩) HH.out ?_
            simp only [Act.put, List.getElem_toArray, List.getElem_cons_zero, List.getElem_cons_succ, List.setIfInBounds_toArray, List.set_cons_zero, List.set_cons_succ]
            refine wpAnyH_take (i := 9) (v := .slice (some ⟨g1, 0, none⟩) (m + 1) (m + 1)) rfl (by kernel_rfl) (by kernel_rfl) (by kernel_rfl) (fun _ _ _ h => h) (Or.inl ⟨by rfl, fun V hV => by have hc := (HF.out V hV.1).2.1; first | (go_simp; done) | (go_simp; rfl)⟩) HH.out ?_
            simp only [Act.put, List.getElem_toArray, List.getElem_cons_zero, List.getElem_cons_succ, List.setIfInBounds_toArray, List.set_cons_zero, List.set_cons_succ]
            refine wpAnyH_take (i := 10) (v := .int .i64 k) rfl (by kernel_rfl) (by kernel_rfl) (by kernel_rfl) (fun _ _ _ h => h) (Or.inl ⟨by rfl, fun _ _ => by first | rfl | (go_simp; done) | (go_simp; rfl) | (go_simp; intro h; exfalso; omega)⟩) HH.out ?_
            simp only [Act.put, List.getElem_toArray, List.getElem_cons_zero, List.getElem_cons_succ, List.setIfInBounds_toArray, List.set_cons_zero, List.set_cons_succ]
            refine wpAnyH_take (i := 11) (v := .pointer (some ⟨g1, k, none⟩)) rfl (by kernel_rfl) (by kernel_rfl) (by kernel_rfl) (fun _ _ _ h => h) (Or.inl ⟨by rfl, fun _ _ => by first | rfl | (go_simp; done) | (go_simp; rfl) | (go_simp; intro h; exfalso; omega)⟩) HH.out ?_
            simp only [Act.put, List.getElem_toArray, List.getElem_cons_zero, List.getElem_cons_succ, List.setIfInBounds_toArray, List.set_cons_zero, List.set_cons_succ]
            refine wpAnyH_take (i := 12) (v := .int .i64 x1) rfl (by kernel_rfl) (by kernel_rfl) (by kernel_rfl) (fun _ _ _ h => h) (Or.inl ⟨by rfl, fun V hV => by have hc := (HF.out V hV.1).2.2.1; first | (go_simp; done) | (go_simp; rfl)⟩) HH.out ?_
            simp only [Act.put, List.getElem_toArray, List.getElem_cons_zero, List.getElem_cons_succ, List.setIfInBounds_toArray, List.set_cons_zero, List.set_cons_succ]
            refine wpAnyH_take (i := 13) (v := .slice (some ⟨tb, 0, none⟩) (n + 1) cap) rfl (by kernel_rfl) (by kernel_rfl) (by kernel_rfl) (fun _ _ _ h => h) (Or.inl ⟨by rfl, fun _ _ => by first | rfl | (go_simp; done) | (go_simp; rfl) | (go_simp; intro h; exfalso; omega)⟩) HH.out ?_
            simp only [Act.put, List.getElem_toArray, List.getElem_cons_zero, List.getElem_cons_succ, List.setIfInBounds_toArray, List.set_cons_zero, List.set_cons_succ]
            refine wpAnyH_take (i := 14) (v := .int .i64 i) rfl (by kernel_rfl) (by kernel_rfl) (by kernel_rfl) (fun _ _ _ h => h) (Or.inl ⟨by rfl, fun _ _ => by first | rfl | (go_simp; done) | (go_simp; rfl) | (go_simp; intro h; exfalso; omega)⟩) HH.out ?_
            simp only [Act.put, List.getElem_toArray, List.getElem_cons_zero, List.getElem_cons_succ, List.setIfInBounds_toArray, List.set_cons_zero, List.set_cons_succ]
            refine wpAnyH_take (i := 15) (v := .pointer (some ⟨tb, i, none⟩)) rfl (by kernel_rfl) (by kernel_rfl) (by kernel_rfl) (fun _ _ _ h => h) (Or.inl ⟨by rfl, fun _ _ => by first | rfl | (go_simp; done) | (go_simp; rfl) | (go_simp; intro h; exfalso; omega)⟩) HH.out ?_
            simp only [Act.put, List.getElem_toArray, List.getElem_cons_zero, List.getElem_cons_succ, List.setIfInBounds_toArray, List.set_cons_zero, List.set_cons_succ]
            refine wpAnyH_take (i := 16) (v := .slice (some ⟨g0, 0, none⟩) (m + 1) (m + 1)) rfl (by kernel_rfl) (by kernel_rfl) (by kernel_rfl) (fun _ _ _ h => h) (Or.inl ⟨by rfl, fun V hV => by have hc := (HF.out V hV.1).1; first | (go_simp; done) | (go_simp; rfl)⟩) HH.out ?_
            simp only [Act.put, List.getElem_toArray, List.getElem_cons_zero, List.getElem_cons_succ, List.setIfInBounds_toArray, List.set_cons_zero, List.set_cons_succ]
            refine wpAnyH_take (i := 17) (v := .int .i64 k) rfl (by kernel_rfl) (by kernel_rfl) (by kernel_rfl) (fun _ _ _ h => h) (Or.inl ⟨by rfl, fun _ _ => by first | rfl | (go_simp; done) | (go_simp; rfl) | (go_simp; intro h; exfalso; omega)⟩) HH.out ?_
            simp only [Act.put, List.getElem_toArray, List.getElem_cons_zero, List.getElem_cons_succ, List.setIfInBounds_toArray, List.set_cons_zero, List.set_cons_succ]
            refine wpAnyH_take (i := 18) (v := .int .i64 ((k : Int) + 1)) rfl (by kernel_rfl) (by kernel_rfl) (by kernel_rfl) (fun _ _ _ h => h) (Or.inl ⟨by rfl, fun _ _ => by first | rfl | (go_simp; done) | (go_simp; rfl) | (go_simp; intro h; exfalso; omega)⟩) HH.out ?_
            simp only [Act.put, List.getElem_toArray, List.getElem_cons_zero, List.getElem_cons_succ, List.setIfInBounds_toArray, List.set_cons_zero, List.set_cons_succ]
            refine wpAnyH_take (i := 19) (v := .pointer (some ⟨g0, k + 1, none⟩)) rfl (by kernel_rfl) (by kernel_rfl) (by kernel_rfl) (fun _ _ _ h => h) (Or.inl ⟨by rfl, fun _ _ => by first | rfl | (go_simp; done) | (go_simp; rfl) | (go_simp; intro h; exfalso; omega)⟩) HH.out ?_
            simp only [Act.put, List.getElem_toArray, List.getElem_cons_zero, List.getElem_cons_succ, List.setIfInBounds_toArray, List.set_cons_zero, List.set_cons_succ]
            refine wpAnyH_take (i := 20) (v := .int .i64 x2) rfl (by kernel_rfl) (by kernel_rfl) (by kernel_rfl) (fun _ _ _ h => h) (Or.inl ⟨by rfl, fun V hV => by have hc := (HF.out V hV.1).2.2.2.1; first | (go_simp; done) | (go_simp; rfl)⟩) HH.out ?_
            simp only [Act.put, List.getElem_toArray, List.getElem_cons_zero, List.getElem_cons_succ, List.setIfInBounds_toArray, List.set_cons_zero, List.set_cons_succ]
            refine wpAnyH_ready (rs := [21]) (by kernel_rfl) (by simp) (AllReadyH.cons rfl (fun KK hKK => ?_) AllReadyH.nil)
            rw [if_pos (by rfl)]
            go_simp
            refine (HM1.out _).mono ?_
            rintro e V ⟨rfl, rfl⟩
            dsimp only
            refine hKK.out _ _ HH.out (fun hH => ?_)
            clear HH hKK KK
            have HH := hid hH
            clear hH
            refine wpAnyH_take (i := 22) (v := .pointer (some ⟨g0, k, none⟩)) rfl (by kernel_rfl) (by kernel_rfl) (by kernel_rfl) (fun _ _ _ h => h) (Or.inl ⟨by rfl, fun _ _ => by first | rfl | (go_simp; done) | (go_simp; rfl) | (go_simp; intro h; exfalso; omega)⟩) HH.out ?_
            simp only [Act.put, List.getElem_toArray, List.getElem_cons_zero, List.getElem_cons_succ, List.setIfInBounds_toArray, List.set_cons_zero, List.set_cons_succ]
            refine wpAnyH_ready (rs := [23]) (by kernel_rfl) (by simp) (AllReadyH.cons rfl (fun KK hKK => ?_) AllReadyH.nil)
            rw [if_pos (by rfl)]
            obtain ⟨-, -, -, -, -, ⟨y9, c9⟩, f9⟩ := HF.out _ HH.out.1
            have HB := hid (HUP1.out _ HH.out.1)
            have HGB := hid (HH.out.2.setCell (p := ⟨g0, k, none⟩) HLOW.out (.int .i64 (max x1 x2)))
            go_simp
            refine hKK.out _ _ ⟨⟨_, HB.out⟩, HGB.out⟩ (fun hH => ?_)
            clear hKK KK HH hH c9 f9
            refine wpAnyH_done (by kernel_rfl) ?_ _
            replace HB := hid (show Tab ((wr.setCell ⟨g0, k, none⟩ (.int .i64 (max x1 x2))).drew) w.heap.size tb (n + 1) (m + 1) (fun r c => if r = i ∧ c = k then max x1 x2 else curT es fs i (k + 1) r c) 0 0 0 rb from HB.out)
            replace HGB := hid (show Gr w ((wr.setCell ⟨g0, k, none⟩ (.int .i64 (max x1 x2))).drew) from HGB.out)
            generalize (wr.setCell ⟨g0, k, none⟩ (.int .i64 (max x1 x2))).drew = W5 at *
            have TB2 := hid (show TabB W5 w.heap.size tb n m es fs i k rb from ⟨_, HB.out⟩)
            have c5 : W5.cell? ⟨g0, k, none⟩ = some (.int .i64 (max x1 x2)) := by
              have := HB.out.cell (r := i) (c := k) (Nat.zero_le _) (by omega) (by omega) (by omega)
              rw [if_pos ⟨rfl, rfl⟩, HG0.out] at this
              exact this
            have C5 := hid c5
            clear c5
            go_wp2_with fail
            refine wp_region_still_tail 8 (by kernel_rfl) (by kernel_rfl) ?_
            simp only [List.take_succ_cons, List.take_zero, List.drop_succ_cons, List.drop_zero]
            have RG0 := hid (HRG0.out _ (HGB.out.drew))
            have RG1 := hid (HRG1.out _ (HGB.out.drew))
            repeat still_step
            refine wpStill_load_mid rfl 58 (.tmp 64) rfl bb0 (o0 + i * 3) rfl _ _ RG0.out Tryd.underlying58 rfl sizeEn ?_
            simp only [Act.put, List.setIfInBounds_toArray, List.set_cons_zero, List.set_cons_succ]
            repeat still_step
            refine wpStill_load_mid rfl 58 (.tmp 68) rfl bb1 (o1 + k * 3) rfl _ _ RG1.out Tryd.underlying58 rfl sizeEn ?_
            simp only [Act.put, List.setIfInBounds_toArray, List.set_cons_zero, List.set_cons_succ]
            refine wpStill_nil ?_
            go_wp2_with fail
            refine (HAG.out _).mono ?_
            rintro e w6 ⟨rfl, g6⟩
            have G6 := hid (show Gr W5 w6 from ((Gr.refl W5).drew).trans g6)
            have TB6 := hid (TB2.out.gr G6.out)
            have G7 := hid (HGB.out.trans G6.out)
            have C6 := hid (G6.out.cell C5.out)
            have HB6 := hid (HB.out.gr G6.out)
            clear g6 RG0 RG1 C5 TB2 HB HGB
            cases ag with
            | false =>
              have HR := hid (show r = max x1 x2 by rw [HLT2.out, if_neg (by simp)])
              go_wp2_with fail
              go_roundw
              case rel => exact ⟨k, by omega, by go_num, hid (HB6.out.same (fun r' c' _ _ => by rw [← HPUT.out r' c', HR.out])), G7⟩
              case measure => simp [intOf]
            | true =>
              have HR := hid (show r = max x1 (max x2 (1 + x3)) by rw [HLT2.out, if_pos rfl]; omega)
              clear HB6
              go_wp2_with fail
              have c8 := (show w6.drew.cell? ⟨g0, k, none⟩ = some (.int .i64 (max x1 x2)) from C6.out)
              refine wp_region_held_drew (S := (fun V => TabB V w.heap.size tb n m es fs i k rb ∧ Gr w V)) (by kernel_rfl) ⟨TB6.out.gr ((Gr.refl _).drew), G7.out.drew⟩ (fun hH => ?_)
              have HH := hid hH
              clear hH
              refine wpAnyH_take (i := 0) (v := .slice (some ⟨tb, 0, none⟩) (n + 1) cap) rfl (by kernel_rfl) (by kernel_rfl) (by kernel_rfl) (fun _ _ _ h => h) (Or.inl ⟨by rfl, fun _ _ => by first | rfl | (go_simp; done) | (go_simp; rfl) | (go_simp; intro h; exfalso; omega)⟩) HH.out ?_
              simp only [Act.put, List.getElem_toArray, List.getElem_cons_zero, List.setIfInBounds_toArray, List.set_cons_zero, List.set_cons_succ]
              refine wpAnyH_take (i := 1) (v := .int .i64 i) rfl (by kernel_rfl) (by kernel_rfl) (by kernel_rfl) (fun _ _ _ h => h) (Or.inl ⟨by rfl, fun _ _ => by first | rfl | (go_simp; done) | (go_simp; rfl) | (go_simp; intro h; exfalso; omega)⟩) HH.out ?_
              simp only [Act.put, List.getElem_toArray, List.getElem_cons_zero, List.getElem_cons_succ, List.setIfInBounds_toArray, List.set_cons_zero, List.set_cons_succ]
              refine wpAnyH_take (i := 2) (v := .pointer (some ⟨tb, i, none⟩)) rfl (by kernel_rfl) (by kernel_rfl) (by kernel_rfl) (fun _ _ _ h => h) (Or.inl ⟨by rfl, fun _ _ => by first | rfl | (go_simp; done) | (go_simp; rfl) | (go_simp; intro h; exfalso; omega)⟩) HH.out ?_
              simp only [Act.put, List.getElem_toArray, List.getElem_cons_zero, List.getElem_cons_succ, List.setIfInBounds_toArray, List.set_cons_zero, List.set_cons_succ]
              refine wpAnyH_take (i := 3) (v := .slice (some ⟨g0, 0, none⟩) (m + 1) (m + 1)) rfl (by kernel_rfl) (by kernel_rfl) (by kernel_rfl) (fun _ _ _ h => h) (Or.inl ⟨by rfl, fun V hV => by have hc := (HF.out V hV.1).1; first | (go_simp; done) | (go_simp; rfl)⟩) HH.out ?_
              simp only [Act.put, List.getElem_toArray, List.getElem_cons_zero, List.getElem_cons_succ, List.setIfInBounds_toArray, List.set_cons_zero, List.set_cons_succ]
              refine wpAnyH_take (i := 4) (v := .int .i64 k) rfl (by kernel_rfl) (by kernel_rfl) (by kernel_rfl) (fun _ _ _ h => h) (Or.inl ⟨by rfl, fun _ _ => by first | rfl | (go_simp; done) | (go_simp; rfl) | (go_simp; intro h; exfalso; omega)⟩) HH.out ?_
              simp only [Act.put, List.getElem_toArray, List.getElem_cons_zero, List.getElem_cons_succ, List.setIfInBounds_toArray, List.set_cons_zero, List.set_cons_succ]
              refine wpAnyH_take (i := 5) (v := .slice (some ⟨tb, 0, none⟩) (n + 1) cap) rfl (by kernel_rfl) (by kernel_rfl) (by kernel_rfl) (fun _ _ _ h => h) (Or.inl ⟨by rfl, fun _ _ => by first | rfl | (go_simp; done) | (go_simp; rfl) | (go_simp; intro h; exfalso; omega)⟩) HH.out ?_
              simp only [Act.put, List.getElem_toArray, List.getElem_cons_zero, List.getElem_cons_succ, List.setIfInBounds_toArray, List.set_cons_zero, List.set_cons_succ]
              refine wpAnyH_take (i := 6) (v := .int .i64 i) rfl (by kernel_rfl) (by kernel_rfl) (by kernel_rfl) (fun _ _ _ h => h) (Or.inl ⟨by rfl, fun _ _ => by first | rfl | (go_simp; done) | (go_simp; rfl) | (go_simp; intro h; exfalso; omega)⟩) HH.out ?_
              simp only [Act.put, List.getElem_toArray, List.getElem_cons_zero, List.getElem_cons_succ, List.setIfInBounds_toArray, List.set_cons_zero, List.set_cons_succ]
              refine wpAnyH_take (i := 7) (v := .pointer (some ⟨tb, i, none⟩)) rfl (by kernel_rfl) (by kernel_rfl) (by kernel_rfl) (fun _ _ _ h => h) (Or.inl ⟨by rfl, fun _ _ => by first | rfl | (go_simp; done) | (go_simp; rfl) | (go_simp; intro h; exfalso; omega)⟩) HH.out ?_
              simp only [Act.put, List.getElem_toArray, List.getElem_cons_zero, List.getElem_cons_succ, List.setIfInBounds_toArray, List.set_cons_zero, List.set_cons_succ]
              refine wpAnyH_take (i := 8) (v := .slice (some ⟨g0, 0, none⟩) (m + 1) (m + 1)) rfl (by kernel_rfl) (by kernel_rfl) (by kernel_rfl) (fun _ _ _ h => h) (Or.inl ⟨by rfl, fun V hV => by have hc := (HF.out V hV.1).1; first | (go_simp; done) | (go_simp; rfl)⟩) HH.out ?_
              simp only [Act.put, List.getElem_toArray, List.getElem_cons_zero, List.getElem_cons_succ, List.setIfInBounds_toArray, List.set_cons_zero, List.set_cons_succ]
              refine wpAnyH_take (i := 9) (v := .int .i64 k) rfl (by kernel_rfl) (by kernel_rfl) (by kernel_rfl) (fun _ _ _ h => h) (Or.inl ⟨by rfl, fun _ _ => by first | rfl | (go_simp; done) | (go_simp; rfl) | (go_simp; intro h; exfalso; omega)⟩) HH.out ?_
              simp only [Act.put, List.getElem_toArray, List.getElem_cons_zero, List.getElem_cons_succ, List.setIfInBounds_toArray, List.set_cons_zero, List.set_cons_succ]
              refine wpAnyH_take (i := 10) (v := .pointer (some ⟨g0, k, none⟩)) rfl (by kernel_rfl) (by kernel_rfl) (by kernel_rfl) (fun _ _ _ h => h) (Or.inl ⟨by rfl, fun _ _ => by first | rfl | (go_simp; done) | (go_simp; rfl) | (go_simp; intro h; exfalso; omega)⟩) HH.out ?_
              simp only [Act.put, List.getElem_toArray, List.getElem_cons_zero, List.getElem_cons_succ, List.setIfInBounds_toArray, List.set_cons_zero, List.set_cons_succ]
              refine wpAnyH_take (i := 12) (v := .slice (some ⟨tb, 0, none⟩) (n + 1) cap) rfl (by kernel_rfl) (by kernel_rfl) (by kernel_rfl) (fun _ _ _ h => h) (Or.inl ⟨by rfl, fun _ _ => by first | rfl | (go_simp; done) | (go_simp; rfl) | (go_simp; intro h; exfalso; omega)⟩) HH.out ?_
              simp only [Act.put, List.getElem_toArray, List.getElem_cons_zero, List.getElem_cons_succ, List.setIfInBounds_toArray, List.set_cons_zero, List.set_cons_succ]
              refine wpAnyH_take (i := 13) (v := .int .i64 i) rfl (by kernel_rfl) (by kernel_rfl) (by kernel_rfl) (fun _ _ _ h => h) (Or.inl ⟨by rfl, fun _ _ => by first | rfl | (go_simp; done) | (go_simp; rfl) | (go_simp; intro h; exfalso; omega)⟩) HH.out ?_
              simp only [Act.put, List.getElem_toArray, List.getElem_cons_zero, List.getElem_cons_succ, List.setIfInBounds_toArray, List.set_cons_zero, List.set_cons_succ]
              refine wpAnyH_take (i := 14) (v := .int .i64 ((i : Int) + 1)) rfl (by kernel_rfl) (by kernel_rfl) (by kernel_rfl) (fun _ _ _ h => h) (Or.inl ⟨by rfl, fun _ _ => by first | rfl | (go_simp; done) | (go_simp; rfl) | (go_simp; intro h; exfalso; omega)⟩) HH.out ?_
              simp only [Act.put, List.getElem_toArray, List.getElem_cons_zero, List.getElem_cons_succ, List.setIfInBounds_toArray, List.set_cons_zero, List.set_cons_succ]
              refine wpAnyH_take (i := 15) (v := .pointer (some ⟨tb, i + 1, none⟩)) rfl (by kernel_rfl) (by kernel_rfl) (by kernel_rfl) (fun _ _ _ h => h) (Or.inl ⟨by rfl, fun _ _ => by first | rfl | (go_simp; done) | (go_simp; rfl) | (go_simp; intro h; exfalso; omega)⟩) HH.out ?_
              simp only [Act.put, List.getElem_toArray, List.getElem_cons_zero, List.getElem_cons_succ, List.setIfInBounds_toArray, List.set_cons_zero, List.set_cons_succ]
              refine wpAnyH_take (i := 16) (v := .slice (some ⟨g1, 0, none⟩) (m + 1) (m + 1)) rfl (by kernel_rfl) (by kernel_rfl) (by kernel_rfl) (fun _ _ _ h => h) (Or.inl ⟨by rfl, fun V hV => by have hc := (HF.out V hV.1).2.1; first | (go_simp; done) | (go_simp; rfl)⟩) HH.out ?_
              simp only [Act.put, List.getElem_toArray, List.getElem_cons_zero, List.getElem_cons_succ, List.setIfInBounds_toArray, List.set_cons_zero, List.set_cons_succ]
              refine wpAnyH_take (i := 17) (v := .int .i64 k) rfl (by kernel_rfl) (by kernel_rfl) (by kernel_rfl) (fun _ _ _ h => h) (Or.inl ⟨by rfl, fun _ _ => by first | rfl | (go_simp; done) | (go_simp; rfl) | (go_simp; intro h; exfalso; omega)⟩) HH.out ?_
              simp only [Act.put, List.getElem_toArray, List.getElem_cons_zero, List.getElem_cons_succ, List.setIfInBounds_toArray, List.set_cons_zero, List.set_cons_succ]
              refine wpAnyH_take (i := 18) (v := .int .i64 ((k : Int) + 1)) rfl (by kernel_rfl) (by kernel_rfl) (by kernel_rfl) (fun _ _ _ h => h) (Or.inl ⟨by rfl, fun _ _ => by first | rfl | (go_simp; done) | (go_simp; rfl) | (go_simp; intro h; exfalso; omega)⟩) HH.out ?_
              simp only [Act.put, List.getElem_toArray, List.getElem_cons_zero, List.getElem_cons_succ, List.setIfInBounds_toArray, List.set_cons_zero, List.set_cons_succ]
              refine wpAnyH_take (i := 19) (v := .pointer (some ⟨g1, k + 1, none⟩)) rfl (by kernel_rfl) (by kernel_rfl) (by kernel_rfl) (fun _ _ _ h => h) (Or.inl ⟨by rfl, fun _ _ => by first | rfl | (go_simp; done) | (go_simp; rfl) | (go_simp; intro h; exfalso; omega)⟩) HH.out ?_
              simp only [Act.put, List.getElem_toArray, List.getElem_cons_zero, List.getElem_cons_succ, List.setIfInBounds_toArray, List.set_cons_zero, List.set_cons_succ]
              refine wpAnyH_take (i := 20) (v := .int .i64 x3) rfl (by kernel_rfl) (by kernel_rfl) (by kernel_rfl) (fun _ _ _ h => h) (Or.inl ⟨by rfl, fun V hV => by have hc := (HF.out V hV.1).2.2.2.2.1; first | (go_simp; done) | (go_simp; rfl)⟩) HH.out ?_
              simp only [Act.put, List.getElem_toArray, List.getElem_cons_zero, List.getElem_cons_succ, List.setIfInBounds_toArray, List.set_cons_zero, List.set_cons_succ]
              refine wpAnyH_take (i := 21) (v := .int .i64 (1 + x3)) rfl (by kernel_rfl) (by kernel_rfl) (by kernel_rfl) (fun _ _ _ h => h) (Or.inl ⟨by rfl, fun _ _ => by first | rfl | (go_simp; done) | (go_simp; rfl) | (go_simp; intro h; exfalso; omega)⟩) HH.out ?_
              simp only [Act.put, List.getElem_toArray, List.getElem_cons_zero, List.getElem_cons_succ, List.setIfInBounds_toArray, List.set_cons_zero, List.set_cons_succ]
              refine wpAnyH_ready (rs := [11]) (by kernel_rfl) (by simp) (AllReadyH.cons rfl (fun KK hKK => ?_) AllReadyH.nil)
              rw [if_pos (by rfl)]
              go_simp
              refine hKK.out _ _ HH.out (fun hH => ?_)
              clear hKK KK hH c8
              refine wpAnyH_ready (rs := [22]) (by kernel_rfl) (by simp) (AllReadyH.cons rfl (fun KK hKK => ?_) AllReadyH.nil)
              rw [if_pos (by rfl)]
              go_simp
              refine (HM2.out _).mono ?_
              rintro e V ⟨rfl, rfl⟩
              dsimp only
              refine hKK.out _ _ HH.out (fun hH => ?_)
              clear HH hKK KK
              have HH := hid hH
              clear hH
              refine wpAnyH_take (i := 23) (v := .pointer (some ⟨g0, k, none⟩)) rfl (by kernel_rfl) (by kernel_rfl) (by kernel_rfl) (fun _ _ _ h => h) (Or.inl ⟨by rfl, fun _ _ => by first | rfl | (go_simp; done) | (go_simp; rfl) | (go_simp; intro h; exfalso; omega)⟩) HH.out ?_
              simp only [Act.put, List.getElem_toArray, List.getElem_cons_zero, List.getElem_cons_succ, List.setIfInBounds_toArray, List.set_cons_zero, List.set_cons_succ]
              refine wpAnyH_ready (rs := [24]) (by kernel_rfl) (by simp) (AllReadyH.cons rfl (fun KK hKK => ?_) AllReadyH.nil)
              rw [if_pos (by rfl)]
              obtain ⟨-, -, -, -, -, ⟨y9, c9⟩, f9⟩ := HF.out _ HH.out.1
              have HB := hid (HUP2.out _ HH.out.1)
              have HGB := hid (HH.out.2.setCell (p := ⟨g0, k, none⟩) HLOW.out (.int .i64 (max x1 (max x2 (1 + x3)))))
              go_simp
              refine hKK.out _ _ ⟨⟨_, HB.out⟩, HGB.out⟩ (fun hH => ?_)
              clear hKK KK HH hH c9 f9
              refine wpAnyH_done (by kernel_rfl) ?_ _
              go_wp2_with fail
              go_roundw
              case rel => exact ⟨k, by omega, by go_num, hid (HB.out.same (fun r' c' _ _ => by rw [← HPUT.out r' c', HR.out])), HGB⟩
              case measure => simp [intOf]
end Go.Proofs.YtnkoakneffjkbaaDoor
