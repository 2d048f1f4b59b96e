/- Logs: slices.Clone; mustBe of one log. -/
import Derived.Test.YtlgfibiggiknjaaDoorMust
import Derived.Test.YtlgfibiggiknjaaDoorEntMk
import Derived.Test.YtlgfibiggiknjaaDoorLogOk
namespace Go.Proofs.YtlgfibiggiknjaaDoor
set_option linter.unusedVariables false
open Go.RowKit
theorem infoEn : (Tryd.prog.info? 70).map (fun i => (i.zero, i.size, i.bytes)) = some (some (.agg #[.int .i64 0, .int .i64 0, .bool false]), 3, 24) := by kernel_rfl
theorem enCells_one (es : List En) : ∀ u ∈ enCells es, u.oneCell' = true := by
  induction es with
  | nil => intro u hu; cases hu
  | cons e es ih =>
    intro u hu
    simp only [enCells, En.cells, List.mem_append, List.mem_cons, List.not_mem_nil, or_false] at hu
    rcases hu with (rfl | rfl | rfl) | h
    · rfl
    · rfl
    · rfl
    · exact ih u h
theorem news_en {w : World} {b off : Nat} {cs : List Value} (h : CellsOf w (some ⟨b, off, none⟩) cs) : ∀ j u, cs[j]? = some u → w.cell? ((⟨b, off, none⟩ : Addr).add j) = some u := by
  intro j u hu
  obtain ⟨b', off', e, hc⟩ := h.at_ hu
  cases e
  rw [Addr.add_mid]; exact hc
set_option maxRecDepth 100000 in
set_option maxHeartbeats 1000000 in
theorem cloneE_any (a : Option Addr) (n cap : Nat) (es : List En) (hl : n = es.length) (hn : n ≤ 1048576) (w : World) (ha : CellsOf w a (enCells es)) :
    Calls Tryd.prog 65 #[.slice a n cap] w (RetV 70 3 id n (enCells es) w) := by
  obtain ⟨i0, hi, hz0, hz1, hz2⟩ := info_parts infoEn
  cases a with
  | none =>
    have hn0 : n = 0 := by
      cases hq : es with
      | nil => rw [hl, hq]; rfl
      | cons e r =>
        obtain ⟨b, off, e2, _⟩ := ha 0 (by rw [enCells_length, hq]; simp)
        cases e2
    have HE := hid (show es = [] from List.eq_nil_of_length_eq_zero (by omega))
    subst hn0
    have hno : ∀ W : World, (binOp BinOp.eql 27 (.slice none 0 cap) (.slice none 0 0)).run Tryd.prog W = .ok (.bool true) W := fun _ => by kernel_rfl
    clear hl ha
    go_enter Tryd.func65, Tryd.ntmps65
    go_wp2_with fail
    go_ret
    exact ⟨_, rfl, by rw [HE.out]; exact OwnV.nil _ _ _, Gr.refl _⟩
  | some ad =>
    obtain ⟨ab, ao, asp⟩ := ad
    have hno : ∀ W : World, (binOp BinOp.eql 27 (.slice (some ⟨ab, ao, asp⟩) n cap) (.slice none 0 0)).run Tryd.prog W = .ok (.bool false) W := fun _ => by kernel_rfl
    have HN := hid (fun V (g : Gr w V) => show ∀ j u, (enCells es)[j]? = some u → V.cell? ((⟨ab, ao, asp⟩ : Addr).add j) = some u from fun j u hu => by
      obtain ⟨b', off', e, hc⟩ := (ha.gr g).at_ hu
      cases e
      rw [Addr.add_mid]; exact hc)
    have HC := hid (show (enCells es).length = n * 3 by rw [enCells_length, hl])
    have H1 := hid (enCells_one es)
    have HL := hid hl
    clear hl ha
    go_enter Tryd.func65, Tryd.ntmps65
    have OB := hid ((OwnV.ofBlock (e := 70) (sz := 3) (n := 0) (us := #[]) (heap_new (w := w) (o := .cells #[] 70) rfl) rfl (by unfold maxLen; omega)).widen (lo' := w.heap.size) (hi' := w.heap.size + 1) (Nat.le_refl _) (Nat.le_refl _))
    go_wp2_with (at_builtin; refine wpList_append_own _ rfl _ _ 27 rfl w.heap.size 70 i0 (.agg #[.int .i64 0, .int .i64 0, .bool false]) 3 24 Tryd.underlying27 hi hz0 hz1 hz2 rfl (by decide) _ _ _ rfl OB.out.row ⟨ab, ao, asp⟩ n cap (enCells es) rfl HC.out (HN.out _ ((Gr.refl w).alloc _)) H1.out (by unfold maxLen; omega) (by omega) (by simp) ?_; intro v2 w5 hown5 hgrow5 _)
    have OE : OwnV 70 3 w5 w.heap.size w5.heap.size v2 n (enCells es) := by have h := OwnV.ofRow hown5; simpa using h
    go_ret
    exact ⟨_, rfl, OE, ((Gr.refl w).alloc _).by_ hgrow5 (fun b e => (OB.out.row.lt b e).1)⟩
theorem allV_one (a : Option Addr) (c : Nat) (es : List En) : allV [⟨a, c, es⟩] = validE es := by simp [allV, allTo, lgV, lgAt]
theorem badL_one (a : Option Addr) (c : Nat) (es : List En) : badL [⟨a, c, es⟩] = badX es := by simp [badL, firstNo, allTo, lgAt]
theorem mustOne (a : Option Addr) (n c : Nat) (es : List En) (hl : n = es.length) (hn : n ≤ 1048576) (hf : EnFits es) (b : Nat) (w : World) (hb : w.cell? ⟨b, 0, none⟩ = some (.slice a n c)) (ha : CellsOf w a (enCells es)) :
    Calls Tryd.prog 63 #[.slice (some ⟨b, 0, none⟩) 1 1] w fun e w' =>
      (validE es = true ∧ e = .returned (.tuple #[]) ∧ Gr w w') ∨
      (validE es = false ∧ e = .panicked [{ v := .iface 177 (.int .i64 (badX es)), recovered := false }] ∧ Gr w w') := by
  have h := mustBe_any (some ⟨b, 0, none⟩) 1 1 [⟨a, c, es⟩] rfl (by omega) w (fun i hi => by
    obtain rfl : i = 0 := by simp at hi; omega
    exact ⟨b, 0, rfl, by rw [hb, hl]; rfl, ⟨ha, hf, by show es.length ≤ _; omega⟩⟩)
  rw [allV_one, badL_one] at h
  exact h
end Go.Proofs.YtlgfibiggiknjaaDoor
