/- SpellWord: the model's functions. -/
import Derived.Test.YtoehcinpbnlbnaaSpell
namespace Go.Proofs.Ytoehcinpbnlbnaa
open Go.RowKit
theorem cell_n1 (w : World) (v : Value) (t : TypeId) : ∀ j u, [v][j]? = some u → (w.alloc (.cells #[v] t)).cell? ((⟨w.heap.size, 0, none⟩ : Addr).add j) = some u := by
  intro j u hj
  match j, hj with
  | 0, hj => simp at hj; subst hj; simp [Addr.add]
theorem wordB_bet {cs : List Int} (h : allTo (letAt cs) cs.length = true) : wordB cs = betB (cs.length : Int) 1 8 := by
  unfold wordB betB lenB
  rw [h, Bool.and_true, Bool.eq_iff_iff]
  simp only [Bool.and_eq_true, decide_eq_true_eq]
  omega
set_option maxRecDepth 100000 in
set_option maxHeartbeats 1000000 in
theorem l03Word_any (s : ByteArray) (hs : s.size ≤ 1048576) (w : World) :
    Calls Try.prog 56 #[.string s] w fun e w' => e = .returned (.bool (wordB (chars s))) ∧ w = w' := by
  have HL := hid (chars_length s)
  have HG := hid (fun (k : Nat) (h : k < s.size) => chars_get s h)
  go_enter Try.func56, Try.ntmps56
  go_wp2
  go_loop [3] (fun i => ∃ k : Nat, k ≤ s.size ∧ i = .int .i64 k ∧ Hid (allTo (letAt (chars s)) k = true)) (fun i => s.size - (intOf i).toNat)
  case atStart => exact ⟨0, Nat.zero_le _, rfl, hid rfl⟩
  case round =>
    obtain ⟨k, hk, rfl, hok⟩ := hrel
    by_cases hlt : k < s.size
    · have HC := hid (HG.out k hlt)
      by_cases h1 : (s[k].toNat : Int) < 97
      · have HZ := hid (show wordB (chars s) = false by unfold wordB; rw [allTo_no (show k < (chars s).length by rw [HL.out]; exact hlt) (letAt_no (by rw [HC.out]; omega)), Bool.and_false])
        go_wp2
        go_ret
        exact ⟨ret_bool HZ.out.symm, rfl⟩
      · by_cases h2 : 122 < (s[k].toNat : Int)
        · have HZ := hid (show wordB (chars s) = false by unfold wordB; rw [allTo_no (show k < (chars s).length by rw [HL.out]; exact hlt) (letAt_no (by rw [HC.out]; omega)), Bool.and_false])
          go_wp2
          go_ret
          exact ⟨ret_bool HZ.out.symm, rfl⟩
        · have HY := hid (allTo_step hok.out (letAt_iff.2 (by rw [HC.out]; omega)))
          go_wp2
          go_round
          case rel => exact ⟨k + 1, by omega, by go_num, HY⟩
          case measure => simp [intOf] <;> omega
    · have hkn : k = s.size := by omega
      have HV := hid (show wordB (chars s) = betB (s.size : Int) 1 8 by rw [hkn, ← HL.out] at hok; rw [wordB_bet hok.out, HL.out])
      clear hkn
      go_wp2_with (go_at_call 55; refine (l00In_b _ _ _ _).mono ?_; rintro e w' ⟨rfl, rfl⟩)
      go_ret
      exact ⟨ret_bool HV.out.symm, rfl⟩
set_option maxRecDepth 100000 in
set_option maxHeartbeats 2000000 in
theorem l03Spell_any (s : ByteArray) (g : Int) (hw : wordB (chars s) = true) (hg : 1 ≤ g ∧ g ≤ 8) (w : World) :
    Calls Try.prog 57 #[.string s, .int .i64 g] w (RetOwn .i8 33 (fun v => v) (spellTo (chars s) g (chars s).length) w) := by
  have HL := hid (chars_length s)
  have HG := hid (fun (k : Nat) (h : k < s.size) => chars_get s h)
  have HW := hid (fun (k : Nat) (h : k < s.size) => wordB_at hw (i := k) (by rw [HL.out]; exact h))
  obtain ⟨hn1, hn8⟩ := wordB_len hw
  rw [HL.out] at hn1 hn8
  obtain ⟨hg1, hg8⟩ := hg
  have hg0 : (g == 0) = false := by simp; omega
  have HR : Hid (spellTo (chars s) g (chars s).length = spellTo (chars s) g s.size) := hid (by rw [HL.out])
  rw [HR.out]
  clear hw HR
  obtain ⟨i0, hi, hz0, hz1, hz2⟩ := info_parts infoI8
  go_enter Try.func57, Try.ntmps57
  go_wp2
  go_loopw [5, 6] (fun v i wr => ∃ k : Nat, k ≤ s.size ∧ i = .int .i64 k ∧ Hid (Own .i8 33 wr w.heap.size wr.heap.size v (spellTo (chars s) g k)) ∧ Hid (Gr w wr)) (fun _ i _ => s.size - (intOf i).toNat)
  case atStart => exact ⟨0, Nat.zero_le _, rfl, hid ((Own.new (k := .i8) (e := 33) w [] (by simp)).widen (Nat.le_refl _) (by simp)), hid ((Gr.refl _).alloc _)⟩
  case round =>
    obtain ⟨k, hk, rfl, ow, GR⟩ := hrel
    obtain ⟨ao, co, rfl⟩ := ow.out.shape
    have hsl := (spellTo_length (chars s) g k).2
    obtain ⟨n, hn⟩ : ∃ n, n = (spellTo (chars s) g k).length := ⟨_, rfl⟩
    have ROW := hid ow.out.row
    rw [← hn] at ROW hsl ow ⊢
    have HN := hid hn.symm
    clear hn
    by_cases hlt : k < s.size
    · have HC := hid (HG.out k hlt)
      obtain ⟨h1, h2⟩ := HW.out k hlt
      rw [HC.out] at h1 h2
      have hk0 : (0 : Int) ≤ k := by omega
      have e1 : (k : Int).tmod g = (k : Int) % g := Int.tmod_eq_emod_of_nonneg hk0
      have hr0 : 0 ≤ (k : Int) % g := Int.emod_nonneg _ (by omega)
      have hr1 : (k : Int) % g < g := Int.emod_lt_of_pos _ (by omega)
      have e3 : IntKind.i64.wrap ((k : Int) % g) = (k : Int) % g := IntWalk.i64_in _ (by omega)
      have e4 : IntKind.u8.wrap ((s[k].toNat : Int) - 97) = (s[k].toNat : Int) - 97 := IntWalk.u8_in _ (by omega)
      have e5 : IntKind.i8.wrap ((s[k].toNat : Int) - 97) = (s[k].toNat : Int) - 97 := IntWalk.i8_in _ (by omega)
      clear hr0 hr1
      by_cases hp : 0 < k
      · have t1 : decide ((0 : Int) < (k : Int)) = true := by rw [decide_eq_true_iff]; omega
        by_cases hcut : (k : Int) % g = 0
        · have HM := hid (spellTo_cut (cs := chars s) (g := g) ⟨hp, hcut⟩)
          rw [HC.out] at HM
          go_wp2_with (at_builtin; refine wpList_append_own _ rfl _ _ 26 rfl w.heap.size 33 i0 (.int .i8 0) 1 1 Try.underlying26 hi hz0 hz1 hz2 rfl (by decide) _ _ _ rfl (ROW.out.alloc _) ⟨wr.heap.size, 0, none⟩ 1 1 [.int .i8 (-10)] rfl rfl (cell_n1 _ _ _) (by simp [Value.oneCell']) (by unfold maxLen; omega) (by omega) (by have := GR.out.size; simp; omega) ?_)
          intro v1 w1 hown1 hgrow1 _
          have OW := hid (Own.appended (zs := spellTo (chars s) g k ++ [-10]) hown1 rfl HN.out)
          have GW := hid ((GR.out.alloc _).by_ hgrow1 (fun b e => by have := (ROW.out.lt b e).1; omega))
          clear hown1 hgrow1
          have HN1 := hid (show (spellTo (chars s) g k ++ [-10]).length = n + 1 by rw [List.length_append, HN.out]; rfl)
          obtain ⟨a1, c1, hv1⟩ := OW.out.shape
          rw [HN1.out] at hv1
          subst hv1
          have ROW1 := hid OW.out.row
          rw [HN1.out] at ROW1
          go_wp2_with (at_builtin; refine wpList_append_own _ rfl _ _ 26 rfl w.heap.size 33 i0 (.int .i8 0) 1 1 Try.underlying26 hi hz0 hz1 hz2 rfl (by decide) _ _ _ rfl (ROW1.out.alloc _) ⟨w1.heap.size, 0, none⟩ 1 1 [.int .i8 ((s[k].toNat : Int) - 97)] rfl rfl (cell_n1 _ _ _) (by simp [Value.oneCell']) (by unfold maxLen; omega) (by omega) (by have := GW.out.size; simp; omega) ?_)
          intro v2 w2 hown2 hgrow2 _
          have OX := hid (show Own .i8 33 w2 w.heap.size w2.heap.size v2 (spellTo (chars s) g (k + 1)) by rw [HM.out]; exact Own.ofRow hown2 (by simp) (by rw [List.length_append, HN1.out]; rfl))
          have GX := hid ((GW.out.alloc _).by_ hgrow2 (fun b e => by have := (ROW1.out.lt b e).1; omega))
          clear hown2 hgrow2
          go_wp2_with fail
          go_roundw
          case rel => exact ⟨k + 1, by omega, by go_num, OX, GX⟩
          case measure => simp [intOf] <;> omega
        · have HM := hid (spellTo_on (cs := chars s) (g := g) (k := k) (fun h => hcut h.2))
          rw [HC.out] at HM
          have t3 : ((k : Int) % g == 0) = false := by simpa using hcut
          go_wp2_with (at_builtin; refine wpList_append_own _ rfl _ _ 26 rfl w.heap.size 33 i0 (.int .i8 0) 1 1 Try.underlying26 hi hz0 hz1 hz2 rfl (by decide) _ _ _ rfl (ROW.out.alloc _) ⟨wr.heap.size, 0, none⟩ 1 1 [.int .i8 ((s[k].toNat : Int) - 97)] rfl rfl (cell_n1 _ _ _) (by simp [Value.oneCell']) (by unfold maxLen; omega) (by omega) (by have := GR.out.size; simp; omega) ?_)
          intro v2 w2 hown2 hgrow2 _
          have OX := hid (Own.appended hown2 HM.out HN.out)
          have GX := hid ((GR.out.alloc _).by_ hgrow2 (fun b e => by have := (ROW.out.lt b e).1; omega))
          clear hown2 hgrow2
          go_wp2_with fail
          go_roundw
          case rel => exact ⟨k + 1, by omega, by go_num, OX, GX⟩
          case measure => simp [intOf] <;> omega
      · have HM := hid (spellTo_on (cs := chars s) (g := g) (k := k) (fun h => hp h.1))
        rw [HC.out] at HM
        have t1 : decide ((0 : Int) < (k : Int)) = false := by rw [decide_eq_false_iff_not]; omega
        clear e1 e3
        go_wp2_with (at_builtin; refine wpList_append_own _ rfl _ _ 26 rfl w.heap.size 33 i0 (.int .i8 0) 1 1 Try.underlying26 hi hz0 hz1 hz2 rfl (by decide) _ _ _ rfl (ROW.out.alloc _) ⟨wr.heap.size, 0, none⟩ 1 1 [.int .i8 ((s[k].toNat : Int) - 97)] rfl rfl (cell_n1 _ _ _) (by simp [Value.oneCell']) (by unfold maxLen; omega) (by omega) (by have := GR.out.size; simp; omega) ?_)
        intro v2 w2 hown2 hgrow2 _
        have OX := hid (Own.appended hown2 HM.out HN.out)
        have GX := hid ((GR.out.alloc _).by_ hgrow2 (fun b e => by have := (ROW.out.lt b e).1; omega))
        clear hown2 hgrow2
        go_wp2_with fail
        go_roundw
        case rel => exact ⟨k + 1, by omega, by go_num, OX, GX⟩
        case measure => simp [intOf] <;> omega
    · have hkn : k = s.size := by omega
      have HK := hid (show spellTo (chars s) g k = spellTo (chars s) g s.size by rw [hkn])
      clear hkn
      go_wp2_with fail
      go_ret
      exact ⟨_, rfl, by rw [← HK.out]; exact ow.out, GR.out⟩
end Go.Proofs.Ytoehcinpbnlbnaa
