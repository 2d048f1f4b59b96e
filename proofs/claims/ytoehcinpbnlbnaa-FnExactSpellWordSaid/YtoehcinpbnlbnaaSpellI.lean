/- SpellWord: the functions. -/
import Derived.Test.YtoehcinpbnlbnaaSpellS
import Derived.Laws.IdiomStrings
namespace Go.Proofs.Ytoehcinpbnlbnaa
open Go.RowKit
set_option maxRecDepth 100000 in
set_option maxHeartbeats 2000000 in
theorem spec_SpellWord_any (s : ByteArray) (hs : s.size ≤ 1048576) (g : Int) (_hg : (Lit.int .i64 g).wf = true) (w : World) :
    Calls Try.prog 25 #[.string s, .int .i64 g] w (RetOwn .i8 33 (withCode (spellC (chars s) g)) (spellL (chars s) g) w) := by
  have HW := hid (l03Word_any s hs)
  cases hb : betB g 1 8 with
  | false =>
    obtain ⟨e1, e2⟩ := spellC_out (cs := chars s) (g := g) (by rw [hb]; rfl)
    rw [e1, e2]
    have HB := hid hb
    clear e1 e2 hb
    go_enter Try.func25, Try.ntmps25
    go_wp2_with fail
    refine (l00In_b _ _ _ _).mono ?_
    rintro e w' ⟨rfl, rfl⟩
    rw [HB.out]
    go_wp2_with fail
    go_ret2
    exact ret_empty (Gr.refl _) _
  | true =>
    have hg := betB_iff.1 hb
    have HB := hid hb
    cases hw : wordB (chars s) with
    | false =>
      obtain ⟨e1, e2⟩ := spellC_out (cs := chars s) (g := g) (by rw [hw, Bool.and_false])
      rw [e1, e2]
      have HV := hid hw
      clear e1 e2 hb hw hg
      go_enter Try.func25, Try.ntmps25
      go_wp2_with fail
      refine (l00In_b _ _ _ _).mono ?_
      rintro e w' ⟨rfl, rfl⟩
      rw [HB.out]
      go_wp2_with fail
      refine (HW.out _).mono ?_
      rintro e w' ⟨rfl, rfl⟩
      rw [HV.out]
      go_wp2_with fail
      go_ret2
      exact ret_empty (Gr.refl _) _
    | true =>
      have HV := hid hw
      have HS := hid (l03Spell_any s g hw hg)
      have hlen := (spellTo_length (chars s) g (chars s).length).2
      have h8 := (wordB_len hw).2
      have HX := hid (fun h => spellC_fine (cs := chars s) (g := g) (by rw [hb, hw]; rfl) h)
      have HY := hid (fun h => spellC_long (cs := chars s) (g := g) (by rw [hb, hw]; rfl) h)
      generalize spellL (chars s) g = ys at *
      generalize spellC (chars s) g = c at *
      generalize spellTo (chars s) g (chars s).length = zs at *
      obtain ⟨n, hn⟩ : ∃ n, n = zs.length := ⟨_, rfl⟩
      rw [← hn] at HX HY hlen
      have HN := hid hn
      clear hb hw hn hg
      by_cases hl : n ≤ 8
      · obtain ⟨rfl, rfl⟩ := HX.out hl
        clear HX HY
        go_enter Try.func25, Try.ntmps25
        go_wp2_with fail
        refine (l00In_b _ _ _ _).mono ?_
        rintro e w' ⟨rfl, rfl⟩
        rw [HB.out]
        go_wp2_with fail
        refine (HW.out _).mono ?_
        rintro e w' ⟨rfl, rfl⟩
        rw [HV.out]
        go_wp2_with fail
        refine (HS.out _).mono ?_
        rintro e w1 ⟨v, rfl, o, g1⟩
        obtain ⟨a1, c1, rfl⟩ := o.shape
        rw [← HN.out] at o ⊢
        have O := hid o
        have G := hid g1
        clear o g1
        go_wp2_with fail
        go_ret2
        exact ⟨_, rfl, O.out, G.out⟩
      · obtain ⟨rfl, rfl⟩ := HY.out hl
        clear HX HY
        go_enter Try.func25, Try.ntmps25
        go_wp2_with fail
        refine (l00In_b _ _ _ _).mono ?_
        rintro e w' ⟨rfl, rfl⟩
        rw [HB.out]
        go_wp2_with fail
        refine (HW.out _).mono ?_
        rintro e w' ⟨rfl, rfl⟩
        rw [HV.out]
        go_wp2_with fail
        refine (HS.out _).mono ?_
        rintro e w1 ⟨v, rfl, o, g1⟩
        obtain ⟨a1, c1, rfl⟩ := o.shape
        rw [← HN.out] at o ⊢
        have G := hid g1
        clear o g1
        go_wp2_with fail
        go_ret2
        exact ret_empty G.out _
set_option maxRecDepth 100000 in
set_option maxHeartbeats 1000000 in
theorem isText_word (s : ByteArray) (hs : s.size ≤ 1048576) (w : World) :
    Calls Try.prog 81 #[.string s, .int .i64 8, .int .u8 97, .int .u8 122] w fun e w' => e = .returned (.bool (wordB (chars s))) ∧ w = w' := by
  have HL := hid (chars_length s)
  have HG := hid (fun (k : Nat) (h : k < s.size) => chars_get s h)
  by_cases hl : lenB (chars s) = true
  · have h18 := lenB_iff.1 hl
    rw [HL.out] at h18
    have HLB := hid hl
    clear hl
    go_enter Try.func81, Try.ntmps81
    go_wp2
    go_loop [9, 21] (fun _ i => ∃ k : Nat, k ≤ s.size ∧ i = .int .i64 k ∧ Hid (allTo (letAt (chars s)) k = true)) (fun _ i => s.size - (intOf i).toNat)
    case atStart => exact ⟨0, Nat.zero_le _, rfl, hid rfl⟩
    case round =>
      obtain ⟨k, hk, rfl, hok⟩ := hrel
      by_cases hlt : k < s.size
      · have HC := hid (HG.out k hlt)
        by_cases h1 : (s[k].toNat : Int) < 97
        · have HZ := hid (show wordB (chars s) = false by unfold wordB; rw [allTo_no (show k < (chars s).length by rw [HL.out]; exact hlt) (letAt_no (by rw [HC.out]; omega)), Bool.and_false])
          go_wp2
          go_ret
          exact ⟨ret_bool HZ.out.symm, rfl⟩
        · by_cases h2 : 122 < (s[k].toNat : Int)
          · have HZ := hid (show wordB (chars s) = false by unfold wordB; rw [allTo_no (show k < (chars s).length by rw [HL.out]; exact hlt) (letAt_no (by rw [HC.out]; omega)), Bool.and_false])
            go_wp2
            go_ret
            exact ⟨ret_bool HZ.out.symm, rfl⟩
          · have HY := hid (allTo_step hok.out (letAt_iff.2 (by rw [HC.out]; omega)))
            go_wp2
            go_round
            case rel => exact ⟨k + 1, by omega, by go_num, HY⟩
            case measure => simp [intOf] <;> omega
      · have hkn : k = s.size := by omega
        have HV := hid (show wordB (chars s) = true by rw [hkn, ← HL.out] at hok; unfold wordB; rw [HLB.out, hok.out]; rfl)
        clear hkn
        go_wp2
        go_ret
        exact ⟨ret_bool HV.out.symm, rfl⟩
  · have hl' : lenB (chars s) = false := by simpa using hl
    have HV := hid (show wordB (chars s) = false by unfold wordB; rw [hl']; rfl)
    have hs' : s.size < 1 ∨ 8 < s.size := by
      rw [← HL.out]
      rcases Nat.lt_or_ge (chars s).length 1 with h | h
      · exact .inl h
      · rcases Nat.lt_or_ge 8 (chars s).length with h2 | h2
        · exact .inr h2
        · exact absurd (lenB_iff.2 ⟨h, h2⟩) hl
    clear hl hl'
    by_cases h1 : s.size < 1
    · go_enter Try.func81, Try.ntmps81
      go_wp2
      go_ret
      exact ⟨ret_bool HV.out.symm, rfl⟩
    · have h2 : 8 < s.size := by omega
      clear hs'
      go_enter Try.func81, Try.ntmps81
      go_wp2
      go_ret
      exact ⟨ret_bool HV.out.symm, rfl⟩
set_option maxRecDepth 100000 in
theorem isSpellable_any (s : ByteArray) (hs : s.size ≤ 1048576) (w : World) :
    Calls Try.prog 59 #[.string s] w fun e w' => e = .returned (.bool (wordB (chars s))) ∧ w = w' := by
  have H := hid (isText_word s hs)
  go_enter Try.func59, Try.ntmps59
  go_wp2_with fail
  refine (H.out _).mono ?_
  rintro e w' ⟨rfl, rfl⟩
  go_wp2_with fail
  go_ret
  exact ⟨rfl, rfl⟩
theorem conv_bytes (s : ByteArray) (w : World) :
    ∃ cap W1, (convert 9 78 (.string s)).run Try.prog w = .ok (.slice (some ⟨w.heap.size, 0, none⟩) s.size cap) W1 ∧ Gr w W1 ∧ SliceOf .u8 W1 (some ⟨w.heap.size, 0, none⟩) (chars s) := by
  refine ⟨_, _, run_bytes_of_string w 9 78 5 s Try.underlying9 Try.underlying78 Try.underlying5, ((Gr.refl w).drew).alloc _, ?_⟩
  intro i hi
  have hi' : i < s.size := by rw [← chars_length]; exact hi
  refine ⟨w.heap.size, 0, rfl, ?_⟩
  rw [Nat.zero_add, chars_get s hi']
  have h := World.cell?_alloc_mark w.drew (bytesRow s (grownCap w s.size 0 5)) 5 ((bytesRow s (grownCap w s.size 0 5)).size, (bytesRow s (grownCap w s.size 0 5)).size + 1) i
  have e : w.drew.heap.size = w.heap.size := rfl
  rw [e] at h
  rw [h]
  have hi2 : i < s.data.size := hi'
  unfold bytesRow
  rw [Array.getElem?_append_left (by simpa using hi2)]
  simp only [Array.getElem?_map, Array.getElem?_eq_getElem hi2, Option.map_some]
  rfl
set_option maxRecDepth 100000 in
set_option maxHeartbeats 2000000 in
theorem impl_SpellWord_any (s : ByteArray) (hs : s.size ≤ 1048576) (g : Int) (_hg : (Lit.int .i64 g).wf = true) (w : World) :
    Calls Try.prog 26 #[.string s, .int .i64 g] w (RetOwn .i8 33 (withCode (spellC (chars s) g)) (spellL (chars s) g) w) := by
  have HW := hid (isSpellable_any s hs)
  cases hb : betB g 1 8 with
  | false =>
    obtain ⟨e1, e2⟩ := spellC_out (cs := chars s) (g := g) (by rw [hb]; rfl)
    rw [e1, e2]
    have HB := hid hb
    clear e1 e2 hb
    go_enter Try.func26, Try.ntmps26
    go_wp2_with fail
    refine (isBetween_any _ _ _ _).mono ?_
    rintro e w' ⟨rfl, rfl⟩
    rw [HB.out]
    go_wp2_with fail
    go_ret2
    exact ret_nil (Gr.refl _) _
  | true =>
    have hg := betB_iff.1 hb
    have HB := hid hb
    cases hw : wordB (chars s) with
    | false =>
      obtain ⟨e1, e2⟩ := spellC_out (cs := chars s) (g := g) (by rw [hw, Bool.and_false])
      rw [e1, e2]
      have HV := hid hw
      clear e1 e2 hb hw hg
      go_enter Try.func26, Try.ntmps26
      go_wp2_with fail
      refine (isBetween_any _ _ _ _).mono ?_
      rintro e w' ⟨rfl, rfl⟩
      rw [HB.out]
      go_wp2_with fail
      refine (HW.out _).mono ?_
      rintro e w' ⟨rfl, rfl⟩
      rw [HV.out]
      go_wp2_with fail
      go_ret2
      exact ret_nil (Gr.refl _) _
    | true =>
      have HV := hid hw
      have HL := hid (chars_length s)
      have HG := hid (fun (k : Nat) (h : k < s.size) => chars_get s h)
      have HWA := hid (fun (k : Nat) (h : k < s.size) => wordB_at hw (i := k) (by rw [HL.out]; exact h))
      obtain ⟨hn1, hn8⟩ := wordB_len hw
      rw [HL.out] at hn1 hn8
      obtain ⟨hg1, hg8⟩ := hg
      have hg0 : (g == 0) = false := by simp; omega
      have HX := hid (fun h => spellC_fine (cs := chars s) (g := g) (by rw [hb, hw]; rfl) h)
      have HY := hid (fun h => spellC_long (cs := chars s) (g := g) (by rw [hb, hw]; rfl) h)
      rw [HL.out] at HX HY
      generalize spellL (chars s) g = ys at *
      generalize spellC (chars s) g = c at *
      obtain ⟨cap, W1, hcv, g1, hsl1⟩ := conv_bytes s w
      have G1 := hid g1
      have SL := hid hsl1
      clear hb hw g1 hsl1
      obtain ⟨i0, hi, hz0, hz1, hz2⟩ := info_parts infoI8
      go_enter Try.func26, Try.ntmps26
      go_wp2_with fail
      refine (isBetween_any _ _ _ _).mono ?_
      rintro e w' ⟨rfl, rfl⟩
      rw [HB.out]
      go_wp2_with fail
      refine (HW.out _).mono ?_
      rintro e w' ⟨rfl, rfl⟩
      rw [HV.out]
      go_wp2_with fail
      clear hcv
      go_loopw [6, 20] (fun v i wr => ∃ k : Nat, k ≤ s.size ∧ i = .int .i64 k ∧ Hid (Own .i8 33 wr W1.heap.size wr.heap.size v (spellTo (chars s) g k)) ∧ Hid (Gr W1 wr)) (fun _ i _ => s.size - (intOf i).toNat)
      case atStart => exact ⟨0, Nat.zero_le _, rfl, hid (Own.nil _ _ _), hid (Gr.refl _)⟩
      case round =>
        obtain ⟨k, hk, rfl, ow, GR⟩ := hrel
        obtain ⟨ao, co, rfl⟩ := ow.out.shape
        have hsl := (spellTo_length (chars s) g k).2
        obtain ⟨n, hn⟩ : ∃ n, n = (spellTo (chars s) g k).length := ⟨_, rfl⟩
        have ROW := hid ow.out.row
        rw [← hn] at ROW hsl ow ⊢
        have HN := hid hn.symm
        clear hn
        by_cases hlt : k < s.size
        · have HC := hid (HG.out k hlt)
          obtain ⟨h1, h2⟩ := HWA.out k hlt
          rw [HC.out] at h1 h2
          obtain ⟨b0, o0, e0, d0⟩ := SL.out k (by rw [HL.out]; exact hlt)
          rw [HC.out] at d0
          simp only [Option.some.injEq, Addr.mk.injEq, and_true] at e0
          obtain ⟨rfl, rfl⟩ := e0
          rw [Nat.zero_add] at d0
          have hc0 := GR.out.cell d0
          clear d0
          have hk0 : (0 : Int) ≤ k := by omega
          have e1 : (k : Int).tmod g = (k : Int) % g := Int.tmod_eq_emod_of_nonneg hk0
          have hr0 : 0 ≤ (k : Int) % g := Int.emod_nonneg _ (by omega)
          have hr1 : (k : Int) % g < g := Int.emod_lt_of_pos _ (by omega)
          have e3 : IntKind.i64.wrap ((k : Int) % g) = (k : Int) % g := IntWalk.i64_in _ (by omega)
          have e4 : IntKind.u8.wrap ((s[k].toNat : Int) - 97) = (s[k].toNat : Int) - 97 := IntWalk.u8_in _ (by omega)
          have e5 : IntKind.i8.wrap ((s[k].toNat : Int) - 97) = (s[k].toNat : Int) - 97 := IntWalk.i8_in _ (by omega)
          clear hr0 hr1
          by_cases hp : 0 < k
          · have t1 : decide ((0 : Int) < (k : Int)) = true := by rw [decide_eq_true_iff]; omega
            by_cases hcut : (k : Int) % g = 0
            · have HM := hid (spellTo_cut (cs := chars s) (g := g) ⟨hp, hcut⟩)
              rw [HC.out] at HM
              go_wp2_with (at_builtin; refine wpList_append_own _ rfl _ _ 26 rfl W1.heap.size 33 i0 (.int .i8 0) 1 1 Try.underlying26 hi hz0 hz1 hz2 rfl (by decide) _ _ _ rfl (ROW.out.alloc _) ⟨wr.heap.size, 0, none⟩ 1 1 [.int .i8 (-10)] rfl rfl (cell_n1 _ _ _) (by simp [Value.oneCell']) (by unfold maxLen; omega) (by omega) (by have := GR.out.size; simp; omega) ?_)
              intro v1 w1 hown1 hgrow1 _
              have OW := hid (Own.appended (zs := spellTo (chars s) g k ++ [-10]) hown1 rfl HN.out)
              have GW := hid ((GR.out.alloc _).by_ hgrow1 (fun b e => by have := (ROW.out.lt b e).1; omega))
              clear hown1 hgrow1
              have HN1 := hid (show (spellTo (chars s) g k ++ [-10]).length = n + 1 by rw [List.length_append, HN.out]; rfl)
              obtain ⟨a1, c1, hv1⟩ := OW.out.shape
              rw [HN1.out] at hv1
              subst hv1
              have ROW1 := hid OW.out.row
              rw [HN1.out] at ROW1
              go_wp2_with (at_builtin; refine wpList_append_own _ rfl _ _ 26 rfl W1.heap.size 33 i0 (.int .i8 0) 1 1 Try.underlying26 hi hz0 hz1 hz2 rfl (by decide) _ _ _ rfl (ROW1.out.alloc _) ⟨w1.heap.size, 0, none⟩ 1 1 [.int .i8 ((s[k].toNat : Int) - 97)] rfl rfl (cell_n1 _ _ _) (by simp [Value.oneCell']) (by unfold maxLen; omega) (by omega) (by have := GW.out.size; simp; omega) ?_)
              intro v2 w2 hown2 hgrow2 _
              have OX := hid (show Own .i8 33 w2 W1.heap.size w2.heap.size v2 (spellTo (chars s) g (k + 1)) by rw [HM.out]; exact Own.ofRow hown2 (by simp) (by rw [List.length_append, HN1.out]; rfl))
              have GX := hid ((GW.out.alloc _).by_ hgrow2 (fun b e => by have := (ROW1.out.lt b e).1; omega))
              clear hown2 hgrow2
              go_wp2_with fail
              go_roundw
              case rel => exact ⟨k + 1, by omega, by go_num, OX, GX⟩
              case measure => simp [intOf] <;> omega
            · have HM := hid (spellTo_on (cs := chars s) (g := g) (k := k) (fun h => hcut h.2))
              rw [HC.out] at HM
              have t3 : ((k : Int) % g == 0) = false := by simpa using hcut
              go_wp2_with (at_builtin; refine wpList_append_own _ rfl _ _ 26 rfl W1.heap.size 33 i0 (.int .i8 0) 1 1 Try.underlying26 hi hz0 hz1 hz2 rfl (by decide) _ _ _ rfl (ROW.out.alloc _) ⟨wr.heap.size, 0, none⟩ 1 1 [.int .i8 ((s[k].toNat : Int) - 97)] rfl rfl (cell_n1 _ _ _) (by simp [Value.oneCell']) (by unfold maxLen; omega) (by omega) (by have := GR.out.size; simp; omega) ?_)
              intro v2 w2 hown2 hgrow2 _
              have OX := hid (Own.appended hown2 HM.out HN.out)
              have GX := hid ((GR.out.alloc _).by_ hgrow2 (fun b e => by have := (ROW.out.lt b e).1; omega))
              clear hown2 hgrow2
              go_wp2_with fail
              go_roundw
              case rel => exact ⟨k + 1, by omega, by go_num, OX, GX⟩
              case measure => simp [intOf] <;> omega
          · have HM := hid (spellTo_on (cs := chars s) (g := g) (k := k) (fun h => hp h.1))
            rw [HC.out] at HM
            have t1 : decide ((0 : Int) < (k : Int)) = false := by rw [decide_eq_false_iff_not]; omega
            clear e1 e3
            go_wp2_with (at_builtin; refine wpList_append_own _ rfl _ _ 26 rfl W1.heap.size 33 i0 (.int .i8 0) 1 1 Try.underlying26 hi hz0 hz1 hz2 rfl (by decide) _ _ _ rfl (ROW.out.alloc _) ⟨wr.heap.size, 0, none⟩ 1 1 [.int .i8 ((s[k].toNat : Int) - 97)] rfl rfl (cell_n1 _ _ _) (by simp [Value.oneCell']) (by unfold maxLen; omega) (by omega) (by have := GR.out.size; simp; omega) ?_)
            intro v2 w2 hown2 hgrow2 _
            have OX := hid (Own.appended hown2 HM.out HN.out)
            have GX := hid ((GR.out.alloc _).by_ hgrow2 (fun b e => by have := (ROW.out.lt b e).1; omega))
            clear hown2 hgrow2
            go_wp2_with fail
            go_roundw
            case rel => exact ⟨k + 1, by omega, by go_num, OX, GX⟩
            case measure => simp [intOf] <;> omega
        · have hkn : k = s.size := by omega
          rw [hkn] at HN ow
          clear hkn
          by_cases hl : n ≤ 8
          · obtain ⟨hc, hz⟩ := HX.out (by rw [HN.out]; exact hl)
            have HC0 := hid hc
            have HZ0 := hid hz
            have G := hid (G1.out.trans GR.out)
            have O := hid (ow.out.widen G1.out.size (Nat.le_refl _))
            clear HX HY hc hz
            go_wp2_with fail
            go_ret2
            exact ⟨_, by rw [HC0.out]; rfl, by rw [HZ0.out]; exact O.out, G.out⟩
          · obtain ⟨hc, hz⟩ := HY.out (by rw [HN.out]; exact hl)
            have HC0 := hid hc
            have HZ0 := hid hz
            have G := hid (G1.out.trans GR.out)
            clear HX HY hc hz
            go_wp2_with fail
            go_ret2
            rw [HC0.out, HZ0.out]
            exact ret_nil G.out _
end Go.Proofs.Ytoehcinpbnlbnaa
