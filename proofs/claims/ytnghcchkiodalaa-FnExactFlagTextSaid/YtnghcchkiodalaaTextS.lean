/- FlagText: the two functions. -/
import Derived.Test.YtnghcchkiodalaaBuild
namespace Go.Proofs.Ytnghcchkiodalaa
open Go.RowKit
set_option maxHeartbeats 4000000 in
set_option maxRecDepth 100000 in
theorem l01Text_any (b off : Nat) (xs : List Int) (hl : xs.length = 24) (hb : Bytes xs) (hok : okB xs = true) (w : World) (hc : BytesAt w b off xs) :
    Calls Try.prog 68 #[.pointer (some ⟨b, off, none⟩)] w fun e w' => e = .returned (.string ⟨(textTo xs 24).toArray⟩) ∧ Gr w w' := by
  have HC := hid hc
  have HL := hid hl
  have HB := hid hb
  have HOK := hid hok
  clear hc hl hb hok
  obtain ⟨i0, hi, hz0, hz1, hz2⟩ := info_parts infoU8
  go_enter Try.func68, Try.ntmps68
  go_wp2_with fail
  go_loopw [4, 5] (fun v i wr => ∃ k : Nat, k ≤ 24 ∧ i = .int .i64 k ∧ Hid (Own .u8 5 wr w.heap.size wr.heap.size v (ints (textTo xs k))) ∧ Hid (Gr w wr)) (fun _ i _ => 24 - (intOf i).toNat)
  case atStart => exact ⟨0, Nat.zero_le _, rfl, hid ((Own.new (k := .u8) (e := 5) w [] (by simp)).widen (Nat.le_refl _) (by simp)), hid ((Gr.refl _).alloc _)⟩
  case round =>
    obtain ⟨k, hk, rfl, ow, GR⟩ := hrel
    obtain ⟨ao, co, rfl⟩ := ow.out.shape
    have ROW := hid ow.out.row
    have HML := hid (ints_length (textTo xs k))
    have HTL := hid (textTo_length xs k)
    have OW0 := ow
    generalize hn : (ints (textTo xs k)).length = n at *
    have HN := hid hn
    clear hn
    have hnn : n ≤ 48 := by have := HML.out; have := HTL.out; omega
    by_cases hlt : k < 24
    · have hcell := HC.out k (by rw [HL.out]; exact hlt)
      have HCELL := hid hcell
      have hle := okB_le HOK.out (k := k) (by rw [HL.out]; exact hlt)
      obtain ⟨hx0, hx1⟩ := HB.out.get k
      have hk0 : (0 : Int) ≤ k := by omega
      have hk1 : (k : Int) < 24 := by omega
      have e1 : (k : Int).tmod 6 = (k : Int) % 6 := Int.tmod_eq_emod_of_nonneg hk0
      have e3 : IntKind.i64.wrap ((k : Int) % 6) = (k : Int) % 6 := IntWalk.i64_in _ (by omega)
      by_cases hcut : 0 < k ∧ k % 6 = 0
      · have HM := hid (textTo_cut (xs := xs) hcut)
        obtain ⟨hp, hm⟩ := hcut
        have t1 : decide ((0 : Int) < (k : Int)) = true := by rw [decide_eq_true_iff]; omega
        have t2 : (k : Int) % 6 = 0 := by omega
        rcases letB_at hx0 hle with ⟨hx, hy⟩ | ⟨hx, hy⟩ | ⟨hx, hy⟩ | ⟨hx, hy⟩ | ⟨hx, hy⟩ | ⟨hx, hy⟩
        · rw [hy] at HM
          rw [hx] at HCELL
          clear hcell hle hx0 hx1 hx hy
          go_wp2_with (at_builtin; refine wpList_append_own _ rfl _ _ 54 rfl w.heap.size 5 i0 (.int .u8 0) 1 1 Try.underlying54 hi hz0 hz1 hz2 rfl (by decide) _ _ _ rfl (ROW.out.alloc _) ⟨wr.heap.size, 0, none⟩ 1 1 [.int .u8 47] rfl rfl (cell_new1 _ _ _) (by simp [Value.oneCell']) (by unfold maxLen; omega) (by omega) (by have := GR.out.size; simp; omega) ?_)
          intro v1 w1 hown1 hgrow1 _
          have OW := hid (Own.appended8 hown1 HN.out)
          have GW := hid ((GR.out.alloc _).by_ hgrow1 (fun b e => by have := (ROW.out.lt b e).1; omega))
          clear hown1 hgrow1
          have HN1 := hid (show (ints (textTo xs k) ++ [47]).length = n + 1 by rw [List.length_append, HN.out]; rfl)
          obtain ⟨a1, c1, hv1⟩ := OW.out.shape
          rw [HN1.out] at hv1
          subst hv1
          have ROW1 := hid OW.out.row
          rw [HN1.out] at ROW1
          have hcell := GW.out.cell HCELL.out
          go_wp2_with (at_builtin; refine wpList_append_own _ rfl _ _ 54 rfl w.heap.size 5 i0 (.int .u8 0) 1 1 Try.underlying54 hi hz0 hz1 hz2 rfl (by decide) _ _ _ rfl (ROW1.out.alloc _) ⟨w1.heap.size, 0, none⟩ 1 1 [.int .u8 119] rfl rfl (cell_new1 _ _ _) (by simp [Value.oneCell']) (by unfold maxLen; omega) (by omega) (by have := GW.out.size; simp; omega) ?_)
          intro v2 w2 hown2 hgrow2 _
          have OX := hid (Own.ofRow (k := .u8) (xs := ints (textTo xs k) ++ [47] ++ [119]) hown2 (by simp) (by rw [List.length_append, HN1.out]; rfl))
          have GX := hid ((GW.out.alloc _).by_ hgrow2 (fun b e => by have := (ROW1.out.lt b e).1; omega))
          clear hown2 hgrow2 hcell
          go_wp2_with fail
          go_roundw
          case rel => exact ⟨k + 1, by omega, by go_num, hid (by rw [HM.out, ints_append, ints_append]; exact OX.out), GX⟩
          case measure => simp [intOf] <;> omega
        · rw [hy] at HM
          rw [hx] at HCELL
          clear hcell hle hx0 hx1 hx hy
          go_wp2_with (at_builtin; refine wpList_append_own _ rfl _ _ 54 rfl w.heap.size 5 i0 (.int .u8 0) 1 1 Try.underlying54 hi hz0 hz1 hz2 rfl (by decide) _ _ _ rfl (ROW.out.alloc _) ⟨wr.heap.size, 0, none⟩ 1 1 [.int .u8 47] rfl rfl (cell_new1 _ _ _) (by simp [Value.oneCell']) (by unfold maxLen; omega) (by omega) (by have := GR.out.size; simp; omega) ?_)
          intro v1 w1 hown1 hgrow1 _
          have OW := hid (Own.appended8 hown1 HN.out)
          have GW := hid ((GR.out.alloc _).by_ hgrow1 (fun b e => by have := (ROW.out.lt b e).1; omega))
          clear hown1 hgrow1
          have HN1 := hid (show (ints (textTo xs k) ++ [47]).length = n + 1 by rw [List.length_append, HN.out]; rfl)
          obtain ⟨a1, c1, hv1⟩ := OW.out.shape
          rw [HN1.out] at hv1
          subst hv1
          have ROW1 := hid OW.out.row
          rw [HN1.out] at ROW1
          have hcell := GW.out.cell HCELL.out
          go_wp2_with (at_builtin; refine wpList_append_own _ rfl _ _ 54 rfl w.heap.size 5 i0 (.int .u8 0) 1 1 Try.underlying54 hi hz0 hz1 hz2 rfl (by decide) _ _ _ rfl (ROW1.out.alloc _) ⟨w1.heap.size, 0, none⟩ 1 1 [.int .u8 121] rfl rfl (cell_new1 _ _ _) (by simp [Value.oneCell']) (by unfold maxLen; omega) (by omega) (by have := GW.out.size; simp; omega) ?_)
          intro v2 w2 hown2 hgrow2 _
          have OX := hid (Own.ofRow (k := .u8) (xs := ints (textTo xs k) ++ [47] ++ [121]) hown2 (by simp) (by rw [List.length_append, HN1.out]; rfl))
          have GX := hid ((GW.out.alloc _).by_ hgrow2 (fun b e => by have := (ROW1.out.lt b e).1; omega))
          clear hown2 hgrow2 hcell
          go_wp2_with fail
          go_roundw
          case rel => exact ⟨k + 1, by omega, by go_num, hid (by rw [HM.out, ints_append, ints_append]; exact OX.out), GX⟩
          case measure => simp [intOf] <;> omega
        · rw [hy] at HM
          rw [hx] at HCELL
          clear hcell hle hx0 hx1 hx hy
          go_wp2_with (at_builtin; refine wpList_append_own _ rfl _ _ 54 rfl w.heap.size 5 i0 (.int .u8 0) 1 1 Try.underlying54 hi hz0 hz1 hz2 rfl (by decide) _ _ _ rfl (ROW.out.alloc _) ⟨wr.heap.size, 0, none⟩ 1 1 [.int .u8 47] rfl rfl (cell_new1 _ _ _) (by simp [Value.oneCell']) (by unfold maxLen; omega) (by omega) (by have := GR.out.size; simp; omega) ?_)
          intro v1 w1 hown1 hgrow1 _
          have OW := hid (Own.appended8 hown1 HN.out)
          have GW := hid ((GR.out.alloc _).by_ hgrow1 (fun b e => by have := (ROW.out.lt b e).1; omega))
          clear hown1 hgrow1
          have HN1 := hid (show (ints (textTo xs k) ++ [47]).length = n + 1 by rw [List.length_append, HN.out]; rfl)
          obtain ⟨a1, c1, hv1⟩ := OW.out.shape
          rw [HN1.out] at hv1
          subst hv1
          have ROW1 := hid OW.out.row
          rw [HN1.out] at ROW1
          have hcell := GW.out.cell HCELL.out
          go_wp2_with (at_builtin; refine wpList_append_own _ rfl _ _ 54 rfl w.heap.size 5 i0 (.int .u8 0) 1 1 Try.underlying54 hi hz0 hz1 hz2 rfl (by decide) _ _ _ rfl (ROW1.out.alloc _) ⟨w1.heap.size, 0, none⟩ 1 1 [.int .u8 114] rfl rfl (cell_new1 _ _ _) (by simp [Value.oneCell']) (by unfold maxLen; omega) (by omega) (by have := GW.out.size; simp; omega) ?_)
          intro v2 w2 hown2 hgrow2 _
          have OX := hid (Own.ofRow (k := .u8) (xs := ints (textTo xs k) ++ [47] ++ [114]) hown2 (by simp) (by rw [List.length_append, HN1.out]; rfl))
          have GX := hid ((GW.out.alloc _).by_ hgrow2 (fun b e => by have := (ROW1.out.lt b e).1; omega))
          clear hown2 hgrow2 hcell
          go_wp2_with fail
          go_roundw
          case rel => exact ⟨k + 1, by omega, by go_num, hid (by rw [HM.out, ints_append, ints_append]; exact OX.out), GX⟩
          case measure => simp [intOf] <;> omega
        · rw [hy] at HM
          rw [hx] at HCELL
          clear hcell hle hx0 hx1 hx hy
          go_wp2_with (at_builtin; refine wpList_append_own _ rfl _ _ 54 rfl w.heap.size 5 i0 (.int .u8 0) 1 1 Try.underlying54 hi hz0 hz1 hz2 rfl (by decide) _ _ _ rfl (ROW.out.alloc _) ⟨wr.heap.size, 0, none⟩ 1 1 [.int .u8 47] rfl rfl (cell_new1 _ _ _) (by simp [Value.oneCell']) (by unfold maxLen; omega) (by omega) (by have := GR.out.size; simp; omega) ?_)
          intro v1 w1 hown1 hgrow1 _
          have OW := hid (Own.appended8 hown1 HN.out)
          have GW := hid ((GR.out.alloc _).by_ hgrow1 (fun b e => by have := (ROW.out.lt b e).1; omega))
          clear hown1 hgrow1
          have HN1 := hid (show (ints (textTo xs k) ++ [47]).length = n + 1 by rw [List.length_append, HN.out]; rfl)
          obtain ⟨a1, c1, hv1⟩ := OW.out.shape
          rw [HN1.out] at hv1
          subst hv1
          have ROW1 := hid OW.out.row
          rw [HN1.out] at ROW1
          have hcell := GW.out.cell HCELL.out
          go_wp2_with (at_builtin; refine wpList_append_own _ rfl _ _ 54 rfl w.heap.size 5 i0 (.int .u8 0) 1 1 Try.underlying54 hi hz0 hz1 hz2 rfl (by decide) _ _ _ rfl (ROW1.out.alloc _) ⟨w1.heap.size, 0, none⟩ 1 1 [.int .u8 98] rfl rfl (cell_new1 _ _ _) (by simp [Value.oneCell']) (by unfold maxLen; omega) (by omega) (by have := GW.out.size; simp; omega) ?_)
          intro v2 w2 hown2 hgrow2 _
          have OX := hid (Own.ofRow (k := .u8) (xs := ints (textTo xs k) ++ [47] ++ [98]) hown2 (by simp) (by rw [List.length_append, HN1.out]; rfl))
          have GX := hid ((GW.out.alloc _).by_ hgrow2 (fun b e => by have := (ROW1.out.lt b e).1; omega))
          clear hown2 hgrow2 hcell
          go_wp2_with fail
          go_roundw
          case rel => exact ⟨k + 1, by omega, by go_num, hid (by rw [HM.out, ints_append, ints_append]; exact OX.out), GX⟩
          case measure => simp [intOf] <;> omega
        · rw [hy] at HM
          rw [hx] at HCELL
          clear hcell hle hx0 hx1 hx hy
          go_wp2_with (at_builtin; refine wpList_append_own _ rfl _ _ 54 rfl w.heap.size 5 i0 (.int .u8 0) 1 1 Try.underlying54 hi hz0 hz1 hz2 rfl (by decide) _ _ _ rfl (ROW.out.alloc _) ⟨wr.heap.size, 0, none⟩ 1 1 [.int .u8 47] rfl rfl (cell_new1 _ _ _) (by simp [Value.oneCell']) (by unfold maxLen; omega) (by omega) (by have := GR.out.size; simp; omega) ?_)
          intro v1 w1 hown1 hgrow1 _
          have OW := hid (Own.appended8 hown1 HN.out)
          have GW := hid ((GR.out.alloc _).by_ hgrow1 (fun b e => by have := (ROW.out.lt b e).1; omega))
          clear hown1 hgrow1
          have HN1 := hid (show (ints (textTo xs k) ++ [47]).length = n + 1 by rw [List.length_append, HN.out]; rfl)
          obtain ⟨a1, c1, hv1⟩ := OW.out.shape
          rw [HN1.out] at hv1
          subst hv1
          have ROW1 := hid OW.out.row
          rw [HN1.out] at ROW1
          have hcell := GW.out.cell HCELL.out
          go_wp2_with (at_builtin; refine wpList_append_own _ rfl _ _ 54 rfl w.heap.size 5 i0 (.int .u8 0) 1 1 Try.underlying54 hi hz0 hz1 hz2 rfl (by decide) _ _ _ rfl (ROW1.out.alloc _) ⟨w1.heap.size, 0, none⟩ 1 1 [.int .u8 103] rfl rfl (cell_new1 _ _ _) (by simp [Value.oneCell']) (by unfold maxLen; omega) (by omega) (by have := GW.out.size; simp; omega) ?_)
          intro v2 w2 hown2 hgrow2 _
          have OX := hid (Own.ofRow (k := .u8) (xs := ints (textTo xs k) ++ [47] ++ [103]) hown2 (by simp) (by rw [List.length_append, HN1.out]; rfl))
          have GX := hid ((GW.out.alloc _).by_ hgrow2 (fun b e => by have := (ROW1.out.lt b e).1; omega))
          clear hown2 hgrow2 hcell
          go_wp2_with fail
          go_roundw
          case rel => exact ⟨k + 1, by omega, by go_num, hid (by rw [HM.out, ints_append, ints_append]; exact OX.out), GX⟩
          case measure => simp [intOf] <;> omega
        · rw [hy] at HM
          rw [hx] at HCELL
          clear hcell hle hx0 hx1 hx hy
          go_wp2_with (at_builtin; refine wpList_append_own _ rfl _ _ 54 rfl w.heap.size 5 i0 (.int .u8 0) 1 1 Try.underlying54 hi hz0 hz1 hz2 rfl (by decide) _ _ _ rfl (ROW.out.alloc _) ⟨wr.heap.size, 0, none⟩ 1 1 [.int .u8 47] rfl rfl (cell_new1 _ _ _) (by simp [Value.oneCell']) (by unfold maxLen; omega) (by omega) (by have := GR.out.size; simp; omega) ?_)
          intro v1 w1 hown1 hgrow1 _
          have OW := hid (Own.appended8 hown1 HN.out)
          have GW := hid ((GR.out.alloc _).by_ hgrow1 (fun b e => by have := (ROW.out.lt b e).1; omega))
          clear hown1 hgrow1
          have HN1 := hid (show (ints (textTo xs k) ++ [47]).length = n + 1 by rw [List.length_append, HN.out]; rfl)
          obtain ⟨a1, c1, hv1⟩ := OW.out.shape
          rw [HN1.out] at hv1
          subst hv1
          have ROW1 := hid OW.out.row
          rw [HN1.out] at ROW1
          have hcell := GW.out.cell HCELL.out
          go_wp2_with (at_builtin; refine wpList_append_own _ rfl _ _ 54 rfl w.heap.size 5 i0 (.int .u8 0) 1 1 Try.underlying54 hi hz0 hz1 hz2 rfl (by decide) _ _ _ rfl (ROW1.out.alloc _) ⟨w1.heap.size, 0, none⟩ 1 1 [.int .u8 107] rfl rfl (cell_new1 _ _ _) (by simp [Value.oneCell']) (by unfold maxLen; omega) (by omega) (by have := GW.out.size; simp; omega) ?_)
          intro v2 w2 hown2 hgrow2 _
          have OX := hid (Own.ofRow (k := .u8) (xs := ints (textTo xs k) ++ [47] ++ [107]) hown2 (by simp) (by rw [List.length_append, HN1.out]; rfl))
          have GX := hid ((GW.out.alloc _).by_ hgrow2 (fun b e => by have := (ROW1.out.lt b e).1; omega))
          clear hown2 hgrow2 hcell
          go_wp2_with fail
          go_roundw
          case rel => exact ⟨k + 1, by omega, by go_num, hid (by rw [HM.out, ints_append, ints_append]; exact OX.out), GX⟩
          case measure => simp [intOf] <;> omega
      · have HM := hid (textTo_on (xs := xs) hcut)
        by_cases hp : 0 < k
        · have t1 : decide ((0 : Int) < (k : Int)) = true := by rw [decide_eq_true_iff]; omega
          have t2 : ¬ (k : Int) % 6 = 0 := by omega
          have t3 : ((k : Int) % 6 == 0) = false := by simpa using t2
          clear hcut
          rcases letB_at hx0 hle with ⟨hx, hy⟩ | ⟨hx, hy⟩ | ⟨hx, hy⟩ | ⟨hx, hy⟩ | ⟨hx, hy⟩ | ⟨hx, hy⟩
          · rw [hy] at HM
            rw [hx] at HCELL
            clear hcell hle hx0 hx1 hx hy
            have hcell := GR.out.cell HCELL.out
            go_wp2_with (at_builtin; refine wpList_append_own _ rfl _ _ 54 rfl w.heap.size 5 i0 (.int .u8 0) 1 1 Try.underlying54 hi hz0 hz1 hz2 rfl (by decide) _ _ _ rfl (ROW.out.alloc _) ⟨wr.heap.size, 0, none⟩ 1 1 [.int .u8 119] rfl rfl (cell_new1 _ _ _) (by simp [Value.oneCell']) (by unfold maxLen; omega) (by omega) (by have := GR.out.size; simp; omega) ?_)
            intro v2 w2 hown2 hgrow2 _
            have OX := hid (Own.appended8 hown2 HN.out)
            have GX := hid ((GR.out.alloc _).by_ hgrow2 (fun b e => by have := (ROW.out.lt b e).1; omega))
            clear hown2 hgrow2 hcell
            go_wp2_with fail
            go_roundw
            case rel => exact ⟨k + 1, by omega, by go_num, hid (by rw [HM.out, ints_append]; exact OX.out), GX⟩
            case measure => simp [intOf] <;> omega
          · rw [hy] at HM
            rw [hx] at HCELL
            clear hcell hle hx0 hx1 hx hy
            have hcell := GR.out.cell HCELL.out
            go_wp2_with (at_builtin; refine wpList_append_own _ rfl _ _ 54 rfl w.heap.size 5 i0 (.int .u8 0) 1 1 Try.underlying54 hi hz0 hz1 hz2 rfl (by decide) _ _ _ rfl (ROW.out.alloc _) ⟨wr.heap.size, 0, none⟩ 1 1 [.int .u8 121] rfl rfl (cell_new1 _ _ _) (by simp [Value.oneCell']) (by unfold maxLen; omega) (by omega) (by have := GR.out.size; simp; omega) ?_)
            intro v2 w2 hown2 hgrow2 _
            have OX := hid (Own.appended8 hown2 HN.out)
            have GX := hid ((GR.out.alloc _).by_ hgrow2 (fun b e => by have := (ROW.out.lt b e).1; omega))
            clear hown2 hgrow2 hcell
            go_wp2_with fail
            go_roundw
            case rel => exact ⟨k + 1, by omega, by go_num, hid (by rw [HM.out, ints_append]; exact OX.out), GX⟩
            case measure => simp [intOf] <;> omega
          · rw [hy] at HM
            rw [hx] at HCELL
            clear hcell hle hx0 hx1 hx hy
            have hcell := GR.out.cell HCELL.out
            go_wp2_with (at_builtin; refine wpList_append_own _ rfl _ _ 54 rfl w.heap.size 5 i0 (.int .u8 0) 1 1 Try.underlying54 hi hz0 hz1 hz2 rfl (by decide) _ _ _ rfl (ROW.out.alloc _) ⟨wr.heap.size, 0, none⟩ 1 1 [.int .u8 114] rfl rfl (cell_new1 _ _ _) (by simp [Value.oneCell']) (by unfold maxLen; omega) (by omega) (by have := GR.out.size; simp; omega) ?_)
            intro v2 w2 hown2 hgrow2 _
            have OX := hid (Own.appended8 hown2 HN.out)
            have GX := hid ((GR.out.alloc _).by_ hgrow2 (fun b e => by have := (ROW.out.lt b e).1; omega))
            clear hown2 hgrow2 hcell
            go_wp2_with fail
            go_roundw
            case rel => exact ⟨k + 1, by omega, by go_num, hid (by rw [HM.out, ints_append]; exact OX.out), GX⟩
            case measure => simp [intOf] <;> omega
          · rw [hy] at HM
            rw [hx] at HCELL
            clear hcell hle hx0 hx1 hx hy
            have hcell := GR.out.cell HCELL.out
            go_wp2_with (at_builtin; refine wpList_append_own _ rfl _ _ 54 rfl w.heap.size 5 i0 (.int .u8 0) 1 1 Try.underlying54 hi hz0 hz1 hz2 rfl (by decide) _ _ _ rfl (ROW.out.alloc _) ⟨wr.heap.size, 0, none⟩ 1 1 [.int .u8 98] rfl rfl (cell_new1 _ _ _) (by simp [Value.oneCell']) (by unfold maxLen; omega) (by omega) (by have := GR.out.size; simp; omega) ?_)
            intro v2 w2 hown2 hgrow2 _
            have OX := hid (Own.appended8 hown2 HN.out)
            have GX := hid ((GR.out.alloc _).by_ hgrow2 (fun b e => by have := (ROW.out.lt b e).1; omega))
            clear hown2 hgrow2 hcell
            go_wp2_with fail
            go_roundw
            case rel => exact ⟨k + 1, by omega, by go_num, hid (by rw [HM.out, ints_append]; exact OX.out), GX⟩
            case measure => simp [intOf] <;> omega
          · rw [hy] at HM
            rw [hx] at HCELL
            clear hcell hle hx0 hx1 hx hy
            have hcell := GR.out.cell HCELL.out
            go_wp2_with (at_builtin; refine wpList_append_own _ rfl _ _ 54 rfl w.heap.size 5 i0 (.int .u8 0) 1 1 Try.underlying54 hi hz0 hz1 hz2 rfl (by decide) _ _ _ rfl (ROW.out.alloc _) ⟨wr.heap.size, 0, none⟩ 1 1 [.int .u8 103] rfl rfl (cell_new1 _ _ _) (by simp [Value.oneCell']) (by unfold maxLen; omega) (by omega) (by have := GR.out.size; simp; omega) ?_)
            intro v2 w2 hown2 hgrow2 _
            have OX := hid (Own.appended8 hown2 HN.out)
            have GX := hid ((GR.out.alloc _).by_ hgrow2 (fun b e => by have := (ROW.out.lt b e).1; omega))
            clear hown2 hgrow2 hcell
            go_wp2_with fail
            go_roundw
            case rel => exact ⟨k + 1, by omega, by go_num, hid (by rw [HM.out, ints_append]; exact OX.out), GX⟩
            case measure => simp [intOf] <;> omega
          · rw [hy] at HM
            rw [hx] at HCELL
            clear hcell hle hx0 hx1 hx hy
            have hcell := GR.out.cell HCELL.out
            go_wp2_with (at_builtin; refine wpList_append_own _ rfl _ _ 54 rfl w.heap.size 5 i0 (.int .u8 0) 1 1 Try.underlying54 hi hz0 hz1 hz2 rfl (by decide) _ _ _ rfl (ROW.out.alloc _) ⟨wr.heap.size, 0, none⟩ 1 1 [.int .u8 107] rfl rfl (cell_new1 _ _ _) (by simp [Value.oneCell']) (by unfold maxLen; omega) (by omega) (by have := GR.out.size; simp; omega) ?_)
            intro v2 w2 hown2 hgrow2 _
            have OX := hid (Own.appended8 hown2 HN.out)
            have GX := hid ((GR.out.alloc _).by_ hgrow2 (fun b e => by have := (ROW.out.lt b e).1; omega))
            clear hown2 hgrow2 hcell
            go_wp2_with fail
            go_roundw
            case rel => exact ⟨k + 1, by omega, by go_num, hid (by rw [HM.out, ints_append]; exact OX.out), GX⟩
            case measure => simp [intOf] <;> omega
        · have t1 : decide ((0 : Int) < (k : Int)) = false := by rw [decide_eq_false_iff_not]; omega
          clear hcut e1 e3
          rcases letB_at hx0 hle with ⟨hx, hy⟩ | ⟨hx, hy⟩ | ⟨hx, hy⟩ | ⟨hx, hy⟩ | ⟨hx, hy⟩ | ⟨hx, hy⟩
          · rw [hy] at HM
            rw [hx] at HCELL
            clear hcell hle hx0 hx1 hx hy
            have hcell := GR.out.cell HCELL.out
            go_wp2_with (at_builtin; refine wpList_append_own _ rfl _ _ 54 rfl w.heap.size 5 i0 (.int .u8 0) 1 1 Try.underlying54 hi hz0 hz1 hz2 rfl (by decide) _ _ _ rfl (ROW.out.alloc _) ⟨wr.heap.size, 0, none⟩ 1 1 [.int .u8 119] rfl rfl (cell_new1 _ _ _) (by simp [Value.oneCell']) (by unfold maxLen; omega) (by omega) (by have := GR.out.size; simp; omega) ?_)
            intro v2 w2 hown2 hgrow2 _
            have OX := hid (Own.appended8 hown2 HN.out)
            have GX := hid ((GR.out.alloc _).by_ hgrow2 (fun b e => by have := (ROW.out.lt b e).1; omega))
            clear hown2 hgrow2 hcell
            go_wp2_with fail
            go_roundw
            case rel => exact ⟨k + 1, by omega, by go_num, hid (by rw [HM.out, ints_append]; exact OX.out), GX⟩
            case measure => simp [intOf] <;> omega
          · rw [hy] at HM
            rw [hx] at HCELL
            clear hcell hle hx0 hx1 hx hy
            have hcell := GR.out.cell HCELL.out
            go_wp2_with (at_builtin; refine wpList_append_own _ rfl _ _ 54 rfl w.heap.size 5 i0 (.int .u8 0) 1 1 Try.underlying54 hi hz0 hz1 hz2 rfl (by decide) _ _ _ rfl (ROW.out.alloc _) ⟨wr.heap.size, 0, none⟩ 1 1 [.int .u8 121] rfl rfl (cell_new1 _ _ _) (by simp [Value.oneCell']) (by unfold maxLen; omega) (by omega) (by have := GR.out.size; simp; omega) ?_)
            intro v2 w2 hown2 hgrow2 _
            have OX := hid (Own.appended8 hown2 HN.out)
            have GX := hid ((GR.out.alloc _).by_ hgrow2 (fun b e => by have := (ROW.out.lt b e).1; omega))
            clear hown2 hgrow2 hcell
            go_wp2_with fail
            go_roundw
            case rel => exact ⟨k + 1, by omega, by go_num, hid (by rw [HM.out, ints_append]; exact OX.out), GX⟩
            case measure => simp [intOf] <;> omega
          · rw [hy] at HM
            rw [hx] at HCELL
            clear hcell hle hx0 hx1 hx hy
            have hcell := GR.out.cell HCELL.out
            go_wp2_with (at_builtin; refine wpList_append_own _ rfl _ _ 54 rfl w.heap.size 5 i0 (.int .u8 0) 1 1 Try.underlying54 hi hz0 hz1 hz2 rfl (by decide) _ _ _ rfl (ROW.out.alloc _) ⟨wr.heap.size, 0, none⟩ 1 1 [.int .u8 114] rfl rfl (cell_new1 _ _ _) (by simp [Value.oneCell']) (by unfold maxLen; omega) (by omega) (by have := GR.out.size; simp; omega) ?_)
            intro v2 w2 hown2 hgrow2 _
            have OX := hid (Own.appended8 hown2 HN.out)
            have GX := hid ((GR.out.alloc _).by_ hgrow2 (fun b e => by have := (ROW.out.lt b e).1; omega))
            clear hown2 hgrow2 hcell
            go_wp2_with fail
            go_roundw
            case rel => exact ⟨k + 1, by omega, by go_num, hid (by rw [HM.out, ints_append]; exact OX.out), GX⟩
            case measure => simp [intOf] <;> omega
          · rw [hy] at HM
            rw [hx] at HCELL
            clear hcell hle hx0 hx1 hx hy
            have hcell := GR.out.cell HCELL.out
            go_wp2_with (at_builtin; refine wpList_append_own _ rfl _ _ 54 rfl w.heap.size 5 i0 (.int .u8 0) 1 1 Try.underlying54 hi hz0 hz1 hz2 rfl (by decide) _ _ _ rfl (ROW.out.alloc _) ⟨wr.heap.size, 0, none⟩ 1 1 [.int .u8 98] rfl rfl (cell_new1 _ _ _) (by simp [Value.oneCell']) (by unfold maxLen; omega) (by omega) (by have := GR.out.size; simp; omega) ?_)
            intro v2 w2 hown2 hgrow2 _
            have OX := hid (Own.appended8 hown2 HN.out)
            have GX := hid ((GR.out.alloc _).by_ hgrow2 (fun b e => by have := (ROW.out.lt b e).1; omega))
            clear hown2 hgrow2 hcell
            go_wp2_with fail
            go_roundw
            case rel => exact ⟨k + 1, by omega, by go_num, hid (by rw [HM.out, ints_append]; exact OX.out), GX⟩
            case measure => simp [intOf] <;> omega
          · rw [hy] at HM
            rw [hx] at HCELL
            clear hcell hle hx0 hx1 hx hy
            have hcell := GR.out.cell HCELL.out
            go_wp2_with (at_builtin; refine wpList_append_own _ rfl _ _ 54 rfl w.heap.size 5 i0 (.int .u8 0) 1 1 Try.underlying54 hi hz0 hz1 hz2 rfl (by decide) _ _ _ rfl (ROW.out.alloc _) ⟨wr.heap.size, 0, none⟩ 1 1 [.int .u8 103] rfl rfl (cell_new1 _ _ _) (by simp [Value.oneCell']) (by unfold maxLen; omega) (by omega) (by have := GR.out.size; simp; omega) ?_)
            intro v2 w2 hown2 hgrow2 _
            have OX := hid (Own.appended8 hown2 HN.out)
            have GX := hid ((GR.out.alloc _).by_ hgrow2 (fun b e => by have := (ROW.out.lt b e).1; omega))
            clear hown2 hgrow2 hcell
            go_wp2_with fail
            go_roundw
            case rel => exact ⟨k + 1, by omega, by go_num, hid (by rw [HM.out, ints_append]; exact OX.out), GX⟩
            case measure => simp [intOf] <;> omega
          · rw [hy] at HM
            rw [hx] at HCELL
            clear hcell hle hx0 hx1 hx hy
            have hcell := GR.out.cell HCELL.out
            go_wp2_with (at_builtin; refine wpList_append_own _ rfl _ _ 54 rfl w.heap.size 5 i0 (.int .u8 0) 1 1 Try.underlying54 hi hz0 hz1 hz2 rfl (by decide) _ _ _ rfl (ROW.out.alloc _) ⟨wr.heap.size, 0, none⟩ 1 1 [.int .u8 107] rfl rfl (cell_new1 _ _ _) (by simp [Value.oneCell']) (by unfold maxLen; omega) (by omega) (by have := GR.out.size; simp; omega) ?_)
            intro v2 w2 hown2 hgrow2 _
            have OX := hid (Own.appended8 hown2 HN.out)
            have GX := hid ((GR.out.alloc _).by_ hgrow2 (fun b e => by have := (ROW.out.lt b e).1; omega))
            clear hown2 hgrow2 hcell
            go_wp2_with fail
            go_roundw
            case rel => exact ⟨k + 1, by omega, by go_num, hid (by rw [HM.out, ints_append]; exact OX.out), GX⟩
            case measure => simp [intOf] <;> omega
    · have hk24 : k = 24 := by omega
      have hlen : 0 < n := by have := HML.out; have := HTL.out; omega
      have hrd : Hid (∃ g, ao = some ⟨g, 0, none⟩ ∧ ∀ i, i < n → wr.cell? ⟨g, 0 + i, none⟩ = some (.int .u8 ((ints (textTo xs k)).getD i 0))) := by
        obtain ⟨g, e, _⟩ := OW0.out.at_ (i := 0) (by rw [HN.out]; exact hlen)
        subst e
        refine hid ⟨g, rfl, fun i hi => ?_⟩
        obtain ⟨g', e', _, hc', _⟩ := OW0.out.at_ (i := i) (by rw [HN.out]; exact hi)
        simp only [Option.some.injEq, Addr.mk.injEq] at e'
        obtain ⟨rfl, _⟩ := e'
        rw [Nat.zero_add]; exact hc'
      obtain ⟨g, rfl, hcs⟩ := hrd.out
      have hcv := run_convert_bytes_arg (P := Try.prog) wr 54 5 Try.underlying54 Try.underlying5 g 0 n co (ints (textTo xs k)) HN.out hcs 9 Try.underlying9
      rw [strOf_ints] at hcv
      have HV := hid (show textTo xs k = textTo xs 24 by rw [hk24])
      clear hrd hcs hk24
      go_wp2_with fail
      go_ret
      exact ⟨by rw [← HV.out]; rfl, GR.out⟩
end Go.Proofs.Ytnghcchkiodalaa
