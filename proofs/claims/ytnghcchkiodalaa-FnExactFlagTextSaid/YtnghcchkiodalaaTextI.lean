/- FlagText: what the program's function writes. -/
import Derived.Test.YtnghcchkiodalaaBuild
namespace Go.Proofs.Ytnghcchkiodalaa
open Go.RowKit
set_option maxHeartbeats 4000000 in
set_option maxRecDepth 100000 in
theorem impl_FlagText_any (xs : List Int) (hl : xs.length = 24) (hb : Bytes xs) (w : World) :
    Calls Try.prog 39 #[.agg (byteCells xs)] w fun e w' => e = .returned (.string (textV xs)) ∧ Gr w w' := by
  have HL := hid hl
  have HB := hid hb
  clear hl hb
  have g0 := (Grown.refl w).alloc (byteCells xs) 26
  have b0 := hid (new_block w xs 26)
  cases hok : okB xs with
  | false =>
    have HV := hid (textV_no hok)
    have HOK := hid hok
    clear hok
    go_enter Try.func39, Try.ntmps39
    go_wp2_with (refine wpList_load_bytes rfl 26 _ rfl _ rfl _ xs _ 24 b0.out Try.underlying26 (by kernel_rfl) HL.out ?_)
    refine (impl_ValidFlag_any xs HL.out HB.out _).mono ?_
    rintro e w1 ⟨rfl, g1⟩
    rw [HOK.out]
    have G1 := hid (Gr.of (Grown_trans g0 g1))
    clear g0 g1 b0
    go_wp2_with fail
    go_ret
    exact ⟨by rw [HV.out]; rfl, G1.out⟩
  | true =>
    have HV := hid (textV_yes hok)
    have HOK := hid hok
    clear hok
    go_enter Try.func39, Try.ntmps39
    go_wp2_with (refine wpList_load_bytes rfl 26 _ rfl _ rfl _ xs _ 24 b0.out Try.underlying26 (by kernel_rfl) HL.out ?_)
    refine (impl_ValidFlag_any xs HL.out HB.out _).mono ?_
    rintro e w1 ⟨rfl, g1⟩
    rw [HOK.out]
    have G1 := hid (Gr.of (Grown_trans g0 g1))
    have b1 := hid (heap_kept (o := .cells #[.pointer none, .slice none 0 0] 93) (heap_grown g1 b0.out))
    clear g0 g1 b0
    go_wp2_with (refine wpList_load_bytes rfl 26 _ rfl _ rfl _ xs _ 24 b1.out Try.underlying26 (by kernel_rfl) HL.out ?_)
    go_loopw [10] (fun i wr => ∃ k : Nat, k ≤ 24 ∧ i = .int .i64 k ∧ Hid (Bld w1.heap.size (textTo xs k) wr) ∧ Hid (Gr w1 wr)) (fun i _ => 24 - (intOf i).toNat)
    case atStart => exact ⟨0, Nat.zero_le _, rfl, hid (Lib.fresh_isBuilder 93 5 w1), hid ((Gr.refl _).alloc _)⟩
    case round =>
      obtain ⟨k, hk, rfl, BU, GR⟩ := hrel
      have HTL := hid (textTo_length xs k)
      by_cases hlt : k < 24
      · have hi := run_index_bytes (P := Try.prog) Try.underlying26 Try.underlying5 (by kernel_rfl) xs k hlt HL.out
        have hle := okB_le HOK.out (k := k) (by rw [HL.out]; exact hlt)
        obtain ⟨hx0, hx1⟩ := HB.out.get k
        have hk0 : (0 : Int) ≤ k := by omega
        have hk1 : (k : Int) < 24 := by omega
        have e1 : (k : Int).tmod 6 = (k : Int) % 6 := Int.tmod_eq_emod_of_nonneg hk0
        have e3 : IntKind.i64.wrap ((k : Int) % 6) = (k : Int) % 6 := IntWalk.i64_in _ (by omega)
        by_cases hcut : 0 < k ∧ k % 6 = 0
        · have HM := hid (textTo_cut (xs := xs) hcut)
          obtain ⟨hp, hm⟩ := hcut
          have t1 : decide ((0 : Int) < (k : Int)) = true := by rw [decide_eq_true_iff]; omega
          have t2 : (k : Int) % 6 = 0 := by omega
          rcases letB_at hx0 hle with ⟨hx, hy⟩ | ⟨hx, hy⟩ | ⟨hx, hy⟩ | ⟨hx, hy⟩ | ⟨hx, hy⟩ | ⟨hx, hy⟩
          all_goals
            rw [hy] at HM
            rw [hx] at hi
            clear hle hx0 hx1 hx hy
            go_wp2_with fail
            refine (write_any w1.heap.size _ 47 wr BU.out (by have := HTL.out; omega) GR.out.size).mono ?_
            rintro e w2 ⟨rfl, B2, g2⟩
            have BU2 := hid B2
            have GR2 : Hid (Gr w1 w2) := hid (Below.trans GR.out g2)
            clear B2 g2
            go_wp2_with fail
            refine (write_any w1.heap.size _ _ w2 BU2.out (by rw [List.length_append]; have := HTL.out; simp; omega) GR2.out.size).mono ?_
            rintro e w3 ⟨rfl, B3, g3⟩
            have BU3 := hid B3
            clear B3
            go_wp2_with fail
            go_roundw
            case rel => exact ⟨k + 1, by omega, by go_num, hid (by rw [HM.out]; exact BU3.out), hid (Below.trans GR2.out g3)⟩
            case measure => simp [intOf] <;> omega
        · have HM := hid (textTo_on (xs := xs) hcut)
          by_cases hp : 0 < k
          · have t1 : decide ((0 : Int) < (k : Int)) = true := by rw [decide_eq_true_iff]; omega
            have t2 : ¬ (k : Int) % 6 = 0 := by omega
            have t3 : ((k : Int) % 6 == 0) = false := by simpa using t2
            clear hcut
            rcases letB_at hx0 hle with ⟨hx, hy⟩ | ⟨hx, hy⟩ | ⟨hx, hy⟩ | ⟨hx, hy⟩ | ⟨hx, hy⟩ | ⟨hx, hy⟩
            all_goals
              rw [hy] at HM
              rw [hx] at hi
              clear hle hx0 hx1 hx hy
              go_wp2_with fail
              refine (write_any w1.heap.size _ _ wr BU.out (by have := HTL.out; omega) GR.out.size).mono ?_
              rintro e w3 ⟨rfl, B3, g3⟩
              have BU3 := hid B3
              clear B3
              go_wp2_with fail
              go_roundw
              case rel => exact ⟨k + 1, by omega, by go_num, hid (by rw [HM.out]; exact BU3.out), hid (Below.trans GR.out g3)⟩
              case measure => simp [intOf] <;> omega
          · have t1 : decide ((0 : Int) < (k : Int)) = false := by rw [decide_eq_false_iff_not]; omega
            clear hcut e1 e3
            rcases letB_at hx0 hle with ⟨hx, hy⟩ | ⟨hx, hy⟩ | ⟨hx, hy⟩ | ⟨hx, hy⟩ | ⟨hx, hy⟩ | ⟨hx, hy⟩
            all_goals
              rw [hy] at HM
              rw [hx] at hi
              clear hle hx0 hx1 hx hy
              go_wp2_with fail
              refine (write_any w1.heap.size _ _ wr BU.out (by have := HTL.out; omega) GR.out.size).mono ?_
              rintro e w3 ⟨rfl, B3, g3⟩
              have BU3 := hid B3
              clear B3
              go_wp2_with fail
              go_roundw
              case rel => exact ⟨k + 1, by omega, by go_num, hid (by rw [HM.out]; exact BU3.out), hid (Below.trans GR.out g3)⟩
              case measure => simp [intOf] <;> omega
      · have hk24 : k = 24 := by omega
        have HE := hid (show textTo xs k = textTo xs 24 by rw [hk24])
        clear hk24
        go_wp2_with fail
        refine (Try.Builder_String_any w1.heap.size w1.heap.size (textTo xs k) wr BU.out GR.out.size).mono ?_
        rintro e w2 ⟨rfl, g2⟩
        go_wp2_with fail
        go_ret
        exact ⟨by rw [HV.out, ← HE.out]; rfl, Gr.trans G1.out (Below.trans GR.out g2)⟩
end Go.Proofs.Ytnghcchkiodalaa
