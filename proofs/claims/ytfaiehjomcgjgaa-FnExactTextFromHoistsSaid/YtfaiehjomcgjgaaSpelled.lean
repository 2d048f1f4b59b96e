/- SpelledWord: the functions. -/
import Derived.Test.YtfaiehjomcgjgaaSpell
import Derived.Test.YtfaiehjomcgjgaaHoistU
import Derived.Laws.BytesArg
namespace Go.Proofs.Ytfaiehjomcgjgaa
set_option linter.unusedVariables false
open Go.RowKit
/-- No flag behind the letters. -/
def lowAt (xs : List Int) (i : Nat) : Bool := decide (xs.getD i 0 ≤ 25)
theorem lowAt_iff {xs : List Int} {i : Nat} : lowAt xs i = true ↔ xs.getD i 0 ≤ 25 := by simp [lowAt]
/-- The letters up to a place. -/
def spelledTo (xs : List Int) : Nat → List Int
  | 0 => []
  | k + 1 => if xs.getD k 0 = -10 then spelledTo xs k else spelledTo xs k ++ [97 + xs.getD k 0]
theorem spelledTo_brk {xs : List Int} {k : Nat} (h : xs.getD k 0 = -10) : spelledTo xs (k + 1) = spelledTo xs k := by rw [spelledTo, if_pos h]
theorem spelledTo_on {xs : List Int} {k : Nat} (h : ¬ xs.getD k 0 = -10) : spelledTo xs (k + 1) = spelledTo xs k ++ [97 + xs.getD k 0] := by rw [spelledTo, if_neg h]
theorem spelledTo_length (xs : List Int) (k : Nat) : (spelledTo xs k).length ≤ k := by
  induction k with
  | zero => simp [spelledTo]
  | succ k ih =>
    rw [spelledTo]
    split
    · omega
    · rw [List.length_append, List.length_singleton]; omega
def readB (xs : List Int) : Bool := allTo (lowAt xs) xs.length
def readV (xs : List Int) : ByteArray := if readB xs then strOfNums (spelledTo xs xs.length) else ⟨#[]⟩
def wordV (xs : List Int) : ByteArray := if plainH xs then readV xs else ⟨#[]⟩
def readC (xs : List Int) : Int := if readB xs then 0 else 2
theorem readC_yes {xs : List Int} (h : readB xs = true) : readC xs = 0 := by unfold readC; rw [if_pos h]
theorem readC_no {xs : List Int} (h : readB xs = false) : readC xs = 2 := by unfold readC; rw [h]; rfl
def wordC (xs : List Int) : Int := if plainH xs then readC xs else 1
theorem readV_yes {xs : List Int} (h : readB xs = true) : readV xs = strOfNums (spelledTo xs xs.length) := by unfold readV; rw [if_pos h]
theorem readV_no {xs : List Int} (h : readB xs = false) : readV xs = ⟨#[]⟩ := by unfold readV; rw [h]; rfl
theorem word_out {xs : List Int} (h : plainH xs = false) : wordV xs = ⟨#[]⟩ ∧ wordC xs = 1 := by unfold wordV wordC; rw [h]; exact ⟨rfl, rfl⟩
theorem word_in {xs : List Int} (h : plainH xs = true) : wordV xs = readV xs ∧ wordC xs = readC xs := by unfold wordV wordC; rw [h]; exact ⟨rfl, rfl⟩
theorem infoB : (Try.prog.info? 5).map (fun i => (i.zero, i.size, i.bytes)) = some (some (.int .u8 0), 1, 1) := by kernel_rfl
theorem cell_b1 (w : World) (v : Value) (t : TypeId) : ∀ j u, [v][j]? = some u → (w.alloc (.cells #[v] t)).cell? ((⟨w.heap.size, 0, none⟩ : Addr).add j) = some u := by
  intro j u hj
  match j, hj with
  | 0, hj => simp at hj; subst hj; simp [Addr.add]
/-- 'string(b)' of a slice of the call's own. -/
theorem conv_own {w : World} {lo hi n cap : Nat} {a : Option Addr} {xs : List Int} (h : Own .u8 5 w lo hi (.slice a n cap) xs) :
    (convert 48 9 (.slice a n cap)).run Try.prog w = .ok (.string (strOfNums xs)) w := by
  have hl := h.len
  rcases h.row.2 with ⟨h1, h2⟩ | ⟨g, cap', cur, h1, _⟩
  · simp only [Value.slice.injEq] at h1
    obtain ⟨rfl, rfl, rfl⟩ := h1
    have hx : xs = [] := List.length_eq_zero_iff.1 hl.symm
    subst hx
    exact run_convert_bytes_nil (P := Try.prog) w 48 5 Try.underlying48 Try.underlying5 0 0 9 Try.underlying9
  · simp only [Value.slice.injEq] at h1
    obtain ⟨rfl, _, rfl⟩ := h1
    refine run_convert_bytes_arg (P := Try.prog) w 48 5 Try.underlying48 Try.underlying5 g 0 n cap xs hl.symm (fun i hi0 => ?_) 9 Try.underlying9
    obtain ⟨g', e, _, hc, _⟩ := h.at_ (i := i) (by omega)
    simp only [Option.some.injEq, Addr.mk.injEq, and_true] at e
    subst e
    rw [Nat.zero_add]
    exact hc
def readRes (b : Bool) (xs : List Int) : Value := .tuple #[.string (readV xs), .bool b]
set_option maxRecDepth 100000 in
set_option maxHeartbeats 2000000 in
theorem l03Read_any (a : Option Addr) (n cap : Nat) (xs : List Int) (hn : n = xs.length) (h8 : n ≤ 8) (hp : ∀ i, i < n → xs.getD i 0 = -10 ∨ 0 ≤ xs.getD i 0) (w : World) (hs : SliceOf .i8 w a xs) :
    Calls Try.prog 12 #[.slice a n cap] w fun e w' => e = .returned (readRes (readB xs) xs) ∧ Gr w w' := by
  have S := hid hs
  have HN := hid hn
  have HP := hid hp
  have HV := hid (fun h => readV_yes (xs := xs) h)
  have HW := hid (fun h => readV_no (xs := xs) h)
  clear hs hn hp
  obtain ⟨i0, hi, hz0, hz1, hz2⟩ := info_parts infoB
  go_enter Try.func12, Try.ntmps12
  go_wp2
  go_loopw [4, 5] (fun v i wr => ∃ k : Nat, k ≤ n ∧ i = .int .i64 k ∧ Hid (allTo (lowAt xs) k = true) ∧ Hid (Own .u8 5 wr w.heap.size wr.heap.size v (spelledTo xs k)) ∧ Hid (Gr w wr)) (fun _ i _ => n - (intOf i).toNat)
  case atStart => exact ⟨0, Nat.zero_le _, rfl, hid rfl, hid ((Own.new (k := .u8) (e := 5) w [] (by simp)).widen (Nat.le_refl _) (by simp)), hid ((Gr.refl _).alloc _)⟩
  case round =>
    obtain ⟨k, hk, rfl, hok, ow, GR⟩ := hrel
    obtain ⟨ao, co, rfl⟩ := ow.out.shape
    have hsl := spelledTo_length xs k
    obtain ⟨m, hm⟩ : ∃ m, m = (spelledTo xs k).length := ⟨_, rfl⟩
    have ROW := hid ow.out.row
    rw [← hm] at ROW hsl ow ⊢
    have HM := hid hm.symm
    clear hm
    by_cases hlt : k < n
    · obtain ⟨b0, o0, rfl, c0⟩ := S.out k (by rw [← HN.out]; exact hlt)
      have hc0 := GR.out.cell c0
      clear c0
      have hx := HP.out k hlt
      have HY := hid (fun (h : xs.getD k 0 ≤ 25) => allTo_step hok.out (lowAt_iff.2 h))
      have HZ := hid (fun (h : ¬ xs.getD k 0 ≤ 25) => allTo_no (p := lowAt xs) (k := xs.length) (i := k) (by rw [← HN.out]; exact hlt) (by unfold lowAt; exact decide_eq_false h))
      have HB := hid (fun h => spelledTo_brk (xs := xs) (k := k) h)
      have HO := hid (fun h => spelledTo_on (xs := xs) (k := k) h)
      generalize xs.getD k 0 = x at *
      by_cases hb : x = -10
      · have HY' := hid (HY.out (by omega))
        have HE := hid (HB.out hb)
        clear HY HZ HB HO hx
        subst hb
        go_wp2_with fail
        go_roundw
        case rel => exact ⟨k + 1, by omega, by go_num, HY', hid (by rw [HE.out]; exact ow.out), GR⟩
        case measure => simp [intOf] <;> omega
      · have hx0 : 0 ≤ x := by omega
        have hbx : (x == -10) = false := by simpa using hb
        by_cases hl : x ≤ 25
        · have HY' := hid (HY.out hl)
          have HE := hid (HO.out hb)
          have e4 : IntKind.i8.wrap (97 + x) = 97 + x := IntWalk.i8_in _ (by omega)
          have e5 : IntKind.u8.wrap (97 + x) = 97 + x := IntWalk.u8_in _ (by omega)
          clear HY HZ HB HO hx hb
          go_wp2_with (at_builtin; refine wpList_append_own _ rfl _ _ 48 rfl w.heap.size 5 i0 (.int .u8 0) 1 1 Try.underlying48 hi hz0 hz1 hz2 rfl (by decide) _ _ _ rfl (ROW.out.alloc _) ⟨wr.heap.size, 0, none⟩ 1 1 [.int .u8 (97 + x)] rfl rfl (cell_b1 _ _ _) (by simp [Value.oneCell']) (by unfold maxLen; omega) (by omega) (by have := GR.out.size; simp; omega) ?_)
          intro v2 w2 hown2 hgrow2 _
          have OX := hid (Own.appended hown2 HE.out HM.out)
          have GX := hid ((GR.out.alloc _).by_ hgrow2 (fun b e => by have := (ROW.out.lt b e).1; omega))
          clear hown2 hgrow2
          go_wp2_with fail
          go_roundw
          case rel => exact ⟨k + 1, by omega, by go_num, HY', OX, GX⟩
          case measure => simp [intOf] <;> omega
        · have HZ' := hid (HZ.out hl)
          have HW' := hid (HW.out HZ'.out)
          clear HY HZ HB HO hx hb
          go_wp2_with fail
          go_ret2
          exact ⟨by unfold readRes; rw [show readB xs = false from HZ'.out, HW'.out]; try rfl, GR.out⟩
    · have hkn : k = xs.length := by rw [← HN.out]; omega
      have HB := hid (show readB xs = true by rw [hkn] at hok; exact hok.out)
      have hcv := conv_own ow.out
      have HE := hid (show strOfNums (spelledTo xs k) = readV xs by rw [HV.out HB.out, hkn])
      clear hkn
      go_wp2_with fail
      go_ret2
      exact ⟨by unfold readRes; rw [HB.out, ← HE.out]; try rfl, GR.out⟩
theorem plainH_nums {xs : List Int} (h : plainH xs = true) : ∀ i, i < xs.length → xs.getD i 0 = -10 ∨ 0 ≤ xs.getD i 0 := by
  intro i hi
  rw [plainH_up] at h
  simp only [Bool.and_eq_true] at h
  have h1 := allTo_iff.1 h.1 i hi
  unfold upAt at h1
  by_cases hb : xs.getD i 0 = -10
  · exact .inl hb
  · right
    rw [show (xs.getD i 0 != -10) = true by rw [bne_iff_ne]; exact hb, Bool.and_true, Bool.not_eq_true', decide_eq_false_iff_not] at h1
    omega
def wordRes (xs : List Int) : Value := .tuple #[.string (wordV xs), .int .i64 (wordC xs)]
set_option maxRecDepth 100000 in
set_option maxHeartbeats 2000000 in
theorem impl_SpelledWord_cap (a : Option Addr) (n cap : Nat) (xs : List Int) (hn : n = xs.length) (hm : n ≤ 1048576) (hcap : n ≤ cap) (hf : Fits .i8 xs) (w : World) (hs : SliceOf .i8 w a xs) :
    Calls Try.prog 16 #[.slice a n cap] w fun e w' => e = .returned (.tuple #[.string (wordV xs), .int .i64 (wordC xs)]) ∧ Gr w w' := by
  have HP := hid (impl_ValidMeaning_cap a n cap xs hn hm hcap hf w hs)
  cases hv : plainH xs with
  | false =>
    obtain ⟨e1, e2⟩ := word_out hv
    rw [e1, e2]
    rw [hv] at HP
    clear e1 e2 hv hs hf hn
    go_enter Try.func16, Try.ntmps16
    go_wp2_with fail
    refine HP.out.mono ?_
    rintro e w1 ⟨rfl, g1⟩
    have G1 := hid g1
    clear g1
    go_wp2_with fail
    go_ret2
    exact ⟨rfl, G1.out⟩
  | true =>
    obtain ⟨e1, e2⟩ := word_in hv
    rw [e1, e2]
    rw [hv] at HP
    have h8 := (validH_len (plainH_valid hv)).2
    rw [← hn] at h8
    have HPN := hid (plainH_nums hv)
    have S := hid hs
    have HN := hid hn
    have HV := hid (fun h => readV_yes (xs := xs) h)
    have HW := hid (fun h => readV_no (xs := xs) h)
    clear e1 e2 hv hs hf hn
    obtain ⟨i0, hi, hz0, hz1, hz2⟩ := info_parts infoB
    go_enter Try.func16, Try.ntmps16
    go_wp2_with fail
    refine HP.out.mono ?_
    rintro e w1 ⟨rfl, g1⟩
    have G1 := hid g1
    clear g1
    go_wp2_with fail
    go_loopw [4, 12] (fun v i wr => ∃ k : Nat, k ≤ n ∧ i = .int .i64 k ∧ Hid (allTo (lowAt xs) k = true) ∧ Hid (Own .u8 5 wr w1.heap.size wr.heap.size v (spelledTo xs k)) ∧ Hid (Gr w1 wr)) (fun _ i _ => n - (intOf i).toNat)
    case atStart => exact ⟨0, Nat.zero_le _, rfl, hid rfl, hid (Own.nil _ _ _), hid (Gr.refl _)⟩
    case round =>
      obtain ⟨k, hk, rfl, hok, ow, GR⟩ := hrel
      obtain ⟨ao, co, rfl⟩ := ow.out.shape
      have hsl := spelledTo_length xs k
      obtain ⟨m, hm⟩ : ∃ m, m = (spelledTo xs k).length := ⟨_, rfl⟩
      have ROW := hid ow.out.row
      rw [← hm] at ROW hsl ow ⊢
      have HM := hid hm.symm
      clear hm
      by_cases hlt : k < n
      · obtain ⟨b0, o0, rfl, c0⟩ := S.out k (by rw [← HN.out]; exact hlt)
        have hc0 := GR.out.cell (G1.out.cell c0)
        clear c0
        have hx := HPN.out k (by rw [← HN.out]; exact hlt)
        have HY := hid (fun (h : xs.getD k 0 ≤ 25) => allTo_step hok.out (lowAt_iff.2 h))
        have HZ := hid (fun (h : ¬ xs.getD k 0 ≤ 25) => allTo_no (p := lowAt xs) (k := xs.length) (i := k) (by rw [← HN.out]; exact hlt) (by unfold lowAt; exact decide_eq_false h))
        have HB := hid (fun h => spelledTo_brk (xs := xs) (k := k) h)
        have HO := hid (fun h => spelledTo_on (xs := xs) (k := k) h)
        generalize xs.getD k 0 = x at *
        by_cases hb : x = -10
        · have HY' := hid (HY.out (by omega))
          have HE := hid (HB.out hb)
          clear HY HZ HB HO hx
          subst hb
          go_wp2_with fail
          go_roundw
          case rel => exact ⟨k + 1, by omega, by go_num, HY', hid (by rw [HE.out]; exact ow.out), GR⟩
          case measure => simp [intOf] <;> omega
        · have hx0 : 0 ≤ x := by omega
          have hbx : (x == -10) = false := by simpa using hb
          by_cases hl : x ≤ 25
          · have HY' := hid (HY.out hl)
            have HE := hid (HO.out hb)
            have e5 : IntKind.u8.wrap (97 + x) = 97 + x := IntWalk.u8_in _ (by omega)
            have e6 : IntKind.u8.wrap x = x := IntWalk.u8_in _ (by omega)
            clear HY HZ HB HO hx hb
            go_wp2_with (at_builtin; refine wpList_append_own _ rfl _ _ 48 rfl w1.heap.size 5 i0 (.int .u8 0) 1 1 Try.underlying48 hi hz0 hz1 hz2 rfl (by decide) _ _ _ rfl (ROW.out.alloc _) ⟨wr.heap.size, 0, none⟩ 1 1 [.int .u8 (97 + x)] rfl rfl (cell_b1 _ _ _) (by simp [Value.oneCell']) (by unfold maxLen; omega) (by omega) (by have := GR.out.size; simp; omega) ?_)
            intro v2 w2 hown2 hgrow2 _
            have OX := hid (Own.appended hown2 HE.out HM.out)
            have GX := hid ((GR.out.alloc _).by_ hgrow2 (fun b e => by have := (ROW.out.lt b e).1; omega))
            clear hown2 hgrow2
            go_wp2_with fail
            go_roundw
            case rel => exact ⟨k + 1, by omega, by go_num, HY', OX, GX⟩
            case measure => simp [intOf] <;> omega
          · have HZ' := hid (HZ.out hl)
            have HW' := hid (HW.out HZ'.out)
            have GW := hid (G1.out.trans GR.out)
            clear HY HZ HB HO hx hb
            go_wp2_with fail
            go_ret2
            exact ⟨by rw [HW'.out, readC_no HZ'.out]; rfl, GW.out⟩
      · have hkn : k = xs.length := by rw [← HN.out]; omega
        have HB := hid (show readB xs = true by rw [hkn] at hok; exact hok.out)
        have hcv := conv_own ow.out
        have HE := hid (show strOfNums (spelledTo xs k) = readV xs by rw [HV.out HB.out, hkn])
        have GW := hid (G1.out.trans GR.out)
        clear hkn
        go_wp2_with fail
        go_ret2
        exact ⟨by rw [readC_yes HB.out, ← HE.out]; rfl, GW.out⟩
theorem impl_SpelledWord_any (a : Option Addr) (xs : List Int) (hm : xs.length ≤ 1048576) (hf : Fits .i8 xs) (w : World) (hs : SliceOf .i8 w a xs) :
    Calls Try.prog 16 #[.slice a xs.length xs.length] w fun e w' => e = .returned (.tuple #[.string (wordV xs), .int .i64 (wordC xs)]) ∧ Gr w w' := impl_SpelledWord_cap a _ _ xs rfl hm (Nat.le_refl _) hf w hs
end Go.Proofs.Ytfaiehjomcgjgaa
