/- TextFromHoists: both functions. -/
import Derived.Test.YtfaiehjomcgjgaaHoistsA
import Derived.Test.YtfaiehjomcgjgaaMeanP
import Derived.Test.YtfaiehjomcgjgaaStrs
import Derived.Test.YtfaiehjomcgjgaaShelf
import Derived.Lib.Join
namespace Go.Proofs.Ytfaiehjomcgjgaa
set_option linter.unusedVariables false
open Go.RowKit
def hwAt (hss : List (List Int)) (i : Nat) : ByteArray := readV (meanL (hss.getD i []))
def hokAt (hss : List (List Int)) (i : Nat) : Bool := readB (meanL (hss.getD i []))
def hvAt (hss : List (List Int)) (i : Nat) : Bool := validH (hss.getD i [])
/-- The first texts, with a space between them. -/
def joinK (f : Nat → ByteArray) : Nat → ByteArray
  | 0 => ⟨#[]⟩
  | k + 1 => (if 0 < k then joinK f k ++ ⟨#[32]⟩ else joinK f k) ++ f k
def tfhC (hss : List (List Int)) : Int := if allTo (hvAt hss) hss.length then (if hss.length ≤ 100 then (if allTo (hokAt hss) hss.length then 0 else 2) else 2) else 1
def tfhV (hss : List (List Int)) : ByteArray := if tfhC hss = 0 then joinK (hwAt hss) hss.length else ⟨#[]⟩
theorem tfh_no {hss : List (List Int)} (h : ¬ tfhC hss = 0) : tfhV hss = ⟨#[]⟩ := by unfold tfhV; rw [if_neg h]
theorem tfh_yes {hss : List (List Int)} (h : tfhC hss = 0) : tfhV hss = joinK (hwAt hss) hss.length := by unfold tfhV; rw [if_pos h]
theorem tfh_1 {hss : List (List Int)} {i : Nat} (hi : i < hss.length) (h : hvAt hss i = false) : tfhC hss = 1 := by unfold tfhC; rw [allTo_no hi h]; rfl
theorem tfh_2 {hss : List (List Int)} (h : allTo (hvAt hss) hss.length = true) (h2 : ¬ hss.length ≤ 100) : tfhC hss = 2 := by unfold tfhC; rw [if_pos h, if_neg h2]
theorem tfh_3 {hss : List (List Int)} (h : allTo (hvAt hss) hss.length = true) (h2 : hss.length ≤ 100) {i : Nat} (hi : i < hss.length) (h3 : hokAt hss i = false) : tfhC hss = 2 := by unfold tfhC; rw [if_pos h, if_pos h2, allTo_no hi h3]; rfl
theorem tfh_0 {hss : List (List Int)} (h : allTo (hvAt hss) hss.length = true) (h2 : hss.length ≤ 100) (h3 : allTo (hokAt hss) hss.length = true) : tfhC hss = 0 := by unfold tfhC; rw [if_pos h, if_pos h2, if_pos h3]
theorem allTo_atH {p : Nat → Bool} : ∀ {n : Nat}, allTo p n = true → ∀ i, i < n → p i = true
  | 0, _, i, hi => by omega
  | n + 1, h, i, hi => by
    cases hp : p i with
    | true => rfl
    | false => rw [allTo_no hi hp] at h; exact absurd h (by decide)
theorem size_nums (l : List Int) : (strOfNums l).size = l.length := by simp [strOfNums, ByteArray.size]
theorem readV_size {xs : List Int} (h : xs.length ≤ 8) : (readV xs).size ≤ 8 := by
  unfold readV
  split
  · rw [size_nums]; have := spelledTo_length xs xs.length; omega
  · exact Nat.zero_le _
theorem validH_le {xs : List Int} (h : validH xs = true) : xs.length ≤ 8 := (validH_len h).2
theorem hwAt_size {hss : List (List Int)} {i : Nat} (h : hvAt hss i = true) : (hwAt hss i).size ≤ 8 := readV_size (by rw [meanL_length]; exact validH_le h)
theorem joinK_size {f : Nat → ByteArray} : ∀ {k : Nat}, (∀ i, i < k → (f i).size ≤ 8) → (joinK f k).size ≤ 9 * k
  | 0, _ => by simp [joinK, ByteArray.size]
  | k + 1, h => by
    have h1 := joinK_size (f := f) (k := k) fun i hi => h i (by omega)
    have h2 := h k (Nat.lt_succ_self k)
    have h3 : (⟨#[32]⟩ : ByteArray).size = 1 := rfl
    unfold joinK
    split
    · rw [ByteArray.size_append, ByteArray.size_append, h3]; omega
    · rw [ByteArray.size_append]; omega
theorem join_snoc (xs : List (List UInt8)) (y sep : List UInt8) (h : xs ≠ []) : Lib.join (xs ++ [y]) sep = Lib.join xs sep ++ sep ++ y := by
  cases xs with
  | nil => exact absurd rfl h
  | cons x r =>
    rw [List.cons_append, Lib.join_cons, Lib.join_cons]
    unfold Lib.joinTail
    rw [List.map_append, List.flatten_append]
    simp
theorem joinK_eq (f : Nat → ByteArray) : ∀ n, (joinK f n).data.toList = Lib.join ((List.range n).map fun i => (f i).data.toList) [32]
  | 0 => by simp [joinK, Lib.join_nil]
  | n + 1 => by
    have ih := joinK_eq f n
    rw [List.range_succ, List.map_append, List.map_singleton]
    unfold joinK
    by_cases h : 0 < n
    · rw [if_pos h, join_snoc _ _ _ (by intro e; have := congrArg List.length e; simp at this; omega), ← ih]
      simp
    · obtain rfl : n = 0 := by omega
      rw [if_neg h]
      simp [joinK, Lib.join_one]
def wordsL (hss : List (List Int)) (n : Nat) : List ByteArray := (List.range n).map (hwAt hss)
theorem joinK_words (hss : List (List Int)) (n : Nat) : (⟨(Lib.join ((wordsL hss n).map (·.data.toList)) (⟨#[32]⟩ : ByteArray).data.toList).toArray⟩ : ByteArray) = joinK (hwAt hss) n := by
  have h := joinK_eq (hwAt hss) n
  unfold wordsL
  rw [List.map_map]
  have e : ((fun x : ByteArray => x.data.toList) ∘ hwAt hss) = fun i => (hwAt hss i).data.toList := rfl
  rw [e, show (⟨#[32]⟩ : ByteArray).data.toList = [32] from rfl, ← h]
set_option maxRecDepth 100000 in
set_option maxHeartbeats 2000000 in
theorem spec_TextFromHoists_any (a : Option Addr) (cap n : Nat) (hss : List (List Int)) (hl : n = hss.length) (hn : n ≤ 1048576) (hz : ∀ i, i < n → (hss.getD i []).length ≤ 1048576) (hf : ∀ i, Fits .i8 (hss.getD i [])) (w : World) (hs : SlicesX w a hss) :
    Calls Try.prog 5 #[.slice a n cap] w fun e w' => e = .returned (.tuple #[.string (tfhV hss), .int .i64 (tfhC hss)]) ∧ Gr w w' := by
  have HS := hid hs
  have HL := hid hl
  have HV1 := hid (fun V i (hi : i < n) a' (hr : SliceOf .i8 V a' (hss.getD i [])) => spec_ValidHoist_any a' (hss.getD i []) (hz i hi) (hf i) V hr)
  have HM1 := hid (fun V i (hi : i < n) a' (hr : SliceOf .i8 V a' (hss.getD i [])) => spec_MeaningOf_any a' (hss.getD i []) (hz i hi) (hf i) V hr)
  have H1 := hid (fun i (hi : i < n) (h : hvAt hss i = false) => tfh_1 (show i < hss.length by omega) h)
  have H2 := hid (fun (h : allTo (hvAt hss) n = true) (h2 : ¬ n ≤ 100) => tfh_2 (hss := hss) (by rw [← hl]; exact h) (by rw [← hl]; exact h2))
  have H3 := hid (fun (h : allTo (hvAt hss) n = true) (h2 : n ≤ 100) i (hi : i < n) (h3 : hokAt hss i = false) => tfh_3 (hss := hss) (by rw [← hl]; exact h) (by rw [← hl]; exact h2) (show i < hss.length by omega) h3)
  have H0 := hid (fun (h : allTo (hvAt hss) n = true) (h2 : n ≤ 100) (h3 : allTo (hokAt hss) n = true) => tfh_0 (hss := hss) (by rw [← hl]; exact h) (by rw [← hl]; exact h2) (by rw [← hl]; exact h3))
  have HNO := hid (fun (h : ¬ tfhC hss = 0) => tfh_no h)
  have HYE := hid (fun (h : tfhC hss = 0) => show tfhV hss = joinK (hwAt hss) n by rw [hl]; exact tfh_yes h)
  have HE := hid (fun i => And.intro (show hvAt hss i = validH (hss.getD i []) from rfl) (And.intro (show hokAt hss i = readB (meanL (hss.getD i [])) from rfl) (show hwAt hss i = readV (meanL (hss.getD i [])) from rfl)))
  have HJ := hid (fun k => show joinK (hwAt hss) (k + 1) = (if 0 < k then joinK (hwAt hss) k ++ ⟨#[32]⟩ else joinK (hwAt hss) k) ++ hwAt hss k from rfl)
  have HSZ := hid (fun (h : allTo (hvAt hss) n = true) k (hk : k ≤ n) => And.intro (joinK_size (f := hwAt hss) (k := k) fun i hi => hwAt_size (allTo_atH h i (by omega))) (fun (hk2 : k < n) => hwAt_size (allTo_atH h k hk2)))
  generalize tfhV hss = r at *
  generalize tfhC hss = c at *
  clear hs hl hz hf
  go_enter Try.func5, Try.ntmps5
  go_wp2_with fail
  go_loopw [4] (fun i wr => ∃ k : Nat, k ≤ n ∧ i = .int .i64 k ∧ Hid (allTo (hvAt hss) k = true) ∧ Hid (Gr w wr)) (fun i _ => n - (intOf i).toNat)
  case atStart => exact ⟨0, Nat.zero_le _, rfl, hid rfl, hid (Gr.refl _)⟩
  case round =>
    obtain ⟨k, hk, rfl, hok, gr⟩ := hrel
    by_cases hlt : k < n
    · obtain ⟨b, off, a', rfl, hc, hsl⟩ := (HS.out.gr gr.out) k (by rw [← HL.out]; exact hlt)
      have HVK := hid (HV1.out wr k hlt a' hsl)
      have HEK := hid (HE.out k).1
      have HST := hid (fun (h : hvAt hss k = true) => allTo_step hok.out h)
      have H1K := hid (H1.out k hlt)
      rw [← HEK.out] at HVK
      clear hsl HV1 HM1 H1 H2 H3 H0 HE HJ HSZ HYE
      generalize (hss.getD k []).length = m at *
      cases hv : hvAt hss k with
      | false =>
        rw [hv] at HVK
        have HC := hid (H1K.out hv)
        have HR := hid (HNO.out (by rw [HC.out]; decide))
        clear hv HST H1K HEK
        go_wp2_with fail
        refine HVK.out.mono ?_
        rintro e w1 ⟨rfl, g1⟩
        have G1 := hid (gr.out.trans g1)
        clear g1
        go_wp2_with fail
        go_ret2
        exact ⟨by rw [HC.out, HR.out]; rfl, G1.out⟩
      | true =>
        rw [hv] at HVK
        have HY := hid (HST.out hv)
        clear hv HST H1K HEK
        go_wp2_with fail
        refine HVK.out.mono ?_
        rintro e w1 ⟨rfl, g1⟩
        have G1 := hid (gr.out.trans g1)
        clear g1
        go_wp2_with fail
        go_roundw
        case rel => exact ⟨k + 1, by omega, by go_num, HY, G1⟩
        case measure => simp [intOf]; omega
    · have hall : allTo (hvAt hss) n = true := by rw [show n = k by omega]; exact hok.out
      have HA := hid hall
      clear hall hok
      by_cases h100 : n ≤ 100
      · have h100' : ¬ (100 : Int) < (n : Int) := by omega
        have H3K := hid (H3.out HA.out h100)
        have H0K := hid (H0.out HA.out h100)
        have HSK := hid (HSZ.out HA.out)
        clear H1 H2 H3 H0 HSZ HV1
        go_wp2_with fail
        go_loopw [5, 6, 7, 8, 9, 10] (fun o i _ _ _ _ wr => ∃ k : Nat, k ≤ n ∧ i = .int .i64 k ∧ o = .string (joinK (hwAt hss) k) ∧ Hid (allTo (hokAt hss) k = true) ∧ Hid (Gr w wr)) (fun _ i _ _ _ _ _ => n - (intOf i).toNat)
        case atStart => exact ⟨0, Nat.zero_le _, rfl, rfl, hid rfl, gr⟩
        case round =>
          clear hk gr
          obtain ⟨k, hk, rfl, rfl, hok, gr⟩ := hrel
          by_cases hlt : k < n
          · obtain ⟨b, off, a', rfl, hc, hsl⟩ := (HS.out.gr gr.out) k (by rw [← HL.out]; exact hlt)
            have hvk := allTo_atH HA.out k hlt
            have HMK := hid (HM1.out wr k hlt a' hsl)
            obtain ⟨e1, e2, e3⟩ := HE.out k
            have HST := hid (fun (h : hokAt hss k = true) => allTo_step hok.out h)
            have H3KK := hid (H3K.out k hlt)
            have HJK := hid (HJ.out k)
            obtain ⟨hz1, hz2⟩ := HSK.out k hk
            have hz3 := hz2 hlt
            rw [e1] at hvk
            unfold codeH at HMK
            rw [if_pos hvk, readL_yes hvk] at HMK
            have hml := meanL_length (hss.getD k [])
            have h8 := validH_le hvk
            have HRD := hid (fun b' cp V (hr : SliceOf .i8 V b' (meanL (hss.getD k []))) => l03Read_any b' (hss.getD k []).length cp (meanL (hss.getD k [])) hml.symm h8 (fun i hi => plainH_nums (mean_plain hvk) i (by rw [hml]; exact hi)) V hr)
            rw [← e2] at HRD
            unfold readRes at HRD
            rw [← e3] at HRD
            have HML := hid hml
            clear e1 e2 e3 hvk hsl HM1 HE HJ H3K HSK hz2 h8 hml
            generalize hwAt hss k = wd at *
            generalize (hss.getD k []).length = m at *
            cases hb : hokAt hss k with
            | false =>
              rw [hb] at HRD
              have HC := hid (H3KK.out hb)
              have HR := hid (HNO.out (by rw [HC.out]; decide))
              clear hb HST H3KK
              go_wp2_with fail
              refine HMK.out.mono ?_
              rintro e w1 ⟨v, rfl, ow, g1⟩
              obtain ⟨p1, c1, rfl⟩ := ow.shape
              have HR1 := hid (HRD.out p1 c1 w1 ow.reads)
              have G1 := hid (gr.out.trans g1)
              unfold withCode
              rw [HML.out]
              clear ow g1 HRD
              go_wp2_with fail
              refine HR1.out.mono ?_
              rintro e w2 ⟨rfl, g2⟩
              have G2 := hid (G1.out.trans g2)
              clear g2
              go_wp2_with fail
              go_ret2
              exact ⟨by rw [HC.out, HR.out]; rfl, G2.out⟩
            | true =>
              rw [hb] at HRD
              have HY := hid (HST.out hb)
              clear hb HST H3KK
              have hsp : (⟨#[32]⟩ : ByteArray).size = 1 := rfl
              by_cases hk0 : 0 < k
              · rw [if_pos hk0] at HJK
                have hs1 : (joinK (hwAt hss) k).size + (⟨#[32]⟩ : ByteArray).size ≤ 9223372036854775807 := by rw [hsp]; omega
                have hs2 : (joinK (hwAt hss) k ++ ⟨#[32]⟩).size + wd.size ≤ 9223372036854775807 := by rw [ByteArray.size_append, hsp]; omega
                clear hz1 hz3 hsp
                go_wp2_with fail
                refine HMK.out.mono ?_
                rintro e w1 ⟨v, rfl, ow, g1⟩
                obtain ⟨p1, c1, rfl⟩ := ow.shape
                have HR1 := hid (HRD.out p1 c1 w1 ow.reads)
                have G1 := hid (gr.out.trans g1)
                unfold withCode
                rw [HML.out]
                clear ow g1 HRD
                go_wp2_with fail
                refine HR1.out.mono ?_
                rintro e w2 ⟨rfl, g2⟩
                have G2 := hid (G1.out.trans g2)
                clear g2
                go_wp2_with fail
                go_roundw
                case rel => exact ⟨k + 1, by omega, by go_num, by rw [HJK.out], HY, G2⟩
                case measure => simp [intOf]; omega
              · rw [if_neg hk0] at HJK
                have hs2 : (joinK (hwAt hss) k).size + wd.size ≤ 9223372036854775807 := by omega
                clear hz1 hz3 hsp
                go_wp2_with fail
                refine HMK.out.mono ?_
                rintro e w1 ⟨v, rfl, ow, g1⟩
                obtain ⟨p1, c1, rfl⟩ := ow.shape
                have HR1 := hid (HRD.out p1 c1 w1 ow.reads)
                have G1 := hid (gr.out.trans g1)
                unfold withCode
                rw [HML.out]
                clear ow g1 HRD
                go_wp2_with fail
                refine HR1.out.mono ?_
                rintro e w2 ⟨rfl, g2⟩
                have G2 := hid (G1.out.trans g2)
                clear g2
                go_wp2_with fail
                go_roundw
                case rel => exact ⟨k + 1, by omega, by go_num, by rw [HJK.out], HY, G2⟩
                case measure => simp [intOf]; omega
          · have hkn : k = n := by omega
            have HK := hid hkn
            have hok2 : allTo (hokAt hss) n = true := by rw [← hkn]; exact hok.out
            have HC := hid (H0K.out hok2)
            have HR := hid (HYE.out HC.out)
            clear hkn hok2
            go_wp2_with fail
            go_ret2
            exact ⟨by rw [HC.out, HR.out, HK.out]; rfl, gr.out⟩
      · have h100' : (100 : Int) < (n : Int) := by omega
        have HC := hid (H2.out HA.out h100)
        have HR := hid (HNO.out (by rw [HC.out]; decide))
        go_wp2_with fail
        go_ret2
        exact ⟨by rw [HC.out, HR.out]; rfl, gr.out⟩
theorem Own.capH {k : IntKind} {e : TypeId} {w : World} {lo hi n cap : Nat} {a : Option Addr} {xs : List Int} (h : Own k e w lo hi (.slice a n cap) xs) : n ≤ cap := by
  rcases h.row.2 with ⟨h1, _⟩ | ⟨g', cap', cur, h1, _, _, h2, _⟩
  · simp only [Value.slice.injEq] at h1
    omega
  · have hl := h.len
    simp only [Value.slice.injEq] at h1
    obtain ⟨_, _, rfl⟩ := h1
    omega
theorem mean_fitsT {h : List Int} (hv : validH h = true) : Fits .i8 (meanL h) := by
  intro x hx
  obtain ⟨i, hi, rfl⟩ := List.getElem_of_mem hx
  have hi' : i < h.length := by rw [← meanL_length h]; exact hi
  have e : (meanL h).getD i 0 = (meanL h)[i] := by simp [List.getD, List.getElem?_eq_getElem hi]
  have hp : (meanL h).getD i 0 = -10 ∨ (0 ≤ (meanL h).getD i 0 ∧ (meanL h).getD i 0 ≤ 39) := by
    by_cases hb : h.getD i 0 = -10
    · exact .inl ((meanL_brk hv hi').2 hb)
    · exact .inr (meanTo_kind (validH_all hv) i hi' hb)
  rw [e] at hp
  generalize (meanL h)[i] = x at *
  simp [Lit.wf, IntKind.min, IntKind.max, IntKind.signed, IntKind.bits]
  omega
set_option maxRecDepth 100000 in
set_option maxHeartbeats 1000000 in
theorem allHoists_any (a : Option Addr) (cap n : Nat) (hss : List (List Int)) (hl : n = hss.length) (hn : n ≤ 1048576) (hz : ∀ i, i < n → (hss.getD i []).length ≤ 1048576) (hf : ∀ i, Fits .i8 (hss.getD i [])) (w : World) (hs : SlicesX w a hss) :
    Calls Try.prog 14 #[.slice a n cap, .func (.func 15) #[] #[]] w fun e w' => e = .returned (.bool (allTo (hvAt hss) n)) ∧ Gr w w' := by
  have HS := hid hs
  have HL := hid hl
  have HV1 := hid (fun V i (hi : i < n) a' (hr : SliceOf .i8 V a' (hss.getD i [])) => impl_ValidHoist_any a' (hss.getD i []) (hz i hi) (hf i) V hr)
  have hcf := callFunc_enter Try.func15 (by kernel_rfl) (by kernel_rfl)
  have HNO := hid (fun k (hk : k < n) (h : hvAt hss k = false) => show allTo (hvAt hss) n = false from allTo_no hk h)
  have HE := hid (fun i => show hvAt hss i = validH (hss.getD i []) from rfl)
  clear hs hl hz hf
  go_enter Try.func14, Try.ntmps14
  go_wp2_with fail
  go_loopw [6, 9] (fun _ i wr => ∃ k : Nat, k ≤ n ∧ i = .int .i64 k ∧ Hid (allTo (hvAt hss) k = true) ∧ Hid (Gr w wr)) (fun _ i _ => n - (intOf i).toNat)
  case atStart => exact ⟨0, Nat.zero_le _, rfl, hid rfl, hid (Gr.refl _)⟩
  case round =>
    obtain ⟨k, hk, rfl, hok, gr⟩ := hrel
    by_cases hlt : k < n
    · obtain ⟨b, off, a', rfl, hc, hsl⟩ := (HS.out.gr gr.out) k (by rw [← HL.out]; exact hlt)
      have HVK := hid (HV1.out wr k hlt a' hsl)
      have HEK := hid (HE.out k)
      have HST := hid (fun (h : hvAt hss k = true) => allTo_step hok.out h)
      have HNK := hid (HNO.out k hlt)
      rw [← HEK.out] at HVK
      clear hsl HV1 HE HEK
      generalize (hss.getD k []).length = m at *
      cases hv : hvAt hss k with
      | false =>
        rw [hv] at HVK
        have HZ := hid (HNK.out hv)
        clear hv HST HNK
        go_wp2_with fail
        refine HVK.out.mono ?_
        rintro e w1 ⟨rfl, g1⟩
        have G1 := hid (gr.out.trans g1)
        clear g1
        go_wp2_with fail
        go_ret
        exact ⟨ret_bool HZ.out.symm, G1.out⟩
      | true =>
        rw [hv] at HVK
        have HY := hid (HST.out hv)
        clear hv HST HNK
        go_wp2_with fail
        refine HVK.out.mono ?_
        rintro e w1 ⟨rfl, g1⟩
        have G1 := hid (gr.out.trans g1)
        clear g1
        go_wp2_with fail
        go_roundw
        case rel => exact ⟨k + 1, by omega, by go_num, HY, G1⟩
        case measure => simp [intOf]; omega
    · have HZ := hid (show allTo (hvAt hss) n = true by rw [show n = k by omega]; exact hok.out)
      go_wp2_with fail
      go_ret
      exact ⟨ret_bool HZ.out.symm, gr.out⟩
theorem wordsL_length (hss : List (List Int)) (n : Nat) : (wordsL hss n).length = n := by simp [wordsL]
theorem wordsL_get {hss : List (List Int)} {n k : Nat} (h : k < n) : (wordsL hss n).getD k ByteArray.empty = hwAt hss k := by simp [wordsL, List.getD, h]
set_option maxRecDepth 100000 in
set_option maxHeartbeats 2000000 in
theorem impl_TextFromHoists_any (a : Option Addr) (cap n : Nat) (hss : List (List Int)) (hl : n = hss.length) (hn : n ≤ 1048576) (hz : ∀ i, i < n → (hss.getD i []).length ≤ 1048576) (hf : ∀ i, Fits .i8 (hss.getD i [])) (w : World) (hs : SlicesX w a hss) :
    Calls Try.prog 7 #[.slice a n cap] w fun e w' => e = .returned (.tuple #[.string (tfhV hss), .int .i64 (tfhC hss)]) ∧ Gr w w' := by
  have HS := hid hs
  have HL := hid hl
  have HA0 := hid (allHoists_any a cap n hss hl hn hz hf w hs)
  have HM1 := hid (fun V i (_hi : i < n) a' (hv : validH (hss.getD i []) = true) (hr : SliceOf .i8 V a' (hss.getD i [])) => meaning_any a' (hss.getD i []).length (hss.getD i []).length (hss.getD i []) rfl (by have := validH_le hv; omega) (hf i) hv V hr)
  have H2 := hid (fun (h : allTo (hvAt hss) n = true) (h2 : ¬ n ≤ 100) => tfh_2 (hss := hss) (by rw [← hl]; exact h) (by rw [← hl]; exact h2))
  have H3 := hid (fun (h : allTo (hvAt hss) n = true) (h2 : n ≤ 100) i (hi : i < n) (h3 : hokAt hss i = false) => tfh_3 (hss := hss) (by rw [← hl]; exact h) (by rw [← hl]; exact h2) (show i < hss.length by omega) h3)
  have H0 := hid (fun (h : allTo (hvAt hss) n = true) (h2 : n ≤ 100) (h3 : allTo (hokAt hss) n = true) => tfh_0 (hss := hss) (by rw [← hl]; exact h) (by rw [← hl]; exact h2) (by rw [← hl]; exact h3))
  have HNO := hid (fun (h : ¬ tfhC hss = 0) => tfh_no h)
  have HYE := hid (fun (h : tfhC hss = 0) => show tfhV hss = joinK (hwAt hss) n by rw [hl]; exact tfh_yes h)
  have HE := hid (fun i => And.intro (show hvAt hss i = validH (hss.getD i []) from rfl) (And.intro (show hokAt hss i = readB (meanL (hss.getD i [])) from rfl) (show hwAt hss i = readV (meanL (hss.getD i [])) from rfl)))
  have HJW := hid (joinK_words hss n)
  have HSZ := hid (fun (h : allTo (hvAt hss) n = true) => joinK_size (f := hwAt hss) (k := n) fun i hi => hwAt_size (allTo_atH h i (by omega)))
  cases hall : allTo (hvAt hss) n with
  | false =>
    have HC : Hid (tfhC hss = 1) := hid (by unfold tfhC; rw [← hl, hall]; rfl)
    have HR := hid (HNO.out (by rw [HC.out]; decide))
    rw [HC.out, HR.out]
    rw [hall] at HA0
    clear hall hs hl hz hf
    go_enter Try.func7, Try.ntmps7
    go_wp2_with fail
    refine HA0.out.mono ?_
    rintro e w1 ⟨rfl, g1⟩
    have G1 := hid g1
    clear g1
    go_wp2_with fail
    go_ret2
    exact ⟨rfl, G1.out⟩
  | true =>
    rw [hall] at HA0
    by_cases h100 : n ≤ 100
    · have h100' : ¬ (100 : Int) < (n : Int) := by omega
      have H3K := hid (H3.out hall h100)
      have H0K := hid (H0.out hall h100)
      have HSK := hid (HSZ.out hall)
      have HVA := hid (allTo_atH hall)
      have hmk := run_make_strs (P := Try.prog) (t := 41) (e := 9) (bytes := 16) Try.underlying41 (by kernel_rfl) n (by omega) (by omega)
      generalize tfhV hss = r at *
      generalize tfhC hss = c at *
      clear hall hs hl hz hf H2 H3 H0 HSZ
      go_enter Try.func7, Try.ntmps7
      go_wp2_with fail
      refine HA0.out.mono ?_
      rintro e w1 ⟨rfl, g1⟩
      have G1 := hid g1
      clear g1
      have hmk1 := hmk w1
      clear hmk
      go_wp2_with fail
      clear hmk1
      go_loopw [5, 6, 7, 8, 20] (fun _ _ _ _ i wr => ∃ k : Nat, k ≤ n ∧ i = .int .i64 k ∧ Hid (allTo (hokAt hss) k = true) ∧ Hid (wr.heap[w1.heap.size]? = some (.cells (strCells (fillS n (wordsL hss n) k)) 9 (0, 0))) ∧ Hid (Gr w1 wr)) (fun _ _ _ _ i _ => n - (intOf i).toNat)
      case atStart => exact ⟨0, Nat.zero_le _, rfl, hid rfl, hid (by rw [fillS_zero]; exact heap_new rfl), hid ((Gr.refl _).alloc _)⟩
      case round =>
        obtain ⟨k, hk, rfl, hok, hb, gr⟩ := hrel
        by_cases hlt : k < n
        · have GW := hid (G1.out.trans gr.out)
          obtain ⟨b, off, a', rfl, hc, hsl⟩ := (HS.out.gr GW.out) k (by rw [← HL.out]; exact hlt)
          have hvk := HVA.out k hlt
          obtain ⟨e1, e2, e3⟩ := HE.out k
          have HST := hid (fun (h : hokAt hss k = true) => allTo_step hok.out h)
          have H3KK := hid (H3K.out k hlt)
          have HSET := hid (fillS_set (wordsL_length hss n).symm hlt)
          rw [wordsL_get hlt] at HSET
          rw [e1] at hvk
          have HMK := hid (HM1.out wr k hlt a' hvk hsl)
          have hml := meanL_length (hss.getD k [])
          have h8 := validH_le hvk
          have HRD := hid (fun b' cp V (hcp : (meanL (hss.getD k [])).length ≤ cp) (hr : SliceOf .i8 V b' (meanL (hss.getD k []))) => impl_SpelledWord_cap b' (meanL (hss.getD k [])).length cp (meanL (hss.getD k [])) rfl (by omega) hcp (mean_fitsT hvk) V hr)
          obtain ⟨w1', w2'⟩ := word_in (mean_plain hvk)
          rw [w1', w2', ← e3] at HRD
          have hrc : readC (meanL (hss.getD k [])) = if hokAt hss k then 0 else 2 := by rw [e2]; rfl
          rw [hrc] at HRD
          clear e1 e2 e3 hvk hsl HM1 HE H3K h8 hml w1' w2' hrc
          generalize hwAt hss k = wd at *
          obtain ⟨m2, hm2⟩ : ∃ m2, m2 = (meanL (hss.getD k [])).length := ⟨_, rfl⟩
          rw [← hm2] at HRD
          have HM2 := hid hm2
          clear hm2
          generalize (hss.getD k []).length = m at *
          cases hbk : hokAt hss k with
          | false =>
            rw [hbk] at HRD
            have HC := hid (H3KK.out hbk)
            have HR := hid (HNO.out (by rw [HC.out]; decide))
            clear hbk HST H3KK HSET
            go_wp2_with fail
            refine HMK.out.mono ?_
            rintro e w2 ⟨v, rfl, ow, g2⟩
            obtain ⟨p1, c1, rfl⟩ := ow.shape
            rw [← HM2.out] at ow ⊢
            have HR1 := hid (HRD.out p1 c1 w2 ow.capH ow.reads)
            have G2 := hid (GW.out.trans g2)
            have GR2 := hid (gr.out.trans g2)
            have HB2 := hid (g2.heap hb.out)
            clear ow g2 HRD
            go_wp2_with fail
            refine HR1.out.mono ?_
            rintro e w3 ⟨rfl, g3⟩
            have G3 := hid (G2.out.trans g3)
            have GR3 := hid (GR2.out.trans g3)
            have HB3 := hid (g3.heap HB2.out)
            clear g3
            go_wp2_with fail
            go_ret2
            exact ⟨by rw [HC.out, HR.out]; rfl, G3.out⟩
          | true =>
            rw [hbk] at HRD
            have HY := hid (HST.out hbk)
            clear hbk HST H3KK
            go_wp2_with fail
            refine HMK.out.mono ?_
            rintro e w2 ⟨v, rfl, ow, g2⟩
            obtain ⟨p1, c1, rfl⟩ := ow.shape
            rw [← HM2.out] at ow ⊢
            have HR1 := hid (HRD.out p1 c1 w2 ow.capH ow.reads)
            have G2 := hid (GW.out.trans g2)
            have GR2 := hid (gr.out.trans g2)
            have HB2 := hid (g2.heap hb.out)
            clear ow g2 HRD
            go_wp2_with fail
            refine HR1.out.mono ?_
            rintro e w3 ⟨rfl, g3⟩
            have G3 := hid (G2.out.trans g3)
            have GR3 := hid (GR2.out.trans g3)
            have HB3 := hid (g3.heap HB2.out)
            clear g3
            have hc1 := cell_strs HB3.out (i := k) (by rw [fillS_length (wordsL_length hss n).symm hk]; exact hlt)
            have hf1 : w3.frozen? ⟨w1.heap.size, k, none⟩ = false := frozen_of_row _ _ _ _ _ HB3.out
            generalize (fillS n (wordsL hss n) k).getD k ByteArray.empty = y at *
            go_wp2_with fail
            go_roundw
            case rel => exact ⟨k + 1, by omega, by go_num, HY, hid (by rw [← HSET.out]; exact heap_str_set HB3.out), hid (GR3.out.setCell (by dsimp only; omega) _)⟩
            case measure => simp [intOf]; omega
        · have hkn : k = n := by omega
          have hok2 : allTo (hokAt hss) n = true := by rw [← hkn]; exact hok.out
          have HC := hid (H0K.out hok2)
          have HR := hid (HYE.out HC.out)
          rw [hkn, fillS_all (wordsL_length hss n).symm] at hb
          have HJO := hid (Try.strings_Join w1.heap.size 0 n (wordsL hss n) ⟨#[32]⟩ wr (fun j x hx => by
            rw [Nat.zero_add, cell_of_row _ _ _ _ _ _ hb.out]
            unfold strCells
            simp [hx]) (lt_of_heap hb.out) (by rw [wordsL_length]; omega) (by rw [wordsL_length]; exact Nat.le_refl _) (by
            have h1 := congrArg ByteArray.size HJW.out
            have h2 := HSK.out
            rw [← h1] at h2
            have h3 : (⟨(Lib.join ((wordsL hss n).map (·.data.toList)) (⟨#[32]⟩ : ByteArray).data.toList).toArray⟩ : ByteArray).size = (Lib.join ((wordsL hss n).map (·.data.toList)) (⟨#[32]⟩ : ByteArray).data.toList).length := by simp [ByteArray.size]
            rw [h3] at h2
            omega))
          rw [HJW.out, wordsL_length] at HJO
          clear hok2 hkn
          go_wp2_with fail
          refine HJO.out.mono ?_
          rintro e w2 ⟨rfl, g2⟩
          have G2 := hid (G1.out.trans (gr.out.trans g2))
          clear g2
          go_wp2_with fail
          go_ret2
          exact ⟨by rw [HC.out, HR.out]; rfl, G2.out⟩
    · have h100' : (100 : Int) < (n : Int) := by omega
      have HC := hid (H2.out hall h100)
      have HR := hid (HNO.out (by rw [HC.out]; decide))
      rw [HC.out, HR.out]
      clear hall hs hl hz hf
      go_enter Try.func7, Try.ntmps7
      go_wp2_with fail
      refine HA0.out.mono ?_
      rintro e w1 ⟨rfl, g1⟩
      have G1 := hid g1
      clear g1
      go_wp2_with fail
      go_ret2
      exact ⟨rfl, G1.out⟩
end Go.Proofs.Ytfaiehjomcgjgaa
