/- A drawn meaning. -/
import Derived.Test.YtbbkjhnihoohpaaSrc
import Derived.Test.YtbbkjhnihoohpaaMeantM
namespace Go.Proofs.Ytbbkjhnihoohpaa
open Go.RowKit
theorem Src.more {w : World} {b : Nat} {ca : Option Addr} {cn cc q q' : Nat} (h : Src w b ca cn cc q) (hq : q ≤ q') : Src w b ca cn cc q' := by
  obtain ⟨i, sd, hi, hB⟩ := h
  exact ⟨i, sd, by omega, hB⟩
theorem Src.lt {w : World} {b : Nat} {ca : Option Addr} {cn cc q : Nat} (h : Src w b ca cn cc q) : b < w.heap.size := by
  obtain ⟨i, sd, hi, hB⟩ := h
  exact lt_of_heap hB
theorem Src.by_ {w w' : World} {b : Nat} {ca : Option Addr} {cn cc q : Nat} {row : Option Nat} (h : Src w b ca cn cc q) (g : w.grownBy w' row) (hr : ∀ k, row = some k → k ≠ b) : Src w' b ca cn cc q := by
  have hl := h.lt
  obtain ⟨i, sd, hi, hB⟩ := h
  refine ⟨i, sd, hi, ?_⟩
  rw [g.block b hl (fun e => hr b e.symm rfl)]
  exact hB
theorem Src.gr {w w' : World} {b : Nat} {ca : Option Addr} {cn cc q : Nat} (h : Src w b ca cn cc q) (g : Gr w w') : Src w' b ca cn cc q := by
  obtain ⟨i, sd, hi, hB⟩ := h
  exact ⟨i, sd, hi, g.heap hB⟩
theorem Mt.sliceU {Bs : Nat} {k : IntKind} {w w' : World} {a : Option Addr} {xs : List Int} (h : Mt Bs w w') (hs : SliceOf k w a xs) (hb : 0 < xs.length → ∀ p, a = some p → p.block ≠ Bs) : SliceOf k w' a xs := by
  intro i hi
  obtain ⟨b1, o1, e, hc⟩ := hs i hi
  exact ⟨b1, o1, e, h.cell hc (hb (by omega) ⟨b1, o1, none⟩ e)⟩
theorem SliceOf.take {k : IntKind} {w : World} {a : Option Addr} {xs : List Int} (h : SliceOf k w a xs) (n : Nat) : SliceOf k w a (xs.take n) := by
  intro i hi
  rw [List.length_take] at hi
  obtain ⟨b, o, e, hc⟩ := h i (by omega)
  exact ⟨b, o, e, by rw [getD_take (by omega)]; exact hc⟩
theorem ret_slice {a : Option Addr} {n m c : Nat} (h : n = m) : Ending.returned (.slice a n c) = .returned (.slice a m c) := by rw [h]
/-- A new block of one cell. -/
theorem cell_s1 (w : World) (v : Value) (t : TypeId) : ∀ j u, [v][j]? = some u → (w.alloc (.cells #[v] t)).cell? ((⟨w.heap.size, 0, none⟩ : Addr).add j) = some u := by
  intro j u hj
  match j, hj with
  | 0, hj => simp at hj; subst hj; simp [Addr.add]
/-- The kinds that are drawn. -/
abbrev kinds6 : List Int := [0, 1, 2, 3, 25, 39]
theorem kinds6_ok : ∀ k, k < 6 → kindI (kinds6.getD k 0) = true := by decide
set_option maxRecDepth 100000 in
set_option maxHeartbeats 4000000 in
theorem l02Meant_any (b : Nat) (ca : Option Addr) (cn cc q : Nat) (bytes : List Int) (hn : cn = bytes.length) (hm : cn ≤ 1048576) (hf : Fits .u8 bytes) (hq : q ≤ 800000) (w : World) (hs : SliceOf .u8 w ca bytes) (hb : 0 < cn → ∀ a, ca = some a → a.block ≠ b) (hS : Src w b ca cn cc q) :
    Calls Try.prog 16 #[.pointer (some ⟨b, 0, none⟩)] w fun e w' => (∃ xs a cap, e = .returned (.slice a xs.length cap) ∧ plainH xs = true ∧ xs.length ≤ cap ∧ SliceOf .i8 w' a xs) ∧ Src w' b ca cn cc (q + 100) ∧ Mt b w w' := by
  have HP := hid (fun q W h1 h2 h3 => (show Calls Try.prog 28 #[.pointer (some ⟨b, 0, none⟩), .int .i64 6] W fun e w' => (∃ x : Nat, x < 6 ∧ e = .returned (.int .i64 x)) ∧ Src w' b ca cn cc (q + 1) ∧ Mt b W w' from pick_any b ca cn cc q bytes hn hm hf h1 W h2 hb h3 6 (by decide) (by decide)))
  have HONE := hid (fun q W h1 h2 h3 => (show Calls Try.prog 30 #[.pointer (some ⟨b, 0, none⟩), .int .i64 6] W fun e w' => (∃ v : Bool, e = .returned (.bool v)) ∧ Src w' b ca cn cc (q + 1) ∧ Mt b W w' from one_any b ca cn cc q bytes hn hm hf h1 W h2 hb h3 6 (by decide) (by decide)))
  have HAM := hid (fun q la W h1 h2 h3 h4 h5 h6 => (show Calls Try.prog 29 #[.pointer (some ⟨b, 0, none⟩), .slice (some ⟨la, 0, none⟩) 6 6] W fun e w' => (∃ x : Int, kindI x = true ∧ e = .returned (.int .i64 x)) ∧ Src w' b ca cn cc (q + 1) ∧ Mt b W w' from (among_any b ca cn cc q bytes hn hm hf h1 W h2 hb h3 kinds6 la 0 6 (by decide) (by decide) h4 h5 h6).mono fun e w' ⟨⟨k, hk, he⟩, h⟩ => ⟨⟨_, kinds6_ok k hk, he⟩, h⟩))
  have HS0 := hid (fun W (h : Mt b w W) => h.sliceU hs (fun h1 => hb (by omega)))
  have HBL := hid hS.lt
  have HSS := hid hS
  clear hn hm hf hs hb hS
  obtain ⟨i0, hi, hz0, hz1, hz2⟩ := info_parts infoI8
  go_enter Try.func16, Try.ntmps16
  go_wp2_with fail
  refine (HP.out q _ (by omega) (HS0.out _ ((Mt.refl b w).gr ((Gr.refl w).alloc _))) (HSS.out.gr ((Gr.refl w).alloc _))).mono ?_
  rintro e w1 ⟨⟨x, hx, rfl⟩, s1, m1⟩
  have S1 := hid s1
  have M1 := hid (((Mt.refl b w).gr ((Gr.refl w).alloc _)).trans m1)
  have O1 := hid (((Own.new (k := .i8) (e := 57) w [] (by simp)).by_ (row := some b) m1 (fun k e => by cases e; left; exact HBL.out)).widen (Nat.le_refl _) (show _ ≤ w1.heap.size by have := m1.size; simp at this; omega))
  clear s1 m1
  have e0 : IntKind.i64.wrap (1 + (x : Int)) = 1 + (x : Int) := IntWalk.i64_in _ (by omega)
  go_wp2_with fail
  go_loopw [3, 4] (fun v i wr => ∃ (xs : List Int) (k : Nat) (qq : Nat), k ≤ 6 ∧ i = .int .i64 k ∧ Hid (Own .i8 57 wr w.heap.size wr.heap.size v xs) ∧ Hid (Mt b w wr) ∧ Hid (Src wr b ca cn cc qq) ∧ Hid (qq + 2 * k ≤ q + 13) ∧ Hid (DrawnL xs) ∧ Hid (xs.length + 2 * k ≤ 12) ∧ Hid (1 ≤ k ∨ 1 ≤ xs.length)) (fun _ i _ => (intOf i).toNat)
  case atStart => exact ⟨[], x + 1, q + 1, by omega, by go_num, O1, M1, S1, hid (by omega), hid drawn_nil, hid (by simp; omega), hid (by left; omega)⟩
  case round =>
    obtain ⟨xs, k, qq, hk, rfl, OW, MW, SW, HQ, HD, HL, HE⟩ := hrel
    obtain ⟨ao, co, rfl⟩ := OW.out.shape
    obtain ⟨n, hn⟩ : ∃ n, n = xs.length := ⟨_, rfl⟩
    have hn12 : n ≤ 12 := by have := HL.out; omega
    have ROW := hid OW.out.row
    rw [← hn] at ROW ⊢
    have HN := hid hn.symm
    have HLN := hid (show n + 2 * k ≤ 12 by have := HL.out; omega)
    clear hn
    by_cases hlt : 0 < k
    · have t0 : (0 : Int) < (k : Int) := by omega
      go_wp2_with fail
      have SA := hid (SW.out.gr ((Gr.refl wr).alloc (.cells (kCells .i64 kinds6) 2)))
      refine (HAM.out qq wr.heap.size _ (by have := HQ.out; omega) (HS0.out _ (MW.out.gr ((Gr.refl wr).alloc _))) SA.out (sliceOf_block (k := .i64) (heap_new rfl)) (by have := HBL.out; have := MW.out.size; omega) (by simp)).mono ?_
      rintro e wa ⟨⟨y, hy, rfl⟩, sa, ma⟩
      have GA := hid ((MW.out.gr ((Gr.refl wr).alloc _)).trans ma)
      have MA := GA
      have SA2 := hid sa
      have OA := hid (((OW.out.gr ((Gr.refl wr).alloc _)).by_ (row := some b) ma (fun k e => by cases e; left; exact HBL.out)).widen (Nat.le_refl _) (show wr.heap.size ≤ wa.heap.size by have := ma.size; simp at this; omega))
      clear sa ma SA
      have ROWA := hid OA.out.row
      rw [HN.out] at ROWA
      obtain ⟨y0, y1⟩ := kindI_iff.1 hy
      have HY := hid hy
      clear hy
      have ey : IntKind.i8.wrap y = y := IntWalk.i8_in _ (by omega)
      go_wp2_with (at_builtin; refine wpList_append_own _ rfl _ _ 25 rfl w.heap.size 57 i0 (.int .i8 0) 1 1 Try.underlying25 hi hz0 hz1 hz2 rfl (by decide) _ _ _ rfl (ROWA.out.alloc _) ⟨wa.heap.size, 0, none⟩ 1 1 [.int .i8 y] rfl rfl (cell_s1 _ _ _) (by simp [Value.oneCell']) (by unfold maxLen; omega) (by omega) (by have := HBL.out; have := MA.out.size; simp; omega) ?_)
      intro v2 w2 hown2 hgrow2 _
      have O2 := hid (show Own .i8 57 w2 w.heap.size w2.heap.size v2 (xs ++ [y]) from Own.ofRow hown2 (by simp) (by rw [List.length_append, HN.out]; rfl))
      have M2 := hid (show Mt b w w2 from (MA.out.gr ((Gr.refl wa).alloc _)).by_ hgrow2 (fun k e => by right; exact (ROWA.out.lt k e).1))
      have S2 := hid (show Src w2 b ca cn cc (qq + 1) from (SA2.out.gr ((Gr.refl wa).alloc _)).by_ hgrow2 (fun k e => by have := (ROWA.out.lt k e).1; have := HBL.out; omega))
      clear hown2 hgrow2
      have HN2 := hid (show (xs ++ [y]).length = n + 1 by rw [List.length_append, HN.out]; rfl)
      have D2 := hid (drawn_kind HD.out HY.out)
      obtain ⟨a2, c2, hv2⟩ := O2.out.shape
      rw [HN2.out] at hv2
      subst hv2
      go_wp2_with fail
      refine (HONE.out (qq + 1) _ (by have := HQ.out; omega) (HS0.out _ M2.out) S2.out).mono ?_
      rintro e w3 ⟨⟨one, rfl⟩, s3, m3⟩
      have M3 := hid (M2.out.trans m3)
      have S3 := hid s3
      have O3 := hid ((O2.out.by_ (row := some b) m3 (fun k e => by cases e; left; exact HBL.out)).widen (Nat.le_refl _) (show w2.heap.size ≤ w3.heap.size from m3.size))
      clear s3 m3
      have ek : IntKind.i64.wrap ((k : Int) - 1) = (k : Int) - 1 := IntWalk.i64_in _ (by omega)
      have ROW2 := hid O3.out.row
      rw [HN2.out] at ROW2
      cases one with
      | false =>
        go_wp2_with fail
        go_roundw
        case rel => exact ⟨xs ++ [y], k - 1, qq + 2, by omega, by go_num, O3, M3, S3, hid (by have := HQ.out; omega), D2, hid (by rw [HN2.out]; have := HLN.out; omega), hid (by right; rw [HN2.out]; omega)⟩
        case measure => simp [intOf]; omega
      | true =>
        by_cases hk1 : 1 < k
        · have t1 : (1 : Int) < (k : Int) := by omega
          by_cases h6 : n + 1 < 6
          · have t2 : ((n : Int) + 1) < 6 := by omega
            have t2' : (((n + 1 : Nat)) : Int) < 6 := by omega
            go_wp2_with (at_builtin; refine wpList_append_own _ rfl _ _ 25 rfl w.heap.size 57 i0 (.int .i8 0) 1 1 Try.underlying25 hi hz0 hz1 hz2 rfl (by decide) _ _ _ rfl (ROW2.out.alloc _) ⟨w3.heap.size, 0, none⟩ 1 1 [.int .i8 (-10)] rfl rfl (cell_s1 _ _ _) (by simp [Value.oneCell']) (by unfold maxLen; omega) (by omega) (by have := HBL.out; have := M3.out.size; simp; omega) ?_)
            intro v4 w4 hown4 hgrow4 _
            have O4 := hid (show Own .i8 57 w4 w.heap.size w4.heap.size v4 (xs ++ [y] ++ [-10]) from Own.ofRow hown4 (by simp) (by rw [List.length_append, HN2.out]; rfl))
            have M4 := hid (show Mt b w w4 from (M3.out.gr ((Gr.refl w3).alloc _)).by_ hgrow4 (fun k e => by right; exact (ROW2.out.lt k e).1))
            have S4 := hid (show Src w4 b ca cn cc (qq + 2) from (S3.out.gr ((Gr.refl w3).alloc _)).by_ hgrow4 (fun k e => by have := (ROW2.out.lt k e).1; have := HBL.out; omega))
            clear hown4 hgrow4
            have HN4 := hid (show (xs ++ [y] ++ [-10]).length = n + 2 by rw [List.length_append, HN2.out]; rfl)
            have D4 := hid (drawn_brk D2.out HY.out)
            go_wp2_with fail
            go_roundw
            case rel => exact ⟨xs ++ [y] ++ [-10], k - 1, qq + 2, by omega, by go_num, O4, M4, S4, hid (by have := HQ.out; omega), D4, hid (by rw [HN4.out]; have := HLN.out; omega), hid (by right; rw [HN4.out]; omega)⟩
            case measure => simp [intOf]; omega
          · have t2 : ¬ ((n : Int) + 1) < 6 := by omega
            have t2' : ¬ (((n + 1 : Nat)) : Int) < 6 := by omega
            go_wp2_with fail
            go_roundw
            case rel => exact ⟨xs ++ [y], k - 1, qq + 2, by omega, by go_num, O3, M3, S3, hid (by have := HQ.out; omega), D2, hid (by rw [HN2.out]; have := HLN.out; omega), hid (by right; rw [HN2.out]; omega)⟩
            case measure => simp [intOf]; omega
        · have t1 : ¬ (1 : Int) < (k : Int) := by omega
          go_wp2_with fail
          go_roundw
          case rel => exact ⟨xs ++ [y], k - 1, qq + 2, by omega, by go_num, O3, M3, S3, hid (by have := HQ.out; omega), D2, hid (by rw [HN2.out]; have := HLN.out; omega), hid (by right; rw [HN2.out]; omega)⟩
          case measure => simp [intOf]; omega
    · have t0 : ¬ (0 : Int) < (k : Int) := by omega
      have hn1 : 1 ≤ n := by have := HE.out; rw [HN.out] at this; omega
      have hco : n ≤ co := by have := OW.out.capLe; rw [HN.out] at this; exact this
      have hxl : xs.length = n := HN.out
      have HAT := hid (fun i (hi : i < n) => OW.out.at_ (i := i) (by rw [hxl]; exact hi))
      obtain ⟨g, hao, _, _, _⟩ := HAT.out 0 (by omega)
      subst hao
      have HC := hid (fun i (hi : i < n) => show wr.cell? ⟨g, i, none⟩ = some (.int .i8 (xs.getD i 0)) from by
        obtain ⟨g', e, _, hc, _⟩ := HAT.out i hi
        cases e
        exact hc)
      have HR := hid OW.out.reads
      clear HAT hxl
      by_cases h8 : 8 < n
      · have t8 : (8 : Int) < (n : Int) := by omega
        have t8c : (8 : Int) ≤ (co : Int) := by omega
        have hc7 := HC.out 7 (by omega)
        obtain ⟨z, hz⟩ : ∃ z, z = xs.getD 7 0 := ⟨_, rfl⟩
        rw [← hz] at hc7
        have HZ := hid hz
        clear hz
        by_cases hz10 : z = -10
        · subst hz10
          go_wp2_with fail
          go_ret
          have hl8 : (xs.take 8).length = 8 := by rw [List.length_take, HN.out]; omega
          have hl7 : (xs.take 7).length = 7 := by rw [List.length_take, HN.out]; omega
          have hp : plainH (xs.take 7) = true := by
            have := drawn_cut (drawn_take HD.out 8) (by omega) (by rw [hl8, getD_take (by omega)]; exact HZ.out.symm) (by omega)
            rw [hl8, List.take_take] at this
            exact this
          exact ⟨⟨xs.take 7, some ⟨g, 0, none⟩, co, ret_slice hl7.symm, hp, by omega, HR.out.take 7⟩, SW.out.more (by have := HQ.out; omega), MW.out⟩
        · have hz11 : (z == -10) = false := by simpa using hz10
          go_wp2_with fail
          go_ret
          have hl8 : (xs.take 8).length = 8 := by rw [List.length_take, HN.out]; omega
          have hp : plainH (xs.take 8) = true := drawn_plain (drawn_take HD.out 8) (by omega) (by omega) (by rw [hl8, getD_take (by omega)]; intro e; exact hz10 (HZ.out.trans e))
          exact ⟨⟨xs.take 8, some ⟨g, 0, none⟩, co, ret_slice hl8.symm, hp, by omega, HR.out.take 8⟩, SW.out.more (by have := HQ.out; omega), MW.out⟩
      · obtain ⟨m, rfl⟩ : ∃ m, n = m + 1 := ⟨n - 1, by omega⟩
        have t8 : ¬ (8 : Int) < ((m + 1 : Nat) : Int) := by omega
        have t8' : ¬ (8 : Int) < (m : Int) + 1 := by omega
        have em : IntKind.i64.wrap ((m : Int) + 1 - 1) = (m : Int) := by rw [show (m : Int) + 1 - 1 = (m : Int) by omega]; exact IntWalk.i64_in _ (by omega)
        have hcm := HC.out m (by omega)
        obtain ⟨z, hz⟩ : ∃ z, z = xs.getD m 0 := ⟨_, rfl⟩
        rw [← hz] at hcm
        have HZ := hid hz
        clear hz
        by_cases hz10 : z = -10
        · subst hz10
          go_wp2_with fail
          go_ret
          have hlm : (xs.take m).length = m := by rw [List.length_take, HN.out]; omega
          have hp : plainH (xs.take m) = true := by
            have := drawn_cut HD.out (by rw [HN.out]; omega) (by rw [HN.out]; exact HZ.out.symm) (by rw [HN.out]; omega)
            rw [HN.out] at this
            exact this
          exact ⟨⟨xs.take m, some ⟨g, 0, none⟩, co, ret_slice hlm.symm, hp, by omega, HR.out.take m⟩, SW.out.more (by have := HQ.out; omega), MW.out⟩
        · have hz11 : (z == -10) = false := by simpa using hz10
          go_wp2_with fail
          go_ret
          have hp : plainH xs = true := drawn_plain HD.out (by rw [HN.out]; omega) (by rw [HN.out]; omega) (by rw [HN.out]; intro e; exact hz10 (HZ.out.trans e))
          exact ⟨⟨xs, some ⟨g, 0, none⟩, co, ret_slice HN.out.symm, hp, by rw [HN.out]; omega, HR.out⟩, SW.out.more (by have := HQ.out; omega), MW.out⟩
end Go.Proofs.Ytbbkjhnihoohpaa
