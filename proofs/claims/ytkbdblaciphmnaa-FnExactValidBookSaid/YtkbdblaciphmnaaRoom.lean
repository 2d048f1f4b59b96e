/- Books: how many meanings there are: both functions. -/
import Derived.Test.YtkbdblaciphmnaaMeanS
import Derived.Test.YtkbdblaciphmnaaBook
namespace Go.Proofs.Ytkbdblaciphmnaa
set_option linter.unusedVariables false
open Go.RowKit
def sizedB (k l s : Int) : Bool := betB k 1 10 && (betB l 1 3 && betB s 0 4)
theorem sizedB_yes {k l s : Int} (h : sizedB k l s = true) : ∃ K L B : Nat, k = K ∧ l = L ∧ s = B ∧ 1 ≤ K ∧ K ≤ 10 ∧ 1 ≤ L ∧ L ≤ 3 ∧ B ≤ 4 := by
  unfold sizedB at h
  simp only [Bool.and_eq_true, betB_iff] at h
  obtain ⟨⟨k1, k2⟩, ⟨l1, l2⟩, s1, s2⟩ := h
  exact ⟨k.toNat, l.toNat, s.toNat, by omega, by omega, by omega, by omega, by omega, by omega, by omega, by omega⟩
def meansOf (k l s : Int) : List (List Int) := if sizedB k l s then bookL k.toNat s.toNat l.toNat else []
def roomV (k l s : Int) : Int := ((meansOf k l s).length : Int)
def roomC (k l s : Int) : Int := if sizedB k l s then 0 else 1
theorem room_no {k l s : Int} (h : sizedB k l s = false) : roomV k l s = 0 ∧ roomC k l s = 1 := by unfold roomV roomC meansOf; rw [h]; exact ⟨rfl, rfl⟩
theorem room_yes {K L B : Nat} (h : sizedB K L B = true) : roomV K L B = ((bookL K B L).length : Int) ∧ roomC K L B = 0 ∧ meansOf K L B = bookL K B L := by
  unfold roomV roomC meansOf; rw [h]; exact ⟨rfl, rfl, rfl⟩
theorem wf_i64 {x : Int} (h : (Lit.int .i8 x).wf = true) : IntKind.i64.wrap x = x := by
  have := bounds_i8 h
  exact IntWalk.i64_in _ (by omega)
structure Wf3 (k l s : Int) : Prop where
  k : (Lit.int .i8 k).wf = true
  l : (Lit.int .i8 l).wf = true
  s : (Lit.int .i8 s).wf = true
set_option maxRecDepth 100000 in
set_option maxHeartbeats 1000000 in
theorem l03Sized_any (bb : Nat) (k l s : Int) (a : Option Addr) (n cap : Nat) (ss : List ByteArray) (hw : Wf3 k l s) (w : World) (hb : BookAt w bb k l s a n cap ss) :
    Calls Try.prog 41 #[.pointer (some ⟨bb, 0, none⟩)] w fun e w' => e = .returned (.bool (sizedB k l s)) ∧ w = w' := by
  have c0 := hb.c0
  have c1 := hb.c1
  have c2 := hb.c2
  have ek := wf_i64 hw.k
  have el := wf_i64 hw.l
  have es := wf_i64 hw.s
  have HK := hid (fun V => l00In_b k 1 10 V)
  have HL := hid (fun V => l00In_b l 1 3 V)
  have HS := hid (fun V => l00In_b s 0 4 V)
  clear hb hw
  unfold sizedB
  generalize betB k 1 10 = q at *
  generalize betB l 1 3 = r at *
  generalize betB s 0 4 = t at *
  cases q
  · go_enter Try.func41, Try.ntmps41
    go_wp2_with ((with_reducible refine (HK.out _).mono ?_); rintro e w' ⟨rfl, rfl⟩)
    go_ret
    exact ⟨rfl, rfl⟩
  · cases r
    · go_enter Try.func41, Try.ntmps41
      go_wp2_with (first | ((with_reducible refine (HK.out _).mono ?_); rintro e w' ⟨rfl, rfl⟩) | ((with_reducible refine (HL.out _).mono ?_); rintro e w' ⟨rfl, rfl⟩))
      go_ret
      exact ⟨rfl, rfl⟩
    · go_enter Try.func41, Try.ntmps41
      go_wp2_with (first | ((with_reducible refine (HK.out _).mono ?_); rintro e w' ⟨rfl, rfl⟩) | ((with_reducible refine (HL.out _).mono ?_); rintro e w' ⟨rfl, rfl⟩) | ((with_reducible refine (HS.out _).mono ?_); rintro e w' ⟨rfl, rfl⟩))
      go_ret
      exact ⟨rfl, rfl⟩
set_option maxRecDepth 100000 in
set_option maxHeartbeats 1000000 in
theorem scheme_isValid_any (k l s : Int) (hw : Wf3 k l s) (w : World) :
    Calls Try.prog 45 #[.agg #[.int .i8 k, .int .i8 l, .int .i8 s]] w fun e w' => e = .returned (.bool (sizedB k l s)) ∧ Gr w w' := by
  have gr : Hid (Gr w (w.alloc (.cells #[.int .i8 k, .int .i8 l, .int .i8 s] 65))) := hid ((Gr.refl _).alloc _)
  have ek := wf_i64 hw.k
  have el := wf_i64 hw.l
  have es := wf_i64 hw.s
  have HK := hid (fun V => isBetween_any k 1 10 V)
  have HL := hid (fun V => isBetween_any l 1 3 V)
  have HS := hid (fun V => isBetween_any s 0 4 V)
  clear hw
  unfold sizedB
  generalize betB k 1 10 = q at *
  generalize betB l 1 3 = r at *
  generalize betB s 0 4 = t at *
  cases q
  · go_enter Try.func45, Try.ntmps45
    go_wp2_with ((with_reducible refine (HK.out _).mono ?_); rintro e w' ⟨rfl, rfl⟩)
    go_ret
    exact ⟨rfl, gr.out⟩
  · cases r
    · go_enter Try.func45, Try.ntmps45
      go_wp2_with (first | ((with_reducible refine (HK.out _).mono ?_); rintro e w' ⟨rfl, rfl⟩) | ((with_reducible refine (HL.out _).mono ?_); rintro e w' ⟨rfl, rfl⟩))
      go_ret
      exact ⟨rfl, gr.out⟩
    · go_enter Try.func45, Try.ntmps45
      go_wp2_with (first | ((with_reducible refine (HK.out _).mono ?_); rintro e w' ⟨rfl, rfl⟩) | ((with_reducible refine (HL.out _).mono ?_); rintro e w' ⟨rfl, rfl⟩) | ((with_reducible refine (HS.out _).mono ?_); rintro e w' ⟨rfl, rfl⟩))
      go_ret
      exact ⟨rfl, gr.out⟩
set_option maxRecDepth 100000 in
theorem book_schemeOf (k l s : Int) (v : Value) (w : World) :
    Calls Try.prog 44 #[bookV k l s v] w fun e w' => e = .returned (.agg #[.int .i8 k, .int .i8 l, .int .i8 s]) ∧ Gr w w' := by
  go_enter Try.func44, Try.ntmps44
  go_wp2_with fail
  exact bodyPost_ret (v := .agg #[.int .i8 k, .int .i8 l, .int .i8 s]) (by simp [results, Try.results44, go_sem]) rfl ⟨rfl, ((Gr.refl _).alloc _).alloc _⟩
set_option maxRecDepth 100000 in
set_option maxHeartbeats 1000000 in
theorem spec_RoomOf_any (k l s : Int) (hw : Wf3 k l s) (a : Option Addr) (cap n : Nat) (ss : List ByteArray) (hl : n = ss.length) (_hn : n ≤ 1048576) (_hz : SizesOk ss) (w : World) (hs : StrsOf w a ss) :
    Calls Try.prog 12 #[bookV k l s (.slice a n cap)] w fun e w' => e = .returned (.tuple #[.int .i64 (roomV k l s), .int .i64 (roomC k l s)]) ∧ Gr w w' := by
  have gr : Gr w (w.alloc (.cells (bookC k l s (.slice a n cap)) 29)) := (Gr.refl _).alloc _
  have HB : Hid (BookAt (w.alloc (.cells (bookC k l s (.slice a n cap)) 29)) w.heap.size k l s a n cap ss) := hid (bookAt_block (heap_new rfl) hl (hs.gr gr))
  have GR := hid gr
  have HZ := hid (l03Sized_any w.heap.size k l s a n cap ss hw _ HB.out)
  clear hs hl gr
  cases h : sizedB k l s with
  | false =>
    obtain ⟨e1, e2⟩ := room_no h
    rw [e1, e2]
    rw [h] at HZ
    clear e1 e2 h HB
    go_enter Try.func12, Try.ntmps12
    go_wp2_with fail
    refine HZ.out.mono ?_
    rintro e w' ⟨rfl, rfl⟩
    go_wp2_with fail
    go_ret2
    exact ⟨rfl, GR.out⟩
  | true =>
    rw [h] at HZ
    obtain ⟨K, L, B, rfl, rfl, rfl, k1, k2, l1, l2, b2⟩ := sizedB_yes h
    obtain ⟨e1, e2, -⟩ := room_yes h
    rw [e1, e2]
    have HM := hid (l03Meanings_any w.heap.size K L B a n cap ss k2 l2 b2 _ HB.out)
    generalize bookL K B L = xss at *
    clear e1 e2 h HB hw
    go_enter Try.func12, Try.ntmps12
    go_wp2_with fail
    refine HZ.out.mono ?_
    rintro e w' ⟨rfl, rfl⟩
    go_wp2_with fail
    refine HM.out.mono ?_
    rintro e w2 ⟨g, c, vs, rfl, -, g2⟩
    have G2 := hid (GR.out.trans g2)
    clear g2 HM HZ
    go_wp2_with fail
    go_ret2
    exact ⟨rfl, G2.out⟩
theorem countM_room {K B n : Nat} (k1 : 1 ≤ K) (k2 : K ≤ 10) (h3 : n + 1 ≤ 3) (b2 : B ≤ 4) : cntV (K : Int) ((n : Int) + 1) 1 (B : Int) = sumW K 1 B (n + 1) (patF (n + 1) [] 0) := by
  have h : cntB (K : Int) ((n : Int) + 1) 1 (B : Int) = true := by
    unfold cntB
    rw [betB_iff.2 (by omega : (1 : Int) ≤ (K : Int) ∧ (K : Int) ≤ 40), betB_iff.2 (by omega : (1 : Int) ≤ (n : Int) + 1 ∧ (n : Int) + 1 ≤ 6), betB_iff.2 (by omega : (1 : Int) ≤ 1 ∧ (1 : Int) ≤ 8), betB_iff.2 (by omega : (0 : Int) ≤ (B : Int) ∧ (B : Int) ≤ 4)]
    rfl
  rw [(cnt_yes h).1, Int.toNat_natCast, show ((n : Int) + 1).toNat = n + 1 by omega]
theorem room_bd {K B n : Nat} (k2 : K ≤ 10) (h3 : n ≤ 3) (b2 : B ≤ 4) : 0 ≤ roomTo K B n ∧ roomTo K B n ≤ 3000 := by
  rw [room_len k2 b2 h3]
  have := book_bd (B := B) k2 h3
  omega
set_option maxRecDepth 100000 in
set_option maxHeartbeats 4000000 in
theorem roomOf_any (k l s : Int) (v : Value) (hw : Wf3 k l s) (w : World) :
    Calls Try.prog 14 #[bookV k l s v] w fun e w' => e = .returned (.tuple #[.int .i64 (roomV k l s), .int .i64 (roomC k l s)]) ∧ Gr w w' := by
  have HSC := hid (fun V => book_schemeOf k l s v V)
  have HV := hid (fun V => scheme_isValid_any k l s hw V)
  cases h : sizedB k l s with
  | false =>
    obtain ⟨e1, e2⟩ := room_no h
    rw [e1, e2]
    rw [h] at HV
    clear e1 e2 h hw
    go_enter Try.func14, Try.ntmps14
    go_wp2_with fail
    refine (HSC.out _).mono ?_
    rintro e w1 ⟨rfl, g1⟩
    have G1 := hid (((Gr.refl w).alloc (.cells (bookC k l s v) 29)).trans g1)
    have N1 := hid (heap_new (w := w1) (o := .cells #[.int .i8 0, .int .i8 0, .int .i8 0] 65) rfl)
    have N2 := hid (heap_row_set (cs := #[.int .i8 k, .int .i8 l, .int .i8 s]) N1.out)
    have GL := hid ((G1.out.alloc (.cells #[.int .i8 0, .int .i8 0, .int .i8 0] 65)).setRow G1.out.size #[.int .i8 k, .int .i8 l, .int .i8 s])
    clear g1
    have q0 : ((w1.alloc (.cells #[.int .i8 0, .int .i8 0, .int .i8 0] 65)).setRow w1.heap.size #[.int .i8 k, .int .i8 l, .int .i8 s]).cell? ⟨w1.heap.size, 0, none⟩ = some (.int .i8 (k : Int)) := by rw [cell_of_row _ _ 0 _ _ _ N2.out]; rfl
    have q1 : ((w1.alloc (.cells #[.int .i8 0, .int .i8 0, .int .i8 0] 65)).setRow w1.heap.size #[.int .i8 k, .int .i8 l, .int .i8 s]).cell? ⟨w1.heap.size, 1, none⟩ = some (.int .i8 (l : Int)) := by rw [cell_of_row _ _ 1 _ _ _ N2.out]; rfl
    have q2 : ((w1.alloc (.cells #[.int .i8 0, .int .i8 0, .int .i8 0] 65)).setRow w1.heap.size #[.int .i8 k, .int .i8 l, .int .i8 s]).cell? ⟨w1.heap.size, 2, none⟩ = some (.int .i8 (s : Int)) := by rw [cell_of_row _ _ 2 _ _ _ N2.out]; rfl
    go_wp2_with (refine wpList_store_cells rfl 65 _ _ rfl _ #[.int .i8 k, .int .i8 l, .int .i8 s] #[.int .i8 0, .int .i8 0, .int .i8 0] rfl rfl _ 3 N1.out (by kernel_rfl) rfl rfl (by simp [Value.oneCell']) ?_)
    clear q0 q1 q2
    clear N1
    obtain ⟨W2, hW2⟩ : ∃ W2, W2 = (w1.alloc (.cells #[.int .i8 0, .int .i8 0, .int .i8 0] 65)).setRow w1.heap.size #[.int .i8 k, .int .i8 l, .int .i8 s] := ⟨_, rfl⟩
    rw [← hW2] at N2 GL ⊢
    clear hW2
    refine (HV.out _).mono ?_
    rintro e w3 ⟨rfl, g3⟩
    have G3 := hid (GL.out.trans g3)
    clear g3
    go_wp2_with fail
    go_ret2
    exact ⟨rfl, G3.out⟩
  | true =>
    obtain ⟨K, L, B, rfl, rfl, rfl, k1, k2, l1, l2, b2⟩ := sizedB_yes h
    obtain ⟨e1, e2, -⟩ := room_yes h
    rw [e1, e2, ← room_len k2 b2 l2]
    rw [h] at HV
    have HC := hid (fun n (hn : n + 1 ≤ 3) V => by
      have := impl_CountMeanings_any (K : Int) ((n : Int) + 1) 1 (B : Int) V
      rwa [countM_room k1 k2 hn b2] at this)
    have HR := hid (fun n (hn : n ≤ 3) => room_bd (K := K) (B := B) k2 hn b2)
    have HST := hid (fun n => show roomTo K B (n + 1) = roomTo K B n + sumW K 1 B (n + 1) (patF (n + 1) [] 0) from rfl)
    have HZ := hid (show roomTo K B 0 = 0 from rfl)
    generalize roomTo K B = R at *
    clear e1 e2 h hw
    go_enter Try.func14, Try.ntmps14
    go_wp2_with fail
    refine (HSC.out _).mono ?_
    rintro e w1 ⟨rfl, g1⟩
    have G1 := hid (((Gr.refl w).alloc (.cells (bookC K L B v) 29)).trans g1)
    have N1 := hid (heap_new (w := w1) (o := .cells #[.int .i8 0, .int .i8 0, .int .i8 0] 65) rfl)
    have N2 := hid (heap_row_set (cs := #[.int .i8 K, .int .i8 L, .int .i8 B]) N1.out)
    have GL := hid ((G1.out.alloc (.cells #[.int .i8 0, .int .i8 0, .int .i8 0] 65)).setRow G1.out.size #[.int .i8 K, .int .i8 L, .int .i8 B])
    clear g1
    have q0 : ((w1.alloc (.cells #[.int .i8 0, .int .i8 0, .int .i8 0] 65)).setRow w1.heap.size #[.int .i8 K, .int .i8 L, .int .i8 B]).cell? ⟨w1.heap.size, 0, none⟩ = some (.int .i8 (K : Int)) := by rw [cell_of_row _ _ 0 _ _ _ N2.out]; rfl
    have q1 : ((w1.alloc (.cells #[.int .i8 0, .int .i8 0, .int .i8 0] 65)).setRow w1.heap.size #[.int .i8 K, .int .i8 L, .int .i8 B]).cell? ⟨w1.heap.size, 1, none⟩ = some (.int .i8 (L : Int)) := by rw [cell_of_row _ _ 1 _ _ _ N2.out]; rfl
    have q2 : ((w1.alloc (.cells #[.int .i8 0, .int .i8 0, .int .i8 0] 65)).setRow w1.heap.size #[.int .i8 K, .int .i8 L, .int .i8 B]).cell? ⟨w1.heap.size, 2, none⟩ = some (.int .i8 (B : Int)) := by rw [cell_of_row _ _ 2 _ _ _ N2.out]; rfl
    go_wp2_with (refine wpList_store_cells rfl 65 _ _ rfl _ #[.int .i8 K, .int .i8 L, .int .i8 B] #[.int .i8 0, .int .i8 0, .int .i8 0] rfl rfl _ 3 N1.out (by kernel_rfl) rfl rfl (by simp [Value.oneCell']) ?_)
    clear q0 q1 q2
    clear N1
    obtain ⟨W2, hW2⟩ : ∃ W2, W2 = (w1.alloc (.cells #[.int .i8 0, .int .i8 0, .int .i8 0] 65)).setRow w1.heap.size #[.int .i8 K, .int .i8 L, .int .i8 B] := ⟨_, rfl⟩
    rw [← hW2] at N2 GL ⊢
    clear hW2
    refine (HV.out _).mono ?_
    rintro e w3 ⟨rfl, g3⟩
    have G3 := hid (GL.out.trans g3)
    have N3 := hid (g3.heap N2.out)
    have c0 : w3.cell? ⟨w1.heap.size, 0, none⟩ = some (.int .i8 (K : Int)) := by rw [cell_of_row _ _ 0 _ _ _ N3.out]; rfl
    have c1 : w3.cell? ⟨w1.heap.size, 1, none⟩ = some (.int .i8 (L : Int)) := by rw [cell_of_row _ _ 1 _ _ _ N3.out]; rfl
    clear g3 N2
    go_wp2_with fail
    go_loopw [5, 17] (fun r i wr => ∃ j : Nat, j ≤ L ∧ i = .int .i64 j ∧ r = .int .i64 (R j) ∧ Hid (Gr w3 wr)) (fun _ i _ => L - (intOf i).toNat)
    case atStart => exact ⟨0, Nat.zero_le _, rfl, by rw [HZ.out], hid (Gr.refl _)⟩
    case round =>
      obtain ⟨j, hj, rfl, rfl, gr⟩ := hrel
      by_cases hlt : j < L
      · have p0 := gr.out.cell c0
        have p2 : wr.cell? ⟨w1.heap.size, 2, none⟩ = some (.int .i8 (B : Int)) := gr.out.cell (by rw [cell_of_row _ _ 2 _ _ _ N3.out]; rfl)
        have HCJ := hid (HC.out j (by omega) wr)
        have HSJ := hid (HST.out j)
        obtain ⟨r0, r1⟩ := HR.out j (by omega)
        obtain ⟨s0, s1⟩ := HR.out (j + 1) (by omega)
        rw [HSJ.out] at s0 s1
        generalize sumW K 1 B (j + 1) (patF (j + 1) [] 0) = q at *
        have es : IntKind.i64.wrap (R j + q) = R j + q := IntWalk.i64_in _ (by omega)
        have HCC : Hid (cntC (K : Int) ((j : Int) + 1) 1 (B : Int) = cntC (K : Int) ((j : Int) + 1) 1 (B : Int)) := hid rfl
        generalize cntC (K : Int) ((j : Int) + 1) 1 (B : Int) = cc at *
        clear HCC
        generalize R j = rj at *
        go_wp2_with fail
        refine HCJ.out.mono ?_
        rintro e w4 ⟨rfl, g4⟩
        have G4 := hid (gr.out.trans g4)
        clear g4 HCJ p0 p2
        go_wp2_with fail
        go_roundw
        case rel => exact ⟨j + 1, by omega, by go_num, by rw [HSJ.out], G4⟩
        case measure => simp [intOf]; omega
      · obtain rfl : j = L := by omega
        go_wp2_with fail
        go_ret2
        exact ⟨rfl, G3.out.trans gr.out⟩
theorem impl_RoomOf_any (k l s : Int) (hw : Wf3 k l s) (a : Option Addr) (cap n : Nat) (ss : List ByteArray) (_hl : n = ss.length) (_hn : n ≤ 1048576) (_hz : SizesOk ss) (w : World) (_hs : StrsOf w a ss) :
    Calls Try.prog 14 #[bookV k l s (.slice a n cap)] w fun e w' => e = .returned (.tuple #[.int .i64 (roomV k l s), .int .i64 (roomC k l s)]) ∧ Gr w w' := roomOf_any k l s _ hw w
end Go.Proofs.Ytkbdblaciphmnaa
