/- All words that are near. -/
import Derived.Test.YtojdbeebgllhhabWordsW
import Derived.Test.YtojdbeebgllhhabWordK
import Derived.Test.YtojdbeebgllhhabWord6
namespace Go.Proofs.Ytojdbeebgllhhab
open Go.RowKit
theorem infoN : (Try.prog.info? 2).map (fun i => (i.zero, i.size, i.bytes)) = some (some (.int .i64 0), 1, 8) := by kernel_rfl
/-- The places below k where p holds. -/
def nearTo (p : Nat → Bool) : Nat → List Int
  | 0 => []
  | k + 1 => if p k then nearTo p k ++ [(k : Int)] else nearTo p k
theorem nearTo_yes {p : Nat → Bool} {k : Nat} (h : p k = true) : nearTo p (k + 1) = nearTo p k ++ [(k : Int)] := by rw [nearTo, if_pos h]
theorem nearTo_no {p : Nat → Bool} {k : Nat} (h : p k = false) : nearTo p (k + 1) = nearTo p k := by rw [nearTo, h]; rfl
theorem nearTo_le (p : Nat → Bool) (k : Nat) : (nearTo p k).length ≤ k := by
  induction k with
  | zero => simp [nearTo]
  | succ k ih =>
    rw [nearTo]
    split
    · rw [List.length_append, List.length_singleton]; omega
    · omega
theorem nearTo_mono (p : Nat → Bool) {k n : Nat} (h : k ≤ n) : (nearTo p k).length ≤ (nearTo p n).length := by
  induction n with
  | zero => rw [show k = 0 by omega]; exact Nat.le_refl _
  | succ n ih =>
    by_cases e : k = n + 1
    · rw [e]; exact Nat.le_refl _
    · have := ih (by omega)
      rw [nearTo]
      split
      · rw [List.length_append]; omega
      · exact this
theorem nearTo_in (p : Nat → Bool) (k : Nat) : ∀ x ∈ nearTo p k, 0 ≤ x ∧ x < k := by
  induction k with
  | zero => intro x hx; simp [nearTo] at hx
  | succ k ih =>
    intro x hx
    rw [nearTo] at hx
    split at hx
    · rcases List.mem_append.1 hx with h | h
      · have := ih x h; omega
      · simp at h; omega
    · have := ih x hx; omega
/-- The word at a place is near to another one. -/
def nearB (xss : List (List Int)) (ys : List Int) (q : Int) (i : Nat) : Bool := decide (diffTo (xss.getD i []) ys ys.length ≤ q)
set_option maxRecDepth 100000 in
set_option maxHeartbeats 800000 in
theorem near_any (a : Option Addr) (n cap : Nat) (xss : List (List Int)) (hn : n = xss.length) (hm : n ≤ 60) (p : Option Addr) (l c : Nat) (ys : List Int) (hl : l = ys.length) (h8 : l ≤ 8) (hlen : ∀ i, i < n → (xss.getD i []).length = l) (q : Int) (w : World) (hs : SlicesOf .u8 w a xss) (ht : SliceOf .u8 w p ys) :
    Calls Try.prog 78 #[.slice a n cap, .slice p l c, .int .i64 q] w (RetOwn .i64 2 (fun v => v) (nearTo (nearB xss ys q) n) w) := by
  obtain ⟨i0, hi, hz0, hz1, hz2⟩ := info_parts infoN
  have S := hid hs
  have HN := hid hn
  have HT := hid ht
  have HLN := hid hlen
  have HAP := hid (fun p0 c0 (xs : List Int) (hx : xs.length = l) V (s0 : SliceOf .u8 V p0 xs) (s1 : SliceOf .u8 V p ys) => apartW_any p0 p c0 c l xs ys hx hl.symm (by omega) V s0 s1)
  have HNB := hid (show ∀ k, nearB xss ys q k = decide (diffTo (xss.getD k []) ys l ≤ q) from fun k => by unfold nearB; rw [hl])
  have HY := hid (fun k => nearTo_yes (p := nearB xss ys q) (k := k))
  have HO := hid (fun k => nearTo_no (p := nearB xss ys q) (k := k))
  have HLE := hid (nearTo_le (nearB xss ys q))
  have H0 := hid (show nearTo (nearB xss ys q) 0 = [] from rfl)
  clear hs hn ht hlen hl
  generalize nearB xss ys q = nb at *
  generalize nearTo nb = nt at *
  go_enter Try.func78, Try.ntmps78
  go_wp2_with fail
  go_loopw [7, 12] (fun v i wr => ∃ k : Nat, k ≤ n ∧ i = .int .i64 k ∧ Hid (Own .i64 2 wr w.heap.size wr.heap.size v (nt k)) ∧ Hid (Gr w wr)) (fun _ i _ => n - (intOf i).toNat)
  case atStart => exact ⟨0, Nat.zero_le _, rfl, hid (by rw [H0.out]; exact Own.nil _ _ _), hid (Gr.refl _)⟩
  case round =>
    obtain ⟨k, hk, rfl, O, hg⟩ := hrel
    by_cases hlt : k < n
    · obtain ⟨b0, o0, p0, c0, rfl, h0, s0⟩ := (S.out.gr hg.out) k (by rw [← HN.out]; exact hlt)
      have HC := hid (HAP.out p0 c0 (xss.getD k []) (HLN.out k hlt) wr s0 (HT.out.gr hg.out))
      have hle := HLE.out k
      have HYK := hid (HY.out k)
      have HOK := hid (HO.out k)
      have HBK := hid (HNB.out k)
      rw [HLN.out k hlt] at h0
      clear s0
      generalize diffTo (xss.getD k []) ys l = d at *
      by_cases hd : d ≤ q
      · have HS := hid (HYK.out (by rw [HBK.out]; exact decide_eq_true hd))
        clear HYK HOK HBK
        obtain ⟨m, hm1⟩ : ∃ m, m = (nt k).length := ⟨_, rfl⟩
        have ROW := hid O.out.row
        obtain ⟨ao, co, rfl⟩ := O.out.shape
        rw [← hm1] at ROW hle ⊢
        have HM := hid hm1.symm
        clear hm1
        go_wp2_with fail
        refine HC.out.mono ?_
        rintro e w1 ⟨rfl, d1⟩
        have G1 := hid (hg.out.trans d1.gr)
        have ROW1 : Hid (w1.ownsRow w.heap.size 2 1 (.slice ao m co) m ((nt k).map (Value.int .i64))) := hid (by
          refine ⟨ROW.out.1, ?_⟩
          rcases ROW.out.2 with h1 | ⟨g', cap', cur, e1, e2, e3, r⟩
          · exact .inl h1
          · exact .inr ⟨g', cap', cur, e1, e2, d1.gr.heap e3, r⟩)
        have Z1 := hid G1.out.size
        clear d1
        have CN : Hid (∀ j u, ([(k : Int)].map (Value.int .i64))[j]? = some u → (w1.alloc (.cells #[.int .i64 k] 2)).cell? ((⟨w1.heap.size, 0, none⟩ : Addr).add j) = some u) := hid (by
          intro j u hj
          match j, hj with
          | 0, hj => simp at hj; subst hj; simp [Addr.add])
        go_wp2_with (at_builtin; refine wpList_append_own _ rfl _ _ 41 rfl w.heap.size 2 i0 (.int .i64 0) 1 8 Try.underlying41 hi hz0 hz1 hz2 rfl (by decide) _ _ _ rfl (ROW1.out.alloc _) ⟨w1.heap.size, 0, none⟩ 1 1 ([(k : Int)].map (Value.int .i64)) rfl rfl CN.out (by simp [Value.oneCell']) (by unfold maxLen; omega) (by omega) (by have := Z1.out; simp; omega) ?_; intro v2 w2 hown2 hgrow2 _)
        have OX := hid (Own.appendedW (us := [(k : Int)]) hown2 HS.out HM.out rfl)
        have GX := hid ((G1.out.alloc _).by_ hgrow2 (fun b e => by have := (ROW1.out.lt b e).1; omega))
        clear hown2 hgrow2
        go_wp2_with fail
        go_roundw
        case rel => exact ⟨k + 1, by omega, by go_num, OX, GX⟩
        case measure => simp [intOf] <;> omega
      · have HS := hid (HOK.out (by rw [HBK.out]; exact decide_eq_false hd))
        clear HYK HOK HBK
        go_wp2_with fail
        refine HC.out.mono ?_
        rintro e w1 ⟨rfl, d1⟩
        have G1 := hid (hg.out.trans d1.gr)
        have O1 := hid ((O.out.gr d1.gr).widen (Nat.le_refl _) d1.gr.size)
        clear d1
        go_wp2_with fail
        go_roundw
        case rel => exact ⟨k + 1, by omega, by go_num, hid (by rw [HS.out]; exact O1.out), G1⟩
        case measure => simp [intOf] <;> omega
    · obtain rfl : k = n := by omega
      go_wp2_with fail
      go_ret
      exact ⟨_, rfl, O.out, hg.out⟩
end Go.Proofs.Ytojdbeebgllhhab
