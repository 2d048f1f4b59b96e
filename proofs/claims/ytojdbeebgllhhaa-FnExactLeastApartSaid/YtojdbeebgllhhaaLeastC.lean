/- LeastApart of the program: nearest, nearestPair. -/
import Derived.Test.YtojdbeebgllhhaaLeastB
namespace Go.Proofs.Ytojdbeebgllhhaa
open Go.RowKit
/-- What nearest has found among the first k. -/
def NearSt (f : Nat → Int) (k : Nat) (at_ m cnt : Int) : Prop := (k = 0 ∧ at_ = 0 ∧ m = 0 ∧ cnt = 0) ∨ (1 ≤ k ∧ (0 ≤ at_ ∧ at_ < k) ∧ m = minTo f (f 0) k ∧ 1 ≤ cnt ∧ cnt ≤ k)
theorem nearSt_first {f : Nat → Int} : NearSt f 1 0 (f 0) 1 := .inr ⟨Nat.le_refl _, ⟨by omega, by omega⟩, by simp [minTo], by omega, by omega⟩
theorem nearSt_less {f : Nat → Int} {k : Nat} {at_ m cnt : Int} (h : NearSt f k at_ m cnt) (h1 : 1 ≤ k) (hd : f k < m) : NearSt f (k + 1) k (f k) 1 := by
  rcases h with ⟨h0, _⟩ | ⟨_, _, hm, _⟩
  · omega
  · refine .inr ⟨by omega, ⟨by omega, by omega⟩, ?_, by omega, by omega⟩
    rw [minTo, ← hm, if_neg (by omega)]
theorem nearSt_same {f : Nat → Int} {k : Nat} {at_ m cnt : Int} (h : NearSt f k at_ m cnt) (h1 : 1 ≤ k) (hd : f k = m) : NearSt f (k + 1) at_ m (cnt + 1) := by
  rcases h with ⟨h0, _⟩ | ⟨_, ha, hm, hc⟩
  · omega
  · refine .inr ⟨by omega, ⟨by omega, by omega⟩, ?_, by omega, by omega⟩
    rw [minTo, ← hm, if_neg (by omega), hd]
theorem nearSt_more {f : Nat → Int} {k : Nat} {at_ m cnt : Int} (h : NearSt f k at_ m cnt) (h1 : 1 ≤ k) (hd : m < f k) : NearSt f (k + 1) at_ m cnt := by
  rcases h with ⟨h0, _⟩ | ⟨_, ha, hm, hc⟩
  · omega
  · refine .inr ⟨by omega, ⟨by omega, by omega⟩, ?_, by omega, by omega⟩
    rw [minTo, ← hm, if_pos hd]
def NearOut (f : Nat → Int) (n : Nat) (w : World) (e : Ending) (w' : World) : Prop :=
  (∃ at_ cnt : Int, e = .returned (.tuple #[.int .i64 at_, .int .i64 (minTo f (f 0) n), .int .i64 cnt]) ∧ 0 ≤ at_ ∧ at_ < n) ∧ Gr w w'
set_option maxRecDepth 100000 in
set_option maxHeartbeats 800000 in
theorem nearest_any (a : Option Addr) (n cap : Nat) (yss : List (List Int)) (hn : n = yss.length) (h1 : 1 ≤ n) (hm : n ≤ 60) (p : Option Addr) (l c : Nat) (xs : List Int) (hl : l = xs.length) (h8 : l ≤ 8) (hlen : ∀ i, i < n → (yss.getD i []).length = l) (w : World) (hs : SlicesOf .u8 w a yss) (ht : SliceOf .u8 w p xs) :
    Calls Try.prog 98 #[.slice a n cap, .slice p l c] w (NearOut (fun j => diffTo (yss.getD j []) xs l) n w) := by
  have S := hid hs
  have HN := hid hn
  have HT := hid ht
  have HLN := hid hlen
  have HAP := hid (fun p0 c0 (zs : List Int) (hx : zs.length = l) V (s0 : SliceOf .u8 V p0 zs) (s1 : SliceOf .u8 V p xs) => apartW_any p0 p c0 c l zs xs hx hl.symm (by omega) V s0 s1)
  have HF := hid (show ∀ j, (fun j => diffTo (yss.getD j []) xs l) j = diffTo (yss.getD j []) xs l from fun _ => rfl)
  have HBD := hid (fun j => diffTo_bd (yss.getD j []) xs l)
  clear hs hn ht hlen hl
  generalize (fun j => diffTo (yss.getD j []) xs l) = f at *
  go_enter Try.func98, Try.ntmps98
  go_wp2_with fail
  go_loopw [7, 8, 9, 15] (fun ta tm tc i wr => ∃ k : Nat, k ≤ n ∧ i = .int .i64 k ∧ (∃ at_ m cnt : Int, ta = .int .i64 at_ ∧ tm = .int .i64 m ∧ tc = .int .i64 cnt ∧ Hid (NearSt f k at_ m cnt)) ∧ Hid (Gr w wr)) (fun _ _ _ i _ => n - (intOf i).toNat)
  case atStart => exact ⟨0, Nat.zero_le _, rfl, ⟨0, 0, 0, rfl, rfl, rfl, hid (.inl ⟨rfl, rfl, rfl, rfl⟩)⟩, hid (Gr.refl _)⟩
  case round =>
    obtain ⟨k, hk, rfl, ⟨at_, m, cnt, rfl, rfl, rfl, HS⟩, hg⟩ := hrel
    by_cases hlt : k < n
    · obtain ⟨b0, o0, p0, c0, rfl, h0, s0⟩ := (S.out.gr hg.out) k (by rw [← HN.out]; exact hlt)
      have HC := hid (HAP.out p0 c0 (yss.getD k []) (HLN.out k hlt) wr s0 (HT.out.gr hg.out))
      have HFK := HF.out k
      rw [HLN.out k hlt] at h0
      rw [← HFK] at HC
      clear s0 HFK
      have hcb : 0 ≤ cnt ∧ cnt ≤ k := by rcases HS.out with ⟨_, _, _, h⟩ | ⟨_, _, _, h⟩ <;> omega
      by_cases hk0 : k = 0
      · have hz : at_ = 0 ∧ m = 0 ∧ cnt = 0 := by rcases HS.out with ⟨_, h⟩ | ⟨h, _⟩; exact h; omega
        obtain ⟨rfl, rfl, rfl⟩ := hz
        subst hk0
        clear HS hcb
        generalize hfd : f 0 = d at *
        have HFD := hid hfd
        clear hfd
        rw [Nat.add_zero] at h0
        go_wp2_with fail
        refine HC.out.mono ?_
        rintro e w1 ⟨rfl, d1⟩
        have G1 := hid (hg.out.trans d1.gr)
        clear d1
        go_wp2_with fail
        go_roundw
        case rel => exact ⟨1, by omega, by go_num, ⟨0, d, 1, rfl, rfl, rfl, hid (by rw [← HFD.out]; exact nearSt_first)⟩, G1⟩
        case measure => simp [intOf] <;> omega
      · have hc1 : 1 ≤ cnt := by rcases HS.out with ⟨h, _⟩ | ⟨_, _, _, h, _⟩; omega; exact h
        have tc0 : (cnt == 0) = false := by rw [beq_eq_false_iff_ne]; omega
        have HL := hid (fun h => nearSt_less HS.out (show 1 ≤ k by omega) h)
        have HE := hid (fun h => nearSt_same HS.out (show 1 ≤ k by omega) h)
        have HM := hid (fun h => nearSt_more HS.out (show 1 ≤ k by omega) h)
        generalize f k = d at *
        by_cases h1' : d < m
        · have HQ := hid (HL.out h1')
          clear HL HE HM
          go_wp2_with fail
          refine HC.out.mono ?_
          rintro e w1 ⟨rfl, d1⟩
          have G1 := hid (hg.out.trans d1.gr)
          clear d1
          go_wp2_with fail
          go_roundw
          case rel => exact ⟨k + 1, by omega, by go_num, ⟨k, d, 1, rfl, rfl, rfl, HQ⟩, G1⟩
          case measure => simp [intOf] <;> omega
        · by_cases h2' : d = m
          · have HQ := hid (HE.out h2')
            have te : (d == m) = true := by simpa using h2'
            clear HL HE HM
            go_wp2_with fail
            refine HC.out.mono ?_
            rintro e w1 ⟨rfl, d1⟩
            have G1 := hid (hg.out.trans d1.gr)
            clear d1
            go_wp2_with fail
            go_roundw
            case rel => exact ⟨k + 1, by omega, by go_num, ⟨at_, m, cnt + 1, rfl, rfl, rfl, HQ⟩, G1⟩
            case measure => simp [intOf] <;> omega
          · have HQ := hid (HM.out (by omega))
            have te : (d == m) = false := by simpa using h2'
            clear HL HE HM
            go_wp2_with fail
            refine HC.out.mono ?_
            rintro e w1 ⟨rfl, d1⟩
            have G1 := hid (hg.out.trans d1.gr)
            clear d1
            go_wp2_with fail
            go_roundw
            case rel => exact ⟨k + 1, by omega, by go_num, ⟨at_, m, cnt, rfl, rfl, rfl, HQ⟩, G1⟩
            case measure => simp [intOf] <;> omega
    · obtain rfl : k = n := by omega
      have hf : (0 ≤ at_ ∧ at_ < k) ∧ m = minTo f (f 0) k := by rcases HS.out with ⟨h, _⟩ | ⟨_, ha, hm, _⟩; omega; exact ⟨ha, hm⟩
      have HF2 := hid hf
      clear hf HS
      go_wp2_with fail
      go_ret3
      exact ⟨⟨at_, cnt, by rw [← HF2.out.2]; rfl, HF2.out.1⟩, hg.out⟩
end Go.Proofs.Ytojdbeebgllhhaa
