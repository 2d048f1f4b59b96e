/- Phrases: what both sides ask of one, and of all; where one is. -/
import Derived.Test.YtkbdblaciphmnaaPhrM
import Derived.Test.YtkbdblaciphmnaaHoistT
import Derived.Test.YtkbdblaciphmnaaStrs
import Derived.Laws.IdiomStrings
namespace Go.Proofs.Ytkbdblaciphmnaa
set_option linter.unusedVariables false
open Go.RowKit
theorem phB_bet {s : ByteArray} (h : allTo (inAt (bytesN s) 32 126) s.size = true) : phB s = betB (s.size : Int) 1 40 := by
  unfold phB
  rw [txtB_all h]
  unfold betB
  rw [Bool.eq_iff_iff]
  simp only [Bool.and_eq_true, decide_eq_true_eq]
  omega
set_option maxRecDepth 100000 in
set_option maxHeartbeats 1000000 in
theorem l03Phrase_any (s : ByteArray) (hs : s.size ≤ 9223372036854775807) (w : World) :
    Calls Try.prog 74 #[.string s] w fun e w' => e = .returned (.bool (phB s)) ∧ w = w' := by
  have HG := hid (fun (k : Nat) (h : k < s.size) => bytesN_get s h)
  have HNO := hid (fun (k : Nat) (hk : k < s.size) (h : ¬ (32 ≤ (s[k].toNat : Int) ∧ (s[k].toNat : Int) ≤ 126)) => show phB s = false from txtB_at hk h)
  have HYE := hid (fun (h : allTo (inAt (bytesN s) 32 126) s.size = true) => phB_bet h)
  generalize phB s = r at *
  go_enter Try.func74, Try.ntmps74
  go_wp2
  go_loop [3] (fun i => ∃ k : Nat, k ≤ s.size ∧ i = .int .i64 k ∧ Hid (allTo (inAt (bytesN s) 32 126) k = true)) (fun i => s.size - (intOf i).toNat)
  case atStart => exact ⟨0, Nat.zero_le _, rfl, hid rfl⟩
  case round =>
    obtain ⟨k, hk, rfl, hok⟩ := hrel
    by_cases hlt : k < s.size
    · have HC := hid (HG.out k hlt)
      have HNK := hid (HNO.out k hlt)
      by_cases h1 : (s[k].toNat : Int) < 32
      · have HZ := hid (HNK.out (by omega))
        go_wp2
        go_ret
        exact ⟨ret_bool HZ.out.symm, rfl⟩
      · by_cases h2 : 126 < (s[k].toNat : Int)
        · have HZ := hid (HNK.out (by omega))
          go_wp2
          go_ret
          exact ⟨ret_bool HZ.out.symm, rfl⟩
        · have HY := hid (allTo_step hok.out (inAt_iff.2 (by rw [HC.out]; omega)))
          go_wp2
          go_round
          case rel => exact ⟨k + 1, by omega, by go_num, HY⟩
          case measure => simp [intOf] <;> omega
    · have hkn : k = s.size := by omega
      have HV := hid (HYE.out (by rw [← hkn]; exact hok.out))
      clear hkn
      go_wp2_with (go_at_call 58; refine (l00In_b _ _ _ _).mono ?_; rintro e w' ⟨rfl, rfl⟩)
      go_ret
      exact ⟨ret_bool HV.out.symm, rfl⟩
set_option maxRecDepth 100000 in
set_option maxHeartbeats 1000000 in
theorem isText_any (s : ByteArray) (hs : s.size ≤ 9223372036854775807) (m : Nat) (a b : Int) (w : World) :
    Calls Try.prog 75 #[.string s, .int .i64 m, .int .u8 a, .int .u8 b] w fun e w' => e = .returned (.bool (txtB s m a b)) ∧ w = w' := by
  have HG := hid (fun (k : Nat) (h : k < s.size) => bytesN_get s h)
  have HNO := hid (fun (k : Nat) (hk : k < s.size) (h : ¬ (a ≤ (s[k].toNat : Int) ∧ (s[k].toNat : Int) ≤ b)) => show txtB s m a b = false from txtB_at hk h)
  have HYE := hid (fun (h : allTo (inAt (bytesN s) a b) s.size = true) => txtB_all (m := m) h)
  have HLE := hid (fun (h : ¬ (1 ≤ s.size ∧ s.size ≤ m)) => txtB_len (a := a) (b := b) h)
  generalize txtB s m a b = r at *
  by_cases h1 : s.size < 1
  · have HV := hid (HLE.out (by omega))
    go_enter Try.func75, Try.ntmps75
    go_wp2
    go_ret
    exact ⟨ret_bool HV.out.symm, rfl⟩
  · by_cases h2 : m < s.size
    · have HV := hid (HLE.out (by omega))
      go_enter Try.func75, Try.ntmps75
      go_wp2
      go_ret
      exact ⟨ret_bool HV.out.symm, rfl⟩
    · have HLB := hid (show (decide (1 ≤ s.size) && decide (s.size ≤ m)) = true by simp; omega)
      rw [HLB.out] at HYE
      go_enter Try.func75, Try.ntmps75
      go_wp2
      go_loop [9, 21] (fun _ i => ∃ k : Nat, k ≤ s.size ∧ i = .int .i64 k ∧ Hid (allTo (inAt (bytesN s) a b) k = true)) (fun _ i => s.size - (intOf i).toNat)
      case atStart => exact ⟨0, Nat.zero_le _, rfl, hid rfl⟩
      case round =>
        obtain ⟨k, hk, rfl, hok⟩ := hrel
        by_cases hlt : k < s.size
        · have HC := hid (HG.out k hlt)
          have HNK := hid (HNO.out k hlt)
          by_cases h1 : (s[k].toNat : Int) < a
          · have HZ := hid (HNK.out (by omega))
            go_wp2
            go_ret
            exact ⟨ret_bool HZ.out.symm, rfl⟩
          · by_cases h2 : b < (s[k].toNat : Int)
            · have HZ := hid (HNK.out (by omega))
              go_wp2
              go_ret
              exact ⟨ret_bool HZ.out.symm, rfl⟩
            · have HY := hid (allTo_step hok.out (inAt_iff.2 (by rw [HC.out]; omega)))
              go_wp2
              go_round
              case rel => exact ⟨k + 1, by omega, by go_num, HY⟩
              case measure => simp [intOf] <;> omega
        · have hkn : k = s.size := by omega
          have HV := hid (HYE.out (by rw [← hkn]; exact hok.out))
          clear hkn
          go_wp2
          go_ret
          exact ⟨ret_bool HV.out.symm, rfl⟩
set_option maxRecDepth 100000 in
theorem isPhrase_any (s : ByteArray) (hs : s.size ≤ 9223372036854775807) (w : World) :
    Calls Try.prog 50 #[.string s] w fun e w' => e = .returned (.bool (phB s)) ∧ w = w' := by
  have H := hid (fun V => isText_any s hs 40 32 126 V)
  go_enter Try.func50, Try.ntmps50
  go_wp2_with fail
  refine (H.out _).mono ?_
  rintro e w' ⟨rfl, rfl⟩
  go_wp2_with fail
  go_ret
  exact ⟨rfl, rfl⟩
def SizesOk (ss : List ByteArray) : Prop := ∀ i, (strAt ss i).size ≤ 9223372036854775807
def phAll (ss : List ByteArray) (k : Nat) : Bool := allTo (fun i => phB (strAt ss i)) k
set_option maxRecDepth 100000 in
set_option maxHeartbeats 1000000 in
theorem allPhrases_any (a : Option Addr) (cap n : Nat) (ss : List ByteArray) (hl : n = ss.length) (hn : n ≤ 1048576) (hz : SizesOk ss) (w : World) (hs : StrsOf w a ss) :
    Calls Try.prog 49 #[.slice a n cap, .func (.func 50) #[] #[]] w fun e w' => e = .returned (.bool (phAll ss n)) ∧ w = w' := by
  have HS := hid hs
  have HL := hid hl
  have HP := hid (fun i V => isPhrase_any (strAt ss i) (hz i) V)
  have hcf := callFunc_enter Try.func50 (by kernel_rfl) (by kernel_rfl)
  have HNO := hid (fun k (hk : k < n) (h : phB (strAt ss k) = false) => show phAll ss n = false from allTo_no hk h)
  have HST := hid (fun k (h : phAll ss k = true) (h2 : phB (strAt ss k) = true) => show phAll ss (k + 1) = true from allTo_step h h2)
  clear hs hl hz
  go_enter Try.func49, Try.ntmps49
  go_wp2_with fail
  go_loop [9] (fun i => ∃ k : Nat, k ≤ n ∧ i = .int .i64 k ∧ Hid (phAll ss k = true)) (fun i => n - (intOf i).toNat)
  case atStart => exact ⟨0, Nat.zero_le _, rfl, hid rfl⟩
  case round =>
    obtain ⟨k, hk, rfl, hok⟩ := hrel
    by_cases hlt : k < n
    · obtain ⟨b0, o0, rfl, h0⟩ := HS.out k (by rw [← HL.out]; exact hlt)
      have HPK := hid (HP.out k)
      have HNK := hid (HNO.out k hlt)
      have HSK := hid (HST.out k hok.out)
      unfold strAt at HPK HNK HSK
      generalize ss.getD k ByteArray.empty = v at *
      cases hv : phB v with
      | false =>
        rw [hv] at HPK
        have HZ := hid (HNK.out hv)
        clear hv HNK HSK
        go_wp2_with fail
        refine (HPK.out _).mono ?_
        rintro e w' ⟨rfl, rfl⟩
        go_wp2_with fail
        go_ret
        exact ⟨ret_bool HZ.out.symm, rfl⟩
      | true =>
        rw [hv] at HPK
        have HY := hid (HSK.out hv)
        clear hv HNK HSK
        go_wp2_with fail
        refine (HPK.out _).mono ?_
        rintro e w' ⟨rfl, rfl⟩
        go_wp2_with fail
        go_round
        case rel => exact ⟨k + 1, by omega, by go_num, HY⟩
        case measure => simp [intOf] <;> omega
    · have HV := hid (show phAll ss n = true by rw [show n = k by omega]; exact hok.out)
      go_wp2_with fail
      go_ret
      exact ⟨ret_bool HV.out.symm, rfl⟩
/-- A book that lies in memory. -/
structure BookAt (w : World) (b : Nat) (k l s : Int) (a : Option Addr) (n cap : Nat) (ss : List ByteArray) : Prop where
  c0 : w.cell? ⟨b, 0, none⟩ = some (.int .i8 k)
  c1 : w.cell? ⟨b, 1, none⟩ = some (.int .i8 l)
  c2 : w.cell? ⟨b, 2, none⟩ = some (.int .i8 s)
  c3 : w.cell? ⟨b, 3, none⟩ = some (.slice a n cap)
  len : n = ss.length
  reads : StrsOf w a ss
theorem BookAt.gr {w w' : World} {b : Nat} {k l s : Int} {a : Option Addr} {n cap : Nat} {ss : List ByteArray} (h : BookAt w b k l s a n cap ss) (g : Gr w w') : BookAt w' b k l s a n cap ss :=
  ⟨g.cell h.c0, g.cell h.c1, g.cell h.c2, g.cell h.c3, h.len, h.reads.gr g⟩
theorem bookAt_block {w : World} {b : Nat} {k l s : Int} {a : Option Addr} {n cap : Nat} {ss : List ByteArray} {t : TypeId} {fr : Nat × Nat} (h : w.heap[b]? = some (.cells #[.int .i8 k, .int .i8 l, .int .i8 s, .slice a n cap] t fr)) (hl : n = ss.length) (hs : StrsOf w a ss) : BookAt w b k l s a n cap ss :=
  ⟨by rw [cell_of_row w b 0 _ t fr h]; rfl, by rw [cell_of_row w b 1 _ t fr h]; rfl, by rw [cell_of_row w b 2 _ t fr h]; rfl, by rw [cell_of_row w b 3 _ t fr h]; rfl, hl, hs⟩
theorem firstTo_zero {ss : List ByteArray} {x : ByteArray} : (firstTo ss 0 x).isSome = false := rfl
set_option maxRecDepth 100000 in
set_option maxHeartbeats 1000000 in
theorem l03Find_any (b : Nat) (k l s : Int) (a : Option Addr) (n cap : Nat) (ss : List ByteArray) (hn : n ≤ 1048576) (x : ByteArray) (w : World) (hb : BookAt w b k l s a n cap ss) :
    Calls Try.prog 52 #[.pointer (some ⟨b, 0, none⟩), .string x] w fun e w' => e = .returned (.int .i64 (firstV ss x)) ∧ w = w' := by
  have HS := hid hb.reads
  have HL := hid hb.len
  have c3 := hb.c3
  have HAT := hid (fun k (hk : k < ss.length) (h : (firstTo ss k x).isSome = false) (hx : x = strAt ss k) => firstV_at hk h hx)
  have HNO := hid (fun (h : (firstTo ss ss.length x).isSome = false) => firstV_none h)
  have HST := hid (fun k (h : (firstTo ss k x).isSome = false) (hx : ¬ x = strAt ss k) => firstTo_step h hx)
  clear hb
  generalize firstV ss x = r at *
  go_enter Try.func52, Try.ntmps52
  go_wp2_with fail
  go_loop [5] (fun i => ∃ k : Nat, k ≤ n ∧ i = .int .i64 k ∧ Hid ((firstTo ss k x).isSome = false)) (fun i => n - (intOf i).toNat)
  case atStart => exact ⟨0, Nat.zero_le _, rfl, hid rfl⟩
  case round =>
    obtain ⟨k, hk, rfl, hok⟩ := hrel
    by_cases hlt : k < n
    · have hlt' : k < ss.length := by rw [← HL.out]; exact hlt
      obtain ⟨b0, o0, rfl, h0⟩ := HS.out k hlt'
      have HAK := hid (HAT.out k hlt' hok.out)
      have HSK := hid (HST.out k hok.out)
      clear hlt'
      unfold strAt at HAK HSK
      generalize ss.getD k ByteArray.empty = v at *
      by_cases hv : x = v
      · have HZ := hid (HAK.out hv)
        clear HAK HSK
        subst hv
        go_wp2_with fail
        go_ret
        exact ⟨ret_int HZ.out.symm, rfl⟩
      · have HY := hid (HSK.out hv)
        have t1 := toList_ne (fun e => hv e.symm : ¬ v = x)
        clear HAK HSK hv
        go_wp2_with fail
        go_round
        case rel => exact ⟨k + 1, by omega, by go_num, HY⟩
        case measure => simp [intOf] <;> omega
    · have HV := hid (HNO.out (by rw [← HL.out, show n = k by omega]; exact hok.out))
      go_wp2_with fail
      go_ret
      exact ⟨ret_int HV.out.symm, rfl⟩
end Go.Proofs.Ytkbdblaciphmnaa
