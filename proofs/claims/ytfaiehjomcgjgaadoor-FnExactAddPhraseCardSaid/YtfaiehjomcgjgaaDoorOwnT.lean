/- Slices of strings of the call's own; books that are handed back; their marks. -/
import Derived.Test.YtfaiehjomcgjgaaDoorGBk
import Derived.Test.YtfaiehjomcgjgaaDoorMarkB
namespace Go.Proofs.YtfaiehjomcgjgaaDoor
set_option linter.unusedVariables false
open Go.RowKit
/-- A slice of strings whose row lies in a block from lo on, below hi, and holds ss. -/
structure OwnT (w : World) (lo hi : Nat) (v : Value) (ss : List ByteArray) : Prop where
  row : w.ownsRow lo 9 1 v ss.length (ss.map Value.string)
  top : ∀ b, v.ownBlock = some b → b < hi
section
variable {W w w' : World} {lo hi n cap : Nat} {v : Value} {a : Option Addr} {ss : List ByteArray}
theorem OwnT.by_ {row : Option Nat} (h : OwnT w lo hi v ss) (hg : w.grownBy w' row) (hne : ∀ b, row = some b → b < lo ∨ hi ≤ b) : OwnT w' lo hi v ss := by
  refine ⟨h.row.kept hg ?_, h.top⟩
  cases hv : v.ownBlock with
  | none => exact .inl rfl
  | some b =>
    right
    intro hr
    have h1 := (h.row.lt b hv).1
    have h2 := h.top b hv
    have h3 := hne b hr.symm
    omega
theorem OwnT.gr (h : OwnT W lo hi v ss) (g : Gr W w) : OwnT w lo hi v ss := by
  refine ⟨⟨h.row.1, ?_⟩, h.top⟩
  rcases h.row.2 with h1 | ⟨g', cap, cur, h1, h2, h3, r⟩
  · exact .inl h1
  · exact .inr ⟨g', cap, cur, h1, h2, g.heap h3, r⟩
theorem OwnT.widen {lo' hi' : Nat} (h : OwnT w lo hi v ss) (hl : lo' ≤ lo) (hh : hi ≤ hi') : OwnT w lo' hi' v ss := by
  refine ⟨⟨h.row.1, ?_⟩, fun b hb => Nat.lt_of_lt_of_le (h.top b hb) hh⟩
  rcases h.row.2 with h1 | ⟨g', cap, cur, h1, h2, r⟩
  · exact .inl h1
  · exact .inr ⟨g', cap, cur, h1, Nat.le_trans hl h2, r⟩
theorem OwnT.shape (h : OwnT w lo hi v ss) : ∃ a cap, v = .slice a ss.length cap := by
  rcases h.row.2 with ⟨h1, h2⟩ | ⟨g', cap, cur, h1, _⟩
  · exact ⟨none, 0, by rw [h1, h2]⟩
  · exact ⟨_, _, h1⟩
theorem OwnT.len (h : OwnT w lo hi (.slice a n cap) ss) : n = ss.length := by
  obtain ⟨a', c', h1⟩ := h.shape
  simp only [Value.slice.injEq] at h1
  exact h1.2.1
theorem OwnT.at_ (h : OwnT w lo hi (.slice a n cap) ss) {i : Nat} (hi' : i < ss.length) :
    ∃ g, a = some ⟨g, 0, none⟩ ∧ (lo ≤ g ∧ g < hi) ∧ w.cell? ⟨g, i, none⟩ = some (.string (ss.getD i ByteArray.empty)) ∧ w.frozen? ⟨g, i, none⟩ = false := by
  have hl := h.len
  subst hl
  rcases h.row.2 with ⟨h1, h2⟩ | ⟨g', cap', cur, h1, h2, _⟩
  · omega
  · simp only [Value.slice.injEq] at h1
    obtain ⟨rfl, _, rfl⟩ := h1
    refine ⟨g', rfl, ⟨h2, h.top g' rfl⟩, ?_, h.row.frozenAt i⟩
    rw [h.row.cellAt i (by omega)]
    simp [List.getElem?_eq_getElem hi', List.getD]
theorem OwnT.reads (h : OwnT w lo hi (.slice a n cap) ss) : StrsOf w a ss := by
  intro i hi'
  obtain ⟨g, rfl, _, hc, _⟩ := h.at_ hi'
  exact ⟨g, 0, rfl, by rw [Nat.zero_add]; exact hc⟩
theorem OwnT.put {g : Nat} (h : OwnT w lo hi (.slice (some ⟨g, 0, none⟩) n cap) ss) (i : Nat) (x : ByteArray) :
    OwnT (w.setCell ⟨g, i, none⟩ (.string x)) lo hi (.slice (some ⟨g, 0, none⟩) n cap) (ss.set i x) ∧ w.grownBy (w.setCell ⟨g, i, none⟩ (.string x)) (some g) := by
  have hl := h.len
  subst hl
  have h1 := h.row.stored i (.string x)
  refine ⟨⟨?_, h.top⟩, h1.2⟩
  rw [List.length_set, List.map_set]
  exact h1.1
theorem OwnT.ofBlock {b : Nat} (hb : w.heap[b]? = some (.cells (strCells ss) 9 (0, 0))) (hm : ss.length ≤ maxLen) : OwnT w b (b + 1) (.slice (some ⟨b, 0, none⟩) ss.length ss.length) ss := by
  refine ⟨⟨by simp, .inr ⟨b, ss.length, strCells ss, rfl, Nat.le_refl _, hb, Nat.le_refl _, hm, by rw [strCells_size, Nat.mul_one], ?_⟩⟩, fun b' hb' => ?_⟩
  · rw [Nat.mul_one]
    exact List.take_of_length_le (by rw [Array.length_toList, strCells_size]; exact Nat.le_refl _)
  · simp only [Value.ownBlock, Option.some.injEq] at hb'; omega
theorem OwnT.nil (w : World) (lo hi : Nat) : OwnT w lo hi (.slice none 0 0) [] := ⟨World.ownsRow_nil w lo 9 1, fun b hb => by simp [Value.ownBlock] at hb⟩
theorem OwnT.ofRow {ys : List Value} {m : Nat} (h : w.ownsRow lo 9 1 v m ys) (hy : ys = ss.map Value.string) (hm : m = ss.length) : OwnT w lo w.heap.size v ss := by
  subst hy hm
  exact ⟨h, fun b hb => (h.lt b hb).2⟩
end
/-- A book is handed back, with a code. -/
def RetBook (k l s c : Int) (rs : List ByteArray) (w : World) (e : Ending) (w' : World) : Prop :=
  ∃ v, e = .returned (.tuple #[bookV k l s v, .int .i64 c]) ∧ OwnT w' w.heap.size w'.heap.size v rs ∧ Gr w w'
/-- The text of a number's mark. -/
def mkF : Nat → Nat → ByteArray → ByteArray
  | 0, _, t => t
  | f + 1, k, t => if k = 0 then t else mkF f (k / 10) (strOfNums [48 + (k : Int) % 10] ++ t)
def markT (c : Nat) : ByteArray := if c = 0 then ⟨#[109, 48]⟩ else ⟨#[109]⟩ ++ mkF c c ⟨#[]⟩
theorem mkF_step {f k : Nat} (hk : 0 < k) (hf : k ≤ f) (t : ByteArray) : mkF (k / 10) (k / 10) (strOfNums [48 + (k : Int) % 10] ++ t) = mkF f k t := by
  have key : ∀ (f g k : Nat) (t : ByteArray), k ≤ f → k ≤ g → mkF f k t = mkF g k t := by
    intro f
    induction f with
    | zero => intro g k t hf hg; obtain rfl : k = 0 := by omega
              cases g <;> simp [mkF]
    | succ f ih =>
      intro g k t hf hg
      cases g with
      | zero => obtain rfl : k = 0 := by omega
                simp [mkF]
      | succ g =>
        simp only [mkF]
        by_cases h0 : k = 0
        · rw [if_pos h0, if_pos h0]
        · rw [if_neg h0, if_neg h0]
          exact ih _ _ _ (by omega) (by omega)
  obtain ⟨f', rfl⟩ : ∃ f', f = f' + 1 := ⟨f - 1, by omega⟩
  simp only [mkF]
  rw [if_neg (by omega)]
  exact key _ _ _ _ (Nat.le_refl _) (by omega)
theorem mkF_zero (t : ByteArray) : mkF 0 0 t = t := rfl
set_option maxRecDepth 100000 in
set_option maxHeartbeats 1000000 in
theorem markTextV_any (c : Nat) (hc : c ≤ 2097152) (w : World) :
    Calls Tryd.prog 70 #[.int .i64 (c : Int)] w fun e w' => e = .returned (.string (markT c)) ∧ Gr w w' := by
  by_cases h0 : c = 0
  · subst h0
    go_enter Tryd.func70, Tryd.ntmps70
    go_wp2_with fail
    go_ret
    exact ⟨rfl, Gr.refl _⟩
  · have hle : decide (c = 0) = false := decide_eq_false h0
    have HC := hid hc
    have HR : Hid (markT c = ⟨#[109]⟩ ++ mkF c c ⟨#[]⟩) := hid (by unfold markT; rw [if_neg h0])
    clear hc
    generalize hmt : markT c = mt at *
    clear hmt
    go_enter Tryd.func70, Tryd.ntmps70
    go_wp2_with fail
    go_loopw [0, 3] (fun q s wr => ∃ (k : Nat) (t : ByteArray), q = .int .i64 k ∧ s = .string t ∧ Hid (t.size + k ≤ c ∧ mt = ⟨#[109]⟩ ++ mkF k k t) ∧ Hid (Gr w wr)) (fun q _ _ => (intOf q).toNat)
    case atStart => exact ⟨c, ⟨#[]⟩, rfl, rfl, hid ⟨by simp [ByteArray.size], HR.out⟩, hid (Gr.refl _)⟩
    case round =>
      obtain ⟨k, t, rfl, rfl, htm, hg⟩ := hrel
      by_cases hlt : 0 < k
      · have ht' := htm.out.1
        have hc' := HC.out
        have HM : Hid (mt = ⟨#[109]⟩ ++ mkF (k / 10) (k / 10) (strOfNums [48 + (k : Int) % 10] ++ t)) := hid (by rw [mkF_step hlt (Nat.le_refl _)]; exact htm.out.2)
        have hk : (k : Int) ≤ 2097152 := by omega
        have e1 : IntKind.i64.wrap ((k : Int) % 10) = (k : Int) % 10 := IntWalk.i64_in _ (by omega)
        have e2 : IntKind.i64.wrap (48 + (k : Int) % 10) = 48 + (k : Int) % 10 := IntWalk.i64_in _ (by omega)
        have e3 : IntKind.u8.wrap (48 + (k : Int) % 10) = 48 + (k : Int) % 10 := IntWalk.u8_in _ (by omega)
        have e4 : IntKind.i64.wrap ((k : Int) / 10) = (k : Int) / 10 := IntWalk.i64_in _ (by omega)
        have hs : (strOfNums [48 + (k : Int) % 10]).size + t.size ≤ 9223372036854775807 := by rw [show (strOfNums [48 + (k : Int) % 10]).size = 1 from rfl]; omega
        have hus' : (strOfNums [48 + (k : Int) % 10]).size = 1 := rfl
        have hcv := conv_one (w := wr) (x := 48 + (k : Int) % 10)
        clear htm
        generalize strOfNums [48 + (k : Int) % 10] = u at *
        have hus : u.size = 1 := hus'
        go_wp2_with fail
        go_roundw
        case rel => exact ⟨k / 10, u ++ t, by go_num, rfl, hid ⟨by rw [ByteArray.size_append]; omega, HM.out⟩, hid (hg.out.alloc _)⟩
        case measure => simp [intOf]; omega
      · have hk0 : k = 0 := by omega
        subst hk0
        have HM := hid htm.out.2
        have hs : (⟨#[109]⟩ : ByteArray).size + t.size ≤ 9223372036854775807 := by
          have ht' := htm.out.1
          have hc' := HC.out
          rw [show (⟨#[109]⟩ : ByteArray).size = 1 from rfl]; omega
        clear htm
        go_wp2_with fail
        go_ret
        exact ⟨by rw [HM.out]; rfl, hg.out⟩
/-- Marked texts. -/
def mkS (k0 n : Nat) : List ByteArray := (List.range n).map fun i => markT (k0 + i)
theorem mkS_length (k0 n : Nat) : (mkS k0 n).length = n := by simp [mkS]
theorem mkS_get {k0 n i : Nat} (h : i < n) : (mkS k0 n).getD i ByteArray.empty = markT (k0 + i) := by simp [mkS, List.getD, h]
def mkSTo (k0 : Nat) (ss : List ByteArray) (j : Nat) : List ByteArray := (List.range j).map (fun i => markT (k0 + i)) ++ ss.drop j
theorem mkSTo_length {k0 : Nat} {ss : List ByteArray} {j : Nat} (h : j ≤ ss.length) : (mkSTo k0 ss j).length = ss.length := by simp [mkSTo]; omega
theorem mkSTo_zero (k0 : Nat) (ss : List ByteArray) : mkSTo k0 ss 0 = ss := by simp [mkSTo]
theorem mkSTo_all (k0 : Nat) (ss : List ByteArray) : mkSTo k0 ss ss.length = mkS k0 ss.length := by simp [mkSTo, mkS]
theorem mkSTo_set {k0 : Nat} {ss : List ByteArray} {j : Nat} (h : j < ss.length) : (mkSTo k0 ss j).set j (markT (k0 + j)) = mkSTo k0 ss (j + 1) := by
  unfold mkSTo
  rw [List.set_append_right _ _ (by simp), List.length_map, List.length_range, Nat.sub_self, List.range_succ, List.map_append, List.append_assoc]
  congr 1
  rw [List.drop_eq_getElem_cons h]
  rfl
set_option maxRecDepth 100000 in
set_option maxHeartbeats 1000000 in
theorem markStringS_own (a : Option Addr) (n cap lo hi : Nat) (ss : List ByteArray) (hn : n ≤ 1048576) (w : World) (ho : OwnT w lo hi (.slice a n cap) ss) :
    Calls Tryd.prog 46 #[.slice a n cap, .int .i64 1] w fun e w' => e = .returned (.int .i64 (1 + (n : Int))) ∧ OwnT w' lo hi (.slice a n cap) (mkS 1 n) ∧ w.grownBy w' (Value.slice a n cap).ownBlock := by
  have HT := hid (fun c hc V => markTextV_any c hc V)
  have hl := ho.len
  have HO := hid ho
  have HL := hid hl
  clear ho hl
  go_enter Tryd.func46, Tryd.ntmps46
  go_wp2_with fail
  go_loopw [1, 5] (fun q i wr => ∃ k : Nat, k ≤ n ∧ i = .int .i64 k ∧ q = .int .i64 (1 + k : Nat) ∧ Hid (OwnT wr lo hi (.slice a n cap) (mkSTo 1 ss k)) ∧ Hid (w.grownBy wr (Value.slice a n cap).ownBlock)) (fun _ i _ => n - (intOf i).toNat)
  case atStart => exact ⟨0, Nat.zero_le _, rfl, rfl, hid (by rw [mkSTo_zero]; exact HO.out), hid ⟨rfl, rfl, rfl, Nat.le_refl _, fun _ _ _ => rfl⟩⟩
  case round =>
    obtain ⟨k, hk, rfl, rfl, hw, hg⟩ := hrel
    by_cases hlt : k < n
    · have hlx : k < ss.length := by rw [← HL.out]; exact hlt
      have hlm : k < (mkSTo 1 ss k).length := by rw [mkSTo_length (by omega)]; exact hlx
      obtain ⟨g, rfl, hgb, -, -⟩ := hw.out.at_ hlm
      have HM := hid (HT.out (1 + k) (by omega) wr)
      push_cast at HM
      have HST := hid (mkSTo_set (k0 := 1) hlx)
      have HLM := hid hlm
      clear hlx hlm hgb
      push_cast
      go_wp2_with fail
      refine HM.out.mono ?_
      rintro e w1 ⟨rfl, g1⟩
      have o1 := hw.out.gr g1
      obtain ⟨g', e0, -, hc0, hf0⟩ := o1.at_ HLM.out
      simp only [Option.some.injEq, Addr.mk.injEq, and_true] at e0
      subst e0
      have HP := hid (o1.put k (markT (1 + k)))
      rw [HST.out] at HP
      have HG := hid ((hg.out.trans (grown_gr g1 _)).trans HP.out.2)
      have HPO := hid HP.out.1
      clear o1 g1 HM HP HT HST
      generalize (mkSTo 1 ss k).getD k ByteArray.empty = y at *
      generalize markT (1 + k) = mt at *
      go_wp2_with fail
      go_roundw
      case rel => exact ⟨k + 1, by omega, by go_num, by go_num, HPO, HG⟩
      case measure => simp [intOf]; omega
    · have hkn : k = n := by omega
      have H0 : Hid (OwnT wr lo hi (.slice a n cap) (mkS 1 n)) := by
        rw [hkn, HL.out, mkSTo_all, ← HL.out] at hw; exact hw
      have HK := hid hkn
      clear hw hkn
      go_wp2_with fail
      go_ret
      exact ⟨ret_int (by rw [← HK.out]; push_cast; rfl), H0.out, hg.out⟩
set_option maxRecDepth 100000 in
set_option maxHeartbeats 1000000 in
theorem heldStringS_own (a : Option Addr) (n cap : Nat) (hn : n ≤ 1048576) (w : World) (hs : StrsOf w a (mkS 1 n)) :
    Calls Tryd.prog 53 #[.slice a n cap, .int .i64 1] w fun e w' => e = .returned (.int .i64 (1 + (n : Int))) ∧ Gr w w' := by
  have HT := hid (fun c hc V => markTextV_any c hc V)
  have HS := hid hs
  clear hs
  go_enter Tryd.func53, Tryd.ntmps53
  go_wp2_with fail
  go_loopw [1, 5] (fun q i wr => ∃ k : Nat, k ≤ n ∧ i = .int .i64 k ∧ q = .int .i64 (1 + k : Nat) ∧ Hid (Gr w wr)) (fun _ i _ => n - (intOf i).toNat)
  case atStart => exact ⟨0, Nat.zero_le _, rfl, rfl, hid (Gr.refl _)⟩
  case round =>
    obtain ⟨k, hk, rfl, rfl, hg⟩ := hrel
    by_cases hlt : k < n
    · obtain ⟨b, off, rfl, hc⟩ := (HS.out.gr hg.out) k (by rw [mkS_length]; exact hlt)
      rw [mkS_get hlt] at hc
      have HM := hid (fun V => HT.out (1 + k) (by omega) V)
      push_cast at HM
      clear HT
      generalize markT (1 + k) = mt at *
      push_cast
      go_wp2_with fail
      have gd : Gr wr wr.drew := (Gr.refl wr).drew
      have p0 : wr.drew.cell? ⟨b, off + k, none⟩ = some (.string mt) := gd.cell hc
      go_region_held3 (fun V => V.cell? ⟨b, off + k, none⟩ = some (.string mt) ∧ Gr wr V)
        (first | exact ⟨p0, gd⟩ | exact ⟨gW.cell hc, gW⟩ | go_keep)
        (((with_reducible refine (HM.out _).mono ?_); rintro e V ⟨rfl, gV⟩; have gW : Gr wr V := Gr.trans (by assumption) gV))
      have G1 := hid (hg.out.trans gW)
      go_wp2_with fail
      go_roundw
      case rel => exact ⟨k + 1, by omega, by go_num, by go_num, G1⟩
      case measure => simp [intOf]; omega
    · have hkn : k = n := by omega
      have HK := hid hkn
      clear hkn
      go_wp2_with fail
      go_ret
      exact ⟨ret_int (by rw [← HK.out]; push_cast; rfl), hg.out⟩
set_option maxRecDepth 100000 in
set_option maxHeartbeats 1000000 in
theorem markBook_own (k l s : Int) (a : Option Addr) (n cap lo hi : Nat) (ss : List ByteArray) (hn : n ≤ 1048576) (w : World) (hlo : hi ≤ w.heap.size) (ho : OwnT w lo hi (.slice a n cap) ss) :
    Calls Tryd.prog 16 #[bookV k l s (.slice a n cap), .int .i64 1] w fun e w' => e = .returned (.int .i64 (1 + (n : Int))) ∧ OwnT w' lo hi (.slice a n cap) (mkS 1 n) ∧ w.grownBy w' (Value.slice a n cap).ownBlock := by
  obtain ⟨W, hW⟩ : ∃ W, W = w.alloc (.cells (bookC k l s (.slice a n cap)) 31) := ⟨_, rfl⟩
  have G0 : Hid (Gr w W) := hid (by rw [hW]; exact (Gr.refl w).alloc _)
  have HM := hid (markStringS_own a n cap lo hi ss hn W (ho.gr G0.out))
  obtain ⟨d0, d1, d2, d3⟩ := bk_cells (show W.heap[w.heap.size]? = some (.cells (bookC k l s (.slice a n cap)) 31 (0, 0)) by rw [hW]; exact heap_new rfl)
  have HW := hid hW
  clear ho hW
  go_enter Tryd.func16, Tryd.ntmps16
  go_wp2_with fail
  rw [← HW.out]
  go_wp2_with fail
  refine HM.out.mono ?_
  rintro e w1 ⟨rfl, o1, g1⟩
  have G1 := hid ((grown_gr G0.out _).trans g1)
  have O1 := hid o1
  clear g1 o1 d0 d1 d2 d3
  go_wp2_with fail
  go_ret
  exact ⟨rfl, O1.out, G1.out⟩
set_option maxRecDepth 100000 in
set_option maxHeartbeats 1000000 in
theorem heldBook_own (k l s : Int) (a : Option Addr) (n cap : Nat) (hn : n ≤ 1048576) (w : World) (hs : StrsOf w a (mkS 1 n)) :
    Calls Tryd.prog 27 #[bookV k l s (.slice a n cap), .int .i64 1] w fun e w' => e = .returned (.int .i64 (1 + (n : Int))) ∧ Gr w w' := by
  obtain ⟨W, hW⟩ : ∃ W, W = w.alloc (.cells (bookC k l s (.slice a n cap)) 31) := ⟨_, rfl⟩
  have G0 : Hid (Gr w W) := hid (by rw [hW]; exact (Gr.refl w).alloc _)
  have HM := hid (heldStringS_own a n cap hn W (hs.gr G0.out))
  obtain ⟨d0, d1, d2, d3⟩ := bk_cells (show W.heap[w.heap.size]? = some (.cells (bookC k l s (.slice a n cap)) 31 (0, 0)) by rw [hW]; exact heap_new rfl)
  have hlt : ¬ (1 + (n : Int) < 0) := by omega
  have HW := hid hW
  clear hs hW
  go_enter Tryd.func27, Tryd.ntmps27
  go_wp2_with fail
  rw [← HW.out]
  go_wp2_with fail
  refine HM.out.mono ?_
  rintro e w1 ⟨rfl, g1⟩
  have G1 := hid (G0.out.trans g1)
  clear g1 d0 d1 d2 d3
  go_wp2_with fail
  go_ret
  exact ⟨rfl, G1.out⟩
end Go.Proofs.YtfaiehjomcgjgaaDoor
