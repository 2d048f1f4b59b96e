/- Slices of strings: appended, joined, cloned, looked into. -/
import Derived.Test.YtfaiehjomcgjgaaDoorOwnT
import Derived.Test.YtfaiehjomcgjgaaDoorThere
import Derived.Laws.AppendOwnNone
import Derived.Lib.AppendZeros
namespace Go.Proofs.YtfaiehjomcgjgaaDoor
set_option linter.unusedVariables false
open Go.RowKit
theorem infoStr : (Tryd.prog.info? 9).map (fun i => (i.zero, i.size, i.bytes)) = some (some (.string ⟨#[]⟩), 1, 16) := by kernel_rfl
theorem news_strs {w : World} {g : Nat} {ss : List ByteArray} {t : TypeId} {fr : Nat × Nat} (h : w.heap[g]? = some (.cells (strCells ss) t fr)) (off m : Nat) : ∀ j u, (((ss.drop off).take m).map Value.string)[j]? = some u → w.cell? ((⟨g, off, none⟩ : Addr).add j) = some u := by
  intro j u hu
  rw [Addr.add_mid, cell_of_row w g _ _ t fr h]
  unfold strCells
  rw [List.getElem?_map, Option.map_eq_some_iff] at hu
  obtain ⟨x, hx, rfl⟩ := hu
  rw [List.getElem?_take] at hx
  split at hx
  · rw [List.getElem?_drop] at hx
    simp [hx]
  · cases hx
theorem news_all {w : World} {g : Nat} {ss : List ByteArray} {t : TypeId} {fr : Nat × Nat} (h : w.heap[g]? = some (.cells (strCells ss) t fr)) : ∀ j u, (ss.map Value.string)[j]? = some u → w.cell? ((⟨g, 0, none⟩ : Addr).add j) = some u := by
  have := news_strs h 0 ss.length
  rwa [List.drop_zero, List.take_length] at this
theorem one_strs (ss : List ByteArray) : ∀ u ∈ ss.map Value.string, u.oneCell' = true := by
  intro u hu
  obtain ⟨x, _, rfl⟩ := List.mem_map.1 hu
  rfl
theorem emptyT (w : World) : (w.alloc (.cells #[] 9)).ownsRow w.heap.size 9 1 (.slice (some ⟨w.heap.size, 0, none⟩) 0 0) 0 [] :=
  World.ownsRow_lit (base := w.heap.size) w #[] 0 (Nat.le_refl _) (Nat.zero_le _) rfl
theorem row_some {w : World} {lo n : Nat} {e : TypeId} {size : Nat} {v : Value} {xs : List Value} (h : w.ownsRow lo e size v n xs) (hv : ¬ v = .slice none 0 0) : ∃ g c, v = .slice (some ⟨g, 0, none⟩) n c ∧ lo ≤ g ∧ g < w.heap.size := by
  rcases h.2 with ⟨h1, _⟩ | ⟨g, cap, cur, h1, h2, h3, _⟩
  · exact absurd h1 hv
  · exact ⟨g, cap, h1, h2, lt_of_heap h3⟩
set_option maxRecDepth 100000 in
set_option maxHeartbeats 600000 in
theorem growT_any (n : Nat) (hn : n ≤ 4194304) (w : World) :
    Calls Tryd.prog 73 #[.slice none 0 0, .int .i64 n] w fun e w' => (∃ v, e = .returned v ∧ w'.ownsRow w.heap.size 9 1 v 0 []) ∧ Gr w w' := by
  by_cases h0 : n = 0
  · subst h0
    go_enter Tryd.func73, Tryd.ntmps73
    go_wp2_with fail
    go_ret
    exact ⟨⟨_, rfl, World.ownsRow_nil _ _ _ _⟩, Gr.refl _⟩
  · obtain ⟨i0, hi, hz0, hz1, hz2⟩ := info_parts infoStr
    have hrun := fun ty => Lib.run_append_nil_zeros (P := Tryd.prog) w 23 3 ty 9 i0 (.string ⟨#[]⟩) .i64 .i64 Tryd.underlying23 Tryd.underlying3 hi hz0 n (by omega) (by rw [hz1]; omega) (by omega) (by rw [hz2]; omega)
    have HRUN := hid hrun
    have hg := hid (grownCap_ge w n 0 9)
    have hm := hid (grownCap_le_maxLen w n 0 9 (by unfold maxLen; omega))
    clear hrun
    have h1 : ¬ ((n : Int) < 0) := by omega
    have h2 : (0 : Int) < n := by omega
    go_enter Tryd.func73, Tryd.ntmps73
    go_wp2_with (at_builtin; refine Lib.wpList_append_run _ rfl _ _ _ _ rfl _ _ rfl rfl _ _ (HRUN.out _) ?_)
    go_ret
    refine ⟨⟨_, rfl, ?_⟩, ((Gr.refl w).drew).alloc _⟩
    exact World.ownsRow_made (base := w.heap.size) (e := 9) (size := 1) w.drew _ (grownCap w n 0 9) (Nat.le_refl _) hm.out (by
      have := hg.out
      rw [Array.size_append, size_zeroCells, size_zeroCells]
      simp
      omega)
/-- The values of a slice. -/
def ValsT (w : World) (a : Option Addr) (vs : List Value) : Prop := ∀ ad, a = some ad → ∀ j u, vs[j]? = some u → w.cell? (ad.add j) = some u
theorem ValsT.gr {W w : World} {a : Option Addr} {vs : List Value} (h : ValsT W a vs) (g : Gr W w) : ValsT w a vs := fun ad e j u hu => g.cell (h ad e j u hu)
def OneT (vs : List Value) : Prop := ∀ u ∈ vs, u.oneCell' = true
set_option maxRecDepth 100000 in
set_option maxHeartbeats 1000000 in
theorem concatT_any (bl : Nat) (a b : Option Addr) (n m ca cb : Nat) (vs us : List Value) (hv : vs.length = n) (hu : us.length = m) (hn : n ≤ 1048576) (hm : m ≤ 1048576) (ha : a = none → n = 0 ∧ ca = 0) (hb : b = none → m = 0 ∧ cb = 0) (h1 : OneT vs) (h2 : OneT us)
    (w : World) (hva : ValsT w a vs) (hvb : ValsT w b us) (c0 : w.cell? ⟨bl, 0, none⟩ = some (.slice a n ca)) (c1 : w.cell? ⟨bl, 1, none⟩ = some (.slice b m cb)) :
    Calls Tryd.prog 52 #[.slice (some ⟨bl, 0, none⟩) 2 2] w fun e w' => (∃ v, e = .returned v ∧ w'.ownsRow w.heap.size 9 1 v (n + m) (vs ++ us)) ∧ Gr w w' := by
  obtain ⟨i0, hi, hz0, hz1, hz2⟩ := info_parts infoStr
  have VA := hid hva
  have VB := hid hvb
  have C0 := hid c0
  have C1 := hid c1
  have HA := hid ha
  have HB := hid hb
  have H1 := hid h1
  have H2 := hid h2
  have HV := hid hv
  have HU := hid hu
  clear hva hvb ha hb h1 h2 hv hu
  go_enter Tryd.func52, Tryd.ntmps52
  go_wp2_with fail
  go_loop [3, 11] (fun s i => (i = .int .i64 0 ∧ s = .int .i64 0) ∨ (i = .int .i64 1 ∧ s = .int .i64 n) ∨ (i = .int .i64 2 ∧ s = .int .i64 ((n : Int) + m))) (fun _ i => 2 - (intOf i).toNat)
  case atStart => exact .inl ⟨rfl, rfl⟩
  case round =>
    rcases hrel with ⟨rfl, rfl⟩ | ⟨rfl, rfl⟩ | ⟨rfl, rfl⟩
    · go_wp2_with fail
      go_round
      case rel => exact .inr (.inl ⟨rfl, rfl⟩)
      case measure => simp [intOf]
    · have e1 : ¬ ((n : Int) + m < 0) := by omega
      go_wp2_with fail
      go_round
      case rel => exact .inr (.inr ⟨rfl, rfl⟩)
      case measure => simp [intOf]
    · clear c0 c1
      obtain ⟨s, hs⟩ : ∃ s : Nat, (n : Int) + m = s := ⟨n + m, by omega⟩
      have hs2 : s ≤ 4194304 := by omega
      rw [hs]
      clear hs
      go_wp2_with fail
      refine (growT_any s hs2 w).mono ?_
      rintro e w1 ⟨⟨v, rfl, o⟩, g⟩
      have O := hid o
      have G := hid g
      clear o g
      go_wp2_with fail
      go_loopw [6, 27] (fun q i wr => (i = .int .i64 0 ∧ Hid (wr.ownsRow w.heap.size 9 1 q 0 []) ∧ Hid (Gr w wr)) ∨ (i = .int .i64 1 ∧ Hid (wr.ownsRow w.heap.size 9 1 q n vs) ∧ Hid (Gr w wr)) ∨ (i = .int .i64 2 ∧ Hid (wr.ownsRow w.heap.size 9 1 q (n + m) (vs ++ us)) ∧ Hid (Gr w wr))) (fun _ i _ => 2 - (intOf i).toNat)
      case atStart => exact .inl ⟨rfl, O, G⟩
      case round =>
        clear O G
        rcases hrel with ⟨rfl, O, G⟩ | ⟨rfl, O, G⟩ | ⟨rfl, O, G⟩
        · have c0 := G.out.cell C0.out
          cases a with
          | none =>
            obtain ⟨rfl, rfl⟩ := HA.out rfl
            have hvs : vs = [] := List.length_eq_zero_iff.1 HV.out
            subst hvs
            go_wp2_with (at_builtin; refine wpList_append_own_none rfl _ _ 23 rfl w.heap.size 9 i0 1 Tryd.underlying23 hi _ 0 [] rfl O.out rfl ?_)
            go_roundw
            case rel => exact .inr (.inl ⟨rfl, O, G⟩)
            case measure => simp [intOf]
          | some ad =>
            have hbs := hid G.out.size
            go_wp2_with (at_builtin; refine wpList_append_own _ rfl _ _ 23 rfl w.heap.size 9 i0 (.string ⟨#[]⟩) 1 16 Tryd.underlying23 hi hz0 hz1 hz2 rfl (by decide) _ _ _ rfl O.out ad n ca vs rfl (by rw [HV.out, Nat.mul_one]) ((VA.out.gr G.out) ad rfl) H1.out (by unfold maxLen; omega) (by omega) hbs.out ?_; intro v2 w2 hown2 hgrow2 _)
            have O2 := hid hown2
            have G2 := hid (G.out.by_ hgrow2 (fun k e => (O.out.lt k e).1))
            clear hown2 hgrow2
            go_wp2_with fail
            go_roundw
            case rel => exact .inr (.inl ⟨rfl, hid (by have h := O2.out; rw [Nat.zero_add, List.nil_append] at h; exact h), G2⟩)
            case measure => simp [intOf]
        · have c1 := G.out.cell C1.out
          cases b with
          | none =>
            obtain ⟨rfl, rfl⟩ := HB.out rfl
            have hus : us = [] := List.length_eq_zero_iff.1 HU.out
            subst hus
            go_wp2_with (at_builtin; refine wpList_append_own_none rfl _ _ 23 rfl w.heap.size 9 i0 1 Tryd.underlying23 hi _ n vs rfl O.out rfl ?_)
            go_roundw
            case rel => exact .inr (.inr ⟨rfl, hid (by rw [Nat.add_zero, List.append_nil]; exact O.out), G⟩)
            case measure => simp [intOf]
          | some ad =>
            have hbs := hid G.out.size
            go_wp2_with (at_builtin; refine wpList_append_own _ rfl _ _ 23 rfl w.heap.size 9 i0 (.string ⟨#[]⟩) 1 16 Tryd.underlying23 hi hz0 hz1 hz2 rfl (by decide) _ _ _ rfl O.out ad m cb us rfl (by rw [HU.out, Nat.mul_one]) ((VB.out.gr G.out) ad rfl) H2.out (by unfold maxLen; omega) (by omega) hbs.out ?_; intro v2 w2 hown2 hgrow2 _)
            have O2 := hid hown2
            have G2 := hid (G.out.by_ hgrow2 (fun k e => (O.out.lt k e).1))
            clear hown2 hgrow2
            go_wp2_with fail
            go_roundw
            case rel => exact .inr (.inr ⟨rfl, O2, G2⟩)
            case measure => simp [intOf]
        · go_wp2_with fail
          go_ret
          exact ⟨⟨_, rfl, O.out⟩, G.out⟩
set_option maxRecDepth 100000 in
set_option maxHeartbeats 1000000 in
/-- A copy of a list of strings. -/
theorem cloneT_any (g n : Nat) (ss : List ByteArray) (hl : n = ss.length) (hn : n ≤ 1048576) (w : World) (hb : w.heap[g]? = some (.cells (strCells ss) 9 (0, 0))) :
    Calls Tryd.prog 58 #[.slice (some ⟨g, 0, none⟩) n n] w fun e w' => ∃ g' c, e = .returned (.slice (some ⟨g', 0, none⟩) n c) ∧ OwnT w' w.heap.size w'.heap.size (.slice (some ⟨g', 0, none⟩) n c) ss ∧ Gr w w' := by
  obtain ⟨i0, hi, hz0, hz1, hz2⟩ := info_parts infoStr
  have HL := hid hl
  have NW := hid (news_all (heap_kept (o := .cells #[] 9) hb))
  have HO := hid (emptyT w)
  have G0 := hid ((Gr.refl w).alloc (.cells #[] 9))
  have hno : ∀ W : World, (binOp BinOp.eql 23 (.slice (some ⟨g, 0, none⟩) n n) (.slice none 0 0)).run Tryd.prog W = .ok (.bool false) W := fun _ => by kernel_rfl
  clear hl hb
  go_enter Tryd.func58, Tryd.ntmps58
  go_wp2_with (at_builtin; refine wpList_append_own _ rfl _ _ 23 rfl w.heap.size 9 i0 (.string ⟨#[]⟩) 1 16 Tryd.underlying23 hi hz0 hz1 hz2 rfl (by decide) _ _ _ rfl HO.out ⟨g, 0, none⟩ n n (ss.map Value.string) rfl (by rw [List.length_map, ← HL.out, Nat.mul_one]) NW.out (one_strs ss) (by unfold maxLen; omega) (by omega) (by simp) ?_; intro v5 w5 hown5 hgrow5 hnil5)
  go_ret
  have hv : ¬ v5 = .slice none 0 0 := fun e => by have h := (hnil5.1 e).1; injection h with h1; cases h1
  obtain ⟨g', c, rfl, h1, h2⟩ := row_some hown5 hv
  rw [Nat.zero_add] at hown5 ⊢
  exact ⟨g', c, rfl, OwnT.ofRow hown5 rfl HL.out, G0.out.by_ hgrow5 (fun k e => by cases e; exact Nat.le_refl _)⟩
set_option maxRecDepth 100000 in
set_option maxHeartbeats 1000000 in
theorem indexT_any (g n : Nat) (ss : List ByteArray) (hl : n = ss.length) (hn : n ≤ 1048576) (x : ByteArray) (w : World) (hb : w.heap[g]? = some (.cells (strCells ss) 9 (0, 0))) :
    Calls Tryd.prog 93 #[.slice (some ⟨g, 0, none⟩) n n, .string x] w fun e w' => e = .returned (.int .i64 (firstV ss x)) ∧ w = w' := by
  have HB := hid hb
  have HL := hid hl
  have HAT := hid (fun k (hk : k < ss.length) (h : (firstTo ss k x).isSome = false) (hx : x = strAt ss k) => firstV_at hk h hx)
  have HNO := hid (fun (h : (firstTo ss ss.length x).isSome = false) => firstV_none h)
  have HST := hid (fun k (h : (firstTo ss k x).isSome = false) (hx : ¬ x = strAt ss k) => firstTo_step h hx)
  clear hb hl
  generalize firstV ss x = r at *
  go_enter Tryd.func93, Tryd.ntmps93
  go_wp2_with fail
  go_loop [5, 8] (fun _ i => ∃ k : Nat, k ≤ n ∧ i = .int .i64 k ∧ Hid ((firstTo ss k x).isSome = false)) (fun _ i => n - (intOf i).toNat)
  case atStart => exact ⟨0, Nat.zero_le _, rfl, hid rfl⟩
  case round =>
    obtain ⟨k, hk, rfl, hok⟩ := hrel
    by_cases hlt : k < n
    · have hlt' : k < ss.length := by rw [← HL.out]; exact hlt
      have h0 := cell_strs HB.out hlt'
      have HAK := hid (HAT.out k hlt' hok.out)
      have HSK := hid (HST.out k hok.out)
      clear hlt'
      unfold strAt at HAK HSK
      generalize ss.getD k ByteArray.empty = v at *
      by_cases hv : x = v
      · have HZ := hid (HAK.out hv)
        clear HAK HSK
        subst hv
        go_wp2_with fail
        go_ret
        exact ⟨ret_int HZ.out.symm, rfl⟩
      · have HY := hid (HSK.out hv)
        have t1 := toList_ne hv
        clear HAK HSK hv
        go_wp2_with fail
        go_round
        case rel => exact ⟨k + 1, by omega, by go_num, HY⟩
        case measure => simp [intOf]; omega
    · have HV := hid (HNO.out (by have h := hok.out; rwa [show k = ss.length by rw [← HL.out]; omega] at h))
      go_wp2_with fail
      go_ret
      exact ⟨ret_int HV.out.symm, rfl⟩
def foundB (ss : List ByteArray) (x : ByteArray) : Bool := decide (0 ≤ firstV ss x)
set_option maxRecDepth 100000 in
theorem containsT_any (g n : Nat) (ss : List ByteArray) (hl : n = ss.length) (hn : n ≤ 1048576) (x : ByteArray) (w : World) (hb : w.heap[g]? = some (.cells (strCells ss) 9 (0, 0))) :
    Calls Tryd.prog 76 #[.slice (some ⟨g, 0, none⟩) n n, .string x] w fun e w' => e = .returned (.bool (foundB ss x)) ∧ w = w' := by
  have HI := hid (indexT_any g n ss hl hn x w hb)
  unfold foundB
  generalize firstV ss x = r at *
  clear hb hl
  go_enter Tryd.func76, Tryd.ntmps76
  go_wp2_with fail
  refine HI.out.mono ?_
  rintro e w1 ⟨rfl, rfl⟩
  go_wp2_with fail
  go_ret
  exact ⟨rfl, rfl⟩
/-- What is wrong with a phrase that shall come into a book. -/
def newC (k l s : Int) (ss : List ByteArray) (x : ByteArray) : Int := if validBk k l s ss then (if phB x then (if foundB ss x then 4 else 0) else 2) else 1
theorem new_1 {k l s : Int} {ss : List ByteArray} {x : ByteArray} (h : validBk k l s ss = false) : newC k l s ss x = 1 := by unfold newC; rw [h]; rfl
theorem new_2 {k l s : Int} {ss : List ByteArray} {x : ByteArray} (h : validBk k l s ss = true) (h2 : phB x = false) : newC k l s ss x = 2 := by unfold newC; rw [h, h2]; rfl
theorem new_4 {k l s : Int} {ss : List ByteArray} {x : ByteArray} (h : validBk k l s ss = true) (h2 : phB x = true) (h3 : foundB ss x = true) : newC k l s ss x = 4 := by unfold newC; rw [h, h2, h3]; rfl
theorem new_0 {k l s : Int} {ss : List ByteArray} {x : ByteArray} (h : validBk k l s ss = true) (h2 : phB x = true) (h3 : foundB ss x = false) : newC k l s ss x = 0 := by unfold newC; rw [h, h2, h3]; rfl
theorem new_cases (k l s : Int) (ss : List ByteArray) (x : ByteArray) : newC k l s ss x = 0 ∨ newC k l s ss x = 1 ∨ newC k l s ss x = 2 ∨ newC k l s ss x = 4 := by
  cases h : validBk k l s ss with
  | false => exact .inr (.inl (new_1 h))
  | true => cases h2 : phB x with
    | false => exact .inr (.inr (.inl (new_2 h h2)))
    | true => cases h3 : foundB ss x with
      | true => exact .inr (.inr (.inr (new_4 h h2 h3)))
      | false => exact .inl (new_0 h h2 h3)
theorem new_zero {k l s : Int} {ss : List ByteArray} {x : ByteArray} (h : newC k l s ss x = 0) : validBk k l s ss = true ∧ phB x = true ∧ foundB ss x = false := by
  cases h1 : validBk k l s ss with
  | false => rw [new_1 h1] at h; exact absurd h (by decide)
  | true => cases h2 : phB x with
    | false => rw [new_2 h1 h2] at h; exact absurd h (by decide)
    | true => cases h3 : foundB ss x with
      | true => rw [new_4 h1 h2 h3] at h; exact absurd h (by decide)
      | false => exact ⟨rfl, rfl, rfl⟩
set_option maxRecDepth 100000 in
set_option maxHeartbeats 2000000 in
theorem checkNew_any (k l s : Int) (hw : Wf3 k l s) (g n : Nat) (ss : List ByteArray) (hl : n = ss.length) (hn : n ≤ 1048576) (hz : SizesOk ss) (x : ByteArray) (hx : x.size ≤ 9223372036854775807) (b0 b1 b2 : Addr) (w : World) (hb : w.heap[g]? = some (.cells (strCells ss) 9 (0, 0))) (hS : SentAt w b0 b1 b2) :
    Calls Tryd.prog 57 #[bookV k l s (.slice (some ⟨g, 0, none⟩) n n), .string x] w fun e w' => e = .returned (errE b0 b1 b2 (newC k l s ss x)) ∧ Gr w w' := by
  obtain ⟨W, hW⟩ : ∃ W, W = w.alloc (.cells (bookC k l s (.slice (some ⟨g, 0, none⟩) n n)) 31) := ⟨_, rfl⟩
  have G0 : Hid (Gr w W) := hid (by rw [hW]; exact (Gr.refl w).alloc _)
  have B0 : Hid (W.heap[w.heap.size]? = some (.cells (bookC k l s (.slice (some ⟨g, 0, none⟩) n n)) 31 (0, 0))) := hid (by rw [hW]; exact heap_new rfl)
  have HD := hid (fun V (g' : Gr W V) => bk_cells (k := k) (l := l) (s := s) (v := .slice (some ⟨g, 0, none⟩) n n) (g'.heap B0.out))
  have HVB := hid (fun V (g' : Gr W V) => impl_ValidBook_any k l s hw (some ⟨g, 0, none⟩) n n ss hl hn hz V ((strsOf_block hb).gr (G0.out.trans g')))
  have HSE := hid (fun V (g' : Gr W V) => hS.gr (G0.out.trans g'))
  have HPH := hid (fun V => isPhrase_any x hx V)
  have HCT := hid (fun V (g' : Gr W V) => containsT_any g n ss hl hn x V ((G0.out.trans g').heap hb))
  have HW := hid hW
  clear hW hS
  cases h : validBk k l s ss with
  | false =>
    rw [new_1 h]
    rw [h] at HVB
    clear h hb hl hz hw HPH HCT
    go_enter Tryd.func57, Tryd.ntmps57
    go_wp2_with fail
    rw [← HW.out]
    obtain ⟨d0, d1, d2, d3⟩ := HD.out _ (Gr.refl W)
    go_wp2_with fail
    refine (HVB.out _ (Gr.refl W)).mono ?_
    rintro e w2 ⟨rfl, g2⟩
    have G2 := hid (G0.out.trans g2)
    have c0 := (HSE.out _ g2).g0
    unfold sentV at c0
    clear g2 d0 d1 d2 d3
    go_wp2_with fail
    go_ret
    exact ⟨rfl, G2.out⟩
  | true =>
    rw [h] at HVB
    cases h2 : phB x with
    | false =>
      rw [new_2 h h2]
      rw [h2] at HPH
      clear h h2 hb hl hz hw HCT
      go_enter Tryd.func57, Tryd.ntmps57
      go_wp2_with fail
      rw [← HW.out]
      obtain ⟨d0, d1, d2, d3⟩ := HD.out _ (Gr.refl W)
      go_wp2_with fail
      refine (HVB.out _ (Gr.refl W)).mono ?_
      rintro e w2 ⟨rfl, g2⟩
      have G2 := hid (G0.out.trans g2)
      have c1 := (HSE.out _ g2).g1
      unfold sentV at c1
      clear g2 d0 d1 d2 d3
      go_wp2_with fail
      refine (HPH.out _).mono ?_
      rintro e w3 ⟨rfl, rfl⟩
      go_wp2_with fail
      go_ret
      exact ⟨rfl, G2.out⟩
    | true =>
      rw [h2] at HPH
      cases h3 : foundB ss x with
      | true =>
        rw [new_4 h h2 h3]
        rw [h3] at HCT
        clear h h2 h3 hb hl hz hw
        go_enter Tryd.func57, Tryd.ntmps57
        go_wp2_with fail
        rw [← HW.out]
        obtain ⟨d0, d1, d2, d3⟩ := HD.out _ (Gr.refl W)
        go_wp2_with fail
        refine (HVB.out _ (Gr.refl W)).mono ?_
        rintro e w2 ⟨rfl, g2⟩
        have GB2 := hid g2
        have G2 := hid (G0.out.trans g2)
        have c2 := (HSE.out _ g2).g2
        unfold sentV at c2
        clear d0 d1 d2 d3
        obtain ⟨d0, d1, d2, d3⟩ := HD.out _ g2
        clear g2
        go_wp2_with fail
        refine (HPH.out _).mono ?_
        rintro e w3 ⟨rfl, rfl⟩
        go_wp2_with fail
        refine (HCT.out _ GB2.out).mono ?_
        rintro e w3 ⟨rfl, rfl⟩
        go_wp2_with fail
        go_ret
        exact ⟨rfl, G2.out⟩
      | false =>
        rw [new_0 h h2 h3]
        rw [h3] at HCT
        clear h h2 h3 hb hl hz hw
        go_enter Tryd.func57, Tryd.ntmps57
        go_wp2_with fail
        rw [← HW.out]
        obtain ⟨d0, d1, d2, d3⟩ := HD.out _ (Gr.refl W)
        go_wp2_with fail
        refine (HVB.out _ (Gr.refl W)).mono ?_
        rintro e w2 ⟨rfl, g2⟩
        have GB2 := hid g2
        have G2 := hid (G0.out.trans g2)
        clear d0 d1 d2 d3
        obtain ⟨d0, d1, d2, d3⟩ := HD.out _ g2
        clear g2
        go_wp2_with fail
        refine (HPH.out _).mono ?_
        rintro e w3 ⟨rfl, rfl⟩
        go_wp2_with fail
        refine (HCT.out _ GB2.out).mono ?_
        rintro e w3 ⟨rfl, rfl⟩
        go_wp2_with fail
        go_ret
        exact ⟨rfl, G2.out⟩
end Go.Proofs.YtfaiehjomcgjgaaDoor
