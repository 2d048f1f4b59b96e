/- Lists of words that a call has made. -/
import Derived.Test.YtojdbeebgllhhabWordsW
import Derived.Test.YtojdbeebgllhhabWordK
namespace Go.Proofs.Ytojdbeebgllhhab
open Go.RowKit
/-- A slice of slices: its row and theirs lie in blocks of their own from lo on, below hi. -/
structure OwnW (w : World) (lo hi : Nat) (v : Value) (vs : List Value) (xss : List (List Int)) : Prop where
  row : w.ownsRow lo 82 1 v xss.length vs
  top : ∀ b, v.ownBlock = some b → b < hi
  each : ∀ i, i < xss.length → ∃ u, vs[i]? = some u ∧ Own .u8 5 w lo hi u (xss.getD i [])
  apart : ∀ (i : Nat) (u : Value), vs[i]? = some u → ∀ b, u.ownBlock = some b → v.ownBlock ≠ some b
  dist : ∀ (i j : Nat) (u u' : Value), i ≠ j → vs[i]? = some u → vs[j]? = some u' → ∀ b, u.ownBlock = some b → u'.ownBlock ≠ some b
section
variable {w w' : World} {lo hi n cap : Nat} {v : Value} {vs : List Value} {a : Option Addr} {xss : List (List Int)}
theorem OwnW.len (h : OwnW w lo hi (.slice a n cap) vs xss) : n = xss.length := by
  rcases h.row.2 with ⟨h1, h2⟩ | ⟨g', cap', cur, h1, _⟩
  · simp only [Value.slice.injEq] at h1; rw [h1.2.1, h2]
  · simp only [Value.slice.injEq] at h1; exact h1.2.1
theorem OwnW.at_ (h : OwnW w lo hi (.slice a n cap) vs xss) {i : Nat} (hi' : i < xss.length) :
    ∃ g a' c', a = some ⟨g, 0, none⟩ ∧ w.cell? ⟨g, i, none⟩ = some (.slice a' (xss.getD i []).length c') ∧ vs[i]? = some (.slice a' (xss.getD i []).length c') ∧ Own .u8 5 w lo hi (.slice a' (xss.getD i []).length c') (xss.getD i []) := by
  obtain ⟨u, hu, ho⟩ := h.each i hi'
  obtain ⟨a', c', rfl⟩ := ho.shape
  have hl := h.len
  subst hl
  rcases h.row.2 with ⟨h1, h2⟩ | ⟨g', cap', cur, h1, _⟩
  · omega
  · simp only [Value.slice.injEq] at h1
    obtain ⟨rfl, _, rfl⟩ := h1
    exact ⟨g', a', c', rfl, by rw [h.row.cellAt i (by omega)]; exact hu, hu, ho⟩
theorem OwnW.reads (h : OwnW w lo hi (.slice a n cap) vs xss) : SlicesOf .u8 w a xss := by
  intro i hi'
  obtain ⟨g, a', c', rfl, hc, _, ho⟩ := h.at_ hi'
  exact ⟨g, 0, a', c', rfl, by rw [Nat.zero_add]; exact hc, ho.reads⟩
theorem OwnW.put {i : Nat} {u : Value} {ys : List Int} (h : OwnW w lo hi v vs xss) (hu : vs[i]? = some u) (ho : Own .u8 5 w' lo hi u ys) (hg : w.grownBy w' u.ownBlock) :
    OwnW w' lo hi v vs (xss.set i ys) := by
  refine ⟨?_, h.top, ?_, h.apart, h.dist⟩
  · rw [List.length_set]
    refine h.row.kept hg ?_
    cases hb : v.ownBlock with
    | none => exact .inl rfl
    | some b => exact .inr (fun e => h.apart i u hu b e.symm hb)
  · intro j hj
    rw [List.length_set] at hj
    obtain ⟨u', hu', ho'⟩ := h.each j hj
    by_cases hij : i = j
    · subst hij
      refine ⟨u, hu, ?_⟩
      have e : (xss.set i ys).getD i [] = ys := by simp [List.getD, hj]
      rw [e]; exact ho
    · refine ⟨u', hu', ?_⟩
      have e : (xss.set i ys).getD j [] = xss.getD j [] := by simp [List.getD, hij]
      rw [e]
      refine ⟨ho'.row.kept hg ?_, ho'.top⟩
      cases hb : u'.ownBlock with
      | none => exact .inl rfl
      | some b => exact .inr (fun e => h.dist i j u u' hij hu hu' b e.symm hb)
end
theorem OwnW.gr {w w' : World} {lo hi : Nat} {v : Value} {vs : List Value} {xss : List (List Int)} (h : OwnW w lo hi v vs xss) (g : Gr w w') : OwnW w' lo hi v vs xss := by
  refine ⟨⟨h.row.1, ?_⟩, h.top, fun i hi0 => ?_, h.apart, h.dist⟩
  · rcases h.row.2 with h1 | ⟨g', cap, cur, h1, h2, h3, r⟩
    · exact .inl h1
    · exact .inr ⟨g', cap, cur, h1, h2, g.heap h3, r⟩
  · obtain ⟨u, hu, ho⟩ := h.each i hi0
    exact ⟨u, hu, ho.gr g⟩
theorem OwnW.widen {w : World} {lo hi hi' : Nat} {v : Value} {vs : List Value} {xss : List (List Int)} (h : OwnW w lo hi v vs xss) (hh : hi ≤ hi') : OwnW w lo hi' v vs xss := by
  refine ⟨h.row, fun b hb => Nat.lt_of_lt_of_le (h.top b hb) hh, fun i hi0 => ?_, h.apart, h.dist⟩
  obtain ⟨u, hu, ho⟩ := h.each i hi0
  exact ⟨u, hu, ho.widen (Nat.le_refl _) hh⟩
theorem OwnW.nil (w : World) (lo hi : Nat) : OwnW w lo hi (.slice none 0 0) [] [] :=
  ⟨World.ownsRow_nil w lo _ 1, fun b hb => by simp [Value.ownBlock] at hb, fun i hi0 => by simp at hi0, fun i u hu => by simp at hu, fun i j u u' _ hu => by simp at hu⟩
/-- Rows of different types lie in different blocks. -/
theorem apart_of_typesW {w : World} {l1 l2 n m : Nat} {v u : Value} {vs ys : List Value} (h : w.ownsRow l1 82 1 v n vs) (ho : w.ownsRow l2 5 1 u m ys) : ∀ b, u.ownBlock = some b → v.ownBlock ≠ some b := by
  intro b hb hv
  rcases h.2 with ⟨rfl, _⟩ | ⟨g, cap, cur, rfl, _, h1, _⟩
  · simp [Value.ownBlock] at hv
  · rcases ho.2 with ⟨rfl, _⟩ | ⟨g', cap', cur', rfl, _, h2, _⟩
    · simp [Value.ownBlock] at hb
    · simp only [Value.ownBlock, Option.some.injEq] at hb hv
      subst hb hv
      rw [h1] at h2
      simp at h2
/-- One slice more is appended: its row lies behind all the others. -/
theorem OwnW.snoc {w w' : World} {lo hi hi' : Nat} {v v' u : Value} {vs : List Value} {xss : List (List Int)} {ys : List Int} (h : OwnW w lo hi v vs xss) (hlh : lo ≤ hi) (ho : Own .u8 5 w hi hi' u ys)
    (hrow : w'.ownsRow lo 82 1 v' (xss.length + 1) (vs ++ [u])) (hg : w.grownBy w' v.ownBlock) : OwnW w' lo w'.heap.size v' (vs ++ [u]) (xss ++ [ys]) := by
  have hvl : vs.length = xss.length := by have := h.row.1; omega
  have keep : ∀ {x : Value} {n : Nat} {zs : List Value} {l : Nat}, w.ownsRow l 5 1 x n zs → w'.ownsRow l 5 1 x n zs := by
    intro x n zs l hx
    refine hx.kept hg ?_
    cases hb : x.ownBlock with
    | none => exact .inl rfl
    | some b => exact .inr (fun e => apart_of_typesW h.row hx b hb e.symm)
  have each : ∀ i, i < (xss ++ [ys]).length → ∃ x, (vs ++ [u])[i]? = some x ∧ Own .u8 5 w' lo w'.heap.size x ((xss ++ [ys]).getD i []) ∧ (i < xss.length → vs[i]? = some x ∧ ∀ b, x.ownBlock = some b → b < hi) ∧ (i = xss.length → x = u) := by
    intro i hi0
    rw [List.length_append, List.length_singleton] at hi0
    by_cases hlt : i < xss.length
    · obtain ⟨x, hx, hox⟩ := h.each i hlt
      refine ⟨x, by rw [List.getElem?_append_left (by omega)]; exact hx, ?_, fun _ => ⟨hx, hox.top⟩, fun e => by omega⟩
      have e : (xss ++ [ys]).getD i [] = xss.getD i [] := by simp only [List.getD_eq_getElem?_getD]; rw [List.getElem?_append_left hlt]
      rw [e]
      exact ⟨keep hox.row, fun b hb => ((keep hox.row).lt b hb).2⟩
    · have hil : i = xss.length := by omega
      subst hil
      refine ⟨u, by rw [List.getElem?_append_right (by omega), hvl, Nat.sub_self]; rfl, ?_, fun e => by omega, fun _ => rfl⟩
      have e : (xss ++ [ys]).getD xss.length [] = ys := by simp only [List.getD_eq_getElem?_getD]; rw [List.getElem?_append_right (by omega), Nat.sub_self]; rfl
      rw [e]
      have hw := ho.widen hlh (Nat.le_refl _)
      exact ⟨keep hw.row, fun b hb => ((keep hw.row).lt b hb).2⟩
  have lt : ∀ {i : Nat} {x : Value}, (vs ++ [u])[i]? = some x → i < (xss ++ [ys]).length := by
    intro i x hx
    have := (List.getElem?_eq_some_iff.1 hx).1
    rw [List.length_append, List.length_singleton] at this ⊢
    omega
  refine ⟨by rw [List.length_append, List.length_singleton]; exact hrow, fun b hb => (hrow.lt b hb).2, fun i hi0 => ?_, fun i x hx b hb => ?_, fun i j x x' hij hx hx' b hb => ?_⟩
  · obtain ⟨x, h1, h2, _⟩ := each i hi0
    exact ⟨x, h1, h2⟩
  · obtain ⟨x1, h1, h2, _⟩ := each i (lt hx)
    obtain rfl : x1 = x := Option.some.inj (h1.symm.trans hx)
    exact apart_of_typesW hrow h2.row b hb
  · obtain ⟨x1, h1, _, h3, h4⟩ := each i (lt hx)
    obtain rfl : x1 = x := Option.some.inj (h1.symm.trans hx)
    obtain ⟨x2, g1, _, g3, g4⟩ := each j (lt hx')
    obtain rfl : x2 = x' := Option.some.inj (g1.symm.trans hx')
    have li := lt hx
    have lj := lt hx'
    rw [List.length_append, List.length_singleton] at li lj
    intro hb'
    by_cases hi1 : i < xss.length
    · by_cases hj1 : j < xss.length
      · exact h.dist i j _ _ hij (h3 hi1).1 (g3 hj1).1 b hb hb'
      · obtain rfl := g4 (by omega)
        have := (h3 hi1).2 b hb
        have := (ho.row.lt b hb').1
        omega
    · by_cases hj1 : j < xss.length
      · obtain rfl := h4 (by omega)
        have := (g3 hj1).2 b hb'
        have := (ho.row.lt b hb).1
        omega
      · omega
def lensW (xss : List (List Int)) : List Nat := xss.map List.length
theorem lensW_length (xss : List (List Int)) : (lensW xss).length = xss.length := by simp [lensW]
theorem lensW_get (xss : List (List Int)) (i : Nat) : (lensW xss).getD i 0 = (xss.getD i []).length := by
  unfold lensW
  simp only [List.getD_eq_getElem?_getD, List.getElem?_map]
  cases xss[i]? <;> rfl
/-- Marks that rise through all the slices. -/
def markSW (k0 : Nat) (ls : List Nat) : List (List Int) := (List.range ls.length).map fun i => markL .u8 (k0 + sumTo ls i) (ls.getD i 0)
theorem markSW_length (k0 : Nat) (ls : List Nat) : (markSW k0 ls).length = ls.length := by simp [markSW]
theorem markSW_get {k0 : Nat} {ls : List Nat} {i : Nat} (h : i < ls.length) : (markSW k0 ls).getD i [] = markL .u8 (k0 + sumTo ls i) (ls.getD i 0) := by
  simp only [markSW, List.getD_eq_getElem?_getD, List.getElem?_map, List.getElem?_range h]
  rfl
set_option maxRecDepth 100000 in
set_option maxHeartbeats 1000000 in
theorem heldWordS_own (a : Option Addr) (cap k0 n : Nat) (ls : List Nat) (hl : n = ls.length) (hn : n ≤ 1048576) (hsum : k0 + ls.sum ≤ 1000) (w : World) (hs : SlicesOf .u8 w a (markSW k0 ls)) :
    Calls Try.prog 21 #[.slice a n cap, .int .i64 k0] w fun e w' => e = .returned (.int .i64 (k0 + ls.sum : Nat)) ∧ Gr w w' := by
  have HS := hid hs
  have HL := hid hl
  have HSUM := hid hsum
  clear hs hl hsum
  have HALL := hid (sumTo_all ls)
  go_enter Try.func21, Try.ntmps21
  go_wp2_with fail
  go_loopw [1, 5] (fun q i wr => ∃ k : Nat, k ≤ n ∧ i = .int .i64 k ∧ q = .int .i64 (k0 + sumTo ls k : Nat) ∧ Hid (Gr w wr)) (fun _ i _ => n - (intOf i).toNat)
  case atStart => exact ⟨0, Nat.zero_le _, rfl, rfl, hid (Gr.refl _)⟩
  case round =>
    obtain ⟨k, hk, rfl, rfl, hg⟩ := hrel
    by_cases hlt : k < n
    · have hlt' : k < ls.length := by rw [← HL.out]; exact hlt
      obtain ⟨b0, o0, p0, c0, rfl, h0, s0⟩ := (HS.out.gr hg.out) k (by rw [markSW_length]; exact hlt')
      rw [markSW_get hlt', markL_length] at h0
      rw [markSW_get hlt'] at s0
      have h1 := sumTo_get hlt'
      have h2 := HSUM.out
      have HST := hid (sumTo_succ hlt')
      obtain ⟨q, hq⟩ : ∃ q, q = k0 + sumTo ls k := ⟨_, rfl⟩
      obtain ⟨m, hm⟩ : ∃ m, m = ls.getD k 0 := ⟨_, rfl⟩
      rw [← hm] at h0 s0 h1 HST
      rw [← hq] at s0 ⊢
      have CE := heldWord_own p0 m c0 q (by omega) (by omega) wr s0
      obtain ⟨r, hr⟩ : ∃ r, r = q + m := ⟨_, rfl⟩
      rw [← hr] at CE
      have HR := hid (show r = k0 + sumTo ls (k + 1) by rw [HST.out]; omega)
      have HCE := hid CE
      clear CE s0 h1 h2 hq hm hr hlt'
      have hr0 : ¬ (r : Int) < 0 := by omega
      go_wp2_with fail
      refine HCE.out.mono ?_
      rintro e w1 ⟨rfl, g1⟩
      have G1 := hid (hg.out.trans g1)
      clear g1 h0
      go_wp2_with fail
      go_roundw
      case rel => exact ⟨k + 1, by omega, by go_num, by rw [HR.out], G1⟩
      case measure => simp [intOf]; omega
    · have hkn : k = ls.length := by rw [← HL.out]; omega
      have HK := hid (show sumTo ls k = ls.sum by rw [hkn, HALL.out])
      clear hkn
      go_wp2_with fail
      go_ret
      exact ⟨ret_int (by rw [HK.out]), hg.out⟩
/-- The first k are marked. -/
def mixSW (k0 : Nat) (xss : List (List Int)) (k : Nat) : List (List Int) := (markSW k0 (lensW xss)).take k ++ xss.drop k
theorem mixSW_length {k0 : Nat} {xss : List (List Int)} {k : Nat} (h : k ≤ xss.length) : (mixSW k0 xss k).length = xss.length := by simp [mixSW, markSW_length, lensW_length]; omega
theorem mixSW_zero (k0 : Nat) (xss : List (List Int)) : mixSW k0 xss 0 = xss := by simp [mixSW]
theorem mixSW_all (k0 : Nat) (xss : List (List Int)) : mixSW k0 xss xss.length = markSW k0 (lensW xss) := by
  unfold mixSW
  rw [List.drop_length, List.append_nil, List.take_of_length_le (by rw [markSW_length, lensW_length]; exact Nat.le_refl _)]
theorem mixSW_get {k0 : Nat} {xss : List (List Int)} {k : Nat} (h : k < xss.length) : (mixSW k0 xss k).getD k [] = xss.getD k [] := by
  have hl : ((markSW k0 (lensW xss)).take k).length = k := by rw [List.length_take, markSW_length, lensW_length]; omega
  unfold mixSW
  simp only [List.getD_eq_getElem?_getD]
  rw [List.getElem?_append_right (by omega), hl, List.getElem?_drop, Nat.sub_self, Nat.add_zero]
theorem mixSW_set {k0 : Nat} {xss : List (List Int)} {k : Nat} (h : k < xss.length) : (mixSW k0 xss k).set k (markL .u8 (k0 + sumTo (lensW xss) k) (xss.getD k []).length) = mixSW k0 xss (k + 1) := by
  have hl : ((markSW k0 (lensW xss)).take k).length = k := by rw [List.length_take, markSW_length, lensW_length]; omega
  have hm : k < (markSW k0 (lensW xss)).length := by rw [markSW_length, lensW_length]; exact h
  have hg := markSW_get (k0 := k0) (ls := lensW xss) (i := k) (by rw [lensW_length]; exact h)
  rw [lensW_get, List.getD_eq_getElem?_getD, List.getElem?_eq_getElem hm, Option.getD_some] at hg
  unfold mixSW
  rw [List.set_append_right _ _ (by omega), hl, Nat.sub_self, List.drop_eq_getElem_cons h, List.set_cons_zero, List.take_succ_eq_append_getElem hm, hg, List.append_assoc]
  rfl
set_option maxRecDepth 100000 in
set_option maxHeartbeats 1000000 in
theorem markWordS_own (a : Option Addr) (n cap lo hi k0 : Nat) (vs : List Value) (xss : List (List Int)) (hn : n ≤ 1048576) (hsum : k0 + (lensW xss).sum ≤ 1000) (w : World) (hlo : lo ≤ w.heap.size) (ho : OwnW w lo hi (.slice a n cap) vs xss) :
    Calls Try.prog 20 #[.slice a n cap, .int .i64 k0] w fun e w' => e = .returned (.int .i64 (k0 + (lensW xss).sum : Nat)) ∧ OwnW w' lo hi (.slice a n cap) vs (markSW k0 (lensW xss)) ∧ Below lo w w' := by
  have HL := hid ho.len
  have HO := hid ho
  have HSUM := hid hsum
  have HLO := hid hlo
  clear ho hsum hlo
  have HALL := hid (sumTo_all (lensW xss))
  go_enter Try.func20, Try.ntmps20
  go_wp2_with fail
  go_loopw [1, 5] (fun q i wr => ∃ k : Nat, k ≤ n ∧ i = .int .i64 k ∧ q = .int .i64 (k0 + sumTo (lensW xss) k : Nat) ∧ Hid (OwnW wr lo hi (.slice a n cap) vs (mixSW k0 xss k)) ∧ Hid (Below lo w wr)) (fun _ i _ => n - (intOf i).toNat)
  case atStart => exact ⟨0, Nat.zero_le _, rfl, rfl, hid (by rw [mixSW_zero]; exact HO.out), hid (Below.refl _ _)⟩
  case round =>
    obtain ⟨k, hk, rfl, rfl, ow, hg⟩ := hrel
    by_cases hlt : k < n
    · have hlt' : k < xss.length := by rw [← HL.out]; exact hlt
      obtain ⟨g, p0, c0, rfl, h0, hu, o0⟩ := ow.out.at_ (i := k) (by rw [mixSW_length (by omega)]; exact hlt')
      rw [mixSW_get hlt'] at h0 hu o0
      have h1 := sumTo_get (ls := lensW xss) (i := k) (by rw [lensW_length]; exact hlt')
      rw [lensW_get] at h1
      have h2 := HSUM.out
      have HST := hid (sumTo_succ (ls := lensW xss) (i := k) (by rw [lensW_length]; exact hlt'))
      rw [lensW_get] at HST
      have HSET := hid (mixSW_set (k0 := k0) hlt')
      obtain ⟨q, hq⟩ : ∃ q, q = k0 + sumTo (lensW xss) k := ⟨_, rfl⟩
      obtain ⟨xs, hx⟩ : ∃ xs, xs = xss.getD k [] := ⟨_, rfl⟩
      rw [← hx] at h0 hu o0 h1 HST HSET
      rw [← hq] at HSET ⊢
      obtain ⟨m, hm⟩ : ∃ m, m = xs.length := ⟨_, rfl⟩
      rw [← hm] at h0 hu o0 h1 HST HSET
      have CE := markWord_own p0 m c0 lo hi q xs (by omega) (by omega) wr o0
      obtain ⟨r, hr⟩ : ∃ r, r = q + m := ⟨_, rfl⟩
      rw [← hr] at CE
      have HR := hid (show r = k0 + sumTo (lensW xss) (k + 1) by rw [HST.out]; omega)
      have HCE := hid CE
      have HU := hid hu
      have HLT := hid o0.row.lt
      clear CE h1 h2 hq hm hr hlt' hx hu o0
      go_wp2_with fail
      refine HCE.out.mono ?_
      rintro e w1 ⟨rfl, o1, g1⟩
      have OW := hid (ow.out.put HU.out o1 g1)
      have GW := hid (Below.grown hg.out g1 (Nat.le_trans HLO.out (Below.size hg.out)) (fun b e => (HLT.out b e).1))
      clear g1 h0 o1
      go_wp2_with fail
      go_roundw
      case rel => exact ⟨k + 1, by omega, by go_num, by rw [HR.out], hid (by rw [← HSET.out]; exact OW.out), GW⟩
      case measure => simp [intOf]; omega
    · have hkn : k = xss.length := by rw [← HL.out]; omega
      have HK := hid (show sumTo (lensW xss) k = (lensW xss).sum by rw [← HALL.out, lensW_length, hkn])
      have OW := hid (show OwnW wr lo hi (.slice a n cap) vs (markSW k0 (lensW xss)) by rw [← mixSW_all, ← hkn]; exact ow.out)
      clear hkn
      go_wp2_with fail
      go_ret
      exact ⟨ret_int (by rw [HK.out]), OW.out, hg.out⟩
theorem row_belowW {w w' : World} {l B : Nat} {e : TypeId} {s n : Nat} {v : Value} {ys : List Value} (h : w.ownsRow l e s v n ys) (hb : Below B w w') (ht : ∀ b, v.ownBlock = some b → b < B) : w'.ownsRow l e s v n ys := by
  refine ⟨h.1, ?_⟩
  rcases h.2 with h1 | ⟨g', cap, cur, rfl, h2, h3, r⟩
  · exact .inl h1
  · exact .inr ⟨g', cap, cur, rfl, h2, by rw [Below.block hb g' (ht g' rfl)]; exact h3, r⟩
theorem OwnW.below {w w' : World} {lo hi B : Nat} {v : Value} {vs : List Value} {xss : List (List Int)} (h : OwnW w lo hi v vs xss) (hb : Below B w w') (hB : hi ≤ B) : OwnW w' lo hi v vs xss := by
  refine ⟨row_belowW h.row hb (fun b e => Nat.lt_of_lt_of_le (h.top b e) hB), h.top, fun i hi0 => ?_, h.apart, h.dist⟩
  obtain ⟨u, hu, ho⟩ := h.each i hi0
  exact ⟨u, hu, row_belowW ho.row hb (fun b e => Nat.lt_of_lt_of_le (ho.top b e) hB), ho.top⟩
theorem OwnW.empty {w : World} {lo : Nat} (hl : lo ≤ w.heap.size) : OwnW (w.alloc (.cells #[] 82)) lo (w.alloc (.cells #[] 82)).heap.size (.slice (some ⟨w.heap.size, 0, none⟩) 0 0) [] [] := by
  refine ⟨World.ownsRow_lit (base := lo) (e := 82) (size := 1) w #[] 0 hl (by unfold maxLen; omega) (by simp), fun b hb => ?_, fun i hi0 => by simp at hi0, fun i u hu => by simp at hu, fun i j u u' _ hu => by simp at hu⟩
  simp [Value.ownBlock] at hb
  simp; omega
theorem OwnW.by_ {w w' : World} {lo hi : Nat} {v : Value} {vs : List Value} {xss : List (List Int)} {row : Option Nat} (h : OwnW w lo hi v vs xss) (hg : w.grownBy w' row) (hne : ∀ b, row = some b → b < lo ∨ hi ≤ b) : OwnW w' lo hi v vs xss := by
  refine ⟨h.row.kept hg ?_, h.top, fun i hi0 => ?_, h.apart, h.dist⟩
  · cases hv : v.ownBlock with
    | none => exact .inl rfl
    | some b =>
      right
      intro hr
      have h1 := (h.row.lt b hv).1
      have h2 := h.top b hv
      have h3 := hne b hr.symm
      omega
  · obtain ⟨u, hu, ho⟩ := h.each i hi0
    exact ⟨u, hu, ho.by_ hg hne⟩
theorem OwnW.shape {w : World} {lo hi : Nat} {v : Value} {vs : List Value} {xss : List (List Int)} (h : OwnW w lo hi v vs xss) : ∃ a cap, v = .slice a xss.length cap := by
  rcases h.row.2 with ⟨h1, h2⟩ | ⟨g', cap, cur, h1, _⟩
  · exact ⟨none, 0, by rw [h1, h2]⟩
  · exact ⟨_, _, h1⟩
def RetOwnW (c : Int) (xss : List (List Int)) (w : World) (r : Ending) (w' : World) : Prop :=
  ∃ v vs, r = .returned (withCode c v) ∧ OwnW w' w.heap.size w'.heap.size v vs xss ∧ Gr w w'
theorem cell_oneW (w : World) (v : Value) (t : TypeId) : ∀ j u, [v][j]? = some u → (w.alloc (.cells #[v] t)).cell? ((⟨w.heap.size, 0, none⟩ : Addr).add j) = some u := by
  intro j u hj
  match j, hj with
  | 0, hj => simp at hj; subst hj; simp [Addr.add]
end Go.Proofs.Ytojdbeebgllhhab
