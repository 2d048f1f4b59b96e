/- Books: the model's list of meanings. -/
import Derived.Test.YtkbdblaciphmnaaBooksM
import Derived.Test.YtkbdblaciphmnaaRowQ
import Derived.Test.YtkbdblaciphmnaaLook3
import Derived.Test.YtkbdblaciphmnaaPhrS
namespace Go.Proofs.Ytkbdblaciphmnaa
set_option linter.unusedVariables false
open Go.RowKit
theorem kinds_num {K n : Nat} {m : List Int} (hK : K ≤ 40) (h : m ∈ kindsS K n) {i : Nat} (hi : i < n) : brkI (m.getD i 0) = false ∧ subI (m.getD i 0) = false ∧ kindI (m.getD i 0) = true := by
  have := (mem_kindsS.1 h).2 i hi
  refine ⟨by simp only [brkI, decide_eq_false_iff_not]; omega, ?_, kindI_iff.2 (by omega)⟩
  cases e : subI (m.getD i 0)
  · rfl
  · have := subI_iff.1 e; omega
theorem kinds_plain {K n : Nat} {m : List Int} (hK : K ≤ 40) (h1 : 1 ≤ n) (h8 : n ≤ 8) (h : m ∈ kindsS K n) : plainH m = true := by
  have hl := (mem_kindsS.1 h).1
  have key := fun i (hi : i < m.length) => kinds_num hK h (i := i) (by omega)
  unfold plainH validH lenB
  simp only [Bool.and_eq_true, allTo_iff, decide_eq_true_eq]
  refine ⟨⟨⟨by omega, by omega⟩, fun i hi => ?_⟩, fun i hi => ?_⟩
  · obtain ⟨a, b, c⟩ := key i hi
    unfold okAt
    rw [a, b, c]
    rfl
  · unfold ownAt
    rw [(key i hi).2.1]
    rfl
theorem kinds_fits {K n : Nat} {m : List Int} (hK : K ≤ 40) (h : m ∈ kindsS K n) : Fits .i8 m := by
  intro x hx
  obtain ⟨i, hi, rfl⟩ := List.mem_iff_getElem.1 hx
  obtain ⟨h1, h2⟩ := mem_kindsS.1 h
  have := h2 i (by omega)
  rw [List.getD_eq_getElem?_getD, List.getElem?_eq_getElem hi, Option.getD_some] at this
  obtain ⟨p, hp⟩ := Int.eq_ofNat_of_zero_le this.1
  rw [hp] at this ⊢
  have h4 : p < 40 := by omega
  clear this hp
  revert p
  decide
theorem kinds_ask {K n : Nat} {m : List Int} {B : Nat} (hK : K ≤ 40) (h1 : 1 ≤ n) (h8 : n ≤ 8) (hB : B ≤ 4) (h : m ∈ kindsS K n) : askC m 1 (B : Int) = 0 := by
  unfold askC
  rw [if_pos (kinds_plain hK h1 h8 h), betB_iff.2 (by omega : (1 : Int) ≤ 1 ∧ (1 : Int) ≤ 8), betB_iff.2 (show (0 : Int) ≤ (B : Int) ∧ (B : Int) ≤ 4 by omega)]
  rfl
theorem kinds_code {K n : Nat} {m : List Int} {B : Nat} (hK : K ≤ 40) (h1 : 1 ≤ n) (h8 : n ≤ 8) (hB : B ≤ 4) (h : m ∈ kindsS K n) : hforC m 1 (B : Int) = if canH B m then 0 else 6 := by
  rw [(hfor_yes (kinds_ask hK h1 h8 hB h)).2.1, Int.toNat_natCast]
  unfold canH
  cases hoistsL m 1 B <;> rfl
theorem mem_next {K j i x : Nat} {L : List (List Int)} (hL : L = kindsS K j) (hi : i < L.length) (hx : x < K) : L.getD i [] ++ [(x : Int)] ∈ kindsS K (j + 1) := by
  rw [kindsS, mem_extK]
  refine ⟨L.getD i [], ?_, x, hx, rfl⟩
  rw [← hL]
  simp only [List.getD, List.getElem?_eq_getElem hi, Option.getD_some]
  exact List.getElem_mem hi
/-- What the model's list of meanings hands back. -/
def MeansPost (xss : List (List Int)) (w : World) (e : Ending) (w' : World) : Prop :=
  ∃ g cap vs, e = .returned (.slice (some ⟨g, 0, none⟩) xss.length cap) ∧ RowQ w' w.heap.size (.slice (some ⟨g, 0, none⟩) xss.length cap) vs xss ∧ Gr w w'
theorem ownsRow_lower {w : World} {lo lo' : Nat} {e : TypeId} {size n : Nat} {v : Value} {xs : List Value} (h : w.ownsRow lo e size v n xs) (hl : lo' ≤ lo) : w.ownsRow lo' e size v n xs := by
  refine ⟨h.1, ?_⟩
  rcases h.2 with h1 | ⟨g', cap, cur, h1, h2, r⟩
  · exact .inl h1
  · exact .inr ⟨g', cap, cur, h1, Nat.le_trans hl h2, r⟩
/-- All that has been found up to a list and a kind. -/
def outTo (O : List (List Int)) (B K : Nat) (L : List (List Int)) (i x : Nat) : List (List Int) := O ++ (nextTo K L i x).filter (canH B)
theorem outTo_zero (O : List (List Int)) (B K : Nat) (L : List (List Int)) : outTo O B K L 0 0 = O := by unfold outTo; rw [nextTo_zero]; simp
theorem outTo_yes {O : List (List Int)} {B K : Nat} {L : List (List Int)} {i x : Nat} (h : canH B (L.getD i [] ++ [(x : Int)]) = true) : outTo O B K L i (x + 1) = outTo O B K L i x ++ [L.getD i [] ++ [(x : Int)]] := by
  unfold outTo; rw [nextTo_step, filter_snoc, if_pos h, List.append_assoc]
theorem outTo_no {O : List (List Int)} {B K : Nat} {L : List (List Int)} {i x : Nat} (h : canH B (L.getD i [] ++ [(x : Int)]) = false) : outTo O B K L i (x + 1) = outTo O B K L i x := by
  unfold outTo; rw [nextTo_step, filter_snoc, if_neg (by rw [h]; simp)]
theorem outTo_length {O : List (List Int)} {B K : Nat} {L : List (List Int)} {i x : Nat} (hO : O.length ≤ 3000) (hL : L.length ≤ 1000) (hK : K ≤ 10) (hi : i ≤ L.length) (hx : x ≤ K) : (outTo O B K L i x).length ≤ 100000 ∧ (nextTo K L i x).length ≤ 100000 := by
  have h1 := nextTo_length (K := K) hi hx
  have h2 := List.length_filter_le (canH B) (nextTo K L i x)
  have h3 : (i + 1) * K ≤ 1001 * 10 := Nat.mul_le_mul (by omega) hK
  unfold outTo
  rw [List.length_append]
  omega
theorem cell_q1 (w : World) (v : Value) (t : TypeId) : ∀ j u, [v][j]? = some u → (w.alloc (.cells #[v] t)).cell? ((⟨w.heap.size, 0, none⟩ : Addr).add j) = some u := by
  intro j u hj
  match j, hj with
  | 0, hj => simp at hj; subst hj; simp [Addr.add]
/-- What the loops keep: the rows of what has been found, of the last lists and of the next ones. -/
structure MeanI (w : World) (O : List (List Int)) (B K : Nat) (L : List (List Int)) (i x : Nat) (go no co gl nl cl gn nn cn : Nat) (vl : List Value) (wr : World) : Prop where
  out : ∃ vo, RowQ wr w.heap.size (.slice (some ⟨go, 0, none⟩) no co) vo (outTo O B K L i x)
  last : RowQ wr w.heap.size (.slice (some ⟨gl, 0, none⟩) nl cl) vl L
  next : ∃ vn, RowQ wr w.heap.size (.slice (some ⟨gn, 0, none⟩) nn cn) vn (nextTo K L i x)
  ol : go ≠ gl
  on : go ≠ gn
  ln : gl ≠ gn
  gr : Gr w wr
section
variable {w wr wr' : World} {O : List (List Int)} {B K : Nat} {L : List (List Int)} {i x go no co gl nl cl gn nn cn : Nat} {vl : List Value}
theorem MeanI.turn (h : MeanI w O B K L i x go no co gl nl cl gn nn cn vl wr) (g : Gr wr wr') : MeanI w O B K L i x go no co gl nl cl gn nn cn vl wr' := by
  obtain ⟨vo, ho⟩ := h.out
  obtain ⟨vn, hn⟩ := h.next
  exact ⟨⟨vo, ho.gr g⟩, h.last.gr g, ⟨vn, hn.gr g⟩, h.ol, h.on, h.ln, h.gr.trans g⟩
theorem sepOf {a b n c n' c' : Nat} (h : a ≠ b) : Sep (.slice (some ⟨a, 0, none⟩) n c) (.slice (some ⟨b, 0, none⟩) n' c') := fun k h1 h2 => by
  simp only [Value.ownBlock, Option.some.injEq] at h1 h2
  omega
theorem rowq_lt {w : World} {lo g n c : Nat} {vs : List Value} {xss : List (List Int)} (h : RowQ w lo (.slice (some ⟨g, 0, none⟩) n c) vs xss) : g < w.heap.size := (h.row.lt g rfl).2
theorem rowq_le {w : World} {lo g n c : Nat} {vs : List Value} {xss : List (List Int)} (h : RowQ w lo (.slice (some ⟨g, 0, none⟩) n c) vs xss) : lo ≤ g := (h.row.lt g rfl).1
/-- The next lists have one more; then what has been found. -/
theorem MeanI.nextRow (h : MeanI w O B K L i x go no co gl nl cl gn nn cn vl wr) : ∃ vn, wr.ownsRow w.heap.size 38 1 (.slice (some ⟨gn, 0, none⟩) nn cn) nn vn ∧ nn = (nextTo K L i x).length ∧ RowQ wr w.heap.size (.slice (some ⟨gn, 0, none⟩) nn cn) vn (nextTo K L i x) := by
  obtain ⟨vn, hn⟩ := h.next
  have hl := hn.len
  exact ⟨vn, by rw [hl]; have := hn.row; rw [hl] at this; exact this, hl, hn⟩
theorem MeanI.outRow (h : MeanI w O B K L i x go no co gl nl cl gn nn cn vl wr) : ∃ vo, wr.ownsRow w.heap.size 38 1 (.slice (some ⟨go, 0, none⟩) no co) no vo ∧ no = (outTo O B K L i x).length ∧ RowQ wr w.heap.size (.slice (some ⟨go, 0, none⟩) no co) vo (outTo O B K L i x) := by
  obtain ⟨vn, hn⟩ := h.out
  have hl := hn.len
  exact ⟨vn, by rw [hl]; have := hn.row; rw [hl] at this; exact this, hl, hn⟩
end
/-- The next lists have one more, what has been found not yet. -/
structure MeanJ (w : World) (O : List (List Int)) (B K : Nat) (L : List (List Int)) (i x : Nat) (go no co gl nl cl gn nn cn : Nat) (vl : List Value) (wr : World) : Prop where
  out : ∃ vo, RowQ wr w.heap.size (.slice (some ⟨go, 0, none⟩) no co) vo (outTo O B K L i x)
  last : RowQ wr w.heap.size (.slice (some ⟨gl, 0, none⟩) nl cl) vl L
  next : ∃ vn, RowQ wr w.heap.size (.slice (some ⟨gn, 0, none⟩) nn cn) vn (nextTo K L i (x + 1))
  ol : go ≠ gl
  on : go ≠ gn
  ln : gl ≠ gn
  gr : Gr w wr
section
variable {w wr wr' w1 : World} {O : List (List Int)} {B K : Nat} {L : List (List Int)} {i x go no co gl nl cl gn nn cn : Nat} {vl : List Value}
theorem MeanJ.turn (h : MeanJ w O B K L i x go no co gl nl cl gn nn cn vl wr) (g : Gr wr wr') : MeanJ w O B K L i x go no co gl nl cl gn nn cn vl wr' := by
  obtain ⟨vo, ho⟩ := h.out
  obtain ⟨vn, hn⟩ := h.next
  exact ⟨⟨vo, ho.gr g⟩, h.last.gr g, ⟨vn, hn.gr g⟩, h.ol, h.on, h.ln, h.gr.trans g⟩
theorem MeanJ.outRow (h : MeanJ w O B K L i x go no co gl nl cl gn nn cn vl wr) : ∃ vo, wr.ownsRow w.heap.size 38 1 (.slice (some ⟨go, 0, none⟩) no co) no vo ∧ no = (outTo O B K L i x).length ∧ RowQ wr w.heap.size (.slice (some ⟨go, 0, none⟩) no co) vo (outTo O B K L i x) := by
  obtain ⟨vn, hn⟩ := h.out
  have hl := hn.len
  exact ⟨vn, by rw [hl]; have := hn.row; rw [hl] at this; exact this, hl, hn⟩
theorem MeanI.pushed {M : List Int} (hM : L.getD i [] = M) {g c k cm H : Nat} {vn : List Value} (h : MeanI w O B K L i x go no co gl nl cl gn nn cn vl w1) (hn : RowQ w1 w.heap.size (.slice (some ⟨gn, 0, none⟩) nn cn) vn (nextTo K L i x)) (hnl : nn = (nextTo K L i x).length)
    (ho : w1.ownsRow w.heap.size 22 1 (.slice (some ⟨k, 0, none⟩) (M ++ [(x : Int)]).length cm) (M ++ [(x : Int)]).length ((M ++ [(x : Int)]).map (Value.int .i8)))
    (hrow : wr.ownsRow w.heap.size 38 1 (.slice (some ⟨g, 0, none⟩) (nn + 1) c) (nn + 1) (vn ++ [.slice (some ⟨k, 0, none⟩) (M ++ [(x : Int)]).length cm])) (hg : w1.grownBy wr (some gn)) (hor : some gn = some g ∨ g = H) (hH : w1.heap.size = H) (hs : w.heap.size ≤ w1.heap.size) :
    MeanJ w O B K L i x go no co gl nl cl g (nn + 1) c vl wr ∧ wr.ownsRow w.heap.size 22 1 (.slice (some ⟨k, 0, none⟩) (M ++ [(x : Int)]).length cm) (M ++ [(x : Int)]).length ((M ++ [(x : Int)]).map (Value.int .i8)) := by
  subst hM
  obtain ⟨vo, h1⟩ := h.out
  have lo := rowq_lt h1
  have ll := rowq_lt h.last
  have hgl := rowq_le hn
  have ho' := h.on
  have hl' := h.ln
  have key : go ≠ g ∧ gl ≠ g := by
    rcases hor with e | e
    · simp only [Option.some.injEq] at e; omega
    · omega
  refine ⟨⟨⟨vo, h1.other hn.row (sepOf h.on) hg⟩, h.last.other hn.row (sepOf h.ln) hg, ⟨vn ++ [.slice (some ⟨k, 0, none⟩) (L.getD i [] ++ [(x : Int)]).length cm], ?_⟩, h.ol, key.1, key.2, h.gr.by_ hg (fun b e => by cases e; exact hgl)⟩, ho.kept hg (.inr fun e => apart_of_types hn.row ho _ rfl e.symm)⟩
  have := hn.snoc ho (v' := .slice (some ⟨g, 0, none⟩) (nn + 1) c) (by rw [← hnl]; exact hrow) hg
  rw [nextTo_step]
  exact this
theorem MeanJ.pushed {M : List Int} (hM : L.getD i [] = M) {g c k cm H : Nat} {vo : List Value} (h : MeanJ w O B K L i x go no co gl nl cl gn nn cn vl w1) (h1 : RowQ w1 w.heap.size (.slice (some ⟨go, 0, none⟩) no co) vo (outTo O B K L i x)) (hnl : no = (outTo O B K L i x).length)
    (ho : w1.ownsRow w.heap.size 22 1 (.slice (some ⟨k, 0, none⟩) (M ++ [(x : Int)]).length cm) (M ++ [(x : Int)]).length ((M ++ [(x : Int)]).map (Value.int .i8)))
    (hrow : wr.ownsRow w.heap.size 38 1 (.slice (some ⟨g, 0, none⟩) (no + 1) c) (no + 1) (vo ++ [.slice (some ⟨k, 0, none⟩) (M ++ [(x : Int)]).length cm])) (hg : w1.grownBy wr (some go)) (hor : some go = some g ∨ g = H) (hH : w1.heap.size = H) (hyes : canH B (M ++ [(x : Int)]) = true) :
    MeanI w O B K L i (x + 1) g (no + 1) c gl nl cl gn nn cn vl wr := by
  subst hM
  obtain ⟨vn, hn⟩ := h.next
  have ln' := rowq_lt hn
  have ll := rowq_lt h.last
  have hol := rowq_le h1
  have ho' := h.on
  have hl' := h.ol
  have key : g ≠ gl ∧ g ≠ gn := by
    rcases hor with e | e
    · simp only [Option.some.injEq] at e; omega
    · omega
  refine ⟨⟨vo ++ [.slice (some ⟨k, 0, none⟩) (L.getD i [] ++ [(x : Int)]).length cm], ?_⟩, h.last.other h1.row (sepOf h.ol.symm) hg, ⟨vn, hn.other h1.row (sepOf h.on.symm) hg⟩, key.1, key.2, h.ln, h.gr.by_ hg (fun b e => by cases e; exact hol)⟩
  have := h1.snoc ho (v' := .slice (some ⟨g, 0, none⟩) (no + 1) c) (by rw [← hnl]; exact hrow) hg
  rw [outTo_yes hyes]
  exact this
theorem MeanJ.skip {M : List Int} (hM : L.getD i [] = M) (h : MeanJ w O B K L i x go no co gl nl cl gn nn cn vl wr) (hno : canH B (M ++ [(x : Int)]) = false) : MeanI w O B K L i (x + 1) go no co gl nl cl gn nn cn vl wr := by
  subst hM
  exact ⟨by rw [outTo_no hno]; exact h.out, h.last, h.next, h.ol, h.on, h.ln, h.gr⟩
theorem MeanI.wrap (h : MeanI w O B K L i K go no co gl nl cl gn nn cn vl wr) (hi : i < L.length) : MeanI w O B K L (i + 1) 0 go no co gl nl cl gn nn cn vl wr :=
  ⟨by unfold outTo; rw [← nextTo_all hi]; exact h.out, h.last, by rw [← nextTo_all hi]; exact h.next, h.ol, h.on, h.ln, h.gr⟩
end
set_option maxHeartbeats 8000000 in
set_option maxRecDepth 100000 in
theorem l03Meanings_any (bb K L B : Nat) (a : Option Addr) (n cap : Nat) (ss : List ByteArray) (hK : K ≤ 10) (hL : L ≤ 3) (hB : B ≤ 4) (w : World) (hb : BookAt w bb (K : Int) (L : Int) (B : Int) a n cap ss) :
    Calls Try.prog 42 #[.pointer (some ⟨bb, 0, none⟩)] w (MeansPost (bookL K B L) w) := by
  have HBK := hid (fun V (g : Gr w V) => hb.gr g)
  have HHF := hid (fun (j : Nat) (h1 : 1 ≤ j) (h2 : j ≤ 3) (m : List Int) (hm : m ∈ kindsS K j) (g0 c0 : Nat) (hc : j ≤ c0) (V : World) (hs : SliceOf .i8 V (some ⟨g0, 0, none⟩) m) => by
    have hl := (mem_kindsS.1 hm).1
    have := spec_HoistFor_cap (some ⟨g0, 0, none⟩) c0 m (by omega) (by omega) (kinds_fits (by omega) hm) 1 rfl (B : Int) (by rcases (show B = 0 ∨ B = 1 ∨ B = 2 ∨ B = 3 ∨ B = 4 by omega) with rfl | rfl | rfl | rfl | rfl <;> rfl) V hs
    rwa [kinds_code (by omega) h1 (by omega) hB hm, hl] at this)
  have HBD := hid (fun j (h : j ≤ 3) => kinds_bd hK h)
  have HBB := hid (fun j (h : j ≤ 3) => book_bd (B := B) hK h)
  clear hb
  obtain ⟨i0, hi, hz0, hz1, hz2⟩ := info_parts infoI8
  obtain ⟨q0, qi, qz0, qz1, qz2⟩ := info_parts infoMn
  go_enter Try.func42, Try.ntmps42
  go_wp2_with fail
  go_loopw [3, 4, 5] (fun out last len wr => ∃ (j go no co gl nl cl : Nat) (vo vl : List Value), j ≤ L ∧ len = .int .i8 ((j : Int) + 1) ∧ out = .slice (some ⟨go, 0, none⟩) no co ∧ last = .slice (some ⟨gl, 0, none⟩) nl cl ∧ Hid (RowQ wr w.heap.size (.slice (some ⟨go, 0, none⟩) no co) vo (bookL K B j)) ∧ Hid (RowQ wr w.heap.size (.slice (some ⟨gl, 0, none⟩) nl cl) vl (kindsS K j)) ∧ go ≠ gl ∧ Hid (Gr w wr)) (fun _ _ len _ => 5 - (intOf len).toNat)
  case atStart => exact ⟨0, w.heap.size, 0, 0, w.heap.size + 1 + 1, 1, 1, [], _, Nat.zero_le _, rfl, rfl, rfl, hid ((RowQ.empty (Nat.le_refl _)).gr (((Gr.refl _).alloc _).alloc _)), hid (by have := RowQ.one (w := w.alloc (.cells #[] 38)) (lo := w.heap.size) (by simp); simp only [World.size_alloc] at this; exact this), by omega, hid ((((Gr.refl _).alloc _).alloc _).alloc _)⟩
  case round =>
    obtain ⟨j, go, no, co, gl, nl, cl, vo, vl, hj, rfl, rfl, rfl, RO, RL, hne, GR⟩ := hrel
    obtain ⟨c0, c1, c2, c3, -, -⟩ := HBK.out _ GR.out
    by_cases hlt : j < L
    · have HIM := hid (fun (wr' : World) (gn : Nat) (h : gn = wr.heap.size) (hw : wr' = wr.alloc (.cells #[] 38)) => show MeanI w (bookL K B j) B K (kindsS K j) 0 0 go no co gl nl cl gn 0 0 vl wr' by
        subst h hw
        have h1 := rowq_lt RO.out
        have h2 := rowq_lt RL.out
        exact ⟨⟨vo, by rw [outTo_zero]; exact RO.out.alloc_ _⟩, RL.out.alloc_ _, ⟨[], by rw [nextTo_zero]; exact RowQ.empty GR.out.size⟩, hne, by omega, by omega, GR.out.alloc _⟩)
      have HLS := hid (show kindsS K j = kindsS K j from rfl)
      have HME := hid (fun i x (h1 : i < (kindsS K j).length) (h2 : x < K) => mem_next (K := K) (j := j) rfl h1 h2)
      have HJ := hid (fun m (hm : m ∈ kindsS K (j + 1)) => HHF.out (j + 1) (by omega) (by omega) m hm)
      have hOl : (bookL K B j).length ≤ 3000 := Nat.le_trans (HBB.out j (by omega)) (by omega)
      have hLl := HBD.out j (by omega)
      have HLEN := hid (fun i x (h1 : i ≤ (kindsS K j).length) (h2 : x ≤ K) => outTo_length (B := B) hOl hLl hK h1 h2)
      have HNL := hid RL.out.len
      have HEND := hid (show outTo (bookL K B j) B K (kindsS K j) (kindsS K j).length 0 = bookL K B (j + 1) by unfold outTo; rw [nextTo_end]; rfl)
      have HENL := hid (show nextTo K (kindsS K j) (kindsS K j).length 0 = kindsS K (j + 1) by rw [nextTo_end]; rfl)
      have HKL := hid (fun i (h : i < (kindsS K j).length) => show ((kindsS K j).getD i []).length = j by
        have h1 : (kindsS K j).getD i [] ∈ kindsS K j := by
          simp only [List.getD, List.getElem?_eq_getElem h, Option.getD_some]
          exact List.getElem_mem h
        exact (mem_kindsS.1 h1).1)
      clear RO RL HLS HHF HBD hOl
      obtain ⟨O, hO⟩ : ∃ O, O = bookL K B j := ⟨_, rfl⟩
      obtain ⟨Ls, hLs⟩ : ∃ Ls, Ls = kindsS K j := ⟨_, rfl⟩
      rw [← hO, ← hLs] at HIM
      rw [← hO, ← hLs] at HLEN HEND
      rw [← hLs] at HME HNL HENL HKL hLl
      have hnl : nl ≤ 1000 := by rw [HNL.out]; exact hLl
      clear hO hLs
      have dlt : decide ((j : Int) + 1 ≤ (L : Int)) = true := by rw [decide_eq_true_iff]; omega
      go_wp2_with fail
      go_loopw [3, 6, 7] (fun out next ix wr => ∃ (i go no co gn nn cn : Nat), i ≤ nl ∧ ix = .int .i64 i ∧ out = .slice (some ⟨go, 0, none⟩) no co ∧ next = .slice (some ⟨gn, 0, none⟩) nn cn ∧ Hid (MeanI w O B K Ls i 0 go no co gl nl cl gn nn cn vl wr)) (fun _ _ ix _ => nl - (intOf ix).toNat)
      case atStart => exact ⟨0, go, no, co, wr.heap.size, 0, 0, Nat.zero_le _, rfl, rfl, rfl, hid (HIM.out _ _ rfl rfl)⟩
      case round =>
        clear HIM GR hne c0 c1 c2 c3
        obtain ⟨i, go, no, co, gn, nn, cn, hi', rfl, rfl, rfl, MI⟩ := hrel
        by_cases hlt2 : i < nl
        · go_wp2_with fail
          go_loopw [3, 6, 8] (fun out next kx wr => ∃ (x go no co gn nn cn : Nat), x ≤ K ∧ kx = .int .i8 x ∧ out = .slice (some ⟨go, 0, none⟩) no co ∧ next = .slice (some ⟨gn, 0, none⟩) nn cn ∧ Hid (MeanI w O B K Ls i x go no co gl nl cl gn nn cn vl wr)) (fun _ _ kx _ => K - (intOf kx).toNat)
          case atStart => exact ⟨0, go, no, co, gn, nn, cn, Nat.zero_le _, rfl, rfl, rfl, MI⟩
          case round =>
            clear MI
            obtain ⟨x, go, no, co, gn, nn, cn, hx, rfl, rfl, rfl, MI⟩ := hrel
            obtain ⟨c0, c1, c2, c3, -, -⟩ := HBK.out _ MI.out.gr
            by_cases hlt3 : x < K
            · have hiL : i < Ls.length := by rw [← HNL.out]; exact hlt2
              obtain ⟨gl0, g', c', e0, hc0, ho0⟩ := MI.out.last.at_ hiL
              simp only [Option.some.injEq, Addr.mk.injEq, and_true] at e0
              subst e0
              have HML := hid (HKL.out i hiL)
              have HMM := hid (HME.out i x hiL hlt3)
              have hle := HLEN.out i x (by omega) (by omega)
              have hle2 := HLEN.out i (x + 1) (by omega) (by omega)
              have HJM := hid (HJ.out _ HMM.out)
              obtain ⟨vn, hrn, hln, hqn⟩ := MI.out.nextRow
              obtain ⟨vo0, hro, hlo, hqo⟩ := MI.out.outRow
              have hno9 : no ≤ 100000 := by rw [hlo]; exact hle.1
              have hnn9 : nn ≤ 100000 := by rw [hln]; exact hle.2
              have HS0 := hid (row_reads ho0 rfl)
              have HQN := hid hqn
              have HLN := hid hln
              have HRN := hid hrn
              clear hle hle2 hqo hro hlo hiL hln hrn hqn
              obtain ⟨M, hM⟩ : ∃ M, M = Ls.getD i [] := ⟨_, rfl⟩
              rw [← hM] at hc0 ho0 HML HMM HJM HS0
              have HM := hid hM.symm
              rw [HML.out] at hc0
              have hc1 : (wr.alloc (.cells #[] 22)).cell? ⟨gl, i, none⟩ = some (.slice (some ⟨g', 0, none⟩) j c') := ((Gr.refl wr).alloc (.cells #[] 22)).cell hc0
              have HMI := hid (show (M ++ [(x : Int)]).length = j + 1 by rw [List.length_append, HML.out]; rfl)
              have OE := hid ((Own.new (k := .i8) (e := 22) wr [] (by simp)).row)
              have HH := hid (news_of_slice (HS0.out.gr ((Gr.refl wr).alloc (.cells #[] 22))))
              have hj3 : j ≤ 3 := by omega
              clear hM ho0 HS0
              go_wp2_with (at_builtin; refine wpList_append_own _ rfl _ _ 38 rfl wr.heap.size 22 i0 (.int .i8 0) 1 1 Try.underlying38 hi hz0 hz1 hz2 rfl (by decide) _ _ _ rfl OE.out ⟨g', 0, none⟩ j c' (M.map (Value.int .i8)) rfl (by rw [List.length_map, Nat.mul_one]; exact HML.out) HH.out (by simp [Value.oneCell']) (by unfold maxLen; simp; omega) (by simp; omega) (by simp) ?_)
              intro v1 w1 hown hgrow _
              have OV := hid (Own.ofRow (k := .i8) (xs := M) hown (by simp) (by rw [HML.out]))
              have G1 := hid (((Gr.refl wr).alloc (.cells #[] 22)).by_ hgrow (fun b e => by cases e; exact Nat.le_refl _))
              obtain ⟨av, cv, hv1⟩ := OV.out.shape
              rw [HML.out] at hv1
              subst hv1
              have ROW1 := hid OV.out.row
              rw [HML.out] at ROW1
              clear hown hgrow hc0 hc1 c0 c1 c2 c3
              go_wp2_with (at_builtin; refine wpList_append_own _ rfl _ _ 38 rfl wr.heap.size 22 i0 (.int .i8 0) 1 1 Try.underlying38 hi hz0 hz1 hz2 rfl (by decide) _ _ _ rfl (ROW1.out.alloc _) ⟨w1.heap.size, 0, none⟩ 1 1 [.int .i8 (x : Int)] rfl rfl (cell_l1 _ _ _) (by simp [Value.oneCell']) (by unfold maxLen; omega) (by omega) (by have := G1.out.size; simp; omega) ?_)
              intro v2 w2 hown2 hgrow2 _
              obtain ⟨g2, c2, rfl, hg2, _⟩ := hown2.form (by omega)
              have G2 := hid ((G1.out.alloc (.cells #[.int .i8 (x : Int)] 22)).by_ hgrow2 (fun b e => by have := (ROW1.out.lt b e).1; omega))
              have OX := hid (show w2.ownsRow w.heap.size 22 1 (.slice (some ⟨g2, 0, none⟩) (M ++ [(x : Int)]).length c2) (M ++ [(x : Int)]).length ((M ++ [(x : Int)]).map (Value.int .i8)) by rw [HMI.out, List.map_append]; exact ownsRow_lower hown2 MI.out.gr.size)
              clear hown2 hgrow2 OE HH OV ROW1
              have ROWN := hid ((ownsRow_gr HRN.out G2.out).alloc (.cells #[.slice (some ⟨g2, 0, none⟩) (j + 1) c2] 38))
              have hsz : w.heap.size ≤ w2.heap.size := Nat.le_trans MI.out.gr.size G2.out.size
              go_wp2_with (at_builtin; refine wpList_append_lies _ rfl _ _ 61 rfl w.heap.size 38 q0 (.slice none 0 0) 1 24 Try.underlying61 qi qz0 qz1 qz2 rfl (by decide) _ _ _ rfl ROWN.out ⟨w2.heap.size, 0, none⟩ 1 1 [.slice (some ⟨g2, 0, none⟩) (j + 1) c2] rfl rfl (cell_q1 _ _ _) (by simp [Value.oneCell']) (by omega) (by unfold maxLen; omega) (by omega) (by simp; omega) (w2.heap.size + 1) (by simp) ?_)
              intro g3 c3 w3 hrow3 hg3 hor3 _
              have MJ2 := hid (MeanI.pushed HM.out (MI.out.turn (G2.out.alloc (.cells #[.slice (some ⟨g2, 0, none⟩) (j + 1) c2] 38))) (HQN.out.gr (G2.out.alloc _)) HLN.out (OX.out.alloc _) (by rw [HMI.out]; exact hrow3) hg3 hor3 (by simp) (by simp; omega))
              have MJ := hid MJ2.out.1
              have OX3 := hid MJ2.out.2
              clear MJ2 OX ROWN HRN HQN HLN MI hrow3 hg3 hor3 hsz G1 G2
              obtain ⟨d0, d1, d2, d3, -, -⟩ := HBK.out _ MJ.out.gr
              have HFC := hid (HJM.out g2 c2 (by have := row_cap OX3.out; rw [HMI.out] at this; exact this) w3 (row_reads OX3.out rfl))
              clear HJM
              obtain ⟨X, hX⟩ : ∃ X, X = hforL (M ++ [(x : Int)]) 1 (B : Int) := ⟨_, rfl⟩
              rw [← hX] at HFC
              clear hX
              cases hcan : canH B (M ++ [(x : Int)]) with
              | true =>
                rw [hcan, if_pos rfl] at HFC
                have HCAN := hid hcan
                clear hcan
                go_wp2_with fail
                refine HFC.out.mono ?_
                rintro e w4 ⟨vr, rfl, ow, g4⟩
                obtain ⟨ar, cr, rfl⟩ := ow.shape
                unfold withCode
                have MJ4 := hid (MJ.out.turn g4)
                have OX4 := hid (ownsRow_gr OX3.out g4)
                obtain ⟨vo4, hro4, hlo4, hqo4⟩ := MJ4.out.outRow
                have ROWO := hid (hro4.alloc (.cells #[.slice (some ⟨g2, 0, none⟩) (j + 1) c2] 38))
                have HQO := hid (hqo4.alloc_ (.cells #[.slice (some ⟨g2, 0, none⟩) (j + 1) c2] 38))
                have HLO := hid hlo4
                have hsz : w.heap.size ≤ w4.heap.size := MJ4.out.gr.size
                clear ow g4 MJ OX3 hro4 hqo4 hlo4 d0 d1 d2 d3
                generalize X.length = qx at *
                go_wp2_with (at_builtin; refine wpList_append_lies _ rfl _ _ 61 rfl w.heap.size 38 q0 (.slice none 0 0) 1 24 Try.underlying61 qi qz0 qz1 qz2 rfl (by decide) _ _ _ rfl ROWO.out ⟨w4.heap.size, 0, none⟩ 1 1 [.slice (some ⟨g2, 0, none⟩) (j + 1) c2] rfl rfl (cell_q1 _ _ _) (by simp [Value.oneCell']) (by omega) (by unfold maxLen; omega) (by omega) (by simp; omega) (w4.heap.size + 1) (by simp) ?_)
                intro g5 c5 w5 hrow5 hg5 hor5 _
                have MI5 := hid (MeanJ.pushed HM.out (MJ4.out.turn ((Gr.refl _).alloc (.cells #[.slice (some ⟨g2, 0, none⟩) (j + 1) c2] 38))) HQO.out HLO.out (OX4.out.alloc _) (by rw [HMI.out]; exact hrow5) hg5 hor5 (by simp) HCAN.out)
                clear hrow5 hg5 hor5 ROWO HQO HLO MJ4 OX4
                go_wp2_with fail
                go_roundw
                case rel => exact ⟨x + 1, g5, no + 1, c5, g3, nn + 1, c3, by omega, by go_num, rfl, rfl, MI5⟩
                case measure => simp [intOf]; omega
              | false =>
                rw [hcan, if_neg (by simp)] at HFC
                have HCAN := hid hcan
                clear hcan
                go_wp2_with fail
                refine HFC.out.mono ?_
                rintro e w4 ⟨vr, rfl, ow, g4⟩
                obtain ⟨ar, cr, rfl⟩ := ow.shape
                unfold withCode
                have MI5 := hid (MeanJ.skip HM.out (MJ.out.turn g4) HCAN.out)
                clear ow g4 MJ OX3 d0 d1 d2 d3
                generalize X.length = qx at *
                go_wp2_with fail
                go_roundw
                case rel => exact ⟨x + 1, go, no, co, g3, nn + 1, c3, by omega, by go_num, rfl, rfl, MI5⟩
                case measure => simp [intOf]; omega
            · obtain rfl : x = K := by omega
              have MW := hid (MI.out.wrap (by rw [← HNL.out]; exact hlt2))
              clear MI
              go_wp2_with fail
              go_roundw
              case rel => exact ⟨i + 1, go, no, co, gn, nn, cn, by omega, by go_num, rfl, rfl, MW⟩
              case measure => simp [intOf]; omega
        · have hin : i = Ls.length := by rw [← HNL.out]; omega
          obtain ⟨vo', ho'⟩ := MI.out.out
          obtain ⟨vn', hn'⟩ := MI.out.next
          rw [hin] at ho' hn'
          rw [HEND.out] at ho'
          rw [HENL.out] at hn'
          have RO := hid ho'
          have RN := hid hn'
          have hon := MI.out.on
          have GR := hid MI.out.gr
          clear hin ho' hn' MI
          go_wp2_with fail
          go_roundw
          case rel => exact ⟨j + 1, go, no, co, gn, nn, cn, vo', vn', by omega, by go_num, rfl, rfl, RO, RN, hon, GR⟩
          case measure => simp [intOf]; omega
    · have hjL : j = L := by omega
      subst hjL
      have hol := RO.out.len
      have HRO := hid RO.out
      rw [hol] at HRO
      have HOL := hid hol
      clear hol
      go_wp2_with fail
      go_ret
      exact ⟨go, co, vo, by rw [← HOL.out]; rfl, HRO.out, GR.out⟩
end Go.Proofs.Ytkbdblaciphmnaa
