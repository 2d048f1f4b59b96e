/- FindPhrase: both functions. -/
import Derived.Test.YtkbdblaciphmnaaValidBook
namespace Go.Proofs.Ytkbdblaciphmnaa
set_option linter.unusedVariables false
open Go.RowKit Go.Maps
def findV (k l s : Int) (ss : List ByteArray) (x : ByteArray) : Int := if validBk k l s ss then (if firstV ss x < 0 then 0 else firstV ss x) else 0
def findC (k l s : Int) (ss : List ByteArray) (x : ByteArray) : Int := if validBk k l s ss then (if firstV ss x < 0 then 6 else 0) else 1
theorem find_no {k l s : Int} {ss : List ByteArray} {x : ByteArray} (h : validBk k l s ss = false) : findV k l s ss x = 0 ∧ findC k l s ss x = 1 := by unfold findV findC; rw [h]; exact ⟨rfl, rfl⟩
theorem find_none {k l s : Int} {ss : List ByteArray} {x : ByteArray} (h : validBk k l s ss = true) (h2 : firstV ss x < 0) : findV k l s ss x = 0 ∧ findC k l s ss x = 6 := by
  unfold findV findC; rw [h, if_pos rfl, if_pos rfl, if_pos h2, if_pos h2]; exact ⟨rfl, rfl⟩
theorem find_some {k l s : Int} {ss : List ByteArray} {x : ByteArray} (h : validBk k l s ss = true) (h2 : ¬ firstV ss x < 0) : findV k l s ss x = firstV ss x ∧ findC k l s ss x = 0 := by
  unfold findV findC; rw [h, if_pos rfl, if_pos rfl, if_neg h2, if_neg h2]; exact ⟨rfl, rfl⟩
theorem firstV_bd (ss : List ByteArray) (x : ByteArray) : -1 ≤ firstV ss x ∧ firstV ss x < (ss.length : Int) ∨ firstV ss x = -1 := by
  unfold firstV
  have hlt : ∀ {k j : Nat}, firstTo ss k x = some j → j < k := by
    intro k
    induction k with
    | zero => intro j h; cases h
    | succ k ih =>
      intro j h
      rw [firstTo] at h
      split at h
      · have := ih h; omega
      · split at h
        · cases h; omega
        · cases h
  cases h : firstTo ss ss.length x with
  | none => exact .inr rfl
  | some i => have := hlt h; left; simp only; omega
theorem validBk_fresh {k l s : Int} {ss : List ByteArray} (h : validBk k l s ss = true) : allTo (freshB ss) ss.length = true := by
  unfold validBk at h
  rw [okPh_all] at h
  simp only [Bool.and_eq_true] at h
  exact h.2.2.1.2
theorem last_none {ss : List ByteArray} {x : ByteArray} (h : allTo (freshB ss) ss.length = true) (h2 : lastTo ss ss.length x = none) : firstV ss x = -1 := by
  unfold firstV; rw [last_first h, h2]
theorem last_some {ss : List ByteArray} {x : ByteArray} {i : Nat} (h : allTo (freshB ss) ss.length = true) (h2 : lastTo ss ss.length x = some i) : firstV ss x = (i : Int) := by
  unfold firstV; rw [last_first h, h2]
set_option maxRecDepth 100000 in
set_option maxHeartbeats 1000000 in
theorem spec_FindPhrase_any (k l s : Int) (hw : Wf3 k l s) (a : Option Addr) (cap n : Nat) (ss : List ByteArray) (hl : n = ss.length) (hn : n ≤ 1048576) (hz : SizesOk ss) (x : ByteArray) (_hx : x.size ≤ 9223372036854775807) (w : World) (hs : StrsOf w a ss) :
    Calls Try.prog 18 #[bookV k l s (.slice a n cap), .string x] w fun e w' => e = .returned (.tuple #[.int .i64 (findV k l s ss x), .int .i64 (findC k l s ss x)]) ∧ Gr w w' := by
  have gr : Gr w (w.alloc (.cells (bookC k l s (.slice a n cap)) 29)) := (Gr.refl _).alloc _
  have hb := bookAt_block (heap_new (w := w) (o := .cells (bookC k l s (.slice a n cap)) 29) rfl) hl (hs.gr gr)
  have HB := hid (l03Ok_any w.heap.size k l s a n cap ss hw hn hz _ hb)
  have HF := hid (fun V (g : Gr (w.alloc (.cells (bookC k l s (.slice a n cap)) 29)) V) => l03Find_any w.heap.size k l s a n cap ss hn x V (hb.gr g))
  have hfb := firstV_bd ss x
  rw [← hl] at hfb
  have GR := hid gr
  clear hs hl gr hz hw hb
  cases h : validBk k l s ss with
  | false =>
    obtain ⟨e1, e2⟩ := find_no (x := x) h
    rw [e1, e2]
    rw [h] at HB
    clear h e1 e2 hfb
    go_enter Try.func18, Try.ntmps18
    go_wp2_with fail
    refine HB.out.mono ?_
    rintro e w2 ⟨rfl, g2⟩
    have G2 := hid (GR.out.trans g2)
    clear g2
    go_wp2_with fail
    go_ret2
    exact ⟨rfl, G2.out⟩
  | true =>
    rw [h] at HB
    by_cases h2 : firstV ss x < 0
    · obtain ⟨e1, e2⟩ := find_none h h2
      rw [e1, e2]
      generalize firstV ss x = fv at *
      clear h e1 e2 hfb
      go_enter Try.func18, Try.ntmps18
      go_wp2_with fail
      refine HB.out.mono ?_
      rintro e w2 ⟨rfl, g2⟩
      have HFX := hid (HF.out _ g2)
      have G2 := hid (GR.out.trans g2)
      clear g2 HF
      go_wp2_with fail
      refine HFX.out.mono ?_
      rintro e w3 ⟨rfl, rfl⟩
      go_wp2_with fail
      go_ret2
      exact ⟨rfl, G2.out⟩
    · obtain ⟨e1, e2⟩ := find_some h h2
      rw [e1, e2]
      generalize firstV ss x = fv at *
      clear h e1 e2 hfb
      go_enter Try.func18, Try.ntmps18
      go_wp2_with fail
      refine HB.out.mono ?_
      rintro e w2 ⟨rfl, g2⟩
      have HFX := hid (HF.out _ g2)
      have G2 := hid (GR.out.trans g2)
      clear g2 HF
      go_wp2_with fail
      refine HFX.out.mono ?_
      rintro e w3 ⟨rfl, rfl⟩
      go_wp2_with fail
      go_ret2
      exact ⟨rfl, G2.out⟩
/-- A look-up in the program's map. -/
theorem wpList_lookup_str {ops : Array Oper} {rest : List Oper} {o : Oper} {a : Act} {Q : Exit → Act → World → Prop} (w : World) (hg : o.guard = none) (m x : Operand) (t : TypeId) (hop : o.op = Op.lookup t m x true) (ht : Try.prog.underlying t = some (.map 9 2))
    (b n : Nat) (D : DataW Unit) (u : ByteArray → Option Nat) (c : Nat) (hm : a.eval m = .map (some b)) (hown : w.ownsMap Try.prog 9 (plainElem Try.prog 2) b n D) (hu : StMap D u c) (s : ByteArray) (hx : a.eval x = .string s) (hkey : keyOf Try.prog 9 (.string s) = some (strLit s))
    (y : Option Nat) (v : Int) (q : Bool) (hus : u s = y) (hv : ((y.getD 0 : Nat) : Int) = v) (hq : y.isSome = q) (hK : wpList Try.prog ops Q rest (a.put o.dst (.tuple #[.int .i64 v, .bool q])) w) :
    wpList Try.prog ops Q (o :: rest) a w := by
  refine wpList_lookup_own_ok_int w hg m x t hop 9 2 .i64 lawStr ht Try.underlying2 (zeroInt64 _) b n D hm hown _ _ hx hkey ?_
  intro c' hat _
  have h1 := hu.has_ s
  have h2 := hu.at_ s
  rw [h1]
  subst hv hq
  rw [← hus] at hK
  clear hus
  cases hus : u s with
  | none =>
    rw [hus] at h1 hK
    rw [atKey_of_not_has h1] at hat
    cases hat
    exact hK
  | some i =>
    rw [hus] at hK
    rw [h2 i hus] at hat
    cases hat
    exact hK
set_option maxRecDepth 100000 in
set_option maxHeartbeats 1000000 in
theorem impl_FindPhrase_any (k l s : Int) (hw : Wf3 k l s) (a : Option Addr) (cap n : Nat) (ss : List ByteArray) (hl : n = ss.length) (hn : n ≤ 1048576) (hz : SizesOk ss) (x : ByteArray) (hx : x.size ≤ 9223372036854775807) (w : World) (hs : StrsOf w a ss) :
    Calls Try.prog 19 #[bookV k l s (.slice a n cap), .string x] w fun e w' => e = .returned (.tuple #[.int .i64 (findV k l s ss x), .int .i64 (findC k l s ss x)]) ∧ Gr w w' := by
  have HR := hid (fun V (g : Gr w V) => impl_ValidBook_any k l s hw a cap n ss hl hn hz V (hs.gr g))
  have HIX := hid (fun V (g : Gr w V) => indicesOf_any a cap n ss hl hn hz V (hs.gr g))
  have b0 := hid (heap_new (w := w) (o := .cells (bookC k l s (.slice a n cap)) 29) rfl)
  have G := hid ((Gr.refl w).alloc (.cells (bookC k l s (.slice a n cap)) 29))
  have HC := hid (fun V (g : Gr (w.alloc (.cells (bookC k l s (.slice a n cap)) 29)) V) => bk_cells (g.heap b0.out))
  have HKY := hid (show keyOf Try.prog 9 (.string x) = some (strLit x) from Go.WideMaps.keyOf_string_mk Try.underlying9 (by unfold maxLen; omega))
  cases h : validBk k l s ss with
  | false =>
    obtain ⟨e1, e2⟩ := find_no (x := x) h
    rw [e1, e2]
    rw [h] at HR
    clear h hw e1 e2 hs hl hz
    go_enter Try.func19, Try.ntmps19
    go_wp2_with fail
    refine (HR.out _ G.out).mono ?_
    rintro e w1 ⟨rfl, g1⟩
    have G1 := hid (G.out.trans g1)
    clear g1
    go_wp2_with fail
    go_ret2
    exact ⟨rfl, G1.out⟩
  | true =>
    have hfr := validBk_fresh h
    rw [h] at HR
    cases hla : lastTo ss n x with
    | none =>
      have hfv : firstV ss x = -1 := last_none hfr (by rw [← hl]; exact hla)
      obtain ⟨e1, e2⟩ := find_none h (by rw [hfv]; decide : firstV ss x < 0)
      rw [e1, e2]
      have HLA := hid hla
      clear h hw e1 e2 hs hl hz hfv hfr hla
      go_enter Try.func19, Try.ntmps19
      go_wp2_with fail
      refine (HR.out _ G.out).mono ?_
      rintro e w1 ⟨rfl, g1⟩
      obtain ⟨c0, c1, c2, c3⟩ := HC.out _ g1
      have G1 := hid (G.out.trans g1)
      clear g1
      go_wp2_with fail
      refine (HIX.out _ G1.out).mono ?_
      rintro e w2 ⟨rfl, D, I⟩
      have HI := hid I
      have G2 := hid (G1.out.trans I.gr)
      clear I
      go_wp2_with (at_lookup; refine wpList_lookup_str _ rfl _ _ 72 rfl Try.underlying72 w1.heap.size n D (lastTo ss n) (cntD ss n) rfl HI.out.map HI.out.rep x rfl HKY.out none 0 false HLA.out rfl rfl ?_)
      go_wp2_with fail
      go_ret2
      exact ⟨rfl, G2.out⟩
    | some i =>
      have hfv : firstV ss x = (i : Int) := last_some hfr (by rw [← hl]; exact hla)
      obtain ⟨e1, e2⟩ := find_some h (by rw [hfv]; omega : ¬ firstV ss x < 0)
      rw [e1, e2, hfv]
      have HLA := hid hla
      clear h hw e1 e2 hs hl hz hfv hfr hla
      go_enter Try.func19, Try.ntmps19
      go_wp2_with fail
      refine (HR.out _ G.out).mono ?_
      rintro e w1 ⟨rfl, g1⟩
      obtain ⟨c0, c1, c2, c3⟩ := HC.out _ g1
      have G1 := hid (G.out.trans g1)
      clear g1
      go_wp2_with fail
      refine (HIX.out _ G1.out).mono ?_
      rintro e w2 ⟨rfl, D, I⟩
      have HI := hid I
      have G2 := hid (G1.out.trans I.gr)
      clear I
      go_wp2_with (at_lookup; refine wpList_lookup_str _ rfl _ _ 72 rfl Try.underlying72 w1.heap.size n D (lastTo ss n) (cntD ss n) rfl HI.out.map HI.out.rep x rfl HKY.out (some i) (i : Int) true HLA.out rfl rfl ?_)
      go_wp2_with fail
      go_ret2
      exact ⟨rfl, G2.out⟩
end Go.Proofs.Ytkbdblaciphmnaa
