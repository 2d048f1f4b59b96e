/- TimesOf: the program's function; what is laid by a call and stays. -/
import Derived.Test.YtflbjjcpkhldkaaDoorReplyTimes
namespace Go.Proofs.YtflbjjcpkhldkaaDoor
open Go.RowKit
/-- A slice of the call's own behind so much, in some later world. -/
def StV (e : TypeId) (sz n : Nat) (cs : List Value) (W : World) (v : Value) (w : World) : Prop := ∃ hi, hi ≤ w.heap.size ∧ OwnV e sz w W.heap.size hi v n cs
theorem stV_stays {e : TypeId} {sz n : Nat} {cs : List Value} : ∀ W v w1 w2 b, b < W.heap.size → w1.grownBy w2 (some b) → StV e sz n cs W v w1 → StV e sz n cs W v w2 :=
  fun _ _ _ _ _ hb hg ⟨hi, h1, o⟩ => ⟨hi, Nat.le_trans h1 hg.size, o.by_ hg (fun _ e => by cases e; exact .inl hb)⟩
def StI (k : IntKind) (e : TypeId) (xs : List Int) (W : World) (v : Value) (w : World) : Prop := ∃ hi, hi ≤ w.heap.size ∧ Own k e w W.heap.size hi v xs
theorem stI_stays {k : IntKind} {e : TypeId} {xs : List Int} : ∀ W v w1 w2 b, b < W.heap.size → w1.grownBy w2 (some b) → StI k e xs W v w1 → StI k e xs W v w2 :=
  fun _ _ _ _ _ hb hg ⟨hi, h1, o⟩ => ⟨hi, Nat.le_trans h1 hg.size, o.by_ hg (fun _ e => by cases e; exact .inl hb)⟩
def timesV (n : Nat) (xs : List Int) : List Tm := if lineB n xs = true then timesL n xs else []
def lineC (n : Nat) (xs : List Int) : Int := if lineB n xs = true then 0 else 1
theorem timesV_length (n : Nat) (xs : List Int) : (timesV n xs).length ≤ 1048576 := by
  unfold timesV
  split
  · rename_i h
    have := (lineOk_of h).1
    unfold timesL
    rw [timesTo_length]
    omega
  · simp
set_option maxRecDepth 100000 in
theorem timesTell (n : Nat) (cs : List Value) (W V : World) (a : Option Addr) (c : Nat) (_gW : Gr W V) (o : OwnV 69 4 V W.heap.size V.heap.size (.slice a n c) n cs) :
    Calls Tryd.prog 53 (#[.slice a n c] ++ #[]) V fun e w' => ∃ v, e = .returned (.tuple #[v, .nilIface]) ∧ StV 69 4 n cs W v w' ∧ Gr V w' := by
  have OO := hid o
  clear o
  go_enter Tryd.func53, Tryd.ntmps53
  go_wp2
  go_ret2
  exact ⟨_, rfl, ⟨_, Nat.le_refl _, OO.out⟩, Gr.refl _⟩
set_option maxRecDepth 100000 in
theorem impl_TimesOf_law (a : Option Addr) (n cap : Nat) (xs : List Int) (hl : xs.length = n * 3) (hn : n ≤ 1048576) (hf : Fits .i8 xs) (w : World) (hnv : NeverAt w) (hs : CellsOf w a (xs.map (Value.int .i8))) :
    Calls Tryd.prog 17 #[.slice a n cap] w (RetV 69 4 (withCode (lineC n xs)) (timesV n xs).length (tmCells (timesV n xs)) w) := by
  cases hv : lineB n xs with
  | false =>
    have HA := hid (ans_Times_no a n cap xs hl hn hf hv 53 #[] w (sliceOf_cells hs))
    rw [show timesV n xs = [] by unfold timesV; rw [hv]; rfl, show lineC n xs = 1 by unfold lineC; rw [hv]; rfl]
    clear hs hl hf hnv
    go_enter Tryd.func17, Tryd.ntmps17
    go_wp2_with fail
    refine HA.out.mono ?_
    rintro e w1 ⟨rfl, g1⟩
    have G1 := hid g1
    clear g1
    go_wp2_with fail
    go_ret2
    exact ⟨_, rfl, OwnV.nil _ _ _, G1.out⟩
  | true =>
    have HA := hid (ans_Times_ok a n cap xs hl hn hf hv 53 #[] (StV 69 4 n (tmCells (timesL n xs))) w hnv (sliceOf_cells hs)
      (fun args w => callFunc_enter Tryd.func53 (by kernel_rfl) (by kernel_rfl) args w) stV_stays (fun W V a c _ gV o => timesTell n _ W V a c gV o))
    rw [show timesV n xs = timesL n xs by unfold timesV; rw [hv]; rfl, show lineC n xs = 0 by unfold lineC; rw [hv]; rfl]
    have hlen : (timesL n xs).length = n := timesTo_length _ _ _ _
    rw [hlen]
    generalize tmCells (timesL n xs) = cs at *
    clear hs hl hf hnv hlen
    go_enter Tryd.func17, Tryd.ntmps17
    go_wp2_with fail
    refine HA.out.mono ?_
    rintro e w1 ⟨W, v, rfl, ⟨hi, hh, o1⟩, gW, g1⟩
    have O1 := hid (o1.widen gW.size hh)
    have G1 := hid g1
    clear o1 g1 gW hh
    unfold withCode
    go_wp2_with fail
    go_ret2
    exact ⟨v, rfl, O1.out, G1.out⟩
set_option maxRecDepth 100000 in
theorem spec_TimesOf_law (a : Option Addr) (n cap : Nat) (xs : List Int) (hl : xs.length = n * 3) (hn : n ≤ 1048576) (hf : Fits .i8 xs) (w : World) (hs : CellsOf w a (xs.map (Value.int .i8))) :
    Calls Tryd.prog 15 #[.slice a n cap] w (RetV 69 4 (withCode (lineC n xs)) (timesV n xs).length (tmCells (timesV n xs)) w) := by
  have HO := hid (l06Ok_any a n cap xs hl hn hf w (sliceOf_cells hs))
  cases hv : lineB n xs with
  | false =>
    rw [hv] at HO
    rw [show timesV n xs = [] by unfold timesV; rw [hv]; rfl, show lineC n xs = 1 by unfold lineC; rw [hv]; rfl]
    clear hs hl hf
    go_enter Tryd.func15, Tryd.ntmps15
    go_wp2_with fail
    refine HO.out.mono ?_
    rintro e w1 ⟨rfl, g1⟩
    have G1 := hid g1
    clear g1
    go_wp2_with fail
    go_ret2
    exact ⟨_, rfl, (OwnV.ofBlock (e := 69) (sz := 4) (n := 0) (heap_new (w := w1) (o := .cells #[] 69) rfl) rfl (by unfold maxLen; omega)).widen G1.out.size (by simp), G1.out.alloc _⟩
  | true =>
    have HT := hid (fun V (g : Gr w V) => l06Times_any a n cap xs hl hv (-1) 0 (by omega) V ((sliceOf_cells hs).gr g))
    rw [hv] at HO
    rw [moreR_none] at HT
    rw [show timesV n xs = timesL n xs by unfold timesV; rw [hv]; rfl, show lineC n xs = 0 by unfold lineC; rw [hv]; rfl]
    have hlen : (timesL n xs).length = n := timesTo_length _ _ _ _
    rw [hlen]
    change Hid (∀ V, Gr w V → Calls _ _ _ V (RetV _ _ _ _ (tmCells (timesL n xs)) V)) at HT
    generalize tmCells (timesL n xs) = cs at *
    clear hs hl hf hlen
    go_enter Tryd.func15, Tryd.ntmps15
    go_wp2_with fail
    refine HO.out.mono ?_
    rintro e w1 ⟨rfl, g1⟩
    have G1 := hid g1
    clear g1
    go_wp2_with fail
    refine (HT.out _ G1.out).mono ?_
    rintro e w2 ⟨v, rfl, o2, g2⟩
    have O2 := hid o2
    have G2 := hid (G1.out.trans g2)
    clear o2 g2
    unfold id
    go_wp2_with fail
    go_ret2
    exact ⟨v, rfl, O2.out.widen G1.out.size (Nat.le_refl _), G2.out⟩
end Go.Proofs.YtflbjjcpkhldkaaDoor
