/- TimesOf: the program's function. -/
import Derived.Test.YtmpndafabnbchaaDoorAttT
import Derived.Test.YtmpndafabnbchaaDoorErrB
import Derived.Test.YtmpndafabnbchaaDoorLineH
import Derived.Test.YtmpndafabnbchaaDoorLineA
import Derived.Recover
namespace Go.Proofs.YtmpndafabnbchaaDoor
open Go.RowKit
def lineTxt : ByteArray := ⟨#[108, 105, 110, 101]⟩
set_option maxRecDepth 100000 in
set_option maxHeartbeats 1000000 in
theorem attTimes_no (al : Option Addr) (n cal : Nat) (xs : List Int) (hl : xs.length = n * 3) (hn : n ≤ 1048576) (hf : Fits .i8 xs) (hv : lineB n xs = false) (tell : Value) (w : World) (hs : SliceOf .i8 w al xs) :
    Calls Tryd.prog 89 #[.slice al n cal, tell] w fun e w' => e = .returned (.tuple #[.slice none 0 0, .iface 130 (.string lineTxt)]) ∧ Gr w w' := by
  have hmf : ∀ (fn : Fn) (first cap : Array Value) (w : World), (Instr.makeFunc fn first cap).run Tryd.prog w = .ok (.func fn first cap) w := fun _ _ _ _ => rfl
  have HV := hid (impl_ValidLine_any al n cal xs hl hn hf (w.alloc (.cells #[.nilIface] 65)) (hs.gr ((Gr.refl w).alloc _)))
  rw [hv] at HV
  have G0 := hid ((Gr.refl w).alloc (.cells #[.nilIface] 65))
  have B0 := hid (heap_new (w := w) (o := .cells #[.nilIface] 65) rfl)
  clear hs hl hf hv
  go_enter_defers Tryd.func89, Tryd.ntmps89
  go_wp2_with fail
  refine HV.out.mono ?_
  rintro e w1 ⟨rfl, g1⟩
  have G1 := hid (G0.out.trans g1)
  have hb1 := g1.heap B0.out
  have hc1 : w1.cell? ⟨w.heap.size, 0, none⟩ = some .nilIface := by rw [cell_of_row _ _ _ _ _ _ hb1]; rfl
  have hf1 : w1.frozen? ⟨w.heap.size, 0, none⟩ = false := frozen_of_row _ _ _ _ _ hb1
  clear g1 hb1
  go_wp2_with fail
  refine leaves_cons (f := 100) (args := #[.pointer (some ⟨w.heap.size, 0, none⟩)]) (by simp) (by simp [go_sem]) ?_
  refine (catch_times ⟨w.heap.size, 0, none⟩ _).mono ?_
  rintro e u' w'' ⟨rfl, rfl, rfl⟩
  have hc2 := World.cell?_setCell_same w1 ⟨w.heap.size, 0, none⟩ (.iface 130 (.string lineTxt)) hc1
  refine ⟨.tuple #[.slice none 0 0, .iface 130 (.string lineTxt)], ?_, rfl, G1.out.setCell (Nat.le_refl _) _⟩
  unfold lineTxt at hc2 ⊢
  simp [results, Tryd.results89, go_sem, hc2]
set_option maxRecDepth 100000 in
set_option maxHeartbeats 1000000 in
theorem attTimes_ok (al : Option Addr) (n cal : Nat) (xs : List Int) (hl : xs.length = n * 3) (hn : n ≤ 1048576) (hf : Fits .i8 xs) (hv : lineB n xs = true) (w : World) (hnv : NeverAt w) (hs : SliceOf .i8 w al xs) :
    Calls Tryd.prog 89 #[.slice al n cal, .func (.func 50) #[] #[]] w (RetV 69 4 (fun v => .tuple #[v, .nilIface]) n (tmCells (timesL n xs)) w) := by
  have hmf : ∀ (fn : Fn) (first cap : Array Value) (w : World), (Instr.makeFunc fn first cap).run Tryd.prog w = .ok (.func fn first cap) w := fun _ _ _ _ => rfl
  have HV := hid (impl_ValidLine_any al n cal xs hl hn hf (w.alloc (.cells #[.nilIface] 65)) (hs.gr ((Gr.refl w).alloc _)))
  have h0 := (lineOk_of hv).1.1
  have HT := hid (fun V (g : Gr w V) => timesOf_any al n cal xs hl (by omega) (lineOk_line hv) V (hnv.gr g) (hs.gr g))
  rw [hv] at HV
  have G0 := hid ((Gr.refl w).alloc (.cells #[.nilIface] 65))
  have B0 := hid (heap_new (w := w) (o := .cells #[.nilIface] 65) rfl)
  generalize tmCells (timesL n xs) = cs at *
  clear hs hl hf hv hnv
  go_enter_defers Tryd.func89, Tryd.ntmps89
  go_wp2_with fail
  refine HV.out.mono ?_
  rintro e w1 ⟨rfl, g1⟩
  have G1 := hid (G0.out.trans g1)
  have B1 := hid (g1.heap B0.out)
  clear g1
  go_wp2_with fail
  refine (HT.out _ G1.out).mono ?_
  rintro e w2 ⟨v, rfl, o2, g2⟩
  have O2 := hid o2
  have G2 := hid (G1.out.trans g2)
  have gl := hid (G1.out.size)
  have hb2 := g2.heap B1.out
  have hc2 : w2.cell? ⟨w.heap.size, 0, none⟩ = some .nilIface := by rw [cell_of_row _ _ _ _ _ _ hb2]; rfl
  have hf2 : w2.frozen? ⟨w.heap.size, 0, none⟩ = false := frozen_of_row _ _ _ _ _ hb2
  have hlt := G1.out.size
  have hlt1 := lt_of_heap B1.out
  clear o2 g2 hb2
  unfold id
  go_wp2
  refine leaves_cons (f := 100) (args := #[.pointer (some ⟨w.heap.size, 0, none⟩)]) (by simp) (by simp [go_sem]) ?_
  refine (catch_times ⟨w.heap.size, 0, none⟩ _).mono ?_
  rintro e u' w'' ⟨rfl, rfl, rfl⟩
  have gh : w2.grownBy (w2.setCell ⟨w.heap.size, 0, none⟩ .nilIface) (some w.heap.size) := ⟨rfl, rfl, rfl, by rw [World.size_setCell]; exact Nat.le_refl _, fun k _ hk => heap_setCell_other w2 _ k _ (fun e => hk (by rw [e]))⟩
  have hc3 := World.cell?_setCell_same w2 ⟨w.heap.size, 0, none⟩ .nilIface hc2
  have O3 := (O2.out.by_ gh (fun b e => by cases e; left; exact hlt1)).widen (lo' := w.heap.size) (hi' := (w2.setCell ⟨w.heap.size, 0, none⟩ .nilIface).heap.size) (by omega) (by rw [World.size_setCell]; exact Nat.le_refl _)
  refine ⟨.tuple #[v, .nilIface], ?_, v, rfl, O3, G2.out.setCell (Nat.le_refl _) _⟩
  simp [results, Tryd.results89, go_sem, hc3]
set_option maxRecDepth 100000 in
set_option maxHeartbeats 1000000 in
theorem ansTimes_no (al : Option Addr) (n cal : Nat) (xs : List Int) (hl : xs.length = n * 3) (hn : n ≤ 1048576) (hf : Fits .i8 xs) (hv : lineB n xs = false) (tell : Value) (w : World) (hs : SliceOf .i8 w al xs) :
    Calls Tryd.prog 49 #[.slice al n cal, tell] w fun e w' => e = .returned (.tuple #[.slice none 0 0, .int .i64 1]) ∧ Gr w w' := by
  have HA := hid (attTimes_no al n cal xs hl hn hf hv tell w hs)
  have HC := hid (fun s V (G : Gr w V) => as_valid s V.heap.size (V.alloc (.cells #[.nilIface] 110)) (heap_new rfl) w (G.alloc _) G.size)
  clear hs hl hf hv
  go_enter Tryd.func49, Tryd.ntmps49
  go_wp2_with fail
  refine HA.out.mono ?_
  rintro e w1 ⟨rfl, g1⟩
  have G1 := hid g1
  clear g1
  go_wp2_with fail
  refine (HC.out _ _ G1.out).mono ?_
  rintro e w2 ⟨rfl, g2, hb2⟩
  have G2 := hid g2
  have hc2 : w2.cell? ⟨w1.heap.size, 0, none⟩ = some (.iface 130 (.string lineTxt)) := by rw [cell_of_row _ _ _ _ _ _ hb2]; rfl
  unfold lineTxt at hc2
  clear g2 hb2
  go_wp2
  go_ret2
  exact ⟨rfl, G2.out⟩
set_option maxRecDepth 100000 in
set_option maxHeartbeats 1000000 in
theorem ansTimes_ok (al : Option Addr) (n cal : Nat) (xs : List Int) (hl : xs.length = n * 3) (hn : n ≤ 1048576) (hf : Fits .i8 xs) (hv : lineB n xs = true) (w : World) (hnv : NeverAt w) (hs : SliceOf .i8 w al xs) :
    Calls Tryd.prog 49 #[.slice al n cal, .func (.func 50) #[] #[]] w (RetV 69 4 (withCode 0) n (tmCells (timesL n xs)) w) := by
  have HA := hid (attTimes_ok al n cal xs hl hn hf hv w hnv hs)
  generalize tmCells (timesL n xs) = cs at *
  have HC := hid as_nil
  clear hs hl hf hv hnv
  go_enter Tryd.func49, Tryd.ntmps49
  go_wp2_with fail
  refine HA.out.mono ?_
  rintro e w1 ⟨v, rfl, o1, g1⟩
  have O1 := hid o1
  have G1 := hid g1
  clear o1 g1
  go_wp2_with fail
  refine (HC.out _ _).mono ?_
  rintro e w2 ⟨rfl, rfl⟩
  go_wp2
  go_ret2
  exact ⟨v, rfl, (O1.out.gr ((Gr.refl _).alloc _)).widen (Nat.le_refl _) (by simp), G1.out.alloc _⟩
def timesV (n : Nat) (xs : List Int) : List Tm := if lineB n xs = true then timesL n xs else []
def lineC (n : Nat) (xs : List Int) : Int := if lineB n xs = true then 0 else 1
theorem timesV_length (n : Nat) (xs : List Int) : (timesV n xs).length ≤ 1048576 := by
  unfold timesV
  split
  · rename_i h
    have := (lineOk_of h).1
    unfold timesL
    rw [timesTo_length]
    omega
  · simp
set_option maxRecDepth 100000 in
theorem impl_TimesOf_law (a : Option Addr) (n cap : Nat) (xs : List Int) (hl : xs.length = n * 3) (hn : n ≤ 1048576) (hf : Fits .i8 xs) (w : World) (hnv : NeverAt w) (hs : CellsOf w a (xs.map (Value.int .i8))) :
    Calls Tryd.prog 16 #[.slice a n cap] w (RetV 69 4 (withCode (lineC n xs)) (timesV n xs).length (tmCells (timesV n xs)) w) := by
  cases hv : lineB n xs with
  | false =>
    have HA := hid (ansTimes_no a n cap xs hl hn hf hv (.func (.func 50) #[] #[]) w (sliceOf_cells hs))
    rw [show timesV n xs = [] by unfold timesV; rw [hv]; rfl, show lineC n xs = 1 by unfold lineC; rw [hv]; rfl]
    clear hs hl hf hnv
    go_enter Tryd.func16, Tryd.ntmps16
    go_wp2_with fail
    refine HA.out.mono ?_
    rintro e w1 ⟨rfl, g1⟩
    have G1 := hid g1
    clear g1
    go_wp2_with fail
    go_ret2
    exact ⟨_, rfl, OwnV.nil _ _ _, G1.out⟩
  | true =>
    have HA := hid (ansTimes_ok a n cap xs hl hn hf hv w hnv (sliceOf_cells hs))
    rw [show timesV n xs = timesL n xs by unfold timesV; rw [hv]; rfl, show lineC n xs = 0 by unfold lineC; rw [hv]; rfl]
    have hlen : (timesL n xs).length = n := timesTo_length _ _ _ _
    rw [hlen]
    generalize tmCells (timesL n xs) = cs at *
    clear hs hl hf hnv hlen
    go_enter Tryd.func16, Tryd.ntmps16
    go_wp2_with fail
    refine HA.out.mono ?_
    rintro e w1 ⟨v, rfl, o1, g1⟩
    have O1 := hid o1
    have G1 := hid g1
    clear o1 g1
    unfold withCode
    go_wp2_with fail
    go_ret2
    exact ⟨v, rfl, O1.out, G1.out⟩
set_option maxRecDepth 100000 in
theorem spec_TimesOf_law (a : Option Addr) (n cap : Nat) (xs : List Int) (hl : xs.length = n * 3) (hn : n ≤ 1048576) (hf : Fits .i8 xs) (w : World) (hs : CellsOf w a (xs.map (Value.int .i8))) :
    Calls Tryd.prog 14 #[.slice a n cap] w (RetV 69 4 (withCode (lineC n xs)) (timesV n xs).length (tmCells (timesV n xs)) w) := by
  have HO := hid (l06Ok_any a n cap xs hl hn hf w (sliceOf_cells hs))
  cases hv : lineB n xs with
  | false =>
    rw [hv] at HO
    rw [show timesV n xs = [] by unfold timesV; rw [hv]; rfl, show lineC n xs = 1 by unfold lineC; rw [hv]; rfl]
    clear hs hl hf
    go_enter Tryd.func14, Tryd.ntmps14
    go_wp2_with fail
    refine HO.out.mono ?_
    rintro e w1 ⟨rfl, g1⟩
    have G1 := hid g1
    clear g1
    go_wp2_with fail
    go_ret2
    exact ⟨_, rfl, (OwnV.ofBlock (e := 69) (sz := 4) (n := 0) (heap_new (w := w1) (o := .cells #[] 69) rfl) rfl (by unfold maxLen; omega)).widen G1.out.size (by simp), G1.out.alloc _⟩
  | true =>
    have HT := hid (fun V (g : Gr w V) => l06Times_any a n cap xs hl hv (-1) 0 (by omega) V ((sliceOf_cells hs).gr g))
    rw [hv] at HO
    rw [moreR_none] at HT
    rw [show timesV n xs = timesL n xs by unfold timesV; rw [hv]; rfl, show lineC n xs = 0 by unfold lineC; rw [hv]; rfl]
    have hlen : (timesL n xs).length = n := timesTo_length _ _ _ _
    rw [hlen]
    change Hid (∀ V, Gr w V → Calls _ _ _ V (RetV _ _ _ _ (tmCells (timesL n xs)) V)) at HT
    generalize tmCells (timesL n xs) = cs at *
    clear hs hl hf hlen
    go_enter Tryd.func14, Tryd.ntmps14
    go_wp2_with fail
    refine HO.out.mono ?_
    rintro e w1 ⟨rfl, g1⟩
    have G1 := hid g1
    clear g1
    go_wp2_with fail
    refine (HT.out _ G1.out).mono ?_
    rintro e w2 ⟨v, rfl, o2, g2⟩
    have O2 := hid o2
    have G2 := hid (G1.out.trans g2)
    clear o2 g2
    unfold id
    go_wp2_with fail
    go_ret2
    exact ⟨v, rfl, O2.out.widen G1.out.size (Nat.le_refl _), G2.out⟩
end Go.Proofs.YtmpndafabnbchaaDoor
