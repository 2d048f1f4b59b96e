/- A log that is shifted: plain lists; all entries in bounds. -/
import Derived.Test.YtlgfibiggiknjaaDoorClone
import Derived.Test.YtlgfibiggiknjaaDoorUpAt
namespace Go.Proofs.YtlgfibiggiknjaaDoor
set_option linter.unusedVariables false
open Go.RowKit
def shE (d : Int) (e : En) : En := ⟨e.t + d, e.s, e.d⟩
def shTo (es : List En) (d : Int) (k : Nat) : List En := (es.take k).map (shE d) ++ es.drop k
theorem shTo_zero (es : List En) (d : Int) : shTo es d 0 = es := by simp [shTo]
theorem shTo_all (es : List En) (d : Int) : shTo es d es.length = es.map (shE d) := by simp [shTo]
theorem shTo_length (es : List En) (d : Int) (k : Nat) : (shTo es d k).length = es.length := by simp [shTo]; omega
theorem shTo_at {es : List En} {d : Int} {k : Nat} (h : k < es.length) : enAt (shTo es d k) k = enAt es k := by
  unfold enAt shTo
  have e : ((es.take k).map (shE d)).length = k := by simp; omega
  simp only [List.getD]
  rw [List.getElem?_append_right (by omega), e, Nat.sub_self, List.getElem?_drop]
  simp
theorem shTo_set {es : List En} {d : Int} {k : Nat} (h : k < es.length) : (shTo es d k).set k (shE d (enAt es k)) = shTo es d (k + 1) := by
  unfold shTo
  have e : ((es.take k).map (shE d)).length = k := by simp; omega
  rw [List.set_append_right _ _ (by omega), e, Nat.sub_self, List.drop_eq_getElem_cons h, List.set_cons_zero, List.take_add_one, List.getElem?_eq_getElem h, List.map_append, List.append_assoc]
  congr 1
  simp [enAt, List.getD, h]
theorem enCells_setT : ∀ (ds : List En) (i : Nat) (x : Int), i < ds.length → (enCells ds).set (i * 3) (.int .i64 x) = enCells (ds.set i ⟨x, (enAt ds i).s, (enAt ds i).d⟩)
  | [], i, x, h => by simp at h
  | e :: r, 0, x, h => by simp [enCells, En.cells, enAt, List.getD]
  | e :: r, i + 1, x, h => by
    have e1 : (i + 1) * 3 = e.cells.length + i * 3 := by simp [En.cells]; omega
    rw [e1]
    simp only [enCells, List.set_cons_succ]
    rw [List.set_append_right _ _ (by omega), Nat.add_sub_cancel_left, enCells_setT r i x (by simpa using h)]
    simp [enAt, List.getD]
def timesB (es : List En) (d : Int) (n : Nat) : Bool := allTo (fun i => rgV ((enAt es i).t + d) 0 100000) n
def shiftB (es : List En) (d : Int) : Bool := rgV d (-100000) 100000 && timesB es d es.length
def shiftV (es : List En) (d : Int) : List En := if validE es = true then (if shiftB es d = true then es.map (shE d) else []) else []
def shiftC (es : List En) (d : Int) : Int := if validE es = true then (if shiftB es d = true then 0 else 2) else 1
theorem enAt_map {es : List En} {d : Int} {i : Nat} (h : i < es.length) : enAt (es.map (shE d)) i = shE d (enAt es i) := by simp [enAt, List.getD, h]
theorem allTo_ext {p q : Nat → Bool} : ∀ n, (∀ i, i < n → p i = q i) → allTo p n = allTo q n
  | 0, _ => rfl
  | n + 1, h => by simp only [allTo]; rw [allTo_ext n (fun i hi => h i (by omega)), h n (by omega)]
theorem inB_all {es : List En} (hv : validE es = true) (d : Int) : allTo (fun i => inB (enAt (es.map (shE d)) i).t (enAt (es.map (shE d)) i).s) (es.map (shE d)).length = timesB es d es.length := by
  rw [List.length_map]
  unfold timesB
  refine allTo_ext _ fun i hi => ?_
  rw [enAt_map hi]
  have h2 := allTo_iff.1 (valid_good hv).2 i hi
  unfold goodE at h2
  rw [Bool.and_eq_true, Bool.and_eq_true] at h2
  unfold inB shE
  simp only [h2.2.1, Bool.and_true]
theorem times_ok {es : List En} (hv : validE es = true) {i : Nat} (hi : i < es.length) : 0 ≤ (enAt es i).t ∧ (enAt es i).t ≤ 100000 := by
  have h1 := (valid_good hv).2
  have h2 := allTo_iff.1 h1 i hi
  unfold goodE at h2
  rw [Bool.and_eq_true] at h2
  have h3 := rgV_iff.1 h2.1
  have h4 := before_nonneg i (allTo_iff.2 fun j hj => allTo_iff.1 h1 j (by omega))
  omega
theorem shiftV_length (es : List En) (d : Int) : (shiftV es d).length ≤ 1048576 := by
  unfold shiftV
  split
  · rename_i h
    have h1 := (valid_good h).1
    split
    · simp; omega
    · simp
  · simp
set_option maxRecDepth 100000 in
set_option maxHeartbeats 1000000 in
theorem allE_any (a : Option Addr) (n cap : Nat) (ds : List En) (hl : n = ds.length) (hn : n ≤ 1048576) (w : World) (ha : CellsOf w a (enCells ds)) :
    Calls Tryd.prog 86 #[.slice a n cap, .func (.func 87) #[] #[]] w fun e w' => e = .returned (.bool (allTo (fun i => inB (enAt ds i).t (enAt ds i).s) n)) ∧ Gr w w' := by
  have HA := hid ha
  have HL := hid hl
  clear ha hl
  go_enter Tryd.func86, Tryd.ntmps86
  go_wp2_with fail
  go_loopw [9] (fun i wr => ∃ k : Nat, k ≤ n ∧ i = .int .i64 k ∧ Hid (allTo (fun i => inB (enAt ds i).t (enAt ds i).s) k = true) ∧ Hid (Gr w wr)) (fun i _ => n - (intOf i).toNat)
  case atStart => exact ⟨0, Nat.zero_le _, rfl, hid rfl, hid (Gr.refl _)⟩
  case round =>
    obtain ⟨k, hk, rfl, hok, hg⟩ := hrel
    by_cases hlt : k < n
    · obtain ⟨b, off, rfl, p0, p1, p2⟩ := en_at (HA.out.gr hg.out) (i := k) (by rw [← HL.out]; exact hlt)
      have RG := hid (range3 ⟨p0, p1, p2⟩)
      have HY := hid (fun (h : inB (enAt ds k).t (enAt ds k).s = true) => allTo_step (p := fun i => inB (enAt ds i).t (enAt ds i).s) hok.out h)
      have HZ := hid (fun (h : inB (enAt ds k).t (enAt ds k).s = false) => allTo_no (p := fun i => inB (enAt ds i).t (enAt ds i).s) (k := n) hlt h)
      have HV := hid (fun V => inBounds_any (enAt ds k).t (enAt ds k).s (enAt ds k).d V)
      clear p0 p1 p2
      generalize inB (enAt ds k).t (enAt ds k).s = q at *
      generalize (enAt ds k).t = s0 at *
      generalize (enAt ds k).s = s1 at *
      generalize (enAt ds k).d = s2 at *
      have G1 := hid (hg.out.trans ((Gr.refl wr).alloc (.cells #[.int .i64 s0, .int .i64 s1, .bool s2] 70)))
      have hb0 : (0 : Int) ≤ k := by omega
      have hb1 : (k : Int) < n := by omega
      go_wp2_with (refine wpList_load_mid rfl 70 _ rfl b (off + k * 3) rfl _ _ RG.out Tryd.underlying70 rfl sizeEn ?_)
      refine (HV.out _).mono ?_
      rintro e w1 ⟨rfl, g1⟩
      have G2 := hid (G1.out.trans g1)
      clear g1
      cases q
      · have HR := hid (HZ.out rfl)
        clear HY HZ
        go_wp2_with fail
        go_ret
        exact ⟨ret_bool HR.out.symm, G2.out⟩
      · have HR := hid (HY.out rfl)
        clear HY HZ
        go_wp2_with fail
        go_roundw
        case rel => exact ⟨k + 1, by omega, by go_num, HR, G2⟩
        case measure => simp [intOf] <;> omega
    · obtain rfl : k = n := by omega
      go_wp2_with fail
      go_ret
      exact ⟨ret_bool hok.out.symm, hg.out⟩
end Go.Proofs.YtlgfibiggiknjaaDoor
