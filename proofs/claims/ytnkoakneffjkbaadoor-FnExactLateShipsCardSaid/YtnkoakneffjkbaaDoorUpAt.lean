/- UpAt: the functions. -/
import Derived.Test.YtnkoakneffjkbaaDoorLogOk
import Derived.Test.YtnkoakneffjkbaaDoorUpP
import Derived.Test.YtnkoakneffjkbaaDoorStay
import Derived.Test.YtnkoakneffjkbaaDoorReplyInts7
namespace Go.Proofs.YtnkoakneffjkbaaDoor
set_option linter.unusedVariables false
open Go.RowKit
theorem info64u : (Tryd.prog.info? 2).map (fun i => (i.zero, i.size, i.bytes)) = some (some (.int .i64 0), 1, 8) := by kernel_rfl
/-- So many entries are not behind a time. -/
def cntT (es : List En) (time : Int) : Nat := firstNo (fun j => decide ((enAt es j).t ≤ time)) (es.length + 1)
theorem firstNo_le (p : Nat → Bool) : ∀ n, firstNo p n ≤ n
  | 0 => Nat.le_refl _
  | n + 1 => by
    rw [firstNo]
    split
    · omega
    · have := firstNo_le p n; omega
theorem valid_good {es : List En} (h : validE es = true) : es.length ≤ 60 ∧ allTo (goodE es) es.length = true := by
  unfold validE at h
  rw [Bool.and_eq_true] at h
  exact ⟨by simpa using h.1, h.2⟩
theorem times_up {es : List En} (h : validE es = true) {i : Nat} : ∀ j, i ≤ j → j < es.length → (enAt es i).t ≤ (enAt es j).t
  | 0, hij, _ => by obtain rfl : i = 0 := by omega
                    exact Int.le_refl _
  | j + 1, hij, hj => by
    by_cases hi : i = j + 1
    · subst hi; exact Int.le_refl _
    · have h1 := times_up h (i := i) j (by omega) (by omega)
      have h2 := allTo_iff.1 (valid_good h).2 (j + 1) hj
      unfold goodE at h2
      rw [Bool.and_eq_true] at h2
      have h3 := rgV_iff.1 h2.1
      rw [before_succ] at h3
      omega
theorem firstNo_true {p : Nat → Bool} : ∀ n i, i < firstNo p n → p i = true
  | 0, i, h => by simp [firstNo] at h
  | n + 1, i, h => by
    rw [firstNo] at h
    split at h
    · rename_i ha; exact allTo_iff.1 ha i h
    · exact firstNo_true n i h
theorem firstNo_false {p : Nat → Bool} {n : Nat} (h : allTo p n = false) : firstNo p n < n ∧ p (firstNo p n) = false := by
  obtain ⟨k, h1, h2, h3⟩ := allTo_first h
  rw [firstNo_eq h2 h3 n h1]
  exact ⟨h1, h3⟩
theorem cntT_iff {es : List En} (h : validE es = true) (time : Int) {j : Nat} (hj : j < es.length) : (enAt es j).t ≤ time ↔ j < cntT es time := by
  constructor
  · intro ht
    apply Nat.lt_of_not_le
    intro hc
    cases ha : allTo (fun j => decide ((enAt es j).t ≤ time)) es.length
    · have he : cntT es time = firstNo (fun j => decide ((enAt es j).t ≤ time)) es.length := by unfold cntT; rw [firstNo, if_neg (by rw [ha]; simp)]
      have h2 := (firstNo_false ha).2
      rw [← he] at h2
      have h3 := times_up h (i := cntT es time) j hc hj
      simp only [decide_eq_false_iff_not] at h2
      omega
    · have he : cntT es time = es.length := by unfold cntT; rw [firstNo, if_pos ha]
      omega
  · intro hc
    simpa using firstNo_true _ _ hc
theorem cntT_le (es : List En) (time : Int) : cntT es time ≤ es.length := by
  unfold cntT
  rw [firstNo]
  split
  · exact Nat.le_refl _
  · exact firstNo_le _ _
def sigE (es : List En) (h : Int) : Int := (enAt es h.toNat).s
def upAtV (es : List En) (time : Int) : List Int := if validE es = true then (if rgV time 0 100000 = true then (upS es (cntT es time)).map (sigE es) else []) else []
def upAtC (es : List En) (time : Int) : Int := if validE es = true then (if rgV time 0 100000 = true then 0 else 2) else 1
/-- A flight is on at a time. -/
def onB (es : List En) (time : Int) (p : Int × Int) : Bool := decide ((enAt es p.1.toNat).t ≤ time) && !(decide (p.2 ≠ -1) && decide ((enAt es p.2.toNat).t ≤ time))
theorem onB_open {es : List En} (hv : validE es = true) (time : Int) {i : Nat} (hi : i < (flyTo es es.length).F.length) : onB es time (flAt (flyTo es es.length).F i) = openAt (cntT es time) (flAt (flyTo es es.length).F i) := by
  have hr := (fly_inv es es.length).rng i hi
  generalize flAt (flyTo es es.length).F i = p at *
  obtain ⟨h, d⟩ := p
  simp only at hr
  unfold onB openAt
  simp only
  have h1 := cntT_iff hv time (j := h.toNat) (by omega)
  rw [show decide ((enAt es h.toNat).t ≤ time) = decide (h < (cntT es time : Int)) from decide_eq_decide.2 (by rw [h1]; omega)]
  congr 1
  by_cases hd : d = -1
  · subst hd; simp
  · have h2 := cntT_iff hv time (j := d.toNat) (by omega)
    rw [decide_eq_true hd, decide_eq_false hd, Bool.true_and, Bool.false_or]
    rw [show decide ((enAt es d.toNat).t ≤ time) = decide (d < (cntT es time : Int)) from decide_eq_decide.2 (by rw [h2]; omega)]
    by_cases hc : d < (cntT es time : Int)
    · rw [decide_eq_true hc, decide_eq_false (by omega)]; rfl
    · rw [decide_eq_false hc, decide_eq_true (by omega)]; rfl
/-- The signals of so many flights that are on. -/
def onTo (es : List En) (time : Int) (F : List (Int × Int)) : Nat → List Int
  | 0 => []
  | k + 1 => if onB es time (flAt F k) = true then onTo es time F k ++ [sigE es (flAt F k).1] else onTo es time F k
theorem onTo_length (es : List En) (time : Int) (F : List (Int × Int)) : ∀ k, (onTo es time F k).length ≤ k
  | 0 => Nat.le_refl _
  | k + 1 => by
    have := onTo_length es time F k
    rw [onTo]
    split
    · simp; omega
    · omega
theorem onTo_all {es : List En} {time : Int} {F : List (Int × Int)} {m : Nat} (h : ∀ i, i < F.length → onB es time (flAt F i) = openAt m (flAt F i)) : ∀ k, k ≤ F.length → onTo es time F k = (((F.take k).filter (openAt m)).map (·.1)).map (sigE es)
  | 0, _ => by simp [onTo]
  | k + 1, hk => by
    have ih := onTo_all h k (by omega)
    have e : F.take (k + 1) = F.take k ++ [flAt F k] := by
      rw [List.take_add_one, List.getElem?_eq_getElem (by omega)]
      simp [flAt, List.getD, List.getElem?_eq_getElem (show k < F.length by omega)]
    rw [onTo, e, List.filter_append, ih, h k (by omega)]
    cases hc : openAt m (flAt F k) <;> simp [hc]
theorem upAt_fly {es : List En} (hv : validE es = true) (time : Int) : onTo es time (flyTo es es.length).F (flyTo es es.length).F.length = (upS es (cntT es time)).map (sigE es) := by
  rw [onTo_all (fun i hi => onB_open hv time hi) _ (Nat.le_refl _), List.take_length]
  rw [← upF_eq es (cntT es time) es.length (cntT_le es time)]
  rfl
end Go.Proofs.YtnkoakneffjkbaaDoor
