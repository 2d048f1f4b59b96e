/- GreedyWords: plain lists. -/
import Derived.Test.YtojdbeebgllhhabOwnW
import Derived.Test.YtojdbeebgllhhabNear
import Derived.Test.YtojdbeebgllhhabWord7
namespace Go.Proofs.Ytojdbeebgllhhab
open Go.RowKit
/-- A word is far enough from the one at a place. -/
def fitB (l : Nat) (ap : Int) (L : List (List Int)) (w : List Int) (k : Nat) : Bool := decide (ap ≤ diffTo (L.getD k []) w l)
def fitsB (l : Nat) (ap : Int) (L : List (List Int)) (w : List Int) : Bool := allTo (fitB l ap L w) L.length
/-- What has been taken of the first ranks. -/
def greedTo (p : Int) (l : Nat) (ap q : Int) : Nat → List (List Int)
  | 0 => []
  | r + 1 => if decide (((greedTo p l ap q r).length : Int) < q) && fitsB l ap (greedTo p l ap q r) (atTo p r l l) then greedTo p l ap q r ++ [atTo p r l l] else greedTo p l ap q r
theorem greed_take {p : Int} {l : Nat} {ap q : Int} {r : Nat} (h : ((greedTo p l ap q r).length : Int) < q) (h2 : fitsB l ap (greedTo p l ap q r) (atTo p r l l) = true) : greedTo p l ap q (r + 1) = greedTo p l ap q r ++ [atTo p r l l] := by
  rw [greedTo, h2, decide_eq_true h]; rfl
theorem greed_skip {p : Int} {l : Nat} {ap q : Int} {r : Nat} (h2 : fitsB l ap (greedTo p l ap q r) (atTo p r l l) = false) : greedTo p l ap q (r + 1) = greedTo p l ap q r := by
  rw [greedTo, h2, Bool.and_false]; rfl
theorem greed_full {p : Int} {l : Nat} {ap q : Int} {r : Nat} (h : ¬ ((greedTo p l ap q r).length : Int) < q) : ∀ s, r ≤ s → greedTo p l ap q s = greedTo p l ap q r := by
  intro s hs
  induction s with
  | zero => rw [show r = 0 by omega]
  | succ s ih =>
    by_cases e : r = s + 1
    · rw [e]
    · have h1 := ih (by omega)
      rw [greedTo, h1, decide_eq_false h]
      rfl
theorem greed_len (p : Int) (l : Nat) (ap q : Int) (hq : 0 ≤ q) (r : Nat) : ((greedTo p l ap q r).length : Int) ≤ q := by
  induction r with
  | zero => simpa [greedTo] using hq
  | succ r ih =>
    rw [greedTo]
    split
    · rename_i h
      simp only [Bool.and_eq_true, decide_eq_true_eq] at h
      rw [List.length_append, List.length_singleton]
      omega
    · exact ih
theorem greed_each (p : Int) (l : Nat) (ap q : Int) (r : Nat) : ∀ x ∈ greedTo p l ap q r, x.length = l := by
  induction r with
  | zero => intro x hx; simp [greedTo] at hx
  | succ r ih =>
    rw [greedTo]
    split
    · intro x hx
      rcases List.mem_append.1 hx with h | h
      · exact ih x h
      · rw [List.mem_singleton] at h; rw [h, atTo_length]
    · exact ih
theorem getD_mem {L : List (List Int)} {i : Nat} (h : i < L.length) : L.getD i [] ∈ L := by
  rw [List.getD, List.getElem?_eq_getElem h]; exact List.getElem_mem h
/-- None is near, where all are far enough. -/
theorem fits_near {l : Nat} {ap : Int} {L : List (List Int)} {w : List Int} (hw : w.length = l) : (nearTo (nearB L w (ap - 1)) L.length = []) ↔ fitsB l ap L w = true := by
  have key : ∀ n, (nearTo (nearB L w (ap - 1)) n = []) ↔ allTo (fitB l ap L w) n = true := by
    intro n
    induction n with
    | zero => simp [nearTo, allTo]
    | succ n ih =>
      have e : nearB L w (ap - 1) n = !fitB l ap L w n := by
        unfold nearB fitB
        rw [hw]
        by_cases h : ap ≤ diffTo (L.getD n []) w l
        · rw [decide_eq_true h, decide_eq_false (by omega)]; rfl
        · rw [decide_eq_false h, decide_eq_true (by omega)]; rfl
      rw [nearTo, e, allTo]
      cases hb : fitB l ap L w n
      · simp
      · simp [ih]
  exact key L.length
def greedB (p l ap q : Int) : Bool := askedB p l && (betB ap 1 l && betB q 0 60)
def greedC (p l ap q : Int) : Int := if greedB p l ap q then (if 5000 < p ^ l.toNat then 7 else 0) else 2
def greedL (p l ap q : Int) : List (List Int) := if greedC p l ap q = 0 then greedTo p l.toNat ap q (p ^ l.toNat).toNat else []
theorem greed_no {p l ap q : Int} (h : greedB p l ap q = false) : greedC p l ap q = 2 ∧ greedL p l ap q = [] := by unfold greedL greedC; rw [h]; exact ⟨rfl, rfl⟩
theorem greed_big {p l ap q : Int} (h : greedB p l ap q = true) (h2 : 5000 < p ^ l.toNat) : greedC p l ap q = 7 ∧ greedL p l ap q = [] := by unfold greedL greedC; rw [h, if_pos h2]; exact ⟨rfl, rfl⟩
theorem greed_ok {p l ap q : Int} (h : greedB p l ap q = true) (h2 : ¬ 5000 < p ^ l.toNat) : greedC p l ap q = 0 ∧ greedL p l ap q = greedTo p l.toNat ap q (p ^ l.toNat).toNat := by unfold greedL greedC; rw [h, if_neg h2]; exact ⟨rfl, rfl⟩
theorem greed_inv {p l ap q : Int} (h : greedB p l ap q = true) : (2 ≤ p ∧ p ≤ 37) ∧ (1 ≤ l ∧ l ≤ 8) ∧ (1 ≤ ap ∧ ap ≤ l) ∧ 0 ≤ q ∧ q ≤ 60 := by
  unfold greedB askedB at h
  simp only [Bool.and_eq_true, betW] at h
  omega
theorem greedC_zero {p l ap q : Int} (h : greedC p l ap q = 0) : greedB p l ap q = true := by
  cases hb : greedB p l ap q
  · unfold greedC at h; rw [hb] at h; cases h
  · rfl
theorem greedL_length (p l ap q : Int) : (greedL p l ap q).length ≤ 60 := by
  unfold greedL
  split
  · rename_i h
    have := greed_inv (greedC_zero h)
    have := greed_len p l.toNat ap q (by omega) (p ^ l.toNat).toNat
    omega
  · simp
theorem greedL_each (p l ap q : Int) (i : Nat) : ((greedL p l ap q).getD i []).length ≤ 8 := by
  by_cases hi : i < (greedL p l ap q).length
  · have hm := getD_mem hi
    generalize (greedL p l ap q).getD i [] = x at *
    unfold greedL at hm
    split at hm
    · rename_i h
      have := greed_inv (greedC_zero h)
      have := greed_each p l.toNat ap q _ x hm
      omega
    · simp at hm
  · simp [List.getD, List.getElem?_eq_none (show (greedL p l ap q).length ≤ i by omega)]
theorem sum_le {L : List (List Int)} (h : ∀ x ∈ L, x.length ≤ 8) : (lensW L).sum ≤ 8 * L.length := by
  induction L with
  | nil => simp [lensW]
  | cons x L ih =>
    have h1 := h x List.mem_cons_self
    have h2 := ih (fun y hy => h y (List.mem_cons_of_mem _ hy))
    unfold lensW at h2 ⊢
    rw [List.map_cons, List.sum_cons, List.length_cons]
    omega
theorem greedL_sum (p l ap q : Int) : 1 + (lensW (greedL p l ap q)).sum ≤ 1000 := by
  have h := greedL_length p l ap q
  have h2 := sum_le (L := greedL p l ap q) (fun x hx => by
    obtain ⟨i, hi, rfl⟩ := List.getElem_of_mem hx
    have := greedL_each p l ap q i
    rw [List.getD, List.getElem?_eq_getElem hi] at this
    exact this)
  omega
theorem infoWdG : (Try.prog.info? 82).map (fun i => (i.zero, i.size, i.bytes)) = some (some (.slice none 0 0), 1, 24) := by kernel_rfl
theorem RetOwnW_empty {c : Int} {w w1 : World} (g : Gr w w1) : RetOwnW c [] w (.returned (withCode c (.slice (some ⟨w1.heap.size, 0, none⟩) 0 0))) (w1.alloc (.cells #[] 82)) := ⟨_, [], rfl, OwnW.empty g.size, g.alloc _⟩
theorem RetOwnW_nil {c : Int} {w w1 : World} (g : Gr w w1) : RetOwnW c [] w (.returned (withCode c (.slice none 0 0))) w1 := ⟨_, [], rfl, OwnW.nil _ _ _, g⟩
end Go.Proofs.Ytojdbeebgllhhab
