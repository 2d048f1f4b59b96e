/- LongestUp: what is told. -/
import Derived.Test.YtlgfibiggiknjaaDoorLongN
import Derived.Test.YtlgfibiggiknjaaDoorReplyTwo
import Derived.Test.YtlgfibiggiknjaaDoorShiftM
namespace Go.Proofs.YtlgfibiggiknjaaDoor
set_option linter.unusedVariables false
open Go.RowKit
def sigTxt : ByteArray := ⟨#[115, 105, 103, 110, 97, 108]⟩
def endE (es : List En) : List (Int × Int) := endF (flyTo es es.length).F
def bestE (es : List En) : Int × Int := bestFl es (endE es) ((endE es).length - 1)
theorem endE_rng {es : List En} {j : Nat} (h : j < (endE es).length) : ∃ a b : Nat, flAt (endE es) j = ((a : Int), (b : Int)) ∧ a < es.length ∧ b < es.length := by
  obtain ⟨i, hi, he, hn⟩ := endF_at h
  have r := (fly_inv es es.length).rng i hi
  have he' : flAt (flyTo es es.length).F i = flAt (endE es) j := he
  have hn' : (flAt (endE es) j).2 ≠ -1 := hn
  rw [he'] at r
  clear he he' hn
  generalize flAt (endE es) j = x at *
  refine ⟨x.1.toNat, x.2.toNat, ?_, by omega, by omega⟩
  refine Prod.ext ?_ ?_
  · show _ = (x.1.toNat : Int); omega
  · show _ = (x.2.toNat : Int); omega
set_option maxRecDepth 100000 in
set_option maxHeartbeats 1000000 in
theorem luTell_pan (al : Option Addr) (n cal : Nat) (es : List En) (hl : n = es.length) (hn : n ≤ 1048576) (hf : EnFits es) (hv : validE es = false) (lp : Addr) (w : World) (hlp : w.cell? lp = some (.slice al n cal)) (ha : CellsOf w al (enCells es)) :
    Calls Tryd.prog 70 #[.pointer (some lp)] w fun e w' => e = .panicked [{ v := .iface 177 (.int .i64 (badX es)), recovered := false }] ∧ Gr w w' := by
  have HF := hid (flightsOf_any al n cal es hl hn hf w ha)
  rw [hv] at HF
  clear ha hl hf hv
  go_enter Tryd.func70, Tryd.ntmps70
  go_wp2_with fail
  refine HF.out.mono ?_
  rintro e w1 (⟨h, -⟩ | ⟨-, rfl, g1⟩)
  · cases h
  · have G1 := hid g1
    clear g1
    go_wp2_with fail
    exact ⟨rfl, rfl, G1.out⟩
def LuRet (es : List En) (w : World) (e : Ending) (w' : World) : Prop :=
  Gr w w' ∧ (((endE es).length = 0 ∧ e = .returned (.tuple #[.int .i64 0, .int .i64 0, .iface 93 (.string sigTxt)])) ∨ (0 < (endE es).length ∧ e = .returned (.tuple #[.int .i64 (bestE es).1, .int .i64 (lastF es (bestE es)), .nilIface])))
set_option maxRecDepth 100000 in
set_option maxHeartbeats 4000000 in
theorem luTell_any (al : Option Addr) (n cal : Nat) (es : List En) (hl : n = es.length) (hn : n ≤ 1048576) (hf : EnFits es) (hv : validE es = true) (lp : Addr) (w : World) (hlp : w.cell? lp = some (.slice al n cal)) (ha : CellsOf w al (enCells es)) :
    Calls Tryd.prog 70 #[.pointer (some lp)] w (LuRet es w) := by
  have HF := hid (flightsOf_any al n cal es hl hn hf w ha)
  rw [hv] at HF
  have hmf : ∀ (fn : Fn) (first cap : Array Value) (w : World), (Instr.makeFunc fn first cap).run Tryd.prog w = .ok (.func fn first cap) w := fun _ _ _ _ => rfl
  have hmi : ∀ (s : ByteArray) (V : World), (Instr.makeInterface 93 (.string s)).run Tryd.prog V = .ok (.iface 93 (.string s)) V := fun _ _ => rfl
  have ht : ∀ i, i < n → 0 ≤ (enAt es i).t ∧ (enAt es i).t ≤ 100000 := fun i hi => times_ok hv (by rw [← hl]; exact hi)
  have hEF : endF (flyTo es n).F = endE es := by rw [hl]; rfl
  have HEF := hid hEF
  have hfl : (flyTo es n).F.length ≤ n := flyTo_length es n
  have HFL := hid hfl
  have HEL := hid (show (endE es).length ≤ n by rw [← hEF]; exact Nat.le_trans (List.length_filter_le _ _) hfl)
  have HRG := hid (fun j (h : j < (endE es).length) => by have r := endE_rng h; rw [← hl] at r; exact r)
  have HLP := hid hlp
  have HMN := hid (fun m cap (hm : m = (endE es).length) (h0 : 0 < m) (h1 : m ≤ 1048576) a V (g : Gr w V) (hb : CellsOf V a (flCells (endE es))) => minFl_any es al n cal hl hn ht (endE es) m cap hm h0 h1 (fun j hj => HRG.out j (by rw [← hm]; exact hj)) a lp V (g.cell hlp) (ha.gr g) hb)
  have HLL := hid (fun a b h1 h2 V (g : Gr w V) => lasting_any es al n cal hl hn a b h1 h2 ht V (ha.gr g))
  have HBI := hid (fun (h : 0 < (endE es).length) => (best_inv es (endE es) ((endE es).length - 1) (by omega)).1)
  clear ha hl hf hv ht hfl hEF hlp
  go_enter Tryd.func70, Tryd.ntmps70
  have c0 := HLP.out
  go_wp2_with fail
  refine HF.out.mono ?_
  rintro e w1 (⟨-, v, rfl, o1, g1⟩ | ⟨h, -⟩)
  · obtain ⟨a1, c1, rfl⟩ := o1.shape
    have HD := hid (delF_any a1 (flyTo es n).F.length c1 w.heap.size w1.heap.size (flyTo es n).F rfl (by have := HFL.out; omega) w1 o1 (Nat.le_refl _) w g1 (Nat.le_refl _))
    rw [HEF.out] at HD
    have HFL2 := HFL.out
    generalize (flyTo es n).F.length = fl at *
    clear o1 g1 c0 HFL2
    go_wp2_with fail
    refine HD.out.mono ?_
    rintro e w2 ⟨v, rfl, o2, g2, -⟩
    obtain ⟨a2, c2, rfl⟩ := o2.shape
    have O2 := hid o2
    have G2 := hid g2
    have HB2 := hid (show bestE es = bestFl es (endE es) ((endE es).length - 1) from rfl)
    have HE := hid (fun (h : (endE es).length = 0) => (Or.inl h : (endE es).length = 0 ∨ 0 < (endE es).length))
    clear g2 o2
    generalize hm : (endE es).length = m at *
    have HM := hid hm
    clear hm
    by_cases h0 : m = 0
    · subst h0
      go_wp2_with fail
      go_ret3
      exact ⟨G2.out, .inl ⟨HM.out, rfl⟩⟩
    · have h1 : 0 < m := by omega
      have h2 : ¬ (m : Int) = 0 := by omega
      obtain ⟨j, hj, hbe⟩ := HBI.out h1
      obtain ⟨bh, bd, eb, hb1, hb2⟩ := HRG.out j (by omega)
      rw [eb] at hbe
      have HMI := hid (fun V (g : Gr w2 V) => HMN.out m c2 rfl h1 (by have := HEL.out; omega) a2 V (G2.out.trans g) (O2.out.reads.gr g))
      rw [hbe] at HMI HB2
      have HLA := hid (fun V g => HLL.out bh bd hb1 hb2 V g)
      have HLB := hid (show lastF es (bestE es) = lastF es ((bh : Int), (bd : Int)) by rw [HB2.out])
      generalize lastF es ((bh : Int), (bd : Int)) = lb at *
      clear hbe eb hj hb1 hb2 HBI HRG HMN HLL
      go_wp2_with fail
      refine (HMI.out _ (Gr.refl _)).mono ?_
      rintro e w3 ⟨rfl, g3⟩
      have G3 := hid (G2.out.trans g3)
      obtain ⟨W4, hW4⟩ : ∃ W4, W4 = w3.alloc (.cells #[.int .i64 (bh : Int), .int .i64 (bd : Int)] 89) := ⟨_, rfl⟩
      have HW4 := hid hW4
      have G4 := hid (show Gr w W4 by rw [hW4]; exact G3.out.alloc _)
      have B4 := hid (show W4.heap[w3.heap.size]? = some (.cells #[.int .i64 (bh : Int), .int .i64 (bd : Int)] 89 (0, 0)) by rw [hW4]; exact heap_new rfl)
      clear g3 hW4
      go_wp2_with fail
      rw [← HW4.out]
      refine wp_region_held_drew (S := fun V => Gr W4 V) (by kernel_rfl) (Gr.refl W4).drew (fun hH => ?_)
      have HH := hid hH
      clear hH
      refine wpAnyH_take (i := 0) (v := .pointer (some ⟨w3.heap.size, 0, none⟩)) rfl (by kernel_rfl) (by kernel_rfl) (by kernel_rfl) (fun _ _ _ h => h) (Or.inl ⟨by rfl, fun _ _ => by first | rfl | (go_simp; done) | (go_simp; rfl) | (go_simp; intro h; exfalso; omega)⟩) HH.out ?_
      simp only [Act.put, List.getElem_toArray, List.getElem_cons_zero, List.setIfInBounds_toArray, List.set_cons_zero, List.set_cons_succ]
      refine wpAnyH_take (i := 1) (v := .int .i64 (bh : Int)) rfl (by kernel_rfl) (by kernel_rfl) (by kernel_rfl) (fun _ _ _ h => h) (Or.inl ⟨by rfl, fun V hV => by (have hc : V.cell? ⟨w3.heap.size, 0, none⟩ = some (.int .i64 (bh : Int)) := by (rw [cell_of_row _ _ _ _ _ _ (hV.heap B4.out)]; rfl)); (first | (go_simp; done) | (go_simp; rfl))⟩) HH.out ?_
      simp only [Act.put, List.getElem_toArray, List.getElem_cons_zero, List.getElem_cons_succ, List.setIfInBounds_toArray, List.set_cons_zero, List.set_cons_succ]
      refine wpAnyH_take (i := 2) (v := .agg #[.int .i64 (bh : Int), .int .i64 (bd : Int)]) rfl (by kernel_rfl) (by kernel_rfl) (by kernel_rfl) (fun _ _ _ h => h) (yieldsIf_load_mid rfl 89 (.tmp 5) rfl w3.heap.size (0) rfl [.int .i64 (bh : Int), .int .i64 (bd : Int)] _ (fun V hV => range2 ⟨by rw [cell_of_row _ _ _ _ _ _ (hV.heap B4.out)]; rfl, by rw [cell_of_row _ _ _ _ _ _ (hV.heap B4.out)]; rfl⟩) Tryd.underlying89 rfl sizeFl) HH.out ?_
      simp only [Act.put, List.getElem_toArray, List.getElem_cons_zero, List.getElem_cons_succ, List.setIfInBounds_toArray, List.set_cons_zero, List.set_cons_succ]
      refine wpAnyH_take (i := 3) (v := .slice al n cal) rfl (by kernel_rfl) (by kernel_rfl) (by kernel_rfl) (fun _ _ _ h => h) (Or.inl ⟨by rfl, fun V hV => by (have hc := (G4.out.trans hV).cell HLP.out; first | (go_simp; done) | (go_simp; rfl))⟩) HH.out ?_
      simp only [Act.put, List.getElem_toArray, List.getElem_cons_zero, List.getElem_cons_succ, List.setIfInBounds_toArray, List.set_cons_zero, List.set_cons_succ]
      refine wpAnyH_ready (rs := [4]) (by kernel_rfl) (by simp) (AllReadyH.cons rfl (fun KK hKK => ?_) AllReadyH.nil)
      rw [if_pos (by rfl)]
      go_simp
      refine (HLA.out _ (G4.out.trans HH.out)).mono ?_
      rintro e V ⟨rfl, gV⟩
      dsimp only
      refine hKK.out _ _ (HH.out.trans gV) (fun hH => ?_)
      clear HH hKK KK
      have HH := hid hH
      clear hH
      refine wpAnyH_take (i := 5) (v := .int .i64 (bh : Int)) rfl (by kernel_rfl) (by kernel_rfl) (by kernel_rfl) (fun _ _ _ h => h) (Or.inl ⟨by rfl, fun _ _ => by first | rfl | (go_simp; done) | (go_simp; rfl) | (go_simp; intro h; exfalso; omega)⟩) HH.out ?_
      simp only [Act.put, List.getElem_toArray, List.getElem_cons_zero, List.getElem_cons_succ, List.setIfInBounds_toArray, List.set_cons_zero, List.set_cons_succ]
      refine wpAnyH_take (i := 6) (v := .int .i64 lb) rfl (by kernel_rfl) (by kernel_rfl) (by kernel_rfl) (fun _ _ _ h => h) (Or.inl ⟨by rfl, fun _ _ => by first | rfl | (go_simp; done) | (go_simp; rfl) | (go_simp; intro h; exfalso; omega)⟩) HH.out ?_
      simp only [Act.put, List.getElem_toArray, List.getElem_cons_zero, List.getElem_cons_succ, List.setIfInBounds_toArray, List.set_cons_zero, List.set_cons_succ]
      refine wpAnyH_take (i := 7) (v := .nilIface) rfl (by kernel_rfl) (by kernel_rfl) (by kernel_rfl) (fun _ _ _ h => h) (Or.inl ⟨by rfl, fun _ _ => by first | rfl | (go_simp; done) | (go_simp; rfl) | (go_simp; intro h; exfalso; omega)⟩) HH.out ?_
      simp only [Act.put, List.getElem_toArray, List.getElem_cons_zero, List.getElem_cons_succ, List.setIfInBounds_toArray, List.set_cons_zero, List.set_cons_succ]
      refine wpAnyH_done (by kernel_rfl) ?_ _
      go_wp2_with fail
      go_ret3
      exact ⟨G4.out.trans HH.out, .inr ⟨by rw [HM.out]; exact h1, by rw [HLB.out, HB2.out]; rfl⟩⟩
  · cases h
end Go.Proofs.YtlgfibiggiknjaaDoor
