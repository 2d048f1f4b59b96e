/- slices.DeleteFunc over flights that are the call's own. -/
import Derived.Test.YtlgfibiggiknjaaDoorDelH
namespace Go.Proofs.YtlgfibiggiknjaaDoor
set_option linter.unusedVariables false
open Go.RowKit
set_option maxRecDepth 100000 in
set_option maxHeartbeats 2000000 in
theorem delF_any (a : Option Addr) (n cap lo hi : Nat) (es : List (Int × Int)) (hl : n = es.length) (hn : n ≤ 1048576) (w : World) (ho : OwnV 89 2 w lo hi (.slice a n cap) n (flCells es)) (hh : hi ≤ w.heap.size) (W0 : World) (hg0 : Gr W0 w) (hlo : W0.heap.size ≤ lo) :
    Calls Tryd.prog 71 #[.slice a n cap, .func (.func 73) #[] #[]] w fun e w' => ∃ v, e = .returned v ∧ OwnV 89 2 w' lo hi v (endF es).length (flCells (endF es)) ∧ Gr W0 w' ∧ hi ≤ w'.heap.size := by
  have HI := hid (idxF_any a n cap es hl hn w ho.reads)
  have HO := hid ho
  have HL := hid hl
  have HH := hid hh
  have HG0 := hid hg0
  have HLO := hid hlo
  have hcap := ho.caps
  have HCP := hid hcap
  clear ho hl hh hcap hg0 hlo
  go_enter Tryd.func71, Tryd.ntmps71
  go_wp2_with fail
  refine HI.out.mono ?_
  rintro e w1 ⟨g1, (⟨rfl, hall⟩ | ⟨k0, hk0, rfl, hd0, hall⟩)⟩
  · have HE := hid (show endF es = es by
      have h := endF_none (es := es) es.length (Nat.le_refl _) (fun i hi => hall i (by rw [HL.out]; exact hi))
      rwa [List.take_length] at h)
    have G1 := hid g1
    clear g1 hall
    go_wp2_with fail
    go_ret
    exact ⟨_, rfl, by rw [HE.out, ← HL.out]; exact HO.out.gr G1.out, HG0.out.trans G1.out, Nat.le_trans HH.out G1.out.size⟩
  · obtain ⟨g, rfl⟩ : ∃ g, a = some ⟨g, 0, none⟩ := by
      obtain ⟨g, e1, _⟩ := HO.out.at_ (i := 0) (List.getElem?_eq_getElem (by rw [flCells_length, ← HL.out]; omega))
      exact ⟨g, e1⟩
    have G1 := hid g1
    have D0 := hid (DelF.start (es := es) (k := k0) (by rw [← HL.out]; exact hk0) hall hd0)
    have hk1 : ((k0 : Int) == -1) = false := beq_eq_false_iff_ne.2 (by omega)
    have hk2 : (k0 : Int) < n := by omega
    clear g1 hall hd0
    have HK0 := hid hk0
    go_wp2_with fail
    clear hk1 hk2 hk0
    go_loopw [5, 6, 7] (fun iv jv _ wr => ∃ (i j : Nat) (ds : List (Int × Int)), iv = .int .i64 i ∧ jv = .int .i64 j ∧ i < j ∧ j ≤ n ∧ Hid (DelF es ds j i) ∧ Hid (OwnV 89 2 wr lo hi (.slice (some ⟨g, 0, none⟩) n cap) n (flCells ds)) ∧ Hid (Gr W0 wr) ∧ Hid (hi ≤ wr.heap.size)) (fun _ jv _ _ => n - (intOf jv).toNat)
    case atStart => exact ⟨k0, k0 + 1, es, rfl, by go_num, by omega, (by have := HK0.out; omega), D0, hid (HO.out.gr G1.out), hid (HG0.out.trans G1.out), hid (Nat.le_trans HH.out G1.out.size)⟩
    case round =>
      obtain ⟨i, j, ds, rfl, rfl, hij, hjn, hD, hO, hg, hz⟩ := hrel
      have HDL := hid (show n = ds.length by rw [hD.out.len, HL.out])
      by_cases hlt : j < n
      · have p := fl_at' (i := j) hO.out.reads (by rw [← HDL.out]; exact hlt)
        rw [hD.out.at_, Nat.zero_add] at p
        have RG := hid (range2 p)
        have HV := hid (fun V => notHauled_any (flAt es j).1 (flAt es j).2 V)
        have HSK := hid (fun h => hD.out.skip (by rw [← HL.out]; exact hlt) h)
        have HKP := hid (fun h => hD.out.keep (by rw [← HL.out]; exact hlt) h)
        clear p
        generalize hx : flAt es j = x at *
        obtain ⟨t, s⟩ := x
        generalize hq : hauB (t, s) = d at *

        clear hq
        have GA := hid ((Gr.refl wr).alloc (.cells #[.int .i64 t, .int .i64 s] 89))
        have BA := hid (heap_new (w := wr) (o := .cells #[.int .i64 t, .int .i64 s] 89) rfl)
        have hb0 : (0 : Int) ≤ j := by omega
        have hb1 : (j : Int) < n := by omega
        have hb2 : (0 : Int) ≤ i := by omega
        have hb3 : (i : Int) < n := by omega
        have hb4 : i < n := by omega
        go_wp2_with (refine wpList_load_mid rfl 89 _ rfl g (j * 2) rfl _ _ RG.out Tryd.underlying89 rfl sizeFl ?_)
        refine (HV.out _).mono ?_
        rintro e w2 ⟨rfl, g2⟩
        have G2 := hid (GA.out.trans g2)
        have B2 := hid (g2.heap BA.out)
        clear g2
        cases d
        · go_wp2_with fail
          go_roundw
          case rel => exact ⟨i, j + 1, ds, rfl, by go_num, by omega, by omega, hid (HSK.out (by simp)), hid (hO.out.gr G2.out), hid (hg.out.trans G2.out), hid (Nat.le_trans hz.out G2.out.size)⟩
          case measure => simp [intOf] <;> omega
        · have RB := hid (show w2.rangeAt wr.heap.size 0 [.int .i64 t, .int .i64 s] from range2 ⟨by rw [cell_of_row _ _ _ _ _ _ B2.out]; rfl, by rw [cell_of_row _ _ _ _ _ _ B2.out]; rfl⟩)
          have O2 := hid (hO.out.gr G2.out)
          have hlen : i * 2 + 2 ≤ (flCells ds).length := by rw [flCells_length, ← HDL.out]; omega
          have hq0 := List.getElem?_eq_getElem (l := flCells ds) (i := i * 2) (by omega)
          have hq1 := List.getElem?_eq_getElem (l := flCells ds) (i := i * 2 + 1) (by omega)
          obtain ⟨g', ea, _, hc0, hf0⟩ := O2.out.at_ hq0
          cases ea
          obtain ⟨g', ea, _, hc1, hf1⟩ := O2.out.at_ hq1
          cases ea
          have PP := O2.out.puts [.int .i64 t, .int .i64 s] (i * 2)
          have HE := hid (show putsL (flCells ds) (i * 2) [.int .i64 t, .int .i64 s] = flCells (ds.set i (t, s)) from flCells_put ds i (t, s) (by rw [← HDL.out]; omega))
          rw [HE.out] at PP
          have P1 := hid (show OwnV 89 2 ((w2.setCell ⟨g, i * 2, none⟩ (.int .i64 t)).setCell ⟨g, i * 2 + 1, none⟩ (.int .i64 s)) lo hi (.slice (some ⟨g, 0, none⟩) n cap) n (flCells (ds.set i (t, s))) from PP.1)
          have P2 := hid (show w2.grownBy ((w2.setCell ⟨g, i * 2, none⟩ (.int .i64 t)).setCell ⟨g, i * 2 + 1, none⟩ (.int .i64 s)) (some g) from PP.2)
          have HGL := hid (O2.out.row.lt g rfl).1
          clear PP hq0 hq1
          generalize (flCells ds)[i * 2] = y0 at *
          generalize (flCells ds)[i * 2 + 1] = y1 at *
          clear hlen
          go_wp2_with (refine wpList_load_mid rfl 89 _ rfl wr.heap.size 0 rfl _ _ RB.out Tryd.underlying89 rfl sizeFl ?_)
          go_roundw
          case rel => exact ⟨i + 1, j + 1, ds.set i (t, s), by go_num, by go_num, by omega, by omega, hid (HKP.out (by simp)), P1, hid ((hg.out.trans G2.out).by_ P2.out (fun b e => by cases e; exact Nat.le_trans HLO.out HGL.out)), hid (Nat.le_trans (Nat.le_trans hz.out G2.out.size) P2.out.size)⟩
          case measure => simp [intOf] <;> omega
      · obtain rfl : j = n := by omega
        have HDN := hid (show DelF es ds es.length i by rw [← HL.out]; exact hD.out)
        have HLN := hid (show (endF es).length = i from HDN.out.done_len)
        have hth := hO.out.there_ (i * 2) (Builtin.zeroCells zF.cells (j - i)).toList.length (by rw [zF_len, flCells_length, ← HDL.out]; omega)
        have hcl : ∀ ty, (Builtin.clear_ #[86] ty #[.slice (some ⟨g, i * 2, none⟩) (j - i) (cap - i)]).run Tryd.prog wr = .ok (.tuple #[]) (wr.setCells g (i * 2) (Builtin.zeroCells zF.cells (j - i)).toList) :=
          fun ty => clear_any Tryd.underlying86 (z := zF) (fun w => by kernel_rfl) g (i * 2) (j - i) (cap - i) wr (by omega) (zF_one _) hth
        have PP := hO.out.puts (Builtin.zeroCells zF.cells (j - i)).toList (i * 2)
        have P1 := hid PP.1
        have P2 := hid PP.2
        have HGL := hid (hO.out.row.lt g rfl).1
        clear PP hth
        generalize (Builtin.zeroCells zF.cells (j - i)).toList = zs at *
        obtain ⟨W2, hW2⟩ : ∃ W2, W2 = wr.setCells g (i * 2) zs := ⟨_, rfl⟩
        rw [← hW2] at hcl P1 P2
        have HCS := hid (show (putsL (flCells ds) (i * 2) zs).take (i * 2) = flCells (endF es) by rw [putsL_take, flCells_take ds i (by rw [← HDL.out]; omega), HDN.out.done])
        have hb2 : (0 : Int) ≤ i := by omega
        have hb3 : (i : Int) < j := by omega
        have hcap := HCP.out
        have hc1 : (j : Int) ≤ cap := by omega
        clear hW2 hcap
        go_wp2_with fail
        go_ret
        exact ⟨_, rfl, by rw [HLN.out, ← HCS.out]; exact P1.out.cut (by omega), hg.out.by_ P2.out (fun b e => by cases e; exact Nat.le_trans HLO.out HGL.out), Nat.le_trans hz.out P2.out.size⟩
end Go.Proofs.YtlgfibiggiknjaaDoor
