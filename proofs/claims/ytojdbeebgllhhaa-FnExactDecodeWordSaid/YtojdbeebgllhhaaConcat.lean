/- slices.Concat of two lists of words. -/
import Derived.Test.YtojdbeebgllhhaaWordsW
import Derived.Test.YtojdbeebgllhhaaWordK
import Derived.Laws.AppendOwnNone
import Derived.Lib.AppendZeros
namespace Go.Proofs.Ytojdbeebgllhhaa
open Go.RowKit
theorem infoWd : (Try.prog.info? 25).map (fun i => (i.zero, i.size, i.bytes)) = some (some (.slice none 0 0), 1, 24) := by kernel_rfl
set_option maxRecDepth 100000 in
set_option maxHeartbeats 600000 in
theorem growW_any (n : Nat) (hn : n ≤ 4194304) (w : World) :
    Calls Try.prog 102 #[.slice none 0 0, .int .i64 n] w fun e w' => (∃ v, e = .returned v ∧ w'.ownsRow w.heap.size 25 1 v 0 []) ∧ Gr w w' := by
  by_cases h0 : n = 0
  · subst h0
    go_enter Try.func102, Try.ntmps102
    go_wp2_with fail
    go_ret
    exact ⟨⟨_, rfl, World.ownsRow_nil _ _ _ _⟩, Gr.refl _⟩
  · obtain ⟨i0, hi, hz0, hz1, hz2⟩ := info_parts infoWd
    have hrun := fun ty => Lib.run_append_nil_zeros (P := Try.prog) w 46 3 ty 25 i0 (.slice none 0 0) .i64 .i64 Try.underlying46 Try.underlying3 hi hz0 n (by omega) (by rw [hz1]; omega) (by omega) (by rw [hz2]; omega)
    have HRUN := hid hrun
    have hg := hid (grownCap_ge w n 0 25)
    have hm := hid (grownCap_le_maxLen w n 0 25 (by unfold maxLen; omega))
    clear hrun
    have h1 : ¬ ((n : Int) < 0) := by omega
    have h2 : (0 : Int) < n := by omega
    go_enter Try.func102, Try.ntmps102
    go_wp2_with (at_builtin; refine Lib.wpList_append_run _ rfl _ _ _ _ rfl _ _ rfl rfl _ _ (HRUN.out _) ?_)
    go_ret
    refine ⟨⟨_, rfl, ?_⟩, ((Gr.refl w).drew).alloc _⟩
    exact World.ownsRow_made (base := w.heap.size) (e := 25) (size := 1) w.drew _ (grownCap w n 0 25) (Nat.le_refl _) hm.out (by
      have := hg.out
      rw [Array.size_append, size_zeroCells, size_zeroCells]
      simp [Value.cells]
      omega)
/-- The values of a slice. -/
def ValsOf (w : World) (a : Option Addr) (vs : List Value) : Prop := ∀ ad, a = some ad → ∀ j u, vs[j]? = some u → w.cell? (ad.add j) = some u
theorem ValsOf.gr {W w : World} {a : Option Addr} {vs : List Value} (h : ValsOf W a vs) (g : Gr W w) : ValsOf w a vs := fun ad e j u hu => g.cell (h ad e j u hu)
def OneVals (vs : List Value) : Prop := ∀ u ∈ vs, u.oneCell' = true
set_option maxRecDepth 100000 in
set_option maxHeartbeats 1000000 in
theorem concat2_any (bl : Nat) (a b : Option Addr) (n m ca cb : Nat) (vs us : List Value) (hv : vs.length = n) (hu : us.length = m) (hn : n ≤ 1048576) (hm : m ≤ 1048576) (ha : a = none → n = 0 ∧ ca = 0) (hb : b = none → m = 0 ∧ cb = 0) (h1 : OneVals vs) (h2 : OneVals us)
    (w : World) (hva : ValsOf w a vs) (hvb : ValsOf w b us) (c0 : w.cell? ⟨bl, 0, none⟩ = some (.slice a n ca)) (c1 : w.cell? ⟨bl, 1, none⟩ = some (.slice b m cb)) :
    Calls Try.prog 95 #[.slice (some ⟨bl, 0, none⟩) 2 2] w fun e w' => (∃ v, e = .returned v ∧ w'.ownsRow w.heap.size 25 1 v (n + m) (vs ++ us)) ∧ Gr w w' := by
  obtain ⟨i0, hi, hz0, hz1, hz2⟩ := info_parts infoWd
  have VA := hid hva
  have VB := hid hvb
  have C0 := hid c0
  have C1 := hid c1
  have HA := hid ha
  have HB := hid hb
  have H1 := hid h1
  have H2 := hid h2
  have HV := hid hv
  have HU := hid hu
  clear hva hvb ha hb h1 h2 hv hu
  go_enter Try.func95, Try.ntmps95
  go_wp2_with fail
  go_loop [3, 11] (fun s i => (i = .int .i64 0 ∧ s = .int .i64 0) ∨ (i = .int .i64 1 ∧ s = .int .i64 n) ∨ (i = .int .i64 2 ∧ s = .int .i64 ((n : Int) + m))) (fun _ i => 2 - (intOf i).toNat)
  case atStart => exact .inl ⟨rfl, rfl⟩
  case round =>
    rcases hrel with ⟨rfl, rfl⟩ | ⟨rfl, rfl⟩ | ⟨rfl, rfl⟩
    · go_wp2_with fail
      go_round
      case rel => exact .inr (.inl ⟨rfl, rfl⟩)
      case measure => simp [intOf]
    · have e1 : ¬ ((n : Int) + m < 0) := by omega
      go_wp2_with fail
      go_round
      case rel => exact .inr (.inr ⟨rfl, rfl⟩)
      case measure => simp [intOf]
    · clear c0 c1
      obtain ⟨s, hs⟩ : ∃ s : Nat, (n : Int) + m = s := ⟨n + m, by omega⟩
      have hs2 : s ≤ 4194304 := by omega
      rw [hs]
      clear hs
      go_wp2_with fail
      refine (growW_any s hs2 w).mono ?_
      rintro e w1 ⟨⟨v, rfl, o⟩, g⟩
      have O := hid o
      have G := hid g
      clear o g
      go_wp2_with fail
      go_loopw [6, 27] (fun q i wr => (i = .int .i64 0 ∧ Hid (wr.ownsRow w.heap.size 25 1 q 0 []) ∧ Hid (Gr w wr)) ∨ (i = .int .i64 1 ∧ Hid (wr.ownsRow w.heap.size 25 1 q n vs) ∧ Hid (Gr w wr)) ∨ (i = .int .i64 2 ∧ Hid (wr.ownsRow w.heap.size 25 1 q (n + m) (vs ++ us)) ∧ Hid (Gr w wr))) (fun _ i _ => 2 - (intOf i).toNat)
      case atStart => exact .inl ⟨rfl, O, G⟩
      case round =>
        clear O G
        rcases hrel with ⟨rfl, O, G⟩ | ⟨rfl, O, G⟩ | ⟨rfl, O, G⟩
        · have c0 := G.out.cell C0.out
          cases a with
          | none =>
            obtain ⟨rfl, rfl⟩ := HA.out rfl
            have hvs : vs = [] := List.length_eq_zero_iff.1 HV.out
            subst hvs
            go_wp2_with (at_builtin; refine wpList_append_own_none rfl _ _ 46 rfl w.heap.size 25 i0 1 Try.underlying46 hi _ 0 [] rfl O.out rfl ?_)
            go_roundw
            case rel => exact .inr (.inl ⟨rfl, O, G⟩)
            case measure => simp [intOf]
          | some ad =>
            have hbs := hid G.out.size
            go_wp2_with (at_builtin; refine wpList_append_own _ rfl _ _ 46 rfl w.heap.size 25 i0 (.slice none 0 0) 1 24 Try.underlying46 hi hz0 hz1 hz2 rfl (by decide) _ _ _ rfl O.out ad n ca vs rfl (by rw [HV.out, Nat.mul_one]) ((VA.out.gr G.out) ad rfl) H1.out (by unfold maxLen; omega) (by omega) hbs.out ?_; intro v2 w2 hown2 hgrow2 _)
            have O2 := hid hown2
            have G2 := hid (G.out.by_ hgrow2 (fun k e => (O.out.lt k e).1))
            clear hown2 hgrow2
            go_wp2_with fail
            go_roundw
            case rel => exact .inr (.inl ⟨rfl, hid (by have h := O2.out; rw [Nat.zero_add, List.nil_append] at h; exact h), G2⟩)
            case measure => simp [intOf]
        · have c1 := G.out.cell C1.out
          cases b with
          | none =>
            obtain ⟨rfl, rfl⟩ := HB.out rfl
            have hus : us = [] := List.length_eq_zero_iff.1 HU.out
            subst hus
            go_wp2_with (at_builtin; refine wpList_append_own_none rfl _ _ 46 rfl w.heap.size 25 i0 1 Try.underlying46 hi _ n vs rfl O.out rfl ?_)
            go_roundw
            case rel => exact .inr (.inr ⟨rfl, hid (by rw [Nat.add_zero, List.append_nil]; exact O.out), G⟩)
            case measure => simp [intOf]
          | some ad =>
            have hbs := hid G.out.size
            go_wp2_with (at_builtin; refine wpList_append_own _ rfl _ _ 46 rfl w.heap.size 25 i0 (.slice none 0 0) 1 24 Try.underlying46 hi hz0 hz1 hz2 rfl (by decide) _ _ _ rfl O.out ad m cb us rfl (by rw [HU.out, Nat.mul_one]) ((VB.out.gr G.out) ad rfl) H2.out (by unfold maxLen; omega) (by omega) hbs.out ?_; intro v2 w2 hown2 hgrow2 _)
            have O2 := hid hown2
            have G2 := hid (G.out.by_ hgrow2 (fun k e => (O.out.lt k e).1))
            clear hown2 hgrow2
            go_wp2_with fail
            go_roundw
            case rel => exact .inr (.inr ⟨rfl, O2, G2⟩)
            case measure => simp [intOf]
        · go_wp2_with fail
          go_ret
          exact ⟨⟨_, rfl, O.out⟩, G.out⟩
end Go.Proofs.Ytojdbeebgllhhaa
