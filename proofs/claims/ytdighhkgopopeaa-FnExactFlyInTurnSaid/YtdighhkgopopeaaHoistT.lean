/- MeaningOf, WithoutSubs: the functions. -/
import Derived.Test.YtdighhkgopopeaaHoistS
namespace Go.Proofs.Ytdighhkgopopeaa
set_option linter.unusedVariables false
open Go.RowKit
def codeH (xs : List Int) : Int := if validH xs then 0 else 1
theorem codeH_yes {xs : List Int} (h : validH xs = true) : codeH xs = 0 := by unfold codeH; rw [if_pos h]
theorem codeH_no {xs : List Int} (h : validH xs = false) : codeH xs = 1 := by unfold codeH; rw [if_neg (by rw [h]; simp)]
theorem Own.capLe {k : IntKind} {e : TypeId} {w : World} {lo hi n cap : Nat} {a : Option Addr} {xs : List Int} (h : Own k e w lo hi (.slice a n cap) xs) : n ≤ cap := by
  have hl := h.len
  subst hl
  rcases h.row.2 with ⟨h1, h2⟩ | ⟨g', cap', cur, h1, _, _, h2, _⟩
  · omega
  · simp only [Value.slice.injEq] at h1
    obtain ⟨_, _, rfl⟩ := h1
    exact h2
theorem ret_nil {k : IntKind} {e : TypeId} {w w1 : World} (g : Gr w w1) (mk : Value → Value) : RetOwn k e mk [] w (.returned (mk (.slice none 0 0))) w1 := ⟨_, rfl, Own.nil _ _ _, g⟩

set_option maxRecDepth 100000 in
set_option maxHeartbeats 1000000 in
theorem cloneHoist_any (a : Option Addr) (n cap : Nat) (xs : List Int) (hn : n = xs.length) (h1 : 1 ≤ n) (hm : n ≤ 1048576) (w : World) (hs : SliceOf .i8 w a xs) :
    Calls Try.prog 44 #[.slice a n cap] w (RetOwn .i8 59 (fun v => v) xs w) := by
  obtain ⟨i0, hi, hz0, hz1, hz2⟩ := info_parts infoI8
  obtain ⟨b, off, rfl, _⟩ := hs 0 (by omega)
  have hnews : ∀ j u, (xs.map (Value.int .i8))[j]? = some u → (w.alloc (.cells #[] 59)).cell? ((⟨b, off, none⟩ : Addr).add j) = some u := by
    intro j u hu
    rw [List.getElem?_map] at hu
    cases hx : xs[j]? with
    | none => rw [hx] at hu; cases hu
    | some x =>
      rw [hx] at hu
      have hjl : j < xs.length := (List.getElem?_eq_some_iff.1 hx).1
      obtain ⟨b', off', e, hc⟩ := hs j hjl
      simp only [Option.some.injEq, Addr.mk.injEq] at e
      obtain ⟨rfl, rfl, _⟩ := e
      have hadd : (⟨b, off, none⟩ : Addr).add j = ⟨b, off + j, none⟩ := by unfold Addr.add; split <;> simp_all
      rw [hadd, ((Gr.refl w).alloc _).cell hc]
      simp only [Option.map_some, Option.some.injEq] at hu
      rw [← hu]
      simp [List.getD, hx]
  have NEWS := hid hnews
  have HN := hid hn
  have ROW := hid (Own.new (k := .i8) (e := 59) w [] (by simp)).row
  have hone : ∀ u ∈ xs.map (Value.int .i8), u.oneCell' = true := by
    intro u hu; simp only [List.mem_map] at hu; obtain ⟨x, _, rfl⟩ := hu; rfl
  have ONE := hid hone
  have HL := hid (show (xs.map (Value.int .i8)).length = n * 1 by rw [List.length_map, ← hn, Nat.mul_one])
  clear hs hn hnews hone
  have hnil := fun (w : World) => Lib.run_eql_slice_nil (P := Try.prog) w 28 59 (some ⟨b, off, none⟩) n cap 0 0 Try.underlying28
  go_enter Try.func44, Try.ntmps44
  go_wp2_with (at_builtin; refine wpList_append_own _ rfl _ _ 28 rfl w.heap.size 59 i0 (.int .i8 0) 1 1 Try.underlying28 hi hz0 hz1 hz2 rfl (by decide) _ _ _ rfl ROW.out ⟨b, off, none⟩ n cap (xs.map (Value.int .i8)) rfl HL.out NEWS.out ONE.out (by unfold maxLen; simp; omega) (by simp; omega) (by simp) ?_; intro v' w1 hown' hgrow _)
  have O := hid (Own.ofRow (k := .i8) (xs := xs) hown' rfl (by rw [← HN.out]; simp))
  have G := hid (((Gr.refl w).alloc (.cells #[] 59)).by_ hgrow (fun k e => by have e' : some w.heap.size = some k := e; simp only [Option.some.injEq] at e'; omega))
  clear hown' hgrow
  go_wp2_with fail
  go_ret
  exact ⟨_, rfl, O.out, G.out⟩

end Go.Proofs.Ytdighhkgopopeaa
