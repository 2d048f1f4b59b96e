/- MeaningIf: the functions. -/
import Derived.Test.YtnghcchkiodalabHoistU
namespace Go.Proofs.Ytnghcchkiodalab
open Go.RowKit
theorem news_of {k : IntKind} {w : World} {b off : Nat} {xs : List Int} (h : SliceOf k w (some ⟨b, off, none⟩) xs) : ∀ j u, (xs.map (Value.int k))[j]? = some u → w.cell? ((⟨b, off, none⟩ : Addr).add j) = some u := by
  intro j u hu
  rw [List.getElem?_map] at hu
  cases hx : xs[j]? with
  | none => rw [hx] at hu; cases hu
  | some x =>
    rw [hx] at hu
    have hjl : j < xs.length := (List.getElem?_eq_some_iff.1 hx).1
    obtain ⟨b', off', e, hc⟩ := h j hjl
    simp only [Option.some.injEq, Addr.mk.injEq] at e
    obtain ⟨rfl, rfl, _⟩ := e
    have hadd : (⟨b, off, none⟩ : Addr).add j = ⟨b, off + j, none⟩ := by unfold Addr.add; split <;> simp_all
    rw [hadd, hc]
    simp only [Option.map_some, Option.some.injEq] at hu
    rw [← hu]
    simp [List.getD, hx]
theorem one_of (k : IntKind) (xs : List Int) : ∀ u ∈ xs.map (Value.int k), u.oneCell' = true := by
  intro u hu; simp only [List.mem_map] at hu; obtain ⟨x, _, rfl⟩ := hu; rfl
def ifC (xs : List Int) (p q : Int) : Int :=
  if validH xs then (if betB p 0 ((xs.length : Int) - 1) && betB q 0 39 then (if xs.getD p.toNat 0 < 0 then 4 else 0) else 2) else 1
def ifL (xs : List Int) (p q : Int) : List Int := if ifC xs p q = 0 then meanL (xs.set p.toNat q) else []
theorem ifL_length (xs : List Int) (p q : Int) : (ifL xs p q).length ≤ 8 := by
  unfold ifL
  split
  · rename_i h
    cases hv : validH xs
    · unfold ifC at h; rw [hv] at h; simp at h
    · rw [meanL_length, List.length_set]; exact (validH_len hv).2
  · simp
theorem betB_iff {n a b : Int} : betB n a b = true ↔ a ≤ n ∧ n ≤ b := by simp [betB]
theorem ifC_1 {xs : List Int} {p q : Int} (h : validH xs = false) : ifC xs p q = 1 ∧ ifL xs p q = [] := by
  have h1 : ifC xs p q = 1 := by unfold ifC; rw [h]; simp
  exact ⟨h1, by unfold ifL; rw [h1]; simp⟩
theorem ifC_2 {xs : List Int} {p q : Int} (h : validH xs = true) (h2 : (betB p 0 ((xs.length : Int) - 1) && betB q 0 39) = false) : ifC xs p q = 2 ∧ ifL xs p q = [] := by
  have h1 : ifC xs p q = 2 := by unfold ifC; rw [if_pos h, if_neg (by rw [h2]; simp)]
  exact ⟨h1, by unfold ifL; rw [h1]; simp⟩
theorem ifC_4 {xs : List Int} {p q : Int} (h : validH xs = true) (h2 : (betB p 0 ((xs.length : Int) - 1) && betB q 0 39) = true) (h3 : xs.getD p.toNat 0 < 0) : ifC xs p q = 4 ∧ ifL xs p q = [] := by
  have h1 : ifC xs p q = 4 := by unfold ifC; rw [if_pos h, if_pos h2, if_pos h3]
  exact ⟨h1, by unfold ifL; rw [h1]; simp⟩
theorem ifC_0 {xs : List Int} {p q : Int} (h : validH xs = true) (h2 : (betB p 0 ((xs.length : Int) - 1) && betB q 0 39) = true) (h3 : ¬ xs.getD p.toNat 0 < 0) : ifC xs p q = 0 ∧ ifL xs p q = meanL (xs.set p.toNat q) := by
  have h1 : ifC xs p q = 0 := by unfold ifC; rw [if_pos h, if_pos h2, if_neg h3]
  exact ⟨h1, by unfold ifL; rw [if_pos h1]⟩
theorem validH_num8 {xs : List Int} (hv : validH xs = true) {k : Nat} (hk : k < xs.length) : xs.getD k 0 < 0 ∨ (0 ≤ xs.getD k 0 ∧ xs.getD k 0 ≤ 39) := by
  have h := validH_at hv hk
  by_cases hb : xs.getD k 0 = -10
  · exact .inl (by omega)
  · cases hs : subI (xs.getD k 0)
    · exact .inr (okAt_kind h hb hs)
    · have := subI_iff.1 hs; exact .inl (by omega)
set_option maxHeartbeats 1500000 in
theorem l02If_any (a : Option Addr) (n cap : Nat) (xs : List Int) (hn : n = xs.length) (hm : n ≤ 1048576) (hf : Fits .i8 xs) (p q : Int) (hp : (Lit.int .i64 p).wf = true) (hq : (Lit.int .i64 q).wf = true) (w : World) (hs : SliceOf .i8 w a xs) :
    Calls Try.prog 74 #[.slice a n cap, .int .i64 p, .int .i64 q] w (RetOwn .i8 63 (withCode (ifC xs p q)) (ifL xs p q) w) := by
  have h := hid (l02Ok_any a n cap xs hn hm hf w hs)
  obtain ⟨p0, p1⟩ := bounds_i64 hp
  obtain ⟨q0, q1⟩ := bounds_i64 hq
  clear hp hq
  have S := hid hs
  have HN := hid hn
  have HF := hid hf
  clear hs hn hf
  cases hv : validH xs
  · obtain ⟨e1, e2⟩ := ifC_1 (p := p) (q := q) hv
    rw [e1, e2]
    rw [hv] at h
    clear hv e1 e2
    go_enter Try.func74, Try.ntmps74
    go_wp2_with fail
    refine h.out.mono ?_
    rintro e w1 ⟨rfl, g⟩
    have G := hid g
    clear g
    go_wp2_with fail
    go_ret2
    exact ret_empty G.out _
  · rw [hv] at h
    have h18 := validH_len hv
    rw [← HN.out] at h18
    obtain ⟨hn1, hn8⟩ := h18
    cases hb1 : betB p 0 ((n : Int) - 1)
    · obtain ⟨e1, e2⟩ := ifC_2 (p := p) (q := q) hv (by rw [← HN.out, hb1]; rfl)
      rw [e1, e2]
      have HB := hid hb1
      clear hv e1 e2 hb1
      go_enter Try.func74, Try.ntmps74
      go_wp2_with fail
      refine h.out.mono ?_
      rintro e w1 ⟨rfl, g⟩
      have G := hid g
      clear g
      go_wp2_with (go_at_call 80; refine (l00In_b _ _ _ _).mono ?_; rintro e w' ⟨rfl, rfl⟩; rw [HB.out])
      go_ret2
      exact ret_empty G.out _
    · cases hb2 : betB q 0 39
      · obtain ⟨e1, e2⟩ := ifC_2 (p := p) (q := q) hv (by rw [hb2, Bool.and_false])
        rw [e1, e2]
        have HB := hid hb1
        have HB2 := hid hb2
        clear hv e1 e2 hb1 hb2
        go_enter Try.func74, Try.ntmps74
        go_wp2_with fail
        refine h.out.mono ?_
        rintro e w1 ⟨rfl, g⟩
        have G := hid g
        clear g
        go_wp2_with (first | (go_at_call 80; refine (l00In_b _ _ _ _).mono ?_; rintro e w' ⟨rfl, rfl⟩; (first | rw [HB.out] | rw [HB2.out])))
        go_ret2
        exact ret_empty G.out _
      · obtain ⟨p0', p1'⟩ := betB_iff.1 hb1
        obtain ⟨q0', q1'⟩ := betB_iff.1 hb2
        have hbb : (betB p 0 ((xs.length : Int) - 1) && betB q 0 39) = true := by rw [← HN.out, hb1, hb2]; rfl
        obtain ⟨i, rfl⟩ : ∃ i : Nat, p = i := ⟨p.toNat, by omega⟩
        have hin : i < n := by omega
        have hix : i < xs.length := by rw [← HN.out]; exact hin
        obtain ⟨b, off, rfl, hc0⟩ := S.out i hix
        have HB := hid hb1
        have HB2 := hid hb2
        by_cases hneg : xs.getD i 0 < 0
        · obtain ⟨e1, e2⟩ := ifC_4 hv hbb (by simpa using hneg)
          rw [e1, e2]
          clear hv e1 e2 hb1 hb2 hbb hix p0 p1 q0 q1 p0' p1'
          generalize xs.getD i 0 = x at *
          go_enter Try.func74, Try.ntmps74
          go_wp2_with fail
          refine h.out.mono ?_
          rintro e w1 ⟨rfl, g⟩
          have G := hid g
          have hc := g.cell hc0
          clear g hc0
          go_wp2_with (first | (go_at_call 80; refine (l00In_b _ _ _ _).mono ?_; rintro e w' ⟨rfl, rfl⟩; (first | rw [HB.out] | rw [HB2.out])))
          go_ret2
          exact ret_empty G.out _
        · obtain ⟨e1, e2⟩ := ifC_0 hv hbb (by simpa using hneg)
          rw [e1, e2]
          obtain ⟨i0, hi, hz0, hz1, hz2⟩ := info_parts infoI8
          have hvs := validH_set hv hix (by omega) ⟨q0', q1'⟩
          have hxl : n = (xs.set i q).length := by rw [List.length_set]; exact HN.out
          have HR := hid (fun (a' : Option Addr) (c' : Nat) (W : World) hsl => l02Read_any a' n c' (xs.set i q) hxl hm (HF.out.set8 i (x := q) ⟨by omega, by omega⟩) W hsl)
          rw [hvs, readL_yes hvs] at HR
          have hti : ((i : Int)).toNat = i := by omega
          rw [hti]
          generalize hM : meanL (xs.set i q) = M at *
          have HX := hid (show (xs.map (Value.int .i8)).length = n * 1 by rw [List.length_map, ← HN.out, Nat.mul_one])
          have ONE := hid (one_of .i8 xs)
          clear hv e1 e2 hb1 hb2 hbb hvs hxl hM hti p0 p1 q0 q1 p0' p1'
          generalize hx : xs.getD i 0 = x at *
          clear hx
          go_enter Try.func74, Try.ntmps74
          go_wp2_with fail
          refine h.out.mono ?_
          rintro e w1 ⟨rfl, g⟩
          have G := hid g
          have hc := g.cell hc0
          have NEWS := hid (news_of (((S.out.gr g).gr ((Gr.refl w1).alloc (.cells #[] 63)))))
          have ROW := hid (Own.new (k := .i8) (e := 63) w1 [] (by simp)).row
          clear g hc0 h
          go_wp2_with (first | (go_at_call 80; refine (l00In_b _ _ _ _).mono ?_; rintro e w' ⟨rfl, rfl⟩; (first | rw [HB.out] | rw [HB2.out])) | (at_builtin; refine wpList_append_own _ rfl _ _ 24 rfl w1.heap.size 63 i0 (.int .i8 0) 1 1 Try.underlying24 hi hz0 hz1 hz2 rfl (by decide) _ _ _ rfl ROW.out ⟨b, off, none⟩ n cap (xs.map (Value.int .i8)) rfl HX.out NEWS.out ONE.out (by unfold maxLen; simp; omega) (by simp; omega) (by simp) ?_; intro v' w2 hown' hgrow _; have o := Own.ofRow (k := .i8) (xs := xs) hown' rfl (by rw [← HN.out]; simp); have GA := hid (Gr.by_ ((Gr.refl w1).alloc (.cells #[] 63)) hgrow (fun k e => by have e' : some w1.heap.size = some k := e; simp only [Option.some.injEq] at e'; omega)); clear hown' hgrow; obtain ⟨a2, c2, rfl⟩ := o.shape; rw [← HN.out] at o ⊢; obtain ⟨g2, rfl, hg2, hcc, hfz⟩ := o.at_ hix; have OP := hid (o.put i q); have HG2 := hid hg2.1; clear o hg2))
          have G2 := hid ((G.out.trans GA.out).by_ OP.out.2 (fun k e => by cases e; have := HG2.out; have := G.out.size; omega))
          refine (HR.out _ _ _ OP.out.1.reads).mono ?_
          rintro e w3 ⟨v, rfl, o, g⟩
          have G3 := hid (G2.out.trans g)
          have O3 := hid (o.widen G2.out.size (Nat.le_refl _))
          clear g o
          unfold withOk
          go_wp2_with fail
          go_ret2
          exact ⟨_, rfl, O3.out, G3.out⟩
theorem spec_MeaningIf_any (a : Option Addr) (xs : List Int) (hm : xs.length ≤ 1048576) (hf : Fits .i8 xs) (p : Int) (hp : (Lit.int .i64 p).wf = true) (q : Int) (hq : (Lit.int .i64 q).wf = true) (w : World) (hs : SliceOf .i8 w a xs) :
    Calls Try.prog 45 #[.slice a xs.length xs.length, .int .i64 p, .int .i64 q] w (RetOwn .i8 63 (withCode (ifC xs p q)) (ifL xs p q) w) := by
  have h := hid (l02If_any a _ xs.length xs rfl hm hf p q hp hq w hs)
  clear hs hf hp hq
  generalize ifC xs p q = c at *
  generalize ifL xs p q = ys at *
  go_enter Try.func45, Try.ntmps45
  go_wp2_with fail
  refine h.out.mono ?_
  rintro e w1 ⟨v, rfl, o, g⟩
  have O := hid o
  have G := hid g
  clear o g
  unfold withCode
  go_wp2_with fail
  go_ret2
  exact ⟨_, rfl, O.out, G.out⟩
set_option maxHeartbeats 1500000 in
theorem impl_MeaningIf_cap (a : Option Addr) (n cap : Nat) (xs : List Int) (hn : n = xs.length) (hm : n ≤ 1048576) (hcap : n ≤ cap) (hf : Fits .i8 xs) (p q : Int) (hp : (Lit.int .i64 p).wf = true) (hq : (Lit.int .i64 q).wf = true) (w : World) (hs : SliceOf .i8 w a xs) :
    Calls Try.prog 46 #[.slice a n cap, .int .i64 p, .int .i64 q] w (RetOwn .i8 63 (withCode (ifC xs p q)) (ifL xs p q) w) := by
  have h := hid (impl_ValidHoist_cap a n cap xs hn hm hcap hf w hs)
  obtain ⟨p0, p1⟩ := bounds_i64 hp
  obtain ⟨q0, q1⟩ := bounds_i64 hq
  clear hp hq
  have S := hid hs
  have HN := hid hn
  have HF := hid hf
  clear hs hn hf
  cases hv : validH xs
  · obtain ⟨e1, e2⟩ := ifC_1 (p := p) (q := q) hv
    rw [e1, e2]
    rw [hv] at h
    clear hv e1 e2
    go_enter Try.func46, Try.ntmps46
    go_wp2_with fail
    refine h.out.mono ?_
    rintro e w1 ⟨rfl, g⟩
    have G := hid g
    clear g
    go_wp2_with fail
    go_ret2
    exact ret_nil G.out _
  · rw [hv] at h
    have h18 := validH_len hv
    rw [← HN.out] at h18
    obtain ⟨hn1, hn8⟩ := h18
    cases hb1 : betB p 0 ((n : Int) - 1)
    · obtain ⟨e1, e2⟩ := ifC_2 (p := p) (q := q) hv (by rw [← HN.out, hb1]; rfl)
      rw [e1, e2]
      have HB := hid hb1
      clear hv e1 e2 hb1
      go_enter Try.func46, Try.ntmps46
      go_wp2_with fail
      refine h.out.mono ?_
      rintro e w1 ⟨rfl, g⟩
      have G := hid g
      clear g
      go_wp2_with (go_at_call 75; refine (isBetween_any _ _ _ _).mono ?_; rintro e w' ⟨rfl, rfl⟩; rw [HB.out])
      go_ret2
      exact ret_nil G.out _
    · cases hb2 : betB q 0 39
      · obtain ⟨e1, e2⟩ := ifC_2 (p := p) (q := q) hv (by rw [hb2, Bool.and_false])
        rw [e1, e2]
        have HB := hid hb1
        have HB2 := hid hb2
        clear hv e1 e2 hb1 hb2
        go_enter Try.func46, Try.ntmps46
        go_wp2_with fail
        refine h.out.mono ?_
        rintro e w1 ⟨rfl, g⟩
        have G := hid g
        clear g
        go_wp2_with (go_at_call 75; refine (isBetween_any _ _ _ _).mono ?_; rintro e w' ⟨rfl, rfl⟩; (first | rw [HB.out] | rw [HB2.out]))
        go_ret2
        exact ret_nil G.out _
      · obtain ⟨p0', p1'⟩ := betB_iff.1 hb1
        obtain ⟨q0', q1'⟩ := betB_iff.1 hb2
        have hbb : (betB p 0 ((xs.length : Int) - 1) && betB q 0 39) = true := by rw [← HN.out, hb1, hb2]; rfl
        obtain ⟨i, rfl⟩ : ∃ i : Nat, p = i := ⟨p.toNat, by omega⟩
        have hin : i < n := by omega
        have hix : i < xs.length := by rw [← HN.out]; exact hin
        obtain ⟨b, off, rfl, hc0⟩ := S.out i hix
        obtain ⟨x0, x1⟩ := HF.out.get8 i
        have hnum := validH_num8 hv hix
        have HB := hid hb1
        have HB2 := hid hb2
        by_cases hneg : xs.getD i 0 < 0
        · obtain ⟨e1, e2⟩ := ifC_4 hv hbb (by simpa using hneg)
          rw [e1, e2]
          have HK := hid (show kindI (xs.getD i 0) = false by unfold kindI; rw [decide_eq_false (by omega)]; rfl)
          clear hv e1 e2 hb1 hb2 hbb hix p0 p1 q0 q1 p0' p1' hnum
          generalize xs.getD i 0 = x at *
          go_enter Try.func46, Try.ntmps46
          go_wp2_with fail
          refine h.out.mono ?_
          rintro e w1 ⟨rfl, g⟩
          have G := hid g
          have hc := g.cell hc0
          clear g hc0
          go_wp2_with (first | (go_at_call 75; refine (isBetween_any _ _ _ _).mono ?_; rintro e w' ⟨rfl, rfl⟩; (first | rw [HB.out] | rw [HB2.out])) | (go_at_call 76; refine (isKind_any _ x0 x1 _).mono ?_; rintro e w' ⟨rfl, rfl⟩; rw [HK.out]))
          go_ret2
          exact ret_nil G.out _
        · obtain ⟨e1, e2⟩ := ifC_0 hv hbb (by simpa using hneg)
          rw [e1, e2]
          have HK := hid (show kindI (xs.getD i 0) = true by rw [kindI_iff]; omega)
          have hvs := validH_set hv hix (by omega) ⟨q0', q1'⟩
          have hxl : n = (xs.set i q).length := by rw [List.length_set]; exact HN.out
          have HR := hid (fun (a' : Option Addr) (c' : Nat) (W : World) hsl => meaning_any a' n c' (xs.set i q) hxl hm (HF.out.set8 i (x := q) ⟨by omega, by omega⟩) hvs W hsl)
          have HC := hid (fun (W : World) (g : Gr w W) => cloneHoist_any (some ⟨b, off, none⟩) n cap xs HN.out hn1 hm W (S.out.gr g))
          have hti : ((i : Int)).toNat = i := by omega
          rw [hti]
          have HIX := hid hix
          generalize hM : meanL (xs.set i q) = M at *
          clear hv e1 e2 hb1 hb2 hbb hvs hxl hM hti p0 p1 q0 q1 p0' p1' hnum hix
          generalize hx : xs.getD i 0 = x at *
          clear hx
          go_enter Try.func46, Try.ntmps46
          go_wp2_with fail
          refine h.out.mono ?_
          rintro e w1 ⟨rfl, g⟩
          have G := hid g
          have hc := g.cell hc0
          clear g hc0 h
          go_wp2_with (first | (go_at_call 75; refine (isBetween_any _ _ _ _).mono ?_; rintro e w' ⟨rfl, rfl⟩; (first | rw [HB.out] | rw [HB2.out])) | (go_at_call 76; refine (isKind_any _ x0 x1 _).mono ?_; rintro e w' ⟨rfl, rfl⟩; rw [HK.out]))
          refine (HC.out _ G.out).mono ?_
          rintro e w2 ⟨v, rfl, o, g⟩
          obtain ⟨a2, c2, rfl⟩ := o.shape
          rw [← HN.out] at o ⊢
          obtain ⟨g2, rfl, hg2, hcc, hfz⟩ := o.at_ HIX.out
          have OP := hid (o.put i q)
          have GA := hid g
          have HG2 := hid hg2.1
          clear o hg2 g
          dsimp only
          go_wp2_with fail
          have G2 := hid ((G.out.trans GA.out).by_ OP.out.2 (fun k e => by cases e; have := HG2.out; have := G.out.size; omega))
          refine (HR.out _ _ _ OP.out.1.reads).mono ?_
          rintro e w3 ⟨v, rfl, o, g⟩
          have G3 := hid (G2.out.trans g)
          have O3 := hid (o.widen G2.out.size (Nat.le_refl _))
          clear g o
          go_wp2_with fail
          go_ret2
          exact ⟨_, rfl, O3.out, G3.out⟩
theorem impl_MeaningIf_any (a : Option Addr) (xs : List Int) (hm : xs.length ≤ 1048576) (hf : Fits .i8 xs) (p : Int) (hp : (Lit.int .i64 p).wf = true) (q : Int) (hq : (Lit.int .i64 q).wf = true) (w : World) (hs : SliceOf .i8 w a xs) :
    Calls Try.prog 46 #[.slice a xs.length xs.length, .int .i64 p, .int .i64 q] w (RetOwn .i8 63 (withCode (ifC xs p q)) (ifL xs p q) w) := impl_MeaningIf_cap a _ _ xs rfl hm (Nat.le_refl _) hf p q hp hq w hs
end Go.Proofs.Ytnghcchkiodalab
